/-
  Rows of texts and of bytes as data.
-/
import Derived.Test.YtllghgcancennaaDeep
import Derived.OpenShut
namespace Go.Proofs.Ytllghgcancennaa
open Go.ChangeShapes Go.WideShapes Go.RowKit

def txD (s : ByteArray) : List Dt := [.val (.string s)]
def byD (z : Int) : List Dt := [.val (.int .u8 z)]
def strs (s : List ByteArray) : Dt := .row 9 1 s.length (s.flatMap txD)
def byts (z : List Int) : Dt := .row 5 1 z.length (z.flatMap byD)
theorem str_at {w : World} {B : Nat} {v : Value} {xs : List ByteArray} (h : Reads w B (strs xs) v) :
    ∃ a cap, v = .slice a xs.length cap ∧ xs.length ≤ cap ∧ (a = none → cap = 0) ∧ (0 < xs.length → ∃ b o, a = some ⟨b, o, none⟩ ∧ b < B ∧ ∀ j, j < xs.length → w.cell? ⟨b, o + j, none⟩ = some (.string (xs.getD j default))) := by
  obtain ⟨a, cap, rfl, h1, h2, h3⟩ := row_at (f := txD) (k := 1) (fun _ => rfl) rfl h
  refine ⟨a, cap, rfl, h1, h2, fun hp => ?_⟩
  obtain ⟨b, o, rfl, hb, hc⟩ := h3 hp
  refine ⟨b, o, rfl, hb, fun j hj => ?_⟩
  obtain ⟨vs, h4, h5⟩ := hc j hj
  obtain ⟨u0, vs0, rfl, q0, h4⟩ := readsL_cons h4
  obtain rfl := readsL_nil h4
  obtain rfl := reads_val q0
  have c0 := h5 0 (by omega)
  simp only [Nat.mul_one, Nat.add_zero] at c0
  exact c0

/-- Bytes as data are bytes as rows. -/
theorem byts_in {w : World} {B : Nat} {v : Value} {zs : List Int} (h : Reads w B (byts zs) v) (hm : zs.length ≤ 1048576) (hz : Byt zs) : ∃ a cap, v = .slice a zs.length cap ∧ zs.length ≤ cap ∧ (a = none → cap = 0) ∧ In w B a zs.length zs := by
  obtain ⟨a, cap, rfl, h1, h2, h3⟩ := row_at (f := byD) (k := 1) (fun _ => rfl) rfl h
  refine ⟨a, cap, rfl, h1, h2, rfl, hm, hz.at, fun hp => ?_⟩
  obtain ⟨b, o, rfl, hb, hc⟩ := h3 hp
  refine ⟨b, o, rfl, hb, fun j hj => ?_⟩
  obtain ⟨vs, h4, h5⟩ := hc j hj
  obtain ⟨u0, vs0, rfl, q0, h4⟩ := readsL_cons h4
  obtain rfl := readsL_nil h4
  obtain rfl := reads_val q0
  have c0 := h5 0 (by omega)
  simp only [Nat.mul_one, Nat.add_zero] at c0
  rw [c0]
  rfl
theorem byts_cells (zs : List Int) : zs.flatMap byD = (zs.map (Value.int .u8)).map Dt.val := by
  induction zs with
  | nil => rfl
  | cons z zs ih => rw [List.flatMap_cons, ih]; rfl
theorem strs_cells (zs : List ByteArray) : zs.flatMap txD = (zs.map Value.string).map Dt.val := by
  induction zs with
  | nil => rfl
  | cons z zs ih => rw [List.flatMap_cons, ih]; rfl
theorem Own.deep {w : World} {b hi : Nat} {v : Value} {zs : List Int} (h : Own w b v zs) (hq : ∀ q, v.ownBlock = some q → q < hi) : OwnD w b hi (byts zs) v := by
  refine ⟨v.ownBlock.toList, ?_, ?_, fun q hm => hq q (by simpa using hm)⟩
  · unfold byts Owns
    refine ⟨zs.map (Value.int .u8), [], h, ?_, by simp⟩
    rw [byts_cells]
    exact ownsL_vals _
  · cases v.ownBlock <;> simp
theorem OwnD.bytes {w : World} {b hi : Nat} {v : Value} {zs : List Int} (h : OwnD w b hi (byts zs) v) : Own w b v zs ∧ ∀ q, v.ownBlock = some q → q < hi := by
  obtain ⟨F, h1, _, h3⟩ := h
  unfold byts Owns at h1
  obtain ⟨us, G, h4, h5, rfl⟩ := h1
  rw [byts_cells] at h5
  have e := OwnsL.reads (Nat.le_refl _) _ _ _ h5
  have key : ∀ (xs us : List Value), ReadsL w w.heap.size (xs.map Dt.val) us → us = xs := by
    intro xs
    induction xs with
    | nil => intro us h; exact readsL_nil h
    | cons x xs ih =>
      intro us h
      obtain ⟨u, us', rfl, q, h'⟩ := readsL_cons h
      rw [reads_val q, ih _ h']
  rw [key _ _ e] at h4
  exact ⟨h4, fun q hq => h3 q (by rw [hq]; simp)⟩
theorem readsL_join {w : World} {B : Nat} : ∀ {c1 c2 : List Dt} {u1 u2 : List Value}, ReadsL w B c1 u1 → ReadsL w B c2 u2 → ReadsL w B (c1 ++ c2) (u1 ++ u2)
  | [], c2, u1, u2, h, h' => by rw [readsL_nil h]; exact h'
  | c :: c1, c2, u1, u2, h, h' => by
    obtain ⟨u, us', rfl, h1, h2⟩ := readsL_cons h
    exact readsL_mk h1 (readsL_join h2 h')
theorem reads_rows {w : World} {B : Nat} {α β : Type} {f : β → List Dt} {m : α → β} {c : α → List Value} : ∀ (ys : List α), (∀ y ∈ ys, ReadsL w B (f (m y)) (c y)) → ReadsL w B ((ys.map m).flatMap f) (ys.flatMap c)
  | [], _ => readsL_none
  | y :: ys, h => by
    rw [List.map_cons, List.flatMap_cons, List.flatMap_cons]
    exact readsL_join (h y (by simp)) (reads_rows ys (fun z hz => h z (by simp [hz])))
theorem reads_row {w : World} {B : Nat} {α β : Type} {T : TypeId} {k : Nat} {f : β → List Dt} {m : α → β} {c : α → List Value} {v : Value} (ys : List α) (h : Rd w B k v ys.length (ys.flatMap c)) (hy : ∀ y ∈ ys, ReadsL w B (f (m y)) (c y)) : Reads w B (.row T k (ys.map m).length ((ys.map m).flatMap f)) v := by
  unfold Reads
  rw [List.length_map]
  exact ⟨_, h, reads_rows ys hy⟩
theorem all_of_getD {α : Type} [Inhabited α] {Q : α → Prop} {ys : List α} (h : ∀ j, j < ys.length → Q (ys.getD j default)) : ∀ y ∈ ys, Q y := fun y hy => by
  obtain ⟨j, hj, rfl⟩ := List.mem_iff_getElem.1 hy
  have := h j hj
  simpa [hj] using this

end Go.Proofs.Ytllghgcancennaa
