/-
  Joined: Rowv, BoxW.
-/
import Derived.Test.YtllghgcancennaaJ1
import Derived.OpenShut
import Derived.Deep.Slices
/-
  Rows whose elements take several cells each: what may be read of them, and what stays of them while other memory is made or written.
-/
namespace Go.Proofs.Ytllghgcancennaa
open Go.ChangeShapes Go.WideShapes Go.RowKit

/-- v is a slice of n elements of sz cells each; its cells are cs; they lie below block B. -/
def Rd (w : World) (B sz : Nat) (v : Value) (n : Nat) (cs : List Value) : Prop :=
  cs.length = n * sz ∧ ∃ a cap, v = .slice a n cap ∧ n ≤ cap ∧ (a = none → cap = 0) ∧
    (0 < n → ∃ b o, a = some ⟨b, o, none⟩ ∧ b < B ∧ ∀ i, i < n * sz → w.cell? ⟨b, o + i, none⟩ = cs[i]?)

theorem Rd.kept {w w' : World} {B sz n : Nat} {v : Value} {cs : List Value} (h : Rd w B sz v n cs) (hb : ∀ k, k < B → w'.heap[k]? = w.heap[k]?) : Rd w' B sz v n cs := by
  obtain ⟨h0, a, cap, h1, h2, h3, h4⟩ := h
  refine ⟨h0, a, cap, h1, h2, h3, fun hp => ?_⟩
  obtain ⟨b, o, ha, hbB, hc⟩ := h4 hp
  exact ⟨b, o, ha, hbB, fun i hi => (World.cell?_of_block (w := w) (hb b hbB)).trans (hc i hi)⟩
theorem Rd.up {w : World} {B B' sz n : Nat} {v : Value} {cs : List Value} (h : Rd w B sz v n cs) (hB : B ≤ B') : Rd w B' sz v n cs := by
  obtain ⟨h0, a, cap, h1, h2, h3, h4⟩ := h
  refine ⟨h0, a, cap, h1, h2, h3, fun hp => ?_⟩
  obtain ⟨b, o, ha, hbB, hc⟩ := h4 hp
  exact ⟨b, o, ha, Nat.lt_of_lt_of_le hbB hB, hc⟩
theorem Rd.at {w w' : World} {sz n : Nat} {v : Value} {cs : List Value} (h : Rd w w.heap.size sz v n cs) (hb : Below w.heap.size w w') : Rd w' w'.heap.size sz v n cs :=
  (h.kept hb.block).up hb.size
theorem Rd.low {w w' : World} {B sz n : Nat} {v : Value} {cs : List Value} (h : Rd w B sz v n cs) (hb : Below w.heap.size w w') (hB : B ≤ w.heap.size) : Rd w' B sz v n cs :=
  h.kept (fun k hk => hb.block k (by omega))
theorem Rd.drewN {w : World} {B sz n : Nat} {v : Value} {cs : List Value} (h : Rd w B sz v n cs) (q : Nat) : Rd (w.drewN q) B sz v n cs := h

/-- What one owns may be read. -/
theorem rd_own {w : World} {b e sz n B : Nat} {v : Value} {cs : List Value} (h : w.ownsRow b e sz v n cs) (hB : w.heap.size ≤ B) : Rd w B sz v n cs := by
  refine ⟨h.1, ?_⟩
  rcases h.2 with ⟨rfl, rfl⟩ | ⟨g, cap, cur, rfl, _, hg, hn, _⟩
  · exact ⟨none, 0, rfl, Nat.le_refl _, fun _ => rfl, fun hp => by omega⟩
  · refine ⟨some ⟨g, 0, none⟩, cap, rfl, hn, fun e => (by cases e), fun hp => ⟨g, 0, rfl, ?_, fun i hi => ?_⟩⟩
    · have := (Array.getElem?_eq_some_iff.1 hg).1; omega
    · rw [Nat.zero_add]; exact World.ownsRow.cellAt h i hi

/-- What lay there reads as before. -/
theorem bcell {W w1 : World} (hb : Below W.heap.size W w1) : (∀ b o, b < W.heap.size → w1.cell? ⟨b, o, none⟩ = W.cell? ⟨b, o, none⟩) ∧ (∀ b o, b < W.heap.size → w1.frozen? ⟨b, o, none⟩ = W.frozen? ⟨b, o, none⟩) :=
  ⟨fun b o h => hb.cell (p := ⟨b, o, none⟩) h, fun b o h => hb.frozen (p := ⟨b, o, none⟩) h⟩

theorem flat_len {α : Type} (f : α → List Value) (sz : Nat) (hf : ∀ x, (f x).length = sz) : ∀ (xs : List α), (xs.flatMap f).length = xs.length * sz
  | [] => by simp
  | x :: xs => by rw [List.flatMap_cons, List.length_append, hf, flat_len f sz hf xs, List.length_cons, Nat.succ_mul]; omega

theorem flat_get {α : Type} (f : α → List Value) (sz : Nat) (hf : ∀ x, (f x).length = sz) : ∀ (xs : List α) (d : α) (j r : Nat), j < xs.length → r < sz → (xs.flatMap f)[j * sz + r]? = (f (xs.getD j d))[r]?
  | [], d, j, r, hj, hr => by simp at hj
  | x :: xs, d, 0, r, hj, hr => by
    rw [List.flatMap_cons, List.getElem?_append_left (by rw [hf]; omega)]
    simp
  | x :: xs, d, j + 1, r, hj, hr => by
    rw [List.flatMap_cons, List.getElem?_append_right (by rw [hf, Nat.succ_mul]; omega), hf]
    rw [show (j + 1) * sz + r - sz = j * sz + r from by rw [Nat.succ_mul]; omega]
    rw [flat_get f sz hf xs d j r (by simpa using hj) hr]
    simp

/-- A slice that came in, its elements being what f makes of something. -/
theorem rd_open {H : Type} {enc : TypeId × Value → H} {P : Program} {W : World} {sp : Nat → Bool} {T E : TypeId} {sz : Nat} {α : Type} [Inhabited α] {f : α → List Value} {Q : α → Prop} {v : Value} {d : DataW H} {p : List MemPlace}
    (ht : P.underlying T = some (.slice E)) (hsz : P.cellsOf E = sz) (hpos : 0 < sz) (hf : ∀ x, (f x).length = sz)
    (hel : ∀ fuel cs x, DataW.trod enc P W 0 sp true fuel E cs = some x → ∃ y : α, cs = f y ∧ Q y) (h : ∃ fuel, DataW.trod enc P W 0 sp true fuel T [v] = some (d, p)) :
    ∃ ys : List α, Rd W W.heap.size sz v ys.length (ys.flatMap f) ∧ ys.length ≤ maxLen ∧ ∀ j, j < ys.length → Q (ys.getD j default) := by
  obtain ⟨fuel, h⟩ := h
  rcases Deep.open_slice ht h with ⟨hcs, _⟩ | ⟨a, len, cap, m, n, D, Pl, hcs, _, hl, hm, hmm, _, hx⟩
  · simp only [List.cons.injEq, and_true] at hcs
    exact ⟨[], ⟨by simp, none, 0, hcs, by simp, fun _ => rfl, fun hp => by simp at hp⟩, by simp, fun j hj => by simp at hj⟩
  · simp only [List.cons.injEq, and_true] at hcs
    subst hcs
    have hlm : len ≤ m := by rw [hmm]; split <;> omega
    obtain ⟨g, hg⟩ := Deep.choose_lt (α := α) (n := len) (p := fun i y => W.cells? 0 (a.add (i * sz)) sz = some (f y) ∧ Q y) (fun i hi => by
      obtain ⟨cs', h1, h2⟩ := hx i (by omega)
      obtain ⟨y, rfl, hq⟩ := hel _ _ _ h2
      rw [hsz] at h1
      exact ⟨y, h1, hq⟩)
    have hll : ((List.range len).map g).length = len := by simp
    have hgd : ∀ j, j < len → ((List.range len).map g).getD j default = g j := fun j hj => by simp [hj]
    refine ⟨(List.range len).map g, ⟨by rw [flat_len f sz hf], some a, cap, by rw [hll], by rw [hll]; exact hl, fun e => (by cases e), fun hp => ?_⟩, by rw [hll]; omega, fun j hj => ?_⟩
    · rw [hll] at hp ⊢
      obtain ⟨b, o, spot⟩ := a
      have hcell : ∀ j r, j < len → r < sz → W.cell? ((⟨b, o, spot⟩ : Addr).add (j * sz + r)) = (f (g j))[r]? := by
        intro j r hj hr
        obtain ⟨_, _, hc⟩ := World.cells?_some (hg j hj).1
        have := hc r hr
        rw [Deep.add_add] at this
        exact this
      have hc0 := hcell 0 0 hp hpos
      have hs0 : (f (g 0))[0]? = some ((f (g 0))[0]'(by rw [hf]; exact hpos)) := List.getElem?_eq_getElem _
      rw [hs0] at hc0
      have hspot : spot = none := by simpa [Addr.add] using World.cell?_spot hc0
      subst hspot
      refine ⟨b, o, rfl, ?_, fun i hi => ?_⟩
      · have := World.block_lt_of_cell? W _ hc0
        simpa [Addr.add] using this
      · have h1 : i / sz < len := Nat.div_lt_of_lt_mul (by rw [Nat.mul_comm]; exact hi)
        have h2 : i % sz < sz := Nat.mod_lt _ hpos
        have h3 : i / sz * sz + i % sz = i := by rw [Nat.mul_comm]; exact Nat.div_add_mod i sz
        have := hcell (i / sz) (i % sz) h1 h2
        rw [h3, Addr.add_lit] at this
        rw [this, ← hgd _ h1, ← flat_get f sz hf _ default _ _ (by rw [hll]; exact h1) h2, h3]
    · rw [hll] at hj
      rw [hgd j hj]
      exact (hg j hj).2
end Go.Proofs.Ytllghgcancennaa
/-
  Variables as boxes of cells: what is read of them, and what stays of them; results that lie in a variable.
-/
namespace Go.Proofs.Ytllghgcancennaa
open Go.RowKit

/-- The cells of a variable. -/
def Box (w : World) (g : Nat) (vs : List Value) : Prop := ∀ j v, vs[j]? = some v → w.cell? ⟨g, j, none⟩ = some v
theorem Box.below {w w' : World} {g : Nat} {vs : List Value} (h : Box w g vs) (hg : g < w.heap.size) (hb : Below w.heap.size w w') : Box w' g vs :=
  fun j v hv => (hb.cell (p := ⟨g, j, none⟩) hg).trans (h j v hv)
theorem Box.new (w : World) (vs : Array Value) (T : TypeId) : Box (w.alloc (.cells vs T)) w.heap.size vs.toList := fun j v hv => by
  rw [World.cell?_alloc_new]; simpa using hv
/-- The cells of a block. -/
theorem box_of {w : World} {g : Nat} {T : TypeId} {vs : Array Value} (h : w.heap[g]? = some (.cells vs T (0, 0))) : Box w g vs.toList ∧ ∀ j, w.frozen? ⟨g, j, none⟩ = false :=
  ⟨fun j v hv => by rw [cell_of_row w g j _ T (0, 0) h]; simpa using hv, fun j => frozen_of_row w g j _ T h⟩
theorem Box.apart {w w' : World} {g : Nat} {row : Option Nat} {vs : List Value} (h : Box w g vs) (hg : g < w.heap.size) (hgr : w.grownBy w' row) (hne : row ≠ some g) : Box w' g vs :=
  fun j v hv => (World.cell?_of_block (w := w) (hgr.block g hg (fun e => hne e.symm))).trans (h j v hv)
theorem boxDrewN {w : World} {g : Nat} {vs : List Value} (h : Box w g vs) (q : Nat) : Box (w.drewN q) g vs := h
theorem ownKept {w w' : World} {b : Nat} {v : Value} {row : Option Nat} {zs : List Int} (h : Own w b v zs) (hg : w.grownBy w' row) (hne : ∀ q, v.ownBlock = some q → row ≠ some q) : Own w' b v zs := by
  refine World.ownsRow.kept h hg ?_
  cases hv : v.ownBlock with
  | none => exact .inl rfl
  | some q => exact .inr (fun e => hne q hv e.symm)
theorem grown_set {w wr : World} {g : Nat} (h : w.grownBy wr (some g)) (o : Nat) (v : Value) : w.grownBy (wr.setCell ⟨g, o, none⟩ v) (some g) :=
  grownBy_trans h ⟨rfl, rfl, rfl, by simp, fun k _ hk => heap_setCell_other wr ⟨g, o, none⟩ k _ (fun e => hk (by rw [e]))⟩
theorem own_set {w : World} {b e sz n : Nat} {v : Value} {cs : List Value} (h : w.ownsRow b e sz v n cs) {g : Nat} (hg : g < b) (o : Nat) (u : Value) : (w.setCell ⟨g, o, none⟩ u).ownsRow b e sz v n cs := ownsRow_setCell_below h (a := ⟨g, o, none⟩) hg u
theorem results_one {fn : Func} {p : Tmp} {ty : TypeId} {v : Value} {g : Addr} (h : fn.results = #[.cell p ty]) (tmps : Array Value) (P : Program) (w : World) (hg : tmps.getD p undef = .pointer (some g)) (hl : (loadVar ty g).run P w = .ok v w) :
    (results fn tmps).run P w = .ok v w := by
  have h' : ((asAddr (tmps.getD p undef)).run P w).andThen (fun a w₁ => (loadVar ty a).run P w₁) = .ok v w := by rw [hg]; simpa [asAddr, Result.andThen] using hl
  simp only [results, h]
  simpa [Sem.run_bind, Result.andThen] using h'
theorem results_ct {fn : Func} {p u : Tmp} {ty : TypeId} {v : Value} {g : Addr} (h : fn.results = #[.cell p ty, .tmp u]) (tmps : Array Value) (P : Program) (w : World) (hg : tmps.getD p undef = .pointer (some g)) (hl : (loadVar ty g).run P w = .ok v w) :
    (results fn tmps).run P w = .ok (.tuple #[v, tmps.getD u undef]) w := by
  rw [results_cell_tmp h, hg]
  simp [asAddr, Result.andThen, hl]
theorem results_cct {fn : Func} {p0 p1 u : Tmp} {t0 t1 : TypeId} {v0 v1 : Value} {g0 g1 : Addr} (h : fn.results = #[.cell p0 t0, .cell p1 t1, .tmp u]) (tmps : Array Value) (P : Program) (w : World)
    (hg0 : tmps.getD p0 undef = .pointer (some g0)) (hg1 : tmps.getD p1 undef = .pointer (some g1)) (hl0 : (loadVar t0 g0).run P w = .ok v0 w) (hl1 : (loadVar t1 g1).run P w = .ok v1 w) :
    (results fn tmps).run P w = .ok (.tuple #[v0, v1, tmps.getD u undef]) w := by
  have h' : ((asAddr (tmps.getD p0 undef)).run P w).andThen (fun a w₁ => ((loadVar t0 a).run P w₁).andThen fun x w₂ => ((asAddr (tmps.getD p1 undef)).run P w₂).andThen (fun a w₃ => ((loadVar t1 a).run P w₃).andThen fun y w₄ => Result.ok (Value.tuple #[x, y, tmps.getD u undef]) w₄)) = Result.ok (Value.tuple #[v0, v1, tmps.getD u undef]) w := by
    rw [hg0, hg1]
    simp [asAddr, Result.andThen, hl0, hl1]
  simp only [results, h]
  simpa [Sem.run_bind, Result.andThen] using h'
end Go.Proofs.Ytllghgcancennaa
