/-
  How the model goes on where the program does, and what is lost where it does not.
-/
import Derived.Test.YtoaenoakdbieaaaDoorCurS
import Derived.Laws.BytesArg
import Derived.Lib.Bytes
namespace Go.Proofs.YtoaenoakdbieaaaDoor
open Go.RowKit

/-- Either it goes on as the program does, or the program reads nothing. -/
def Live {β : Type} (ok : Bool) (X G : Option β) : Prop := (ok = true ∧ X = G) ∨ G = none

theorem Live.num {β : Type} {zs : List Int} {k k' : Nat} {n : Int} {ok ok' : Bool} {F : Int × Nat → Option β} {G : Option β} (h : Live ok ((gnF zs 4 k 0 1).bind F) G)
    (hd : (ok' = true ∧ ok = true ∧ gnF zs 4 k 0 1 = some (n, k')) ∨ (ok' = false ∧ n = 0 ∧ k' = k ∧ (ok = false ∨ gnF zs 4 k 0 1 = none))) : Live ok' (F (n, k')) G := by
  rcases h with ⟨h1, h2⟩ | h
  · rcases hd with ⟨h3, _, h5⟩ | ⟨_, _, _, h6 | h6⟩
    · rw [h5] at h2; exact .inl ⟨h3, h2⟩
    · rw [h1] at h6; cases h6
    · rw [h6] at h2; exact .inr h2.symm
  · exact .inr h
theorem Live.word {β : Type} {zs : List Int} {k k' : Nat} {n : Int} {ok ok' : Bool} {F : Int × Nat → Option β} {G : Option β} (h : Live ok ((gw zs (k : Int)).bind F) G)
    (hd : (ok' = true ∧ ok = true ∧ gw zs (k : Int) = some (n, k')) ∨ (ok' = false ∧ n = 0 ∧ k' = k ∧ (ok = false ∨ gw zs (k : Int) = none))) : Live ok' (F (n, k')) G := by
  rcases h with ⟨h1, h2⟩ | h
  · rcases hd with ⟨h3, _, h5⟩ | ⟨_, _, _, h6 | h6⟩
    · rw [h5] at h2; exact .inl ⟨h3, h2⟩
    · rw [h1] at h6; cases h6
    · rw [h6] at h2; exact .inr h2.symm
  · exact .inr h
theorem Live.eq {β : Type} {ok : Bool} {X Y G : Option β} (h : Live ok X G) (e : X = Y) : Live ok Y G := by subst e; exact h
theorem Live.dead {β : Type} {X G : Option β} (h : Live false X G) : G = none := by
  rcases h with ⟨h1, _⟩ | h
  · cases h1
  · exact h
theorem Live.none_ {β : Type} {ok : Bool} {X Y G : Option β} (h : Live ok X G) (e : X = none) : Live ok Y G := by
  rcases h with ⟨_, h2⟩ | h
  · exact .inr (by rw [← h2, e])
  · exact .inr h
theorem num_on {zs : List Int} (hB : Byt zs) {k k' : Nat} {n : Int} {ok ok' : Bool} (hk : k ≤ zs.length)
    (hd : (ok' = true ∧ ok = true ∧ gnF zs 4 k 0 1 = some (n, k')) ∨ (ok' = false ∧ n = 0 ∧ k' = k ∧ (ok = false ∨ gnF zs 4 k 0 1 = none))) : k ≤ k' ∧ k' ≤ zs.length ∧ (ok' = true → k < k') ∧ 0 ≤ n ∧ n ≤ 16777215 := by
  rcases hd with ⟨_, _, h⟩ | ⟨h, rfl, rfl, _⟩
  · obtain ⟨h1, h2, _, h4, h5⟩ := num_back hB h
    have := pn_pos n h1 h2
    exact ⟨by omega, h5, fun _ => by omega, h1, h2⟩
  · exact ⟨Nat.le_refl _, hk, (fun e => by rw [h] at e; cases e), by omega, by omega⟩
theorem word_on {zs : List Int} (hB : Byt zs) {k k' : Nat} {n : Int} {ok ok' : Bool} (hk : k ≤ zs.length)
    (hd : (ok' = true ∧ ok = true ∧ gw zs (k : Int) = some (n, k')) ∨ (ok' = false ∧ n = 0 ∧ k' = k ∧ (ok = false ∨ gw zs (k : Int) = none))) : k ≤ k' ∧ k' ≤ zs.length ∧ (ok' = true → k < k') := by
  rcases hd with ⟨_, _, h⟩ | ⟨h, _, rfl, _⟩
  · obtain ⟨h1, h2, _, h4, h5⟩ := word_back hB h
    have e := pw_in n h1 h2
    rw [e] at h4
    simp at h4
    exact ⟨by omega, h5, fun _ => by omega⟩
  · exact ⟨Nat.le_refl _, hk, (fun e => by rw [h] at e; cases e)⟩

theorem in_str {w : World} {B len b o : Nat} (c : Nat) {zs : List Int} (h : In w B (some ⟨b, o, none⟩) len zs) : (convert 22 9 (.slice (some ⟨b, o, none⟩) len c)).run Tryd.prog w = .ok (.string (strOfNums zs)) w :=
  run_convert_bytes_arg (P := Tryd.prog) w 22 5 Tryd.underlying22 Tryd.underlying5 b o len c zs h.1 (fun i hi => by
    obtain ⟨b', o', ha, _, hcell⟩ := h.2.2.2 (by omega)
    cases ha
    exact hcell i hi) 9 Tryd.underlying9
theorem own_str {w : World} {b : Nat} {v : Value} {zs : List Int} (h : Own w b v zs) : (convert 22 9 v).run Tryd.prog w = .ok (.string (strOfNums zs)) w := by
  rcases h.2 with ⟨rfl, h0⟩ | ⟨g, c, cur, rfl, _⟩
  · have hn : zs = [] := List.eq_nil_of_length_eq_zero h0
    subst hn
    exact run_convert_bytes_nil (P := Tryd.prog) w 22 5 Tryd.underlying22 Tryd.underlying5 0 0 9 Tryd.underlying9
  · refine run_convert_bytes_arg (P := Tryd.prog) w 22 5 Tryd.underlying22 Tryd.underlying5 g 0 zs.length c zs rfl (fun i hi => ?_) 9 Tryd.underlying9
    have := World.ownsRow.cellAt h i (by omega)
    rw [Nat.zero_add, this]
    simp [hi]
theorem byte_inj : ∀ (xs ys : List Int), Byt xs → Byt ys → xs.map (fun n => UInt8.ofNat n.toNat) = ys.map (fun n => UInt8.ofNat n.toNat) → xs = ys
  | [], [], _, _, _ => rfl
  | [], _ :: _, _, _, h => by simp at h
  | _ :: _, [], _, _, h => by simp at h
  | x :: xs, y :: ys, hx, hy, h => by
    simp only [List.map_cons, List.cons.injEq] at h
    have h1 := hx x (by simp)
    have h2 := hy y (by simp)
    have h3 : x.toNat = y.toNat := by
      have := congrArg UInt8.toNat h.1
      simp at this
      omega
    have h4 := byte_inj xs ys (fun z hz => hx z (by simp [hz])) (fun z hz => hy z (by simp [hz])) h.2
    rw [h4, show x = y from by omega]
theorem str_eq (xs ys : List Int) (hx : Byt xs) (hy : Byt ys) : ((strOfNums xs).toList == (strOfNums ys).toList) = decide (xs = ys) := by
  by_cases h : xs = ys
  · subst h; simp
  · rw [decide_eq_false h, beq_eq_false_iff_ne]
    intro h'
    rw [Go.Lib.strOfNums_toList, Go.Lib.strOfNums_toList] at h'
    exact h (byte_inj xs ys hx hy h')

theorem msgB_pos (m : M) (h : m.ok = true) : 0 < m.b.length := by
  obtain ⟨h1, _⟩ := mOk_parts h
  have := pn_pos m.k (by omega) (by omega)
  unfold M.b msgB headB
  simp only [List.length_append]
  omega
/-- What the model's test says is what the program's does. -/
theorem model_yes {zs : List Int} (hB : Byt zs) {m : M} (hz : 0 < zs.length) (h : mBytes m.k m.i m.u m.c m.n m.cs m.ns = zs) : mOf zs = some m := by
  unfold mBytes at h
  cases hm : mOk m.k m.i m.u m.c m.n m.cs m.ns with
  | false => rw [hm] at h; rw [← h] at hz; simp at hz
  | true => rw [hm] at h; exact (mOf_iff hB m).2 ⟨hm, h.symm⟩
theorem model_no {zs : List Int} (hB : Byt zs) {m : M} {k : Nat} {ok : Bool} (hl : Live ok (some (m, k)) (rMsg zs 0)) (h : mBytes m.k m.i m.u m.c m.n m.cs m.ns ≠ zs) : mOf zs = none := by
  cases hm : mOf zs with
  | none => rfl
  | some m' =>
    obtain ⟨h1, h2⟩ := (mOf_iff hB m').1 hm
    have h3 := msg_put (zs := zs) h1 ⟨[], by rw [List.drop_zero, List.append_nil]; exact h2⟩
    rw [h3] at hl
    rcases hl with ⟨_, hl⟩ | hl
    · simp only [Option.some.injEq, Prod.mk.injEq] at hl
      obtain ⟨rfl, _⟩ := hl
      exfalso
      apply h
      unfold mBytes
      rw [show mOk m.k m.i m.u m.c m.n m.cs m.ns = true from h1]
      exact h2.symm
    · cases hl
theorem model_dead {zs : List Int} (h : rMsg zs 0 = none) : mOf zs = none := mOf_none h
theorem model_empty {zs : List Int} (hB : Byt zs) (h : zs.length = 0) : mOf zs = none := by
  cases hm : mOf zs with
  | none => rfl
  | some m' =>
    obtain ⟨h1, h2⟩ := (mOf_iff hB m').1 hm
    have := msgB_pos m' h1
    rw [← h2] at this
    omega

/-- What follows behind the cells. -/
def F5v (zs : List Int) (k i u c n : Int) (cs : List (Int × Bool × Int) × Nat) : Option (M × Nat) :=
  (gnF zs 4 cs.2 0 1).bind fun n6 => (if 130 < n6.1 then none else rList (rNote zs) n6.1.toNat n6.2).bind fun ns => some (⟨k, i, u, c, n, cs.1, ns.1⟩, ns.2)
section
variable {β : Type} (zs : List Int) (m : Nat)
def cY (H : List (Int × Bool × Int) × Nat → Option β) (x : Int) (r : Bool) (y : Int × Nat) : Option β := (rList (rCell zs) m y.2).bind fun s => H ((x, r, y.1) :: s.1, s.2)
def cF (H : List (Int × Bool × Int) × Nat → Option β) (x : Int) (f : Int × Nat) : Option β := if 1 < f.1 then none else if f.1 = 1 then (gnF zs 4 f.2 0 1).bind (cY zs m H x true) else (gw zs (f.2 : Int)).bind (cY zs m H x false)
def cA (H : List (Int × Bool × Int) × Nat → Option β) (a : Int × Nat) : Option β := (gnF zs 4 a.2 0 1).bind (cF zs m H a.1)
theorem cell_start (H : List (Int × Bool × Int) × Nat → Option β) (k : Nat) : (rList (rCell zs) (m + 1) k).bind H = (gnF zs 4 k 0 1).bind (cA zs m H) := by
  rw [rList, Option.bind_assoc]
  unfold cA cF cY
  generalize rList (rCell zs) m = R
  unfold rCell
  rw [Option.bind_assoc]
  congr 1
  funext a
  rw [Option.bind_assoc]
  congr 1
  funext f
  by_cases h1 : 1 < f.1
  · rw [if_pos h1, if_pos h1]; rfl
  · rw [if_neg h1, if_neg h1]
    by_cases h2 : f.1 = 1
    · rw [if_pos h2, if_pos h2, Option.bind_assoc]
      congr 1
      funext y
      simp [Option.bind_assoc]
    · rw [if_neg h2, if_neg h2, Option.bind_assoc]
      congr 1
      funext y
      simp [Option.bind_assoc]
def nY (H : List (Int × Int) × Nat → Option β) (x : Int) (y : Int × Nat) : Option β := (rList (rNote zs) m y.2).bind fun s => H ((x, y.1) :: s.1, s.2)
def nA (H : List (Int × Int) × Nat → Option β) (a : Int × Nat) : Option β := (gnF zs 4 a.2 0 1).bind (nY zs m H a.1)
theorem note_start (H : List (Int × Int) × Nat → Option β) (k : Nat) : (rList (rNote zs) (m + 1) k).bind H = (gnF zs 4 k 0 1).bind (nA zs m H) := by
  rw [rList, Option.bind_assoc]
  unfold nA nY
  generalize rList (rNote zs) m = R
  unfold rNote
  rw [Option.bind_assoc]
  congr 1
  funext a
  rw [Option.bind_assoc]
  congr 1
  funext f
  simp [Option.bind_assoc]
end
end Go.Proofs.YtoaenoakdbieaaaDoor
