/-
  Flows: what is right, where they meet.
-/
import Derived.Test.YtobomcfiincpoaaTypM
import Derived.Test.YtobomcfiincpoaaDeepApp
namespace Go.Proofs.Ytobomcfiincpoaa
open Go.RowKit

def flB (ks : List Kd) (f : Fl) : Bool := f.lo.all (tyB ks) && (f.st.all (tyB ks) && (decide (f.lo.length ≤ 6) && (decide (f.st.length ≤ 6) && inB f.h 0 4)))
theorem all_hit {α : Type} [Inhabited α] {p : α → Bool} {l : List α} {j : Nat} (hj : j < l.length) (h : p (l.getD j default) = false) : l.all p = false := by
  cases c : l.all p with
  | false => rfl
  | true =>
    rw [List.all_eq_true] at c
    have := c (l.getD j default) (by rw [List.getD_eq_getElem?_getD, List.getElem?_eq_getElem hj]; exact List.getElem_mem hj)
    rw [h] at this
    cases this
theorem all_yes {α : Type} [Inhabited α] {p : α → Bool} {l : List α} (h : ∀ i, i < l.length → p (l.getD i default) = true) : l.all p = true := by
  rw [List.all_eq_true]
  intro x hx
  obtain ⟨i, hi, rfl⟩ := List.getElem_of_mem hx
  have := h i hi
  rwa [List.getD_eq_getElem?_getD, List.getElem?_eq_getElem hi] at this
def joinE (ks : List Kd) (a b : List Ty) : List Ty := List.zipWith (joinX ks) a b
/-- Where two flows meet, and the code. -/
def meetF (ks : List Kd) (a b : Fl) : Fl := if a.lo.length = b.lo.length ∧ a.st.length = b.st.length ∧ a.h = b.h then ⟨joinE ks a.lo b.lo, joinE ks a.st b.st, a.h⟩ else ⟨[], [], 0⟩
theorem joinE_step (ks : List Kd) : ∀ (a b : List Ty) (j : Nat), j < a.length → j < b.length → joinE ks (a.take (j + 1)) (b.take (j + 1)) = joinE ks (a.take j) (b.take j) ++ [joinX ks (a.getD j default) (b.getD j default)]
  | [], _, j, h, _ => by simp at h
  | _ :: _, [], j, _, h => by simp at h
  | x :: a, y :: b, 0, _, _ => by simp [joinE]
  | x :: a, y :: b, j + 1, h, h' => by
    have := joinE_step ks a b j (by simpa using h) (by simpa using h')
    unfold joinE at this ⊢
    simp only [List.take_succ_cons, List.zipWith_cons_cons, List.cons_append, List.getD_cons_succ, this]
theorem joinE_len (ks : List Kd) {a b : List Ty} (h : a.length = b.length) : (joinE ks a b).length = a.length := by
  unfold joinE; rw [List.length_zipWith]; omega
theorem joinL_ok {ks : List Kd} {c : Int} (hl : ks.length ≤ 1048576) : ∀ (n : Nat) (k : Int), TyG (joinL ks c n k)
  | 0, _ => ⟨by unfold joinL; decide, by unfold joinL; decide⟩
  | n + 1, k => by
    unfold joinL
    split
    · rename_i h
      split
      · have := inB_yes h
        exact ⟨by show -9223372036854775808 ≤ (3 : Int) ∧ (3 : Int) ≤ 9223372036854775807; decide, by show -9223372036854775808 ≤ k ∧ k ≤ 9223372036854775807; omega⟩
      · exact joinL_ok hl n _
    · exact ⟨by decide, by decide⟩
theorem joinX_ok {ks : List Kd} {a b : Ty} (hl : ks.length ≤ 1048576) (ha : TyG a) (hb : TyG b) : TyG (joinX ks a b) := by
  unfold joinX
  split
  · exact hb
  · split
    · exact ha
    · split
      · exact joinL_ok hl _ _
      · exact ⟨by decide, by decide⟩
theorem joinE_ok {ks : List Kd} (hl : ks.length ≤ 1048576) : ∀ {a b : List Ty}, (∀ y ∈ a, TyG y) → (∀ y ∈ b, TyG y) → ∀ y ∈ joinE ks a b, TyG y
  | [], _, _, _, y, h => by simp [joinE] at h
  | _ :: _, [], _, _, y, h => by simp [joinE] at h
  | x :: a, z :: b, ha, hb, y, h => by
    unfold joinE at h
    rw [List.zipWith_cons_cons] at h
    rcases List.mem_cons.1 h with rfl | h
    · exact joinX_ok hl (ha x (by simp)) (hb z (by simp))
    · exact joinE_ok hl (fun y hy => ha y (by simp [hy])) (fun y hy => hb y (by simp [hy])) y h
theorem meetF_ok {ks : List Kd} {a b : Fl} (hl : ks.length ≤ 1048576) (ha : FlG a) (hb : FlG b) : FlG (meetF ks a b) := by
  unfold meetF
  split
  · rename_i h
    exact ⟨⟨by show (joinE ks a.lo b.lo).length ≤ 1048576; rw [joinE_len ks h.1]; exact ha.lo.1, joinE_ok hl ha.lo.2 hb.lo.2⟩, ⟨by show (joinE ks a.st b.st).length ≤ 1048576; rw [joinE_len ks h.2.1]; exact ha.st.1, joinE_ok hl ha.st.2 hb.st.2⟩, ha.h⟩
  · exact ⟨⟨by simp, by simp⟩, ⟨by simp, by simp⟩, by decide⟩
/-- A flow of one's own, and a number beside it, as an answer. -/
def flP (w w' : World) (V : Fl) (z : Value) (e : Ending) : Prop := ∃ u1 u2, e = .returned (.tuple #[flV V u1 u2, z]) ∧ OwnDL w' w.heap.size w'.heap.size (flD V) [u1, u2, .int .i64 V.h] ∧ Below w.heap.size w w'
theorem ownFl0 (w : World) (b hi : Nat) (hb : b ≤ hi) : OwnDL w b hi (flD ⟨[], [], 0⟩) [.slice none 0 0, .slice none 0 0, .int .i64 0] :=
  OwnDL.cons (m := b) (ownD_nil _ _ _ _ _) (OwnDL.cons (m := b) (ownD_nil _ _ _ _ _) (OwnDL.val (ownDL_nil _ _ _)) (Nat.le_refl _) hb) (Nat.le_refl _) hb
def meetC (a b : Fl) : Int := if a.lo.length = b.lo.length ∧ a.st.length = b.st.length then (if a.h = b.h then 0 else 4) else 1
end Go.Proofs.Ytobomcfiincpoaa
