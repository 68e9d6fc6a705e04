/-
  Sums over rows, and what is left of a sum.
-/
namespace Go.Proofs.Ytllghgcancennaa

/-- What is left behind t of what was left. -/
def szR (left : Int) (t : Nat) : Int := if left < t then -1 else left - t
theorem szR_neg {left : Int} {t : Nat} (h : left < t) : szR left t = -1 := by unfold szR; rw [if_pos h]
theorem szR_pos {left : Int} {t : Nat} (h : ¬ left < t) : szR left t = left - t := by unfold szR; rw [if_neg h]
def tot {α : Type} (g : α → Nat) (xs : List α) : Nat := (xs.map g).sum
theorem tot_step {α : Type} [Inhabited α] (g : α → Nat) (xs : List α) (j : Nat) (h : j < xs.length) : tot g (xs.take (j + 1)) = tot g (xs.take j) + g (xs.getD j default) := by
  unfold tot
  rw [List.take_succ_eq_append_getElem h, List.map_append, List.sum_append, List.map_cons, List.map_nil, List.sum_cons, List.sum_nil]
  have : xs.getD j default = xs[j] := by simp [h]
  rw [this]; omega
theorem tot_le {α : Type} (g : α → Nat) (xs : List α) (j : Nat) : tot g (xs.take j) ≤ tot g xs := by
  unfold tot
  conv => rhs; rw [← List.take_append_drop j xs]
  rw [List.map_append, List.sum_append]
  omega
theorem tot_mem {α : Type} (g : α → Nat) {xs : List α} {x : α} (h : x ∈ xs) : g x ≤ tot g xs := by
  unfold tot
  induction xs with
  | nil => simp at h
  | cons y ys ih =>
    rcases List.mem_cons.1 h with rfl | h
    · simp
    · have := ih h; simp; omega
theorem getD_mem {α : Type} [Inhabited α] {Q : α → Prop} {xs : List α} (h : ∀ x ∈ xs, Q x) (j : Nat) (hj : j < xs.length) : Q (xs.getD j default) := by
  have : xs.getD j default = xs[j] := by simp [hj]
  rw [this]; exact h _ (List.getElem_mem _)
end Go.Proofs.Ytllghgcancennaa
