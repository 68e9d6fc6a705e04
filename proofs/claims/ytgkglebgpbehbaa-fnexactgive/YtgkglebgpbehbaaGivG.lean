/-
  What is given is good, and not much more.
-/
import Derived.Test.YtgkglebgpbehbaaGivM
import Derived.Test.YtgkglebgpbehbaaThRK
namespace Go.Proofs.Ytgkglebgpbehbaa
open Go.RowKit

theorem puts_ok {y : Fr} {v : Vl} (hy : FrG y) (hv : VlG v) : FrG (puts y v) := by
  by_cases h : y.s.length < 6
  · rw [puts_room h]
    refine ⟨hy.k, hy.m, hy.p, hy.l, ⟨?_, fun z hz => ?_⟩⟩
    · show (y.s ++ [v]).length ≤ 1048576
      rw [List.length_append]
      simp only [List.length_cons, List.length_nil]
      omega
    · rcases List.mem_append.1 hz with h1 | h1
      · exact hy.s.2 z h1
      · rw [List.mem_singleton.1 h1]
        exact hv
  · rw [puts_full h]
    exact hy
theorem giveX_ok {t : Th} {v : Vl} (hg : ThG t) (hv : VlG v) : ThG (giveX t v) := by
  obtain ⟨ti, tf, ts, td⟩ := t
  rcases last_of tf with rfl | ⟨ys, y, rfl⟩
  · rw [giveX_none]; exact hg
  · rw [giveX_last]
    refine ⟨hg.i, ⟨?_, fun z hz => ?_⟩, hg.s, hg.d⟩
    · have := hg.f.1
      dsimp only at this ⊢
      rw [List.length_append] at this ⊢
      simpa using this
    · rcases List.mem_append.1 hz with h1 | h1
      · exact hg.f.2 z (List.mem_append.2 (.inl h1))
      · rw [List.mem_singleton.1 h1]
        exact puts_ok (hg.f.2 y (by simp)) hv
theorem tot_snoc {α : Type} (f : α → Nat) (x : α) : ∀ xs : List α, tot f (xs ++ [x]) = tot f xs + f x
  | [] => by simp [tot]
  | y :: ys => by
    rw [List.cons_append]
    have := tot_snoc f x ys
    simp only [tot, List.map_cons, List.sum_cons] at this ⊢
    omega
theorem giveX_w (t : Th) (v : Vl) : thW (giveX t v) ≤ thW t + 1 := by
  obtain ⟨ti, tf, ts, td⟩ := t
  rcases last_of tf with rfl | ⟨ys, y, rfl⟩
  · rw [giveX_none]; exact Nat.le_succ _
  · rw [giveX_last]
    unfold thW frsW
    dsimp only
    rw [tot_snoc, tot_snoc, List.length_append, List.length_append]
    have h : frW (puts y v) ≤ frW y + 1 := by
      by_cases h : y.s.length < 6
      · rw [puts_room h]
        unfold frW vlsW
        dsimp only
        rw [List.length_append]
        simp only [List.length_cons, List.length_nil]
        omega
      · rw [puts_full h]; exact Nat.le_succ _
    simp only [List.length_cons, List.length_nil]
    omega
end Go.Proofs.Ytgkglebgpbehbaa
