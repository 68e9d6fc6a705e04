/-
  How great flows are.
-/
import Derived.Test.YtobomcfiincpoaaTypD
namespace Go.Proofs.Ytobomcfiincpoaa
open Go.ChangeShapes Go.WideShapes Go.RowKit

theorem szTys (w : World) (v : Value) (xs : List Ty) (left : Int) (h : Reads w w.heap.size (tys xs) v) (h0 : 0 ≤ left) (h1 : left ≤ 1048576) (hr : tysR xs) :
    Calls Try.prog 19 #[v, .int .i64 left] w fun e w' => e = .returned (.int .i64 (szR left (tysW xs))) ∧ Below w.heap.size w w' := by
  obtain ⟨a, c, e, _⟩ := h.shape
  subst e
  have hm := hr.1
  unfold maxLen at hm
  unfold tysW
  clear h hr
  generalize xs.length = len at *
  have hw : IntKind.i64.wrap (left - (len : Int)) = left - (len : Int) := by rw [IntKind.wrap_i64]; omega
  by_cases h : left - (len : Int) < 0
  · rw [szR_neg (by omega)]
    go_enter Try.func19, Try.ntmps19
    go_wp2
    go_ret
    exact ⟨rfl, Below.refl _ _⟩
  · rw [szR_pos (by omega)]
    go_enter Try.func19, Try.ntmps19
    go_wp2
    go_ret
    exact ⟨by first | rfl | (exact ret_int (by omega)), Below.refl _ _⟩
set_option maxRecDepth 100000 in
set_option maxHeartbeats 4000000 in
theorem szFl (w : World) (x : Fl) (v1 v2 : Value) (left : Int) (h1 : Reads w w.heap.size (tys x.lo) v1) (h2 : Reads w w.heap.size (tys x.st) v2) (h0 : 0 ≤ left) (h9 : left ≤ 1048576) (hr : FlR x) :
    Calls Try.prog 6 #[flV x v1 v2, .int .i64 left] w fun e w' => e = .returned (.int .i64 (szR left (flW x))) ∧ Below w.heap.size w w' := by
  obtain ⟨a1, c1, e1, _⟩ := h1.shape
  obtain ⟨a2, c2, e2, _⟩ := h2.shape
  subst e1 e2
  have b0 := (Below.refl w.heap.size w).alloc (Nat.le_refl _) (.cells #[.slice a1 x.lo.length c1, .slice a2 x.st.length c2, .int .i64 x.h] 27)
  have H1 := hide (h1.at b0)
  have H2 := hide (h2.at b0)
  have HB := hide b0
  have HX := hide (Box.new w #[.slice a1 x.lo.length c1, .slice a2 x.st.length c2, .int .i64 x.h] 27)
  have hgs : Hid (w.heap.size < (w.alloc (.cells #[.slice a1 x.lo.length c1, .slice a2 x.st.length c2, .int .i64 x.h] 27)).heap.size) := hide (by simp)
  have K1 := hide hr.lo
  have K2 := hide hr.st
  obtain ⟨t1, ht1⟩ : ∃ t, tysW x.lo = t := ⟨_, rfl⟩
  obtain ⟨t2, ht2⟩ : ∃ t, tysW x.st = t := ⟨_, rfl⟩
  obtain ⟨R, hR⟩ : ∃ R, szR left (flW x) = R := ⟨_, rfl⟩
  rw [hR]
  unfold flW at hR
  rw [ht1, ht2] at hR
  have HT1 := hide ht1
  have HT2 := hide ht2
  have HR := hide hR
  clear hR hr b0 h1 ht1 h2 ht2
  unfold flV
  go_enter Try.func6, Try.ntmps6
  go_wp2_with fail
  generalize w.alloc (.cells #[.slice a1 x.lo.length c1, .slice a2 x.st.length c2, .int .i64 x.h] 27) = W at *
  refine (szTys _ _ x.lo _ H1.out (by omega) (by omega) K1.out).mono ?_
  rintro e w1 ⟨rfl, b1⟩
  rw [HT1.out]
  by_cases g1 : left < (t1 : Int)
  · rw [szR_neg g1]
    replace HB := hide (HB.out.trans (b1.mono HB.out.size))
    clear b1
    go_wp2
    go_ret
    exact ⟨ret_int (by rw [← HR.out, szR_neg (by omega)]), HB.out⟩
  · rw [szR_pos g1]
    have g1' : ¬ left - (t1 : Int) < 0 := by omega
    replace HX := hide (HX.out.below hgs.out b1)
    replace hgs := hide (Nat.lt_of_lt_of_le hgs.out b1.size)
    replace H2 := hide (H2.out.at b1)
    replace HB := hide (HB.out.trans (b1.mono HB.out.size))
    clear b1
    have q0 := HX.out 0 _ rfl
    have q1 := HX.out 1 _ rfl
    have q2 := HX.out 2 _ rfl
    go_wp2_with fail
    clear q0 q1 q2
    refine (szTys _ _ x.st _ H2.out (by omega) (by omega) K2.out).mono ?_
    rintro e w2 ⟨rfl, b2⟩
    rw [HT2.out]
    by_cases g2 : left - (t1 : Int) < (t2 : Int)
    · rw [szR_neg g2]
      replace HB := hide (HB.out.trans (b2.mono HB.out.size))
      clear b2
      go_wp2
      go_ret
      exact ⟨ret_int (by rw [← HR.out, szR_neg (by omega)]), HB.out⟩
    · rw [szR_pos g2]
      have g2' : ¬ left - (t1 : Int) - (t2 : Int) < 0 := by omega
      replace HX := hide (HX.out.below hgs.out b2)
      replace hgs := hide (Nat.lt_of_lt_of_le hgs.out b2.size)
      replace HB := hide (HB.out.trans (b2.mono HB.out.size))
      clear b2
      go_wp2
      go_ret
      exact ⟨ret_int (by rw [← HR.out, szR_pos (by omega)] <;> omega), HB.out⟩
end Go.Proofs.Ytobomcfiincpoaa
