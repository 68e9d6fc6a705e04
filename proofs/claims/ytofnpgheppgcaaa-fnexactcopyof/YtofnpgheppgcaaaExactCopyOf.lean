/-
  Proved: at every argument the program's CopyOf answers as its model does, writes into no argument, and its answer owns its memory (the law FnExactCopyOf returns true), without any condition.
-/
import Derived.Test.YtofnpgheppgcaaaRows
import Derived.Test.YtofnpgheppgcaaaCpRK
import Derived.Test.YtofnpgheppgcaaaCpG
import Derived.Test.YtofnpgheppgcaaaCpS
import Derived.Test.YtofnpgheppgcaaaCpD
import Derived.Test.YtofnpgheppgcaaaStepW
import Derived.Deep.CutRange
import Derived.Deep.RegionWith
import Derived.Deep.RegionHeld
import Derived.BigRegion
import Derived.WalkKit
import Derived.ProofKit
import Derived.OpenShut
import Derived.ShutString
import Derived.ChangeOld
import Derived.Below
namespace Go.Proofs.Ytofnpgheppgcaaa.fnExactCopyOf
open Go.ChangeShapes Go.WideShapes Go.ChangeAt Go.RowKit
open Go.ChangeMaps (open_string shut_string)
set_option linter.unusedVariables false

theorem own : ownKnob Try.prog.godebug = none := by kernel_rfl
theorem laidOut : laidOutB Try.prog = true := by kernel_rfl
set_option maxRecDepth 100000 in
set_option maxHeartbeats 8000000 in
theorem walk (v0 : Value) (q : Int) (w : World) (h0 : IsCpys w v0) (_hq : -9223372036854775808 ≤ q ∧ q ≤ 9223372036854775807) :
    Calls Try.prog 4 #[v0, .int .i64 q] w fun e w' => e = .returned (.bool true) ∧ Below w.heap.size w w' := by
  obtain ⟨x, gx1, rx⟩ := h0
  obtain ⟨ax1, cx1, ex1, _⟩ := gx1.shape
  subst ex1
  have Px1 := hide gx1
  have Rx := hide rx
  clear rx gx1
  have HB := hide (Below.refl w.heap.size w)
  obtain ⟨V0, hV0⟩ : ∃ V, copyC x q = V := ⟨_, rfl⟩
  have HV0 := hide hV0
  clear hV0
  obtain ⟨V1, hV1⟩ : ∃ V, foundC x q = V := ⟨_, rfl⟩
  have HV1 := hide hV1
  clear hV1
  have hne1 : (V1 != V1) = false := by simp
  go_enter Try.func4, Try.ntmps4
  go_wp2_with fail
  refine (szCpys _ _ x _ (Px1.out.at HB.out) (by omega) (by omega) Rx.out).mono ?_
  rintro e w1 ⟨rfl, b9⟩
  have z1 := b9.size
  replace HB := hide (HB.out.trans (b9.mono HB.out.size))
  clear b9
  by_cases hmx : (1048576 : Int) < (cpysW x : Int)
  · rw [szR_neg hmx]
    go_wp2
    go_ret
    exact ⟨rfl, HB.out⟩
  · skip
    rw [szR_pos hmx]
    have hwx : cpysW x ≤ 1048576 := by omega
    have HGx := hide (cpysG_of Rx.out (by omega))
    have hnx : ¬ (1048576 : Int) - (cpysW x : Int) < 0 := by omega
    have hqx : (1048576 : Int) - (cpysW x : Int) ≤ 1048576 := by omega
    have hTx : (1048576 : Int) - (cpysW x : Int) + ((cpysW x : Int) : Int) ≤ 1048576 := by omega
    generalize (1048576 : Int) - (cpysW x : Int) = mx at *
    clear hmx
    have HGV0 := hide (HV0.out ▸ copyC_ok HGx.out)
    have hcV0 : cpyCto V0 ≤ 90000000 := by
      have h1 := cpyCto_le V0
      have h2 := copyC_w x q
      rw [HV0.out] at h2
      omega
    go_wp2_with fail
    refine (toCpys _ _ x (Px1.out.at HB.out) HGx.out).mono ?_
    rintro e w2 ⟨n2_1, rfl, o9, b9⟩
    obtain ⟨p2_1, q2_1, f2_1⟩ := o9.shape
    subst f2_1
    have O2 := hide o9
    clear o9
    have z2 := b9.size
    replace HB := hide (HB.out.trans (b9.mono HB.out.size))
    clear b9
    go_wp2_with fail
    refine (copyOfS _ x _ q (O2.out.rd (Nat.le_refl _)) HGx.out).mono ?_
    rintro e w3 ⟨n3_1, n3_2, rfl, o9, b9⟩
    rw [HV0.out] at o9 ⊢
    rw [HV1.out]
    obtain ⟨p3_1, q3_1, f3_1, _⟩ := (cpyD_own o9).1.shape
    subst f3_1
    obtain ⟨p3_2, q3_2, f3_2, _⟩ := (cpyD_own o9).2.shape
    subst f3_2
    unfold cpyV
    have O3 := hide o9
    clear o9
    replace O2 := hide (O2.out.below b9)
    have z3 := b9.size
    replace HB := hide (HB.out.trans (b9.mono HB.out.size))
    clear b9
    have bD := (Below.refl w3.heap.size w3).alloc (Nat.le_refl _) (.cells #[.int .i64 V0.i, .int .i64 V0.c, .int .i64 V0.n, .bool V0.v, .slice p3_1 V0.f.length q3_1, .slice p3_2 V0.t.length q3_2] 40)
    have X6 := hide (heap_alloc_new w3 (.cells #[.int .i64 V0.i, .int .i64 V0.c, .int .i64 V0.n, .bool V0.v, .slice p3_1 V0.f.length q3_1, .slice p3_2 V0.t.length q3_2] 40))
    have z4 : w3.heap.size < (w3.alloc (.cells #[.int .i64 V0.i, .int .i64 V0.c, .int .i64 V0.n, .bool V0.v, .slice p3_1 V0.f.length q3_1, .slice p3_2 V0.t.length q3_2] 40)).heap.size := by simp
    replace O2 := hide (O2.out.below bD)
    replace O3 := hide (O3.out.below bD)
    have z5 := bD.size
    replace HB := hide (HB.out.trans (bD.mono HB.out.size))
    clear bD
    go_wp2_with fail
    generalize w3.alloc (.cells #[.int .i64 V0.i, .int .i64 V0.c, .int .i64 V0.n, .bool V0.v, .slice p3_1 V0.f.length q3_1, .slice p3_2 V0.t.length q3_2] 40) = w4 at *
    refine (toCpys _ _ x (Px1.out.at HB.out) HGx.out).mono ?_
    rintro e w5 ⟨n5_1, rfl, o9, b9⟩
    obtain ⟨p5_1, q5_1, f5_1⟩ := o9.shape
    subst f5_1
    have O5 := hide o9
    clear o9
    replace X6 := hide ((b9.block _ (Array.getElem?_eq_some_iff.1 X6.out).1).trans X6.out)
    replace O2 := hide (O2.out.below b9)
    replace O3 := hide (O3.out.below b9)
    have z6 := b9.size
    replace HB := hide (HB.out.trans (b9.mono HB.out.size))
    clear b9
    go_wp2_with fail
    refine (copyOfI _ x _ q (O5.out.rd (Nat.le_refl _)) HGx.out).mono ?_
    rintro e w6 ⟨n6_1, n6_2, rfl, o9, b9⟩
    rw [HV0.out] at o9 ⊢
    rw [HV1.out]
    obtain ⟨p6_1, q6_1, f6_1, _⟩ := (cpyD_own o9).1.shape
    subst f6_1
    obtain ⟨p6_2, q6_2, f6_2, _⟩ := (cpyD_own o9).2.shape
    subst f6_2
    unfold cpyV
    have O6 := hide o9
    clear o9
    replace X6 := hide ((b9.block _ (Array.getElem?_eq_some_iff.1 X6.out).1).trans X6.out)
    replace O2 := hide (O2.out.below b9)
    replace O3 := hide (O3.out.below b9)
    replace O5 := hide (O5.out.below b9)
    have z7 := b9.size
    replace HB := hide (HB.out.trans (b9.mono HB.out.size))
    clear b9
    have bD := (Below.refl w6.heap.size w6).alloc (Nat.le_refl _) (.cells #[.int .i64 V0.i, .int .i64 V0.c, .int .i64 V0.n, .bool V0.v, .slice p6_1 V0.f.length q6_1, .slice p6_2 V0.t.length q6_2] 40)
    have X9 := hide (heap_alloc_new w6 (.cells #[.int .i64 V0.i, .int .i64 V0.c, .int .i64 V0.n, .bool V0.v, .slice p6_1 V0.f.length q6_1, .slice p6_2 V0.t.length q6_2] 40))
    have z8 : w6.heap.size < (w6.alloc (.cells #[.int .i64 V0.i, .int .i64 V0.c, .int .i64 V0.n, .bool V0.v, .slice p6_1 V0.f.length q6_1, .slice p6_2 V0.t.length q6_2] 40)).heap.size := by simp
    replace X6 := hide ((bD.block _ (Array.getElem?_eq_some_iff.1 X6.out).1).trans X6.out)
    replace O2 := hide (O2.out.below bD)
    replace O3 := hide (O3.out.below bD)
    replace O5 := hide (O5.out.below bD)
    replace O6 := hide (O6.out.below bD)
    have z9 := bD.size
    replace HB := hide (HB.out.trans (bD.mono HB.out.size))
    clear bD
    have y0_0 := (box_of X9.out).1 0 _ rfl
    have y0_1 := (box_of X9.out).1 1 _ rfl
    have y0_2 := (box_of X9.out).1 2 _ rfl
    have y0_3 := (box_of X9.out).1 3 _ rfl
    have y0_4 := (box_of X9.out).1 4 _ rfl
    have y0_5 := (box_of X9.out).1 5 _ rfl
    have y1_0 := (box_of X6.out).1 0 _ rfl
    have y1_1 := (box_of X6.out).1 1 _ rfl
    have y1_2 := (box_of X6.out).1 2 _ rfl
    have y1_3 := (box_of X6.out).1 3 _ rfl
    have y1_4 := (box_of X6.out).1 4 _ rfl
    have y1_5 := (box_of X6.out).1 5 _ rfl
    go_wp2_with fail
    clear y0_0 y0_1 y0_2 y0_3 y0_4 y0_5 y1_0 y1_1 y1_2 y1_3 y1_4 y1_5
    generalize w6.alloc (.cells #[.int .i64 V0.i, .int .i64 V0.c, .int .i64 V0.n, .bool V0.v, .slice p6_1 V0.f.length q6_1, .slice p6_2 V0.t.length q6_2] 40) = w7 at *
    refine (eqCpy _ V0 _ _ _ _ (cpyD_own O6.out).1 (cpyD_own O6.out).2 (cpyD_own O3.out).1 (cpyD_own O3.out).2 HGV0.out).mono ?_
    rintro e w8 ⟨rfl, b9⟩
    replace X6 := hide ((b9.block _ (Array.getElem?_eq_some_iff.1 X6.out).1).trans X6.out)
    replace X9 := hide ((b9.block _ (Array.getElem?_eq_some_iff.1 X9.out).1).trans X9.out)
    replace O2 := hide (O2.out.below b9)
    replace O3 := hide (O3.out.below b9)
    replace O5 := hide (O5.out.below b9)
    replace O6 := hide (O6.out.below b9)
    have z10 := b9.size
    replace HB := hide (HB.out.trans (b9.mono HB.out.size))
    clear b9
    go_wp2_with fail
    refine (toCpys _ _ x (Px1.out.at HB.out) HGx.out).mono ?_
    rintro e w9 ⟨n9_1, rfl, o9, b9⟩
    obtain ⟨p9_1, q9_1, f9_1⟩ := o9.shape
    subst f9_1
    have O9 := hide o9
    clear o9
    replace X6 := hide ((b9.block _ (Array.getElem?_eq_some_iff.1 X6.out).1).trans X6.out)
    replace X9 := hide ((b9.block _ (Array.getElem?_eq_some_iff.1 X9.out).1).trans X9.out)
    replace O2 := hide (O2.out.below b9)
    replace O3 := hide (O3.out.below b9)
    replace O5 := hide (O5.out.below b9)
    replace O6 := hide (O6.out.below b9)
    have z11 := b9.size
    replace HB := hide (HB.out.trans (b9.mono HB.out.size))
    clear b9
    go_wp2_with fail
    refine (eqCpys _ _ _ x (O5.out.rd (Nat.le_refl _)) (O9.out.rd (Nat.le_refl _)) HGx.out).mono ?_
    rintro e w10 ⟨rfl, b9⟩
    replace X6 := hide ((b9.block _ (Array.getElem?_eq_some_iff.1 X6.out).1).trans X6.out)
    replace X9 := hide ((b9.block _ (Array.getElem?_eq_some_iff.1 X9.out).1).trans X9.out)
    replace O2 := hide (O2.out.below b9)
    replace O3 := hide (O3.out.below b9)
    replace O5 := hide (O5.out.below b9)
    replace O6 := hide (O6.out.below b9)
    replace O9 := hide (O9.out.below b9)
    have z12 := b9.size
    replace HB := hide (HB.out.trans (b9.mono HB.out.size))
    clear b9
    go_wp2_with fail
    have hct11 := cntCpys_le x
    refine (mkCpysI _ (w4.heap.size) (w5.heap.size) 1 _ (by first | rfl | omega) _ x O5.out (by omega) (by omega)).mono ?_
    rintro e w11 ⟨rfl, o9, c9⟩
    replace O5 := hide o9
    clear o9
    replace X6 := hide ((c9.block _ (Array.getElem?_eq_some_iff.1 X6.out).1 (by omega)).trans X6.out)
    replace X9 := hide ((c9.block _ (Array.getElem?_eq_some_iff.1 X9.out).1 (by omega)).trans X9.out)
    replace O2 := hide (O2.out.apart c9 (by omega))
    replace O3 := hide (O3.out.apart c9 (by omega))
    replace O6 := hide (O6.out.apart c9 (by omega))
    replace O9 := hide (O9.out.apart c9 (by omega))
    have z13 := c9.size
    replace HB := hide (HB.out.trans (c9.below (by omega) HB.out.size))
    clear c9
    obtain ⟨K11, hk11⟩ : ∃ k, 1 + cntCpys x = k := ⟨_, rfl⟩
    rw [hk11]
    have hkp11 : 0 < K11 := by omega
    have hkb11 : K11 ≤ 8388608 + 1 := by omega
    have hkn11 : ¬ ((K11 : Nat) : Int) < 0 := by omega
    clear hk11 hct11
    clear O5
    have y0_0 := (box_of X9.out).1 0 _ rfl
    have y0_1 := (box_of X9.out).1 1 _ rfl
    have y0_2 := (box_of X9.out).1 2 _ rfl
    have y0_3 := (box_of X9.out).1 3 _ rfl
    have y0_4 := (box_of X9.out).1 4 _ rfl
    have y0_5 := (box_of X9.out).1 5 _ rfl
    have y1_0 := (box_of X6.out).1 0 _ rfl
    have y1_1 := (box_of X6.out).1 1 _ rfl
    have y1_2 := (box_of X6.out).1 2 _ rfl
    have y1_3 := (box_of X6.out).1 3 _ rfl
    have y1_4 := (box_of X6.out).1 4 _ rfl
    have y1_5 := (box_of X6.out).1 5 _ rfl
    go_wp2_with fail
    clear y0_0 y0_1 y0_2 y0_3 y0_4 y0_5 y1_0 y1_1 y1_2 y1_3 y1_4 y1_5
    refine (eqCpy _ V0 _ _ _ _ (cpyD_own O6.out).1 (cpyD_own O6.out).2 (cpyD_own O3.out).1 (cpyD_own O3.out).2 HGV0.out).mono ?_
    rintro e w12 ⟨rfl, b9⟩
    replace X6 := hide ((b9.block _ (Array.getElem?_eq_some_iff.1 X6.out).1).trans X6.out)
    replace X9 := hide ((b9.block _ (Array.getElem?_eq_some_iff.1 X9.out).1).trans X9.out)
    replace O2 := hide (O2.out.below b9)
    replace O3 := hide (O3.out.below b9)
    replace O6 := hide (O6.out.below b9)
    replace O9 := hide (O9.out.below b9)
    have z14 := b9.size
    replace HB := hide (HB.out.trans (b9.mono HB.out.size))
    clear b9
    have y0_0 := (box_of X9.out).1 0 _ rfl
    have y0_1 := (box_of X9.out).1 1 _ rfl
    have y0_2 := (box_of X9.out).1 2 _ rfl
    have y0_3 := (box_of X9.out).1 3 _ rfl
    have y0_4 := (box_of X9.out).1 4 _ rfl
    have y0_5 := (box_of X9.out).1 5 _ rfl
    go_wp2_with fail
    clear y0_0 y0_1 y0_2 y0_3 y0_4 y0_5
    refine (mkCpyI _ (w5.heap.size) (w6.heap.size) 1 _ (by first | rfl | omega) V0 _ _ O6.out (by omega) (by omega)).mono ?_
    rintro e w13 ⟨rfl, o9, c9⟩
    replace O6 := hide o9
    clear o9
    replace X6 := hide ((c9.block _ (Array.getElem?_eq_some_iff.1 X6.out).1 (by omega)).trans X6.out)
    replace X9 := hide ((c9.block _ (Array.getElem?_eq_some_iff.1 X9.out).1 (by omega)).trans X9.out)
    replace O2 := hide (O2.out.apart c9 (by omega))
    replace O3 := hide (O3.out.apart c9 (by omega))
    replace O9 := hide (O9.out.apart c9 (by omega))
    have z15 := c9.size
    replace HB := hide (HB.out.trans (c9.below (by omega) HB.out.size))
    clear c9
    obtain ⟨K13, hk13⟩ : ∃ k, 1 + cpyCto V0 = k := ⟨_, rfl⟩
    rw [hk13]
    have hkp13 : 0 < K13 := by omega
    have hkb13 : K13 ≤ 90000000 + 1 := by omega
    have hkn13 : ¬ ((K13 : Nat) : Int) < 0 := by omega
    have HMV0 := hide hk13
    have hmmV0 : (((K13 : Nat) : Int) != ((K13 : Nat) : Int)) = false := by simp
    clear hk13
    have y0_0 := (box_of X9.out).1 0 _ rfl
    have y0_1 := (box_of X9.out).1 1 _ rfl
    have y0_2 := (box_of X9.out).1 2 _ rfl
    have y0_3 := (box_of X9.out).1 3 _ rfl
    have y0_4 := (box_of X9.out).1 4 _ rfl
    have y0_5 := (box_of X9.out).1 5 _ rfl
    go_wp2_with fail
    clear y0_0 y0_1 y0_2 y0_3 y0_4 y0_5
    refine (heldCpyO _ 1 _ (by first | rfl | omega) V0 _ _ (O6.out.rd (Nat.le_refl _)) (by omega) (by omega)).mono ?_
    rintro e w14 ⟨rfl, b9⟩
    rw [HMV0.out]
    replace X6 := hide ((b9.block _ (Array.getElem?_eq_some_iff.1 X6.out).1).trans X6.out)
    replace X9 := hide ((b9.block _ (Array.getElem?_eq_some_iff.1 X9.out).1).trans X9.out)
    replace O2 := hide (O2.out.below b9)
    replace O3 := hide (O3.out.below b9)
    replace O6 := hide (O6.out.below b9)
    replace O9 := hide (O9.out.below b9)
    have z16 := b9.size
    replace HB := hide (HB.out.trans (b9.mono HB.out.size))
    clear b9
    go_wp2_with fail
    refine (toCpys _ _ x (Px1.out.at HB.out) HGx.out).mono ?_
    rintro e w15 ⟨n15_1, rfl, o9, b9⟩
    obtain ⟨p15_1, q15_1, f15_1⟩ := o9.shape
    subst f15_1
    have O15 := hide o9
    clear o9
    replace X6 := hide ((b9.block _ (Array.getElem?_eq_some_iff.1 X6.out).1).trans X6.out)
    replace X9 := hide ((b9.block _ (Array.getElem?_eq_some_iff.1 X9.out).1).trans X9.out)
    replace O2 := hide (O2.out.below b9)
    replace O3 := hide (O3.out.below b9)
    replace O6 := hide (O6.out.below b9)
    replace O9 := hide (O9.out.below b9)
    have z17 := b9.size
    replace HB := hide (HB.out.trans (b9.mono HB.out.size))
    clear b9
    go_wp2_with fail
    refine (copyOfI _ x _ q (O15.out.rd (Nat.le_refl _)) HGx.out).mono ?_
    rintro e w16 ⟨n16_1, n16_2, rfl, o9, b9⟩
    rw [HV0.out] at o9 ⊢
    rw [HV1.out]
    obtain ⟨p16_1, q16_1, f16_1, _⟩ := (cpyD_own o9).1.shape
    subst f16_1
    obtain ⟨p16_2, q16_2, f16_2, _⟩ := (cpyD_own o9).2.shape
    subst f16_2
    unfold cpyV
    have O16 := hide o9
    clear o9
    replace X6 := hide ((b9.block _ (Array.getElem?_eq_some_iff.1 X6.out).1).trans X6.out)
    replace X9 := hide ((b9.block _ (Array.getElem?_eq_some_iff.1 X9.out).1).trans X9.out)
    replace O2 := hide (O2.out.below b9)
    replace O3 := hide (O3.out.below b9)
    replace O6 := hide (O6.out.below b9)
    replace O9 := hide (O9.out.below b9)
    replace O15 := hide (O15.out.below b9)
    have z18 := b9.size
    replace HB := hide (HB.out.trans (b9.mono HB.out.size))
    clear b9
    have bD := (Below.refl w16.heap.size w16).alloc (Nat.le_refl _) (.cells #[.int .i64 V0.i, .int .i64 V0.c, .int .i64 V0.n, .bool V0.v, .slice p16_1 V0.f.length q16_1, .slice p16_2 V0.t.length q16_2] 40)
    have X14 := hide (heap_alloc_new w16 (.cells #[.int .i64 V0.i, .int .i64 V0.c, .int .i64 V0.n, .bool V0.v, .slice p16_1 V0.f.length q16_1, .slice p16_2 V0.t.length q16_2] 40))
    have z19 : w16.heap.size < (w16.alloc (.cells #[.int .i64 V0.i, .int .i64 V0.c, .int .i64 V0.n, .bool V0.v, .slice p16_1 V0.f.length q16_1, .slice p16_2 V0.t.length q16_2] 40)).heap.size := by simp
    replace X6 := hide ((bD.block _ (Array.getElem?_eq_some_iff.1 X6.out).1).trans X6.out)
    replace X9 := hide ((bD.block _ (Array.getElem?_eq_some_iff.1 X9.out).1).trans X9.out)
    replace O2 := hide (O2.out.below bD)
    replace O3 := hide (O3.out.below bD)
    replace O6 := hide (O6.out.below bD)
    replace O9 := hide (O9.out.below bD)
    replace O15 := hide (O15.out.below bD)
    replace O16 := hide (O16.out.below bD)
    have z20 := bD.size
    replace HB := hide (HB.out.trans (bD.mono HB.out.size))
    clear bD
    have y0_0 := (box_of X14.out).1 0 _ rfl
    have y0_1 := (box_of X14.out).1 1 _ rfl
    have y0_2 := (box_of X14.out).1 2 _ rfl
    have y0_3 := (box_of X14.out).1 3 _ rfl
    have y0_4 := (box_of X14.out).1 4 _ rfl
    have y0_5 := (box_of X14.out).1 5 _ rfl
    have y1_0 := (box_of X6.out).1 0 _ rfl
    have y1_1 := (box_of X6.out).1 1 _ rfl
    have y1_2 := (box_of X6.out).1 2 _ rfl
    have y1_3 := (box_of X6.out).1 3 _ rfl
    have y1_4 := (box_of X6.out).1 4 _ rfl
    have y1_5 := (box_of X6.out).1 5 _ rfl
    go_wp2_with fail
    clear y0_0 y0_1 y0_2 y0_3 y0_4 y0_5 y1_0 y1_1 y1_2 y1_3 y1_4 y1_5
    generalize w16.alloc (.cells #[.int .i64 V0.i, .int .i64 V0.c, .int .i64 V0.n, .bool V0.v, .slice p16_1 V0.f.length q16_1, .slice p16_2 V0.t.length q16_2] 40) = w17 at *
    refine (eqCpy _ V0 _ _ _ _ (cpyD_own O16.out).1 (cpyD_own O16.out).2 (cpyD_own O3.out).1 (cpyD_own O3.out).2 HGV0.out).mono ?_
    rintro e w18 ⟨rfl, b9⟩
    replace X6 := hide ((b9.block _ (Array.getElem?_eq_some_iff.1 X6.out).1).trans X6.out)
    replace X9 := hide ((b9.block _ (Array.getElem?_eq_some_iff.1 X9.out).1).trans X9.out)
    replace X14 := hide ((b9.block _ (Array.getElem?_eq_some_iff.1 X14.out).1).trans X14.out)
    replace O2 := hide (O2.out.below b9)
    replace O3 := hide (O3.out.below b9)
    replace O6 := hide (O6.out.below b9)
    replace O9 := hide (O9.out.below b9)
    replace O15 := hide (O15.out.below b9)
    replace O16 := hide (O16.out.below b9)
    have z21 := b9.size
    replace HB := hide (HB.out.trans (b9.mono HB.out.size))
    clear b9
    have y0_0 := (box_of X9.out).1 0 _ rfl
    have y0_1 := (box_of X9.out).1 1 _ rfl
    have y0_2 := (box_of X9.out).1 2 _ rfl
    have y0_3 := (box_of X9.out).1 3 _ rfl
    have y0_4 := (box_of X9.out).1 4 _ rfl
    have y0_5 := (box_of X9.out).1 5 _ rfl
    go_wp2_with fail
    clear y0_0 y0_1 y0_2 y0_3 y0_4 y0_5
    refine (heldCpyO _ 1 _ (by first | rfl | omega) V0 _ _ (O6.out.rd (Nat.le_refl _)) (by omega) (by omega)).mono ?_
    rintro e w19 ⟨rfl, b9⟩
    rw [HMV0.out]
    replace X6 := hide ((b9.block _ (Array.getElem?_eq_some_iff.1 X6.out).1).trans X6.out)
    replace X9 := hide ((b9.block _ (Array.getElem?_eq_some_iff.1 X9.out).1).trans X9.out)
    replace X14 := hide ((b9.block _ (Array.getElem?_eq_some_iff.1 X14.out).1).trans X14.out)
    replace O2 := hide (O2.out.below b9)
    replace O3 := hide (O3.out.below b9)
    replace O6 := hide (O6.out.below b9)
    replace O9 := hide (O9.out.below b9)
    replace O15 := hide (O15.out.below b9)
    replace O16 := hide (O16.out.below b9)
    have z22 := b9.size
    replace HB := hide (HB.out.trans (b9.mono HB.out.size))
    clear b9
    go_wp2
    go_ret
    exact ⟨rfl, HB.out⟩

set_option maxRecDepth 100000 in
theorem lifted (os : Os) (started : os.Started) (H : Type) (enc : TypeId × Value → H) :
    ReturnsInHanded {} Try.checked os 4 .any (Rows.fnExactCopyOfSpec.pre6 enc Try.prog Try.f4 Rows.fnExactCopyOfRow.domain false) (Rows.fnExactCopyOfSpec.post enc Try.prog Try.f4 false true false false) := by
  refine returnsInHanded_of_change (C := Try.checked) own started (by kernel_rfl) Try.func4
    (ChangeSpec.witness6 (enc := enc) (C := Try.checked) false ⟨#[], #[.slice none 0 0, .int .i64 0], []⟩ 8 (by kernel_rfl) (by kernel_rfl) (by kernel_rfl) (by kernel_rfl)) ?_
  intro W base args ds gs before hval0 hW hcnd _
  have hval : ∀ (j : Nat) t v, Try.f4.params[j]? = some t → args[j]? = some v → Value.okWide Try.prog W .any base t v := hval0
  have hW' := hW
  obtain ⟨p, q, hA0, hV, rfl, hfz, hnd⟩ := hW
  have hA : DataW.TrodAll enc Try.prog W 0 (fun _ => true) true Try.f4.params.toList args.toList ds p := hA0
  rw [Try.params4] at hA hval
  obtain ⟨v0, vs0, d0, ds0, p0, q0, hargs, rfl, rfl, h0, r0⟩ := trodAll_cons hA
  obtain ⟨v1, vs1, d1, ds1, p1, q1, rfl, rfl, rfl, h1, r1⟩ := trodAll_cons r0
  obtain ⟨rfl, rfl, rfl⟩ := trodAll_nil r1
  obtain rfl : args = #[v0, v1] := by cases args; simp_all
  obtain ⟨rfl, rfl⟩ := trodVars_none hV
  have k0 := h0
  have lt0 : ∀ x ∈ p0, x.block < W.heap.size := by obtain ⟨m, hm⟩ := k0; exact DataW.trod_lt m _ _ _ hm
  have w0 := openCpys (hval 0 25 v0 rfl rfl) h0
  obtain ⟨a1, rfl, rfl, rfl, w1⟩ := open_int Try.underlying3 (hval 1 3 v1 rfl rfl) h1
  clear hA0 hval0
  refine (walk v0 a1 W w0 (bounds_i64 w1)).mono fun e W' ⟨he, bel⟩ => ?_
  subst he
  exact ⟨_, rfl, _, _, _, [], _, [], hW', trodAll_mk1 (shut_bool Try.underlying4 _), (trodAll_cons_mk (Below.trod laidOut (by kernel_rfl) (of_decide_eq_true (by kernel_rfl)) k0 bel lt0) (trodAll_cons_mk (shut_int Try.underlying3 w1) trodAll_mk0)), rfl, bel.frame _, fun h => by cases h⟩

theorem over : Rows.fnExactCopyOfRow.holds Try.pinned (OpenSpec.ofChange Rows.fnExactCopyOfSpec) :=
  OpenClaim.holds_of_wide 4 Try.f4 rfl rfl rfl rfl rfl rfl rfl ⟨rfl, rfl, rfl, rfl, rfl⟩ rfl rfl rfl rfl rfl (by kernel_rfl) Try.func4 (by kernel_rfl)
    (of_decide_eq_true (by kernel_rfl)) (by unfold Func.isWrapper; first | (rw [if_pos (by decide +kernel)]; kernel_rfl) | (rw [if_neg (by decide +kernel)]; exact ⟨rfl, rfl⟩))
    (fun os started H enc _ => lifted os started H enc)

end Go.Proofs.Ytofnpgheppgcaaa.fnExactCopyOf
namespace Go.Proofs.Ytofnpgheppgcaaa
theorem fnExactCopyOf_holds : Rows.FnExactCopyOfSaid := fnExactCopyOf.over
#print axioms fnExactCopyOf_holds
end Go.Proofs.Ytofnpgheppgcaaa
