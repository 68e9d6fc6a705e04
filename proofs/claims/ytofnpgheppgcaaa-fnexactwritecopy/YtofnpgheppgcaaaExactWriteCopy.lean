/-
  Proved: at every argument the program's WriteCopy answers as its model does, writes into no argument, and its answer owns its memory (the law FnExactWriteCopy returns true), without any condition.
-/
import Derived.Test.YtofnpgheppgcaaaRows
import Derived.Test.YtofnpgheppgcaaaCpRK
import Derived.Test.YtofnpgheppgcaaaCpG
import Derived.Test.YtofnpgheppgcaaaCpW
import Derived.Test.YtofnpgheppgcaaaCpO
import Derived.Test.YtofnpgheppgcaaaStepW
import Derived.Deep.CutRange
import Derived.Deep.RegionWith
import Derived.Deep.RegionHeld
import Derived.BigRegion
import Derived.WalkKit
import Derived.ProofKit
import Derived.OpenShut
import Derived.ShutString
import Derived.ChangeOld
import Derived.Below
namespace Go.Proofs.Ytofnpgheppgcaaa.fnExactWriteCopy
open Go.ChangeShapes Go.WideShapes Go.ChangeAt Go.RowKit
open Go.ChangeMaps (open_string shut_string)
set_option linter.unusedVariables false

theorem own : ownKnob Try.prog.godebug = none := by kernel_rfl
theorem laidOut : laidOutB Try.prog = true := by kernel_rfl
set_option maxRecDepth 100000 in
set_option maxHeartbeats 8000000 in
theorem walk (v0 : Value) (q : Int) (p : Int) (v3 : Value) (w : World) (h0 : IsCpys w v0) (_hq : -9223372036854775808 ≤ q ∧ q ≤ 9223372036854775807) (_hp : -9223372036854775808 ≤ p ∧ p ≤ 9223372036854775807) (h3 : IsVl w v3) :
    Calls Try.prog 6 #[v0, .int .i64 q, .int .i64 p, v3] w fun e w' => e = .returned (.bool true) ∧ Below w.heap.size w w' := by
  obtain ⟨x, gx1, rx⟩ := h0
  obtain ⟨ax1, cx1, ex1, _⟩ := gx1.shape
  subst ex1
  have Px1 := hide gx1
  have Rx := hide rx
  clear rx gx1
  obtain ⟨v, rfl, rv⟩ := h3
  have Rv := hide rv
  clear rv
  have bA := ((Below.refl w.heap.size w).alloc (Nat.le_refl _) (.cells #[.bool v.r, .int .i64 v.n] 53))
  have G0 := heap_alloc_new w (.cells #[.bool v.r, .int .i64 v.n] 53)
  have E0 := hide (G0)
  have HB := hide bA
  clear bA G0
  obtain ⟨V0, hV0⟩ : ∃ V, writeC x q p v = V := ⟨_, rfl⟩
  have HV0 := hide hV0
  clear hV0
  obtain ⟨V1, hV1⟩ : ∃ V, hasC x q p = V := ⟨_, rfl⟩
  have HV1 := hide hV1
  clear hV1
  have hne1 : (V1 != V1) = false := by simp
  unfold vlV
  go_enter Try.func6, Try.ntmps6
  go_wp2_with fail
  generalize (w.alloc (.cells #[.bool v.r, .int .i64 v.n] 53)) = W at *
  refine (szCpys _ _ x _ (Px1.out.at HB.out) (by omega) (by omega) Rx.out).mono ?_
  rintro e w1 ⟨rfl, b9⟩
  replace E0 := hide ((b9.block _ (Array.getElem?_eq_some_iff.1 E0.out).1).trans E0.out)
  have z1 := b9.size
  replace HB := hide (HB.out.trans (b9.mono HB.out.size))
  clear b9
  by_cases hmx : (1048576 : Int) < (cpysW x : Int)
  · rw [szR_neg hmx]
    go_wp2
    go_ret
    exact ⟨rfl, HB.out⟩
  · skip
    rw [szR_pos hmx]
    have hwx : cpysW x ≤ 1048576 := by omega
    have HGx := hide (cpysG_of Rx.out (by omega))
    have hnx : ¬ (1048576 : Int) - (cpysW x : Int) < 0 := by omega
    have hqx : (1048576 : Int) - (cpysW x : Int) ≤ 1048576 := by omega
    have hTx : (1048576 : Int) - (cpysW x : Int) + ((cpysW x : Int) : Int) ≤ 1048576 := by omega
    generalize (1048576 : Int) - (cpysW x : Int) = mx at *
    clear hmx
    have HGV0 := hide (HV0.out ▸ writeC_ok HGx.out (vlG_of Rv.out (Nat.zero_le _)))
    have hcV0 : cntCpys V0 ≤ 90000000 := by
      have h1 := cntCpys_le V0
      have h2 := writeC_w x q p v
      rw [HV0.out] at h2
      omega
    have hz0 : w.heap.size + 1 ≤ w1.heap.size := by
      have hh := (Array.getElem?_eq_some_iff.1 E0.out).1
      omega
    go_upto_region 5 with fail
    have HCL : Hid (∀ w', Below w1.heap.size w1 w' → w'.cell? ⟨w.heap.size, 0, none⟩ = some (.bool v.r) ∧ w'.cell? ⟨w.heap.size, 1, none⟩ = some (.int .i64 v.n)) := hide (fun w' hb => ⟨(box_of ((hb.block _ (Array.getElem?_eq_some_iff.1 E0.out).1).trans E0.out)).1 0 _ rfl, (box_of ((hb.block _ (Array.getElem?_eq_some_iff.1 E0.out).1).trans E0.out)).1 1 _ rfl⟩)
    have HD := hide (Below.refl w1.heap.size w1).drew
    go_cut [10, 11] from 25 to 34 (fun s10 s11 wq => ∃ (a10_1 : Option Addr) (k10_1 : Nat), ∃ l10 h10 : Nat, s10 = .slice a10_1 V0.length k10_1 ∧ s11 = .bool V1 ∧ Hid (OwnD wq l10 h10 (cpys V0) (.slice a10_1 V0.length k10_1)) ∧ w1.heap.size ≤ l10 ∧ l10 ≤ h10 ∧ h10 ≤ wq.heap.size ∧ Hid (Below w1.heap.size w1 wq))
    case first =>
      refine wp_region_held_drew (S := fun w' => w'.cell? ⟨w.heap.size, 0, none⟩ = some (.bool v.r) ∧ w'.cell? ⟨w.heap.size, 1, none⟩ = some (.int .i64 v.n)) (by kernel_rfl) (HCL.out _ HD.out) (fun hHeld => ?_)
      have HW := HD
      clear HD
      generalize w1.drew = Z0 at *
      refine wpAnyH_take (i := 0) (v := ?_) rfl (by kernel_rfl) (by kernel_rfl) (by kernel_rfl) (fun _ _ _ h => h) (Or.inl ⟨by rfl, ?_⟩) (by assumption) ?_
      rotate_left
      · intro w' hSw
        try dsimp only at hSw
        go_simp; try rfl
      simp only [List.getElem_toArray, List.getElem_cons_zero, Act.put, List.setIfInBounds_toArray, List.set_cons_zero, List.set_cons_succ]
      refine wpAnyH_take (i := 2) (v := ?_) rfl (by kernel_rfl) (by kernel_rfl) (by kernel_rfl) (fun _ _ _ h => h) (Or.inl ⟨by rfl, ?_⟩) (by assumption) ?_
      rotate_left
      · intro w' hSw
        try dsimp only at hSw
        go_simp; try rfl
      simp only [List.getElem_toArray, List.getElem_cons_succ, List.getElem_cons_zero, Act.put, List.setIfInBounds_toArray, List.set_cons_zero, List.set_cons_succ]
      refine wpAnyH_take (i := 3) (v := ?_) rfl (by kernel_rfl) (by kernel_rfl) (by kernel_rfl) (fun _ _ _ h => h) (Or.inl ⟨by rfl, ?_⟩) (by assumption) ?_
      rotate_left
      · intro w' hSw
        try dsimp only at hSw
        go_simp; try rfl
      simp only [List.getElem_toArray, List.getElem_cons_succ, List.getElem_cons_zero, Act.put, List.setIfInBounds_toArray, List.set_cons_zero, List.set_cons_succ]
      refine wpAnyH_take (i := 4) (v := .agg #[.bool v.r, .int .i64 v.n]) rfl (by kernel_rfl) (by kernel_rfl) (by kernel_rfl) (fun _ _ _ h => h) (Or.inl ⟨by rfl, ?_⟩) (by assumption) ?_
      · intro w' hSw
        try dsimp only at hSw
        go_simp; try rfl
      simp only [List.getElem_toArray, List.getElem_cons_succ, List.getElem_cons_zero, Act.put, List.setIfInBounds_toArray, List.set_cons_zero, List.set_cons_succ]
      refine wpAnyH_ready (rs := [1]) (by kernel_rfl) (by simp) (AllReadyH.cons rfl (fun K hK => ?_) AllReadyH.nil)
      refine step_callW (some 27) (by kernel_rfl) (by kernel_rfl) 13 _ _ rfl #[.slice ax1 x.length cx1] (by kernel_rfl) (toCpys _ _ x (Px1.out.at (HB.out.trans (HW.out.mono HB.out.size))) HGx.out) ?_
      rintro e Z1 ⟨n91_1, rfl, o9, b9⟩
      obtain ⟨p91_1, q91_1, f91_1⟩ := o9.shape
      subst f91_1
      have OH91 := hide o9
      clear o9
      replace HW := hide (HW.out.trans (b9.mono HW.out.size))
      clear b9
      refine ⟨_, rfl, ?_⟩
      refine hK.out _ _ (HCL.out _ HW.out) (fun hHeld => ?_)
      clear hK K
      simp only [Act.put, List.setIfInBounds_toArray, List.set_cons_zero, List.set_cons_succ]
      refine wpAnyH_ready (rs := [5]) (by kernel_rfl) (by simp) (AllReadyH.cons rfl (fun K hK => ?_) AllReadyH.nil)
      refine step_callW (some 31) (by kernel_rfl) (by kernel_rfl) 27 _ _ rfl #[.agg #[.bool v.r, .int .i64 v.n]] (by kernel_rfl) (toVl _ v) ?_
      rintro e Z2 ⟨rfl, b9⟩
      unfold vlV
      replace OH91 := hide (OH91.out.below b9)
      replace HW := hide (HW.out.trans (b9.mono HW.out.size))
      clear b9
      refine ⟨_, rfl, ?_⟩
      refine hK.out _ _ (HCL.out _ HW.out) (fun hHeld => ?_)
      clear hK K
      simp only [Act.put, List.setIfInBounds_toArray, List.set_cons_zero, List.set_cons_succ]
      refine wpAnyH_ready (rs := [6]) (by kernel_rfl) (by simp) (AllReadyH.cons rfl (fun K hK => ?_) AllReadyH.nil)
      refine step_callW (some 32) (by kernel_rfl) (by kernel_rfl) 26 _ _ rfl #[.slice p91_1 x.length q91_1, .int .i64 q, .int .i64 p, .agg #[.bool v.r, .int .i64 v.n]] (by kernel_rfl) (writeCS _ x q p v _ (OH91.out.rd (Nat.le_refl _)) HGx.out) ?_
      rintro e Z3 ⟨n93_1, rfl, o9, b9⟩
      rw [HV0.out] at o9
      rw [HV1.out]
      obtain ⟨p93_1, q93_1, f93_1⟩ := o9.shape
      subst f93_1
      have HO9 := hide o9
      have lz9 := HW.out.size
      have lz8 := b9.size
      clear o9
      clear OH91
      replace HW := hide (HW.out.trans (b9.mono HW.out.size))
      clear b9
      refine ⟨_, rfl, ?_⟩
      refine hK.out _ _ (HCL.out _ HW.out) (fun hHeld => ?_)
      clear hK K
      simp only [Act.put, List.setIfInBounds_toArray, List.set_cons_zero, List.set_cons_succ]
      refine wpAnyH_take (i := 7) (v := ?_) rfl (by kernel_rfl) (by kernel_rfl) (by kernel_rfl) (fun _ _ _ h => h) (Or.inl ⟨by rfl, ?_⟩) (by assumption) ?_
      rotate_left
      · intro w' hSw
        try dsimp only at hSw
        go_simp; try rfl
      simp only [List.getElem_toArray, List.getElem_cons_succ, List.getElem_cons_zero, Act.put, List.setIfInBounds_toArray, List.set_cons_zero, List.set_cons_succ]
      refine wpAnyH_take (i := 8) (v := ?_) rfl (by kernel_rfl) (by kernel_rfl) (by kernel_rfl) (fun _ _ _ h => h) (Or.inl ⟨by rfl, ?_⟩) (by assumption) ?_
      rotate_left
      · intro w' hSw
        try dsimp only at hSw
        go_simp; try rfl
      simp only [List.getElem_toArray, List.getElem_cons_succ, List.getElem_cons_zero, Act.put, List.setIfInBounds_toArray, List.set_cons_zero, List.set_cons_succ]
      refine wpAnyH_take (i := 9) (v := ?_) rfl (by kernel_rfl) (by kernel_rfl) (by kernel_rfl) (fun _ _ _ h => h) (Or.inl ⟨by rfl, ?_⟩) (by assumption) ?_
      rotate_left
      · intro w' hSw
        try dsimp only at hSw
        go_simp; try rfl
      simp only [List.getElem_toArray, List.getElem_cons_succ, List.getElem_cons_zero, Act.put, List.setIfInBounds_toArray, List.set_cons_zero, List.set_cons_succ]
      refine wpAnyH_take (i := 10) (v := ?_) rfl (by kernel_rfl) (by kernel_rfl) (by kernel_rfl) (fun _ _ _ h => h) (Or.inl ⟨by rfl, ?_⟩) (by assumption) ?_
      rotate_left
      · intro w' hSw
        try dsimp only at hSw
        go_simp; try rfl
      simp only [List.getElem_toArray, List.getElem_cons_succ, List.getElem_cons_zero, Act.put, List.setIfInBounds_toArray, List.set_cons_zero, List.set_cons_succ]
      refine wpAnyH_take (i := 11) (v := ?_) rfl (by kernel_rfl) (by kernel_rfl) (by kernel_rfl) (fun _ _ _ h => h) (Or.inl ⟨by rfl, ?_⟩) (by assumption) ?_
      rotate_left
      · intro w' hSw
        try dsimp only at hSw
        go_simp; try rfl
      simp only [List.getElem_toArray, List.getElem_cons_succ, List.getElem_cons_zero, Act.put, List.setIfInBounds_toArray, List.set_cons_zero, List.set_cons_succ]
      refine wpAnyH_done (by kernel_rfl) ?_ _
      go_wp2_with fail
      go_meet
      exact ⟨_, _, _, _, rfl, rfl, HO9, by omega, by omega, by omega, HW⟩
    case rest =>
    obtain ⟨a10_1, k10_1, l10, h10, rfl, rfl, OX10, zl10, zm10, zh10, HQ9⟩ := hcut
    have b9 := HQ9.out
    clear HQ9 HCL HD
    replace E0 := hide ((b9.block _ (Array.getElem?_eq_some_iff.1 E0.out).1).trans E0.out)
    have z2 := b9.size
    replace HB := hide (HB.out.trans (b9.mono HB.out.size))
    clear b9
    generalize wc = w2 at *
    go_wp2_with fail
    refine (toCpys _ _ x (Px1.out.at HB.out) HGx.out).mono ?_
    rintro e w3 ⟨n3_1, rfl, o9, b9⟩
    obtain ⟨p3_1, q3_1, f3_1⟩ := o9.shape
    subst f3_1
    have O3 := hide o9
    clear o9
    replace E0 := hide ((b9.block _ (Array.getElem?_eq_some_iff.1 E0.out).1).trans E0.out)
    replace OX10 := hide (OX10.out.below b9)
    have z3 := b9.size
    replace HB := hide (HB.out.trans (b9.mono HB.out.size))
    clear b9
    have y0_0 := (box_of E0.out).1 0 _ rfl
    have y0_1 := (box_of E0.out).1 1 _ rfl
    go_wp2_with fail
    clear y0_0 y0_1
    refine (toVl _ v).mono ?_
    rintro e w4 ⟨rfl, b9⟩
    replace E0 := hide ((b9.block _ (Array.getElem?_eq_some_iff.1 E0.out).1).trans E0.out)
    replace OX10 := hide (OX10.out.below b9)
    replace O3 := hide (O3.out.below b9)
    have z4 := b9.size
    replace HB := hide (HB.out.trans (b9.mono HB.out.size))
    clear b9
    unfold vlV
    go_wp2_with fail
    refine (writeCI _ x q p v _ (O3.out.rd (Nat.le_refl _)) HGx.out).mono ?_
    rintro e w5 ⟨n5_1, rfl, o9, b9⟩
    rw [HV0.out] at o9
    rw [HV1.out]
    obtain ⟨p5_1, q5_1, f5_1⟩ := o9.shape
    subst f5_1
    have O5 := hide o9
    clear o9
    replace E0 := hide ((b9.block _ (Array.getElem?_eq_some_iff.1 E0.out).1).trans E0.out)
    replace OX10 := hide (OX10.out.below b9)
    replace O3 := hide (O3.out.below b9)
    have z5 := b9.size
    replace HB := hide (HB.out.trans (b9.mono HB.out.size))
    clear b9
    go_wp2_with fail
    refine (eqCpys _ _ _ V0 (O5.out.rd (Nat.le_refl _)) (OX10.out.rd (Nat.le_refl _)) HGV0.out).mono ?_
    rintro e w6 ⟨rfl, b9⟩
    replace E0 := hide ((b9.block _ (Array.getElem?_eq_some_iff.1 E0.out).1).trans E0.out)
    replace OX10 := hide (OX10.out.below b9)
    replace O3 := hide (O3.out.below b9)
    replace O5 := hide (O5.out.below b9)
    have z6 := b9.size
    replace HB := hide (HB.out.trans (b9.mono HB.out.size))
    clear b9
    go_wp2_with fail
    refine (toCpys _ _ x (Px1.out.at HB.out) HGx.out).mono ?_
    rintro e w7 ⟨n7_1, rfl, o9, b9⟩
    obtain ⟨p7_1, q7_1, f7_1⟩ := o9.shape
    subst f7_1
    have O7 := hide o9
    clear o9
    replace E0 := hide ((b9.block _ (Array.getElem?_eq_some_iff.1 E0.out).1).trans E0.out)
    replace OX10 := hide (OX10.out.below b9)
    replace O3 := hide (O3.out.below b9)
    replace O5 := hide (O5.out.below b9)
    have z7 := b9.size
    replace HB := hide (HB.out.trans (b9.mono HB.out.size))
    clear b9
    go_wp2_with fail
    refine (eqCpys _ _ _ x (O3.out.rd (Nat.le_refl _)) (O7.out.rd (Nat.le_refl _)) HGx.out).mono ?_
    rintro e w8 ⟨rfl, b9⟩
    replace E0 := hide ((b9.block _ (Array.getElem?_eq_some_iff.1 E0.out).1).trans E0.out)
    replace OX10 := hide (OX10.out.below b9)
    replace O3 := hide (O3.out.below b9)
    replace O5 := hide (O5.out.below b9)
    replace O7 := hide (O7.out.below b9)
    have z8 := b9.size
    replace HB := hide (HB.out.trans (b9.mono HB.out.size))
    clear b9
    go_wp2_with fail
    have hct9 := cntCpys_le x
    refine (mkCpysI _ (w2.heap.size) (w3.heap.size) 1 _ (by first | rfl | omega) _ x O3.out (by omega) (by omega)).mono ?_
    rintro e w9 ⟨rfl, o9, c9⟩
    replace O3 := hide o9
    clear o9
    replace E0 := hide ((c9.block _ (Array.getElem?_eq_some_iff.1 E0.out).1 (by omega)).trans E0.out)
    replace OX10 := hide (OX10.out.apart c9 (by omega))
    replace O5 := hide (O5.out.apart c9 (by omega))
    replace O7 := hide (O7.out.apart c9 (by omega))
    have z9 := c9.size
    replace HB := hide (HB.out.trans (c9.below (by omega) HB.out.size))
    clear c9
    obtain ⟨K9, hk9⟩ : ∃ k, 1 + cntCpys x = k := ⟨_, rfl⟩
    rw [hk9]
    have hkp9 : 0 < K9 := by omega
    have hkb9 : K9 ≤ 8388608 + 1 := by omega
    have hkn9 : ¬ ((K9 : Nat) : Int) < 0 := by omega
    clear hk9 hct9
    clear O3
    go_wp2_with fail
    refine (eqCpys _ _ _ V0 (O5.out.rd (Nat.le_refl _)) (OX10.out.rd (Nat.le_refl _)) HGV0.out).mono ?_
    rintro e w10 ⟨rfl, b9⟩
    replace E0 := hide ((b9.block _ (Array.getElem?_eq_some_iff.1 E0.out).1).trans E0.out)
    replace OX10 := hide (OX10.out.below b9)
    replace O5 := hide (O5.out.below b9)
    replace O7 := hide (O7.out.below b9)
    have z10 := b9.size
    replace HB := hide (HB.out.trans (b9.mono HB.out.size))
    clear b9
    go_wp2_with fail
    refine (mkCpysI _ (w4.heap.size) (w5.heap.size) 1 _ (by first | rfl | omega) _ V0 O5.out (by omega) (by omega)).mono ?_
    rintro e w11 ⟨rfl, o9, c9⟩
    replace O5 := hide o9
    clear o9
    replace E0 := hide ((c9.block _ (Array.getElem?_eq_some_iff.1 E0.out).1 (by omega)).trans E0.out)
    replace OX10 := hide (OX10.out.apart c9 (by omega))
    replace O7 := hide (O7.out.apart c9 (by omega))
    have z11 := c9.size
    replace HB := hide (HB.out.trans (c9.below (by omega) HB.out.size))
    clear c9
    obtain ⟨K11, hk11⟩ : ∃ k, 1 + cntCpys V0 = k := ⟨_, rfl⟩
    rw [hk11]
    have hkp11 : 0 < K11 := by omega
    have hkb11 : K11 ≤ 90000000 + 1 := by omega
    have hkn11 : ¬ ((K11 : Nat) : Int) < 0 := by omega
    have HMV0 := hide hk11
    have hmmV0 : (((K11 : Nat) : Int) != ((K11 : Nat) : Int)) = false := by simp
    clear hk11
    go_wp2_with fail
    refine (heldCpysR _ 1 _ (by first | rfl | omega) _ V0 (O5.out.rd (Nat.le_refl _)) (by omega) (by omega)).mono ?_
    rintro e w12 ⟨rfl, b9⟩
    rw [HMV0.out]
    replace E0 := hide ((b9.block _ (Array.getElem?_eq_some_iff.1 E0.out).1).trans E0.out)
    replace OX10 := hide (OX10.out.below b9)
    replace O5 := hide (O5.out.below b9)
    replace O7 := hide (O7.out.below b9)
    have z12 := b9.size
    replace HB := hide (HB.out.trans (b9.mono HB.out.size))
    clear b9
    go_upto_region 24 with fail
    have HCL : Hid (∀ w', Below w12.heap.size w12 w' → w'.cell? ⟨w.heap.size, 0, none⟩ = some (.bool v.r) ∧ w'.cell? ⟨w.heap.size, 1, none⟩ = some (.int .i64 v.n)) := hide (fun w' hb => ⟨(box_of ((hb.block _ (Array.getElem?_eq_some_iff.1 E0.out).1).trans E0.out)).1 0 _ rfl, (box_of ((hb.block _ (Array.getElem?_eq_some_iff.1 E0.out).1).trans E0.out)).1 1 _ rfl⟩)
    have HD := hide (Below.refl w12.heap.size w12).drew
    go_cut [18, 19] from 87 to 96 (fun s18 s19 wq => ∃ (a18_1 : Option Addr) (k18_1 : Nat), ∃ l18 h18 : Nat, s18 = .slice a18_1 V0.length k18_1 ∧ s19 = .bool V1 ∧ Hid (OwnD wq l18 h18 (cpys V0) (.slice a18_1 V0.length k18_1)) ∧ w12.heap.size ≤ l18 ∧ l18 ≤ h18 ∧ h18 ≤ wq.heap.size ∧ Hid (Below w12.heap.size w12 wq))
    case first =>
      refine wp_region_held_drew (S := fun w' => w'.cell? ⟨w.heap.size, 0, none⟩ = some (.bool v.r) ∧ w'.cell? ⟨w.heap.size, 1, none⟩ = some (.int .i64 v.n)) (by kernel_rfl) (HCL.out _ HD.out) (fun hHeld => ?_)
      have HW := HD
      clear HD
      generalize w12.drew = Z0 at *
      refine wpAnyH_take (i := 0) (v := ?_) rfl (by kernel_rfl) (by kernel_rfl) (by kernel_rfl) (fun _ _ _ h => h) (Or.inl ⟨by rfl, ?_⟩) (by assumption) ?_
      rotate_left
      · intro w' hSw
        try dsimp only at hSw
        go_simp; try rfl
      simp only [List.getElem_toArray, List.getElem_cons_zero, Act.put, List.setIfInBounds_toArray, List.set_cons_zero, List.set_cons_succ]
      refine wpAnyH_take (i := 2) (v := ?_) rfl (by kernel_rfl) (by kernel_rfl) (by kernel_rfl) (fun _ _ _ h => h) (Or.inl ⟨by rfl, ?_⟩) (by assumption) ?_
      rotate_left
      · intro w' hSw
        try dsimp only at hSw
        go_simp; try rfl
      simp only [List.getElem_toArray, List.getElem_cons_succ, List.getElem_cons_zero, Act.put, List.setIfInBounds_toArray, List.set_cons_zero, List.set_cons_succ]
      refine wpAnyH_take (i := 3) (v := ?_) rfl (by kernel_rfl) (by kernel_rfl) (by kernel_rfl) (fun _ _ _ h => h) (Or.inl ⟨by rfl, ?_⟩) (by assumption) ?_
      rotate_left
      · intro w' hSw
        try dsimp only at hSw
        go_simp; try rfl
      simp only [List.getElem_toArray, List.getElem_cons_succ, List.getElem_cons_zero, Act.put, List.setIfInBounds_toArray, List.set_cons_zero, List.set_cons_succ]
      refine wpAnyH_take (i := 4) (v := .agg #[.bool v.r, .int .i64 v.n]) rfl (by kernel_rfl) (by kernel_rfl) (by kernel_rfl) (fun _ _ _ h => h) (Or.inl ⟨by rfl, ?_⟩) (by assumption) ?_
      · intro w' hSw
        try dsimp only at hSw
        go_simp; try rfl
      simp only [List.getElem_toArray, List.getElem_cons_succ, List.getElem_cons_zero, Act.put, List.setIfInBounds_toArray, List.set_cons_zero, List.set_cons_succ]
      refine wpAnyH_ready (rs := [1]) (by kernel_rfl) (by simp) (AllReadyH.cons rfl (fun K hK => ?_) AllReadyH.nil)
      refine step_callW (some 89) (by kernel_rfl) (by kernel_rfl) 13 _ _ rfl #[.slice ax1 x.length cx1] (by kernel_rfl) (toCpys _ _ x (Px1.out.at (HB.out.trans (HW.out.mono HB.out.size))) HGx.out) ?_
      rintro e Z1 ⟨n91_1, rfl, o9, b9⟩
      obtain ⟨p91_1, q91_1, f91_1⟩ := o9.shape
      subst f91_1
      have OH91 := hide o9
      clear o9
      replace HW := hide (HW.out.trans (b9.mono HW.out.size))
      clear b9
      refine ⟨_, rfl, ?_⟩
      refine hK.out _ _ (HCL.out _ HW.out) (fun hHeld => ?_)
      clear hK K
      simp only [Act.put, List.setIfInBounds_toArray, List.set_cons_zero, List.set_cons_succ]
      refine wpAnyH_ready (rs := [5]) (by kernel_rfl) (by simp) (AllReadyH.cons rfl (fun K hK => ?_) AllReadyH.nil)
      refine step_callW (some 93) (by kernel_rfl) (by kernel_rfl) 27 _ _ rfl #[.agg #[.bool v.r, .int .i64 v.n]] (by kernel_rfl) (toVl _ v) ?_
      rintro e Z2 ⟨rfl, b9⟩
      unfold vlV
      replace OH91 := hide (OH91.out.below b9)
      replace HW := hide (HW.out.trans (b9.mono HW.out.size))
      clear b9
      refine ⟨_, rfl, ?_⟩
      refine hK.out _ _ (HCL.out _ HW.out) (fun hHeld => ?_)
      clear hK K
      simp only [Act.put, List.setIfInBounds_toArray, List.set_cons_zero, List.set_cons_succ]
      refine wpAnyH_ready (rs := [6]) (by kernel_rfl) (by simp) (AllReadyH.cons rfl (fun K hK => ?_) AllReadyH.nil)
      refine step_callW (some 94) (by kernel_rfl) (by kernel_rfl) 28 _ _ rfl #[.slice p91_1 x.length q91_1, .int .i64 q, .int .i64 p, .agg #[.bool v.r, .int .i64 v.n]] (by kernel_rfl) (writeCI _ x q p v _ (OH91.out.rd (Nat.le_refl _)) HGx.out) ?_
      rintro e Z3 ⟨n93_1, rfl, o9, b9⟩
      rw [HV0.out] at o9
      rw [HV1.out]
      obtain ⟨p93_1, q93_1, f93_1⟩ := o9.shape
      subst f93_1
      have HO9 := hide o9
      have lz9 := HW.out.size
      have lz8 := b9.size
      clear o9
      clear OH91
      replace HW := hide (HW.out.trans (b9.mono HW.out.size))
      clear b9
      refine ⟨_, rfl, ?_⟩
      refine hK.out _ _ (HCL.out _ HW.out) (fun hHeld => ?_)
      clear hK K
      simp only [Act.put, List.setIfInBounds_toArray, List.set_cons_zero, List.set_cons_succ]
      refine wpAnyH_take (i := 7) (v := ?_) rfl (by kernel_rfl) (by kernel_rfl) (by kernel_rfl) (fun _ _ _ h => h) (Or.inl ⟨by rfl, ?_⟩) (by assumption) ?_
      rotate_left
      · intro w' hSw
        try dsimp only at hSw
        go_simp; try rfl
      simp only [List.getElem_toArray, List.getElem_cons_succ, List.getElem_cons_zero, Act.put, List.setIfInBounds_toArray, List.set_cons_zero, List.set_cons_succ]
      refine wpAnyH_take (i := 8) (v := ?_) rfl (by kernel_rfl) (by kernel_rfl) (by kernel_rfl) (fun _ _ _ h => h) (Or.inl ⟨by rfl, ?_⟩) (by assumption) ?_
      rotate_left
      · intro w' hSw
        try dsimp only at hSw
        go_simp; try rfl
      simp only [List.getElem_toArray, List.getElem_cons_succ, List.getElem_cons_zero, Act.put, List.setIfInBounds_toArray, List.set_cons_zero, List.set_cons_succ]
      refine wpAnyH_take (i := 9) (v := ?_) rfl (by kernel_rfl) (by kernel_rfl) (by kernel_rfl) (fun _ _ _ h => h) (Or.inl ⟨by rfl, ?_⟩) (by assumption) ?_
      rotate_left
      · intro w' hSw
        try dsimp only at hSw
        go_simp; try rfl
      simp only [List.getElem_toArray, List.getElem_cons_succ, List.getElem_cons_zero, Act.put, List.setIfInBounds_toArray, List.set_cons_zero, List.set_cons_succ]
      refine wpAnyH_take (i := 10) (v := ?_) rfl (by kernel_rfl) (by kernel_rfl) (by kernel_rfl) (fun _ _ _ h => h) (Or.inl ⟨by rfl, ?_⟩) (by assumption) ?_
      rotate_left
      · intro w' hSw
        try dsimp only at hSw
        go_simp; try rfl
      simp only [List.getElem_toArray, List.getElem_cons_succ, List.getElem_cons_zero, Act.put, List.setIfInBounds_toArray, List.set_cons_zero, List.set_cons_succ]
      refine wpAnyH_take (i := 11) (v := ?_) rfl (by kernel_rfl) (by kernel_rfl) (by kernel_rfl) (fun _ _ _ h => h) (Or.inl ⟨by rfl, ?_⟩) (by assumption) ?_
      rotate_left
      · intro w' hSw
        try dsimp only at hSw
        go_simp; try rfl
      simp only [List.getElem_toArray, List.getElem_cons_succ, List.getElem_cons_zero, Act.put, List.setIfInBounds_toArray, List.set_cons_zero, List.set_cons_succ]
      refine wpAnyH_done (by kernel_rfl) ?_ _
      go_wp2_with fail
      go_meet
      exact ⟨_, _, _, _, rfl, rfl, HO9, by omega, by omega, by omega, HW⟩
    case rest =>
    obtain ⟨a18_1, k18_1, l18, h18, rfl, rfl, OX18, zl18, zm18, zh18, HQ9⟩ := hcut
    have b9 := HQ9.out
    clear HQ9 HCL HD
    replace E0 := hide ((b9.block _ (Array.getElem?_eq_some_iff.1 E0.out).1).trans E0.out)
    replace OX10 := hide (OX10.out.below b9)
    replace O5 := hide (O5.out.below b9)
    replace O7 := hide (O7.out.below b9)
    have z13 := b9.size
    replace HB := hide (HB.out.trans (b9.mono HB.out.size))
    clear b9
    generalize wc = w13 at *
    go_wp2_with fail
    refine (eqCpys _ _ _ V0 (OX18.out.rd (Nat.le_refl _)) (OX10.out.rd (Nat.le_refl _)) HGV0.out).mono ?_
    rintro e w14 ⟨rfl, b9⟩
    replace E0 := hide ((b9.block _ (Array.getElem?_eq_some_iff.1 E0.out).1).trans E0.out)
    replace OX10 := hide (OX10.out.below b9)
    replace O5 := hide (O5.out.below b9)
    replace O7 := hide (O7.out.below b9)
    replace OX18 := hide (OX18.out.below b9)
    have z14 := b9.size
    replace HB := hide (HB.out.trans (b9.mono HB.out.size))
    clear b9
    go_wp2_with fail
    refine (heldCpysR _ 1 _ (by first | rfl | omega) _ V0 (O5.out.rd (Nat.le_refl _)) (by omega) (by omega)).mono ?_
    rintro e w15 ⟨rfl, b9⟩
    rw [HMV0.out]
    replace E0 := hide ((b9.block _ (Array.getElem?_eq_some_iff.1 E0.out).1).trans E0.out)
    replace OX10 := hide (OX10.out.below b9)
    replace O5 := hide (O5.out.below b9)
    replace O7 := hide (O7.out.below b9)
    replace OX18 := hide (OX18.out.below b9)
    have z15 := b9.size
    replace HB := hide (HB.out.trans (b9.mono HB.out.size))
    clear b9
    go_wp2
    go_ret
    exact ⟨rfl, HB.out⟩

set_option maxRecDepth 100000 in
theorem lifted (os : Os) (started : os.Started) (H : Type) (enc : TypeId × Value → H) :
    ReturnsInHanded {} Try.checked os 6 .any (Rows.fnExactWriteCopySpec.pre6 enc Try.prog Try.f6 Rows.fnExactWriteCopyRow.domain false) (Rows.fnExactWriteCopySpec.post enc Try.prog Try.f6 false true false false) := by
  refine returnsInHanded_of_change (C := Try.checked) own started (by kernel_rfl) Try.func6
    (ChangeSpec.witness6 (enc := enc) (C := Try.checked) false ⟨#[], #[.slice none 0 0, .int .i64 0, .int .i64 0, .agg #[.bool false, .int .i64 0]], []⟩ 8 (by kernel_rfl) (by kernel_rfl) (by kernel_rfl) (by kernel_rfl)) ?_
  intro W base args ds gs before hval0 hW hcnd _
  have hval : ∀ (j : Nat) t v, Try.f6.params[j]? = some t → args[j]? = some v → Value.okWide Try.prog W .any base t v := hval0
  have hW' := hW
  obtain ⟨p, q, hA0, hV, rfl, hfz, hnd⟩ := hW
  have hA : DataW.TrodAll enc Try.prog W 0 (fun _ => true) true Try.f6.params.toList args.toList ds p := hA0
  rw [Try.params6] at hA hval
  obtain ⟨v0, vs0, d0, ds0, p0, q0, hargs, rfl, rfl, h0, r0⟩ := trodAll_cons hA
  obtain ⟨v1, vs1, d1, ds1, p1, q1, rfl, rfl, rfl, h1, r1⟩ := trodAll_cons r0
  obtain ⟨v2, vs2, d2, ds2, p2, q2, rfl, rfl, rfl, h2, r2⟩ := trodAll_cons r1
  obtain ⟨v3, vs3, d3, ds3, p3, q3, rfl, rfl, rfl, h3, r3⟩ := trodAll_cons r2
  obtain ⟨rfl, rfl, rfl⟩ := trodAll_nil r3
  obtain rfl : args = #[v0, v1, v2, v3] := by cases args; simp_all
  obtain ⟨rfl, rfl⟩ := trodVars_none hV
  have k0 := h0
  have lt0 : ∀ x ∈ p0, x.block < W.heap.size := by obtain ⟨m, hm⟩ := k0; exact DataW.trod_lt m _ _ _ hm
  have w0 := openCpys (hval 0 25 v0 rfl rfl) h0
  obtain ⟨a1, rfl, rfl, rfl, w1⟩ := open_int Try.underlying3 (hval 1 3 v1 rfl rfl) h1
  obtain ⟨a2, rfl, rfl, rfl, w2⟩ := open_int Try.underlying3 (hval 2 3 v2 rfl rfl) h2
  have k3 := h3
  have lt3 : ∀ x ∈ p3, x.block < W.heap.size := by obtain ⟨m, hm⟩ := k3; exact DataW.trod_lt m _ _ _ hm
  have w3 := openVl (hval 3 53 v3 rfl rfl) h3
  clear hA0 hval0
  refine (walk v0 a1 a2 v3 W w0 (bounds_i64 w1) (bounds_i64 w2) w3).mono fun e W' ⟨he, bel⟩ => ?_
  subst he
  exact ⟨_, rfl, _, _, _, [], _, [], hW', trodAll_mk1 (shut_bool Try.underlying4 _), (trodAll_cons_mk (Below.trod laidOut (by kernel_rfl) (of_decide_eq_true (by kernel_rfl)) k0 bel lt0) (trodAll_cons_mk (shut_int Try.underlying3 w1) (trodAll_cons_mk (shut_int Try.underlying3 w2) (trodAll_cons_mk (Below.trod laidOut (by kernel_rfl) (of_decide_eq_true (by kernel_rfl)) k3 bel lt3) trodAll_mk0)))), rfl, bel.frame _, fun h => by cases h⟩

theorem over : Rows.fnExactWriteCopyRow.holds Try.pinned (OpenSpec.ofChange Rows.fnExactWriteCopySpec) :=
  OpenClaim.holds_of_wide 6 Try.f6 rfl rfl rfl rfl rfl rfl rfl ⟨rfl, rfl, rfl, rfl, rfl⟩ rfl rfl rfl rfl rfl (by kernel_rfl) Try.func6 (by kernel_rfl)
    (of_decide_eq_true (by kernel_rfl)) (by unfold Func.isWrapper; first | (rw [if_pos (by decide +kernel)]; kernel_rfl) | (rw [if_neg (by decide +kernel)]; exact ⟨rfl, rfl⟩))
    (fun os started H enc _ => lifted os started H enc)

end Go.Proofs.Ytofnpgheppgcaaa.fnExactWriteCopy
namespace Go.Proofs.Ytofnpgheppgcaaa
theorem fnExactWriteCopy_holds : Rows.FnExactWriteCopySaid := fnExactWriteCopy.over
#print axioms fnExactWriteCopy_holds
end Go.Proofs.Ytofnpgheppgcaaa
