/-
  Proved: at every argument the program's Fresh answers as its model does, writes into no argument, and its answer owns its memory (the law FnExactFresh returns true), without any condition.
-/
import Derived.Test.YthlaihkpffddcaaRows
import Derived.Test.YthlaihkpffddcaaJ14
import Derived.Test.YthlaihkpffddcaaJ17
import Derived.Test.YthlaihkpffddcaaJ30
import Derived.Test.YthlaihkpffddcaaJ32
import Derived.Test.YthlaihkpffddcaaJ19
import Derived.Deep.CutRange
import Derived.Deep.RegionWith
import Derived.Deep.RegionHeld
import Derived.BigRegion
import Derived.WalkKit
import Derived.ProofKit
import Derived.OpenShut
import Derived.ShutString
import Derived.ChangeOld
import Derived.Below
namespace Go.Proofs.Ythlaihkpffddcaa.fnExactFresh
open Go.ChangeShapes Go.WideShapes Go.ChangeAt Go.RowKit
open Go.ChangeMaps (open_string shut_string)
set_option linter.unusedVariables false

theorem own : ownKnob Try.prog.godebug = none := by kernel_rfl
theorem laidOut : laidOutB Try.prog = true := by kernel_rfl
set_option maxRecDepth 100000 in
set_option maxHeartbeats 8000000 in
theorem walk (v0 : Value) (c : Int) (w : World) (h0 : IsPg w v0) (_hc : -9223372036854775808 ≤ c ∧ c ≤ 9223372036854775807) :
    Calls Try.prog 4 #[v0, .int .i64 c] w fun e w' => e = .returned (.bool true) ∧ Below w.heap.size w w' := by
  obtain ⟨x, ux1, rfl, gx1, rx⟩ := h0
  obtain ⟨ax1, cx1, ex1, _⟩ := gx1.shape
  subst ex1
  have Px1 := hide gx1
  have Rx := hide rx
  clear rx gx1
  have bA := ((Below.refl w.heap.size w).alloc (Nat.le_refl _) (.cells #[.slice ax1 x.k.length cx1] 24))
  have G0 := heap_alloc_new w (.cells #[.slice ax1 x.k.length cx1] 24)
  have E0 := hide (G0)
  have HB := hide bA
  clear bA G0
  obtain ⟨V0, hV0⟩ : ∃ V, freshX x.k c = V := ⟨_, rfl⟩
  have HV0 := hide hV0
  clear hV0
  unfold pgV
  go_enter Try.func4, Try.ntmps4
  go_wp2_with fail
  generalize (w.alloc (.cells #[.slice ax1 x.k.length cx1] 24)) = W at *
  refine (szPg _ x _ _ (Px1.out.at HB.out) (by omega) (by omega) Rx.out).mono ?_
  rintro e w1 ⟨rfl, b9⟩
  replace E0 := hide ((b9.block _ (Array.getElem?_eq_some_iff.1 E0.out).1).trans E0.out)
  have z1 := b9.size
  replace HB := hide (HB.out.trans (b9.mono HB.out.size))
  clear b9
  by_cases hmx : (1048576 : Int) < (pgW x : Int)
  · rw [szR_neg hmx]
    go_wp2
    go_ret
    exact ⟨rfl, HB.out⟩
  · skip
    rw [szR_pos hmx]
    have hwx : pgW x ≤ 1048576 := by omega
    have HGx := hide (pgG_of Rx.out (by omega))
    have hnx : ¬ (1048576 : Int) - (pgW x : Int) < 0 := by omega
    have hqx : (1048576 : Int) - (pgW x : Int) ≤ 1048576 := by omega
    have hTx : (1048576 : Int) - (pgW x : Int) + ((pgW x : Int) : Int) ≤ 1048576 := by omega
    generalize (1048576 : Int) - (pgW x : Int) = mx at *
    clear hmx
    have HGV0 := hide (HV0.out ▸ freshX_ok HGx.out.k)
    have hcV0 : cntVls V0 ≤ 90000000 := by
      have h1 := cntVls_le V0
      have h2 := HGV0.out.1
      unfold vlsW at h1
      omega
    have hz0 : w.heap.size + 1 ≤ w1.heap.size := by
      have hh := (Array.getElem?_eq_some_iff.1 E0.out).1
      omega
    have y0_0 := (box_of E0.out).1 0 _ rfl
    go_wp2_with fail
    clear y0_0
    refine (toPg _ x _ (Px1.out.at HB.out) HGx.out).mono ?_
    rintro e w2 ⟨n2_1, rfl, o9, b9⟩
    obtain ⟨p2_1, q2_1, f2_1, _⟩ := (pgD_own o9).shape
    subst f2_1
    have O2 := hide o9
    clear o9
    replace E0 := hide ((b9.block _ (Array.getElem?_eq_some_iff.1 E0.out).1).trans E0.out)
    have z2 := b9.size
    replace HB := hide (HB.out.trans (b9.mono HB.out.size))
    clear b9
    unfold pgV
    go_wp2_with fail
    refine (freshS _ x _ c (pgD_own O2.out) HGx.out.k).mono ?_
    rintro e w3 ⟨n3_1, rfl, o9, b9⟩
    rw [HV0.out] at o9
    obtain ⟨p3_1, q3_1, f3_1⟩ := o9.shape
    subst f3_1
    have O3 := hide o9
    clear o9
    replace E0 := hide ((b9.block _ (Array.getElem?_eq_some_iff.1 E0.out).1).trans E0.out)
    replace O2 := hide (O2.out.below b9)
    have z3 := b9.size
    replace HB := hide (HB.out.trans (b9.mono HB.out.size))
    clear b9
    have y0_0 := (box_of E0.out).1 0 _ rfl
    go_wp2_with fail
    clear y0_0
    refine (toPg _ x _ (Px1.out.at HB.out) HGx.out).mono ?_
    rintro e w4 ⟨n4_1, rfl, o9, b9⟩
    obtain ⟨p4_1, q4_1, f4_1, _⟩ := (pgD_own o9).shape
    subst f4_1
    have O4 := hide o9
    clear o9
    replace E0 := hide ((b9.block _ (Array.getElem?_eq_some_iff.1 E0.out).1).trans E0.out)
    replace O2 := hide (O2.out.below b9)
    replace O3 := hide (O3.out.below b9)
    have z4 := b9.size
    replace HB := hide (HB.out.trans (b9.mono HB.out.size))
    clear b9
    unfold pgV
    have bD := (Below.refl w4.heap.size w4).alloc (Nat.le_refl _) (.cells #[.slice p4_1 x.k.length q4_1] 34)
    have X7 := hide (heap_alloc_new w4 (.cells #[.slice p4_1 x.k.length q4_1] 34))
    have z5 : w4.heap.size < (w4.alloc (.cells #[.slice p4_1 x.k.length q4_1] 34)).heap.size := by simp
    replace E0 := hide ((bD.block _ (Array.getElem?_eq_some_iff.1 E0.out).1).trans E0.out)
    replace O2 := hide (O2.out.below bD)
    replace O3 := hide (O3.out.below bD)
    replace O4 := hide (O4.out.below bD)
    have z6 := bD.size
    replace HB := hide (HB.out.trans (bD.mono HB.out.size))
    clear bD
    have y0_0 := (box_of X7.out).1 0 _ rfl
    go_wp2_with fail
    clear y0_0
    generalize w4.alloc (.cells #[.slice p4_1 x.k.length q4_1] 34) = w5 at *
    refine (freshI _ x _ c (pgD_own O4.out) HGx.out.k).mono ?_
    rintro e w6 ⟨n6_1, rfl, o9, b9⟩
    rw [HV0.out] at o9
    obtain ⟨p6_1, q6_1, f6_1⟩ := o9.shape
    subst f6_1
    have O6 := hide o9
    clear o9
    replace E0 := hide ((b9.block _ (Array.getElem?_eq_some_iff.1 E0.out).1).trans E0.out)
    replace X7 := hide ((b9.block _ (Array.getElem?_eq_some_iff.1 X7.out).1).trans X7.out)
    replace O2 := hide (O2.out.below b9)
    replace O3 := hide (O3.out.below b9)
    replace O4 := hide (O4.out.below b9)
    have z7 := b9.size
    replace HB := hide (HB.out.trans (b9.mono HB.out.size))
    clear b9
    go_wp2_with fail
    refine (eqVls _ _ _ V0 (O6.out.rd (Nat.le_refl _)) (O3.out.rd (Nat.le_refl _)) HGV0.out).mono ?_
    rintro e w7 ⟨rfl, b9⟩
    replace E0 := hide ((b9.block _ (Array.getElem?_eq_some_iff.1 E0.out).1).trans E0.out)
    replace X7 := hide ((b9.block _ (Array.getElem?_eq_some_iff.1 X7.out).1).trans X7.out)
    replace O2 := hide (O2.out.below b9)
    replace O3 := hide (O3.out.below b9)
    replace O4 := hide (O4.out.below b9)
    replace O6 := hide (O6.out.below b9)
    have z8 := b9.size
    replace HB := hide (HB.out.trans (b9.mono HB.out.size))
    clear b9
    go_upto_region 10 with fail
    have HCL : Hid (∀ w', Below w7.heap.size w7 w' → w'.cell? ⟨w4.heap.size, 0, none⟩ = some (.slice p4_1 x.k.length q4_1) ∧ w'.cell? ⟨w.heap.size, 0, none⟩ = some (.slice ax1 x.k.length cx1)) := hide (fun w' hb => ⟨(box_of ((hb.block _ (Array.getElem?_eq_some_iff.1 X7.out).1).trans X7.out)).1 0 _ rfl, (box_of ((hb.block _ (Array.getElem?_eq_some_iff.1 E0.out).1).trans E0.out)).1 0 _ rfl⟩)
    have HD := hide (Below.refl w7.heap.size w7).drew
    go_cut [35] from 31 to 35 (fun s wq => s = .bool false ∧ Hid (Below w7.heap.size w7 wq))
    case first =>
      refine wp_region_held_drew (S := fun w' => w'.cell? ⟨w4.heap.size, 0, none⟩ = some (.slice p4_1 x.k.length q4_1) ∧ w'.cell? ⟨w.heap.size, 0, none⟩ = some (.slice ax1 x.k.length cx1)) (by kernel_rfl) (HCL.out _ HD.out) (fun hHeld => ?_)
      have HW := HD
      clear HD
      generalize w7.drew = Z0 at *
      refine wpAnyH_take (i := 0) (v := .agg #[.slice p4_1 x.k.length q4_1]) rfl (by kernel_rfl) (by kernel_rfl) (by kernel_rfl) (fun _ _ _ h => h) (Or.inl ⟨by rfl, ?_⟩) (by assumption) ?_
      · intro w' hSw
        try dsimp only at hSw
        go_simp; try rfl
      simp only [List.getElem_toArray, List.getElem_cons_zero, Act.put, List.setIfInBounds_toArray, List.set_cons_zero, List.set_cons_succ]
      refine wpAnyH_take (i := 1) (v := .agg #[.slice ax1 x.k.length cx1]) rfl (by kernel_rfl) (by kernel_rfl) (by kernel_rfl) (fun _ _ _ h => h) (Or.inl ⟨by rfl, ?_⟩) (by assumption) ?_
      · intro w' hSw
        try dsimp only at hSw
        go_simp; try rfl
      simp only [List.getElem_toArray, List.getElem_cons_succ, List.getElem_cons_zero, Act.put, List.setIfInBounds_toArray, List.set_cons_zero, List.set_cons_succ]
      refine wpAnyH_ready (rs := [2]) (by kernel_rfl) (by simp) (AllReadyH.cons rfl (fun K hK => ?_) AllReadyH.nil)
      refine step_callW (some 33) (by kernel_rfl) (by kernel_rfl) 11 _ _ rfl #[.agg #[.slice ax1 x.k.length cx1]] (by kernel_rfl) (toPg _ x _ (Px1.out.at (HB.out.trans (HW.out.mono HB.out.size))) HGx.out) ?_
      rintro e Z1 ⟨n91_1, rfl, o9, b9⟩
      obtain ⟨p91_1, q91_1, f91_1, _⟩ := (pgD_own o9).shape
      subst f91_1
      have OH91 := hide o9
      clear o9
      unfold pgV
      replace HW := hide (HW.out.trans (b9.mono HW.out.size))
      clear b9
      refine ⟨_, rfl, ?_⟩
      refine hK.out _ _ (HCL.out _ HW.out) (fun hHeld => ?_)
      clear hK K
      simp only [Act.put, List.setIfInBounds_toArray, List.set_cons_zero, List.set_cons_succ]
      refine wpAnyH_ready (rs := [3]) (by kernel_rfl) (by simp) (AllReadyH.cons rfl (fun K hK => ?_) AllReadyH.nil)
      refine step_callW (some 34) (by kernel_rfl) (by kernel_rfl) 14 _ _ rfl #[.agg #[.slice p4_1 x.k.length q4_1], .agg #[.slice p91_1 x.k.length q91_1]] (by kernel_rfl) (eqPg _ x _ _ (pgD_own (O4.out.below HW.out)) (pgD_own OH91.out) HGx.out) ?_
      rintro e Z2 ⟨rfl, b9⟩
      replace OH91 := hide (OH91.out.below b9)
      replace HW := hide (HW.out.trans (b9.mono HW.out.size))
      clear b9
      refine ⟨_, rfl, ?_⟩
      refine hK.out _ _ (HCL.out _ HW.out) (fun hHeld => ?_)
      clear hK K
      simp only [Act.put, List.setIfInBounds_toArray, List.set_cons_zero, List.set_cons_succ]
      refine wpAnyH_take (i := 4) (v := ?_) rfl (by kernel_rfl) (by kernel_rfl) (by kernel_rfl) (fun _ _ _ h => h) (Or.inl ⟨by rfl, ?_⟩) (by assumption) ?_
      rotate_left
      · intro w' hSw
        try dsimp only at hSw
        go_simp; try rfl
      simp only [List.getElem_toArray, List.getElem_cons_succ, List.getElem_cons_zero, Act.put, List.setIfInBounds_toArray, List.set_cons_zero, List.set_cons_succ]
      refine wpAnyH_done (by kernel_rfl) ?_ _
      go_wp2_with fail
      go_meet
      exact ⟨rfl, HW⟩
    case rest =>
    obtain ⟨rfl, HQ9⟩ := hcut
    have b9 := HQ9.out
    clear HQ9 HCL HD
    replace E0 := hide ((b9.block _ (Array.getElem?_eq_some_iff.1 E0.out).1).trans E0.out)
    replace X7 := hide ((b9.block _ (Array.getElem?_eq_some_iff.1 X7.out).1).trans X7.out)
    replace O2 := hide (O2.out.below b9)
    replace O3 := hide (O3.out.below b9)
    replace O4 := hide (O4.out.below b9)
    replace O6 := hide (O6.out.below b9)
    have z9 := b9.size
    replace HB := hide (HB.out.trans (b9.mono HB.out.size))
    clear b9
    generalize wc = w8 at *
    have y0_0 := (box_of X7.out).1 0 _ rfl
    go_wp2_with fail
    clear y0_0
    have hct9 := pgCto_le x
    refine (mkPgI _ (w3.heap.size) (w4.heap.size) 1 _ (by first | rfl | omega) x _ O4.out (by omega) (by omega)).mono ?_
    rintro e w9 ⟨rfl, o9, c9⟩
    replace O4 := hide o9
    clear o9
    replace E0 := hide ((c9.block _ (Array.getElem?_eq_some_iff.1 E0.out).1 (by omega)).trans E0.out)
    replace X7 := hide ((c9.block _ (Array.getElem?_eq_some_iff.1 X7.out).1 (by omega)).trans X7.out)
    replace O2 := hide (O2.out.apart c9 (by omega))
    replace O3 := hide (O3.out.apart c9 (by omega))
    replace O6 := hide (O6.out.apart c9 (by omega))
    have z10 := c9.size
    replace HB := hide (HB.out.trans (c9.below (by omega) HB.out.size))
    clear c9
    obtain ⟨K9, hk9⟩ : ∃ k, 1 + pgCto x = k := ⟨_, rfl⟩
    rw [hk9]
    have hkp9 : 0 < K9 := by omega
    have hkb9 : K9 ≤ 8388608 + 1 := by omega
    have hkn9 : ¬ ((K9 : Nat) : Int) < 0 := by omega
    clear hk9 hct9
    clear O4
    go_wp2_with fail
    refine (eqVls _ _ _ V0 (O6.out.rd (Nat.le_refl _)) (O3.out.rd (Nat.le_refl _)) HGV0.out).mono ?_
    rintro e w10 ⟨rfl, b9⟩
    replace E0 := hide ((b9.block _ (Array.getElem?_eq_some_iff.1 E0.out).1).trans E0.out)
    replace X7 := hide ((b9.block _ (Array.getElem?_eq_some_iff.1 X7.out).1).trans X7.out)
    replace O2 := hide (O2.out.below b9)
    replace O3 := hide (O3.out.below b9)
    replace O6 := hide (O6.out.below b9)
    have z11 := b9.size
    replace HB := hide (HB.out.trans (b9.mono HB.out.size))
    clear b9
    go_wp2_with fail
    refine (mkVlsI _ (w5.heap.size) (w6.heap.size) 1 _ (by first | rfl | omega) _ V0 O6.out (by omega) (by omega)).mono ?_
    rintro e w11 ⟨rfl, o9, c9⟩
    replace O6 := hide o9
    clear o9
    replace E0 := hide ((c9.block _ (Array.getElem?_eq_some_iff.1 E0.out).1 (by omega)).trans E0.out)
    replace X7 := hide ((c9.block _ (Array.getElem?_eq_some_iff.1 X7.out).1 (by omega)).trans X7.out)
    replace O2 := hide (O2.out.apart c9 (by omega))
    replace O3 := hide (O3.out.apart c9 (by omega))
    have z12 := c9.size
    replace HB := hide (HB.out.trans (c9.below (by omega) HB.out.size))
    clear c9
    obtain ⟨K11, hk11⟩ : ∃ k, 1 + cntVls V0 = k := ⟨_, rfl⟩
    rw [hk11]
    have hkp11 : 0 < K11 := by omega
    have hkb11 : K11 ≤ 90000000 + 1 := by omega
    have hkn11 : ¬ ((K11 : Nat) : Int) < 0 := by omega
    have HMV0 := hide hk11
    have hmmV0 : (((K11 : Nat) : Int) != ((K11 : Nat) : Int)) = false := by simp
    clear hk11
    go_wp2_with fail
    refine (heldVlsR _ 1 _ (by first | rfl | omega) _ V0 (O6.out.rd (Nat.le_refl _)) (by omega) (by omega)).mono ?_
    rintro e w12 ⟨rfl, b9⟩
    rw [HMV0.out]
    replace E0 := hide ((b9.block _ (Array.getElem?_eq_some_iff.1 E0.out).1).trans E0.out)
    replace X7 := hide ((b9.block _ (Array.getElem?_eq_some_iff.1 X7.out).1).trans X7.out)
    replace O2 := hide (O2.out.below b9)
    replace O3 := hide (O3.out.below b9)
    replace O6 := hide (O6.out.below b9)
    have z13 := b9.size
    replace HB := hide (HB.out.trans (b9.mono HB.out.size))
    clear b9
    have y0_0 := (box_of E0.out).1 0 _ rfl
    go_wp2_with fail
    clear y0_0
    refine (toPg _ x _ (Px1.out.at HB.out) HGx.out).mono ?_
    rintro e w13 ⟨n13_1, rfl, o9, b9⟩
    obtain ⟨p13_1, q13_1, f13_1, _⟩ := (pgD_own o9).shape
    subst f13_1
    have O13 := hide o9
    clear o9
    replace E0 := hide ((b9.block _ (Array.getElem?_eq_some_iff.1 E0.out).1).trans E0.out)
    replace X7 := hide ((b9.block _ (Array.getElem?_eq_some_iff.1 X7.out).1).trans X7.out)
    replace O2 := hide (O2.out.below b9)
    replace O3 := hide (O3.out.below b9)
    replace O6 := hide (O6.out.below b9)
    have z14 := b9.size
    replace HB := hide (HB.out.trans (b9.mono HB.out.size))
    clear b9
    unfold pgV
    go_wp2_with fail
    refine (freshI _ x _ c (pgD_own O13.out) HGx.out.k).mono ?_
    rintro e w14 ⟨n14_1, rfl, o9, b9⟩
    rw [HV0.out] at o9
    obtain ⟨p14_1, q14_1, f14_1⟩ := o9.shape
    subst f14_1
    have O14 := hide o9
    clear o9
    replace E0 := hide ((b9.block _ (Array.getElem?_eq_some_iff.1 E0.out).1).trans E0.out)
    replace X7 := hide ((b9.block _ (Array.getElem?_eq_some_iff.1 X7.out).1).trans X7.out)
    replace O2 := hide (O2.out.below b9)
    replace O3 := hide (O3.out.below b9)
    replace O6 := hide (O6.out.below b9)
    replace O13 := hide (O13.out.below b9)
    have z15 := b9.size
    replace HB := hide (HB.out.trans (b9.mono HB.out.size))
    clear b9
    go_wp2_with fail
    refine (eqVls _ _ _ V0 (O14.out.rd (Nat.le_refl _)) (O3.out.rd (Nat.le_refl _)) HGV0.out).mono ?_
    rintro e w15 ⟨rfl, b9⟩
    replace E0 := hide ((b9.block _ (Array.getElem?_eq_some_iff.1 E0.out).1).trans E0.out)
    replace X7 := hide ((b9.block _ (Array.getElem?_eq_some_iff.1 X7.out).1).trans X7.out)
    replace O2 := hide (O2.out.below b9)
    replace O3 := hide (O3.out.below b9)
    replace O6 := hide (O6.out.below b9)
    replace O13 := hide (O13.out.below b9)
    replace O14 := hide (O14.out.below b9)
    have z16 := b9.size
    replace HB := hide (HB.out.trans (b9.mono HB.out.size))
    clear b9
    go_wp2_with fail
    refine (heldVlsR _ 1 _ (by first | rfl | omega) _ V0 (O6.out.rd (Nat.le_refl _)) (by omega) (by omega)).mono ?_
    rintro e w16 ⟨rfl, b9⟩
    rw [HMV0.out]
    replace E0 := hide ((b9.block _ (Array.getElem?_eq_some_iff.1 E0.out).1).trans E0.out)
    replace X7 := hide ((b9.block _ (Array.getElem?_eq_some_iff.1 X7.out).1).trans X7.out)
    replace O2 := hide (O2.out.below b9)
    replace O3 := hide (O3.out.below b9)
    replace O6 := hide (O6.out.below b9)
    replace O13 := hide (O13.out.below b9)
    replace O14 := hide (O14.out.below b9)
    have z17 := b9.size
    replace HB := hide (HB.out.trans (b9.mono HB.out.size))
    clear b9
    go_wp2
    go_ret
    exact ⟨rfl, HB.out⟩

set_option maxRecDepth 100000 in
theorem lifted (os : Os) (started : os.Started) (H : Type) (enc : TypeId × Value → H) :
    ReturnsInHanded {} Try.checked os 4 .any (Rows.fnExactFreshSpec.pre6 enc Try.prog Try.f4 Rows.fnExactFreshRow.domain false) (Rows.fnExactFreshSpec.post enc Try.prog Try.f4 false true false false) := by
  refine returnsInHanded_of_change (C := Try.checked) own started (by kernel_rfl) Try.func4
    (ChangeSpec.witness6 (enc := enc) (C := Try.checked) false ⟨#[], #[.agg #[.slice none 0 0], .int .i64 0], []⟩ 8 (by kernel_rfl) (by kernel_rfl) (by kernel_rfl) (by kernel_rfl)) ?_
  intro W base args ds gs before hval0 hW hcnd _
  have hval : ∀ (j : Nat) t v, Try.f4.params[j]? = some t → args[j]? = some v → Value.okWide Try.prog W .any base t v := hval0
  have hW' := hW
  obtain ⟨p, q, hA0, hV, rfl, hfz, hnd⟩ := hW
  have hA : DataW.TrodAll enc Try.prog W 0 (fun _ => true) true Try.f4.params.toList args.toList ds p := hA0
  rw [Try.params4] at hA hval
  obtain ⟨v0, vs0, d0, ds0, p0, q0, hargs, rfl, rfl, h0, r0⟩ := trodAll_cons hA
  obtain ⟨v1, vs1, d1, ds1, p1, q1, rfl, rfl, rfl, h1, r1⟩ := trodAll_cons r0
  obtain ⟨rfl, rfl, rfl⟩ := trodAll_nil r1
  obtain rfl : args = #[v0, v1] := by cases args; simp_all
  obtain ⟨rfl, rfl⟩ := trodVars_none hV
  have k0 := h0
  have lt0 : ∀ x ∈ p0, x.block < W.heap.size := by obtain ⟨m, hm⟩ := k0; exact DataW.trod_lt m _ _ _ hm
  have w0 := openPg (hval 0 24 v0 rfl rfl) h0
  obtain ⟨a1, rfl, rfl, rfl, w1⟩ := open_int Try.underlying3 (hval 1 3 v1 rfl rfl) h1
  clear hA0 hval0
  refine (walk v0 a1 W w0 (bounds_i64 w1)).mono fun e W' ⟨he, bel⟩ => ?_
  subst he
  exact ⟨_, rfl, _, _, _, [], _, [], hW', trodAll_mk1 (shut_bool Try.underlying4 _), (trodAll_cons_mk (Below.trod laidOut (by kernel_rfl) (of_decide_eq_true (by kernel_rfl)) k0 bel lt0) (trodAll_cons_mk (shut_int Try.underlying3 w1) trodAll_mk0)), rfl, bel.frame _, fun h => by cases h⟩

theorem over : Rows.fnExactFreshRow.holds Try.pinned (OpenSpec.ofChange Rows.fnExactFreshSpec) :=
  OpenClaim.holds_of_wide 4 Try.f4 rfl rfl rfl rfl rfl rfl rfl ⟨rfl, rfl, rfl, rfl, rfl⟩ rfl rfl rfl rfl rfl (by kernel_rfl) Try.func4 (by kernel_rfl)
    (of_decide_eq_true (by kernel_rfl)) (by unfold Func.isWrapper; first | (rw [if_pos (by decide +kernel)]; kernel_rfl) | (rw [if_neg (by decide +kernel)]; exact ⟨rfl, rfl⟩))
    (fun os started H enc _ => lifted os started H enc)

end Go.Proofs.Ythlaihkpffddcaa.fnExactFresh
namespace Go.Proofs.Ythlaihkpffddcaa
theorem fnExactFresh_holds : Rows.FnExactFreshSaid := fnExactFresh.over
#print axioms fnExactFresh_holds
end Go.Proofs.Ythlaihkpffddcaa
