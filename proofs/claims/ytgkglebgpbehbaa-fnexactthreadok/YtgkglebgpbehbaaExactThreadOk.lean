/-
  Proved: at every argument the program's ThreadOk answers as its model does, writes into no argument, and its answer owns its memory (the law FnExactThreadOk returns true), without any condition.
-/
import Derived.Test.YtgkglebgpbehbaaRows
import Derived.Test.YtgkglebgpbehbaaPrgLaw
import Derived.Test.YtgkglebgpbehbaaThR
import Derived.Test.YtgkglebgpbehbaaThrT
import Derived.Test.YtgkglebgpbehbaaThrJ
import Derived.Test.YtgkglebgpbehbaaStepW
import Derived.Deep.CutRange
import Derived.Deep.RegionWith
import Derived.Deep.RegionHeld
import Derived.BigRegion
import Derived.WalkKit
import Derived.ProofKit
import Derived.OpenShut
import Derived.ShutString
import Derived.ChangeOld
import Derived.Below
namespace Go.Proofs.Ytgkglebgpbehbaa.fnExactThreadOk
open Go.ChangeShapes Go.WideShapes Go.ChangeAt Go.RowKit
open Go.ChangeMaps (open_string shut_string)
set_option linter.unusedVariables false

theorem own : ownKnob Try.prog.godebug = none := by kernel_rfl
theorem laidOut : laidOutB Try.prog = true := by kernel_rfl
set_option maxRecDepth 100000 in
set_option maxHeartbeats 8000000 in
theorem walk (v0 : Value) (v1 : Value) (w : World) (h0 : IsPg w v0) (h1 : IsTh w v1) :
    Calls Try.prog 3 #[v0, v1] w fun e w' => e = .returned (.bool true) ∧ Below w.heap.size w w' := by
  obtain ⟨x, ux1, rfl, gx1, rx⟩ := h0
  obtain ⟨ax1, cx1, ex1, _⟩ := gx1.shape
  subst ex1
  have Px1 := hide gx1
  have Rx := hide rx
  clear rx gx1
  obtain ⟨t, ut1, rfl, gt1, rt⟩ := h1
  obtain ⟨at1, ct1, et1, _⟩ := gt1.shape
  subst et1
  have Pt1 := hide gt1
  have Rt := hide rt
  clear rt gt1
  have bA := (((Below.refl w.heap.size w).alloc (Nat.le_refl _) (.cells #[.slice ax1 x.k.length cx1] 24)).alloc (by simp) (.cells #[.int .i64 t.i, .slice at1 t.f.length ct1, .int .i64 t.s, .int .i64 t.d] 27))
  have G0 := heap_alloc_new w (.cells #[.slice ax1 x.k.length cx1] 24)
  have G1 := heap_alloc_new (w.alloc (.cells #[.slice ax1 x.k.length cx1] 24)) (.cells #[.int .i64 t.i, .slice at1 t.f.length ct1, .int .i64 t.s, .int .i64 t.d] 27)
  simp only [World.size_alloc] at G1
  have E0 := hide ((Below.heap_alloc _ (.cells #[.int .i64 t.i, .slice at1 t.f.length ct1, .int .i64 t.s, .int .i64 t.d] 27) _ (by simp)).trans (G0))
  have E1 := hide (G1)
  have HB := hide bA
  clear bA G0 G1
  obtain ⟨V0, hV0⟩ : ∃ V, thB x.k t = V := ⟨_, rfl⟩
  have HV0 := hide hV0
  clear hV0
  have hne0 : (V0 != V0) = false := by simp
  unfold pgV thV
  go_enter Try.func3, Try.ntmps3
  go_wp2_with fail
  generalize ((w.alloc (.cells #[.slice ax1 x.k.length cx1] 24)).alloc (.cells #[.int .i64 t.i, .slice at1 t.f.length ct1, .int .i64 t.s, .int .i64 t.d] 27)) = W at *
  refine (szPg _ x _ _ (Px1.out.at HB.out) (by omega) (by omega) Rx.out).mono ?_
  rintro e w1 ⟨rfl, b9⟩
  replace E0 := hide ((b9.block _ (Array.getElem?_eq_some_iff.1 E0.out).1).trans E0.out)
  replace E1 := hide ((b9.block _ (Array.getElem?_eq_some_iff.1 E1.out).1).trans E1.out)
  have z1 := b9.size
  replace HB := hide (HB.out.trans (b9.mono HB.out.size))
  clear b9
  by_cases hmx : (1048576 : Int) < (pgW x : Int)
  · rw [szR_neg hmx]
    go_wp2
    go_ret
    exact ⟨rfl, HB.out⟩
  · skip
    rw [szR_pos hmx]
    have hwx : pgW x ≤ 1048576 := by omega
    have HGx := hide (pgG_of Rx.out (by omega))
    have hnx : ¬ (1048576 : Int) - (pgW x : Int) < 0 := by omega
    have hqx : (1048576 : Int) - (pgW x : Int) ≤ 1048576 := by omega
    have hTx : (1048576 : Int) - (pgW x : Int) + ((pgW x : Int) : Int) ≤ 1048576 := by omega
    generalize (1048576 : Int) - (pgW x : Int) = mx at *
    clear hmx
    have y0_0 := (box_of E1.out).1 0 _ rfl
    have y0_1 := (box_of E1.out).1 1 _ rfl
    have y0_2 := (box_of E1.out).1 2 _ rfl
    have y0_3 := (box_of E1.out).1 3 _ rfl
    go_wp2_with fail
    clear y0_0 y0_1 y0_2 y0_3
    refine (szTh _ t _ _ (Pt1.out.at HB.out) (by omega) (by omega) Rt.out).mono ?_
    rintro e w2 ⟨rfl, b9⟩
    replace E0 := hide ((b9.block _ (Array.getElem?_eq_some_iff.1 E0.out).1).trans E0.out)
    replace E1 := hide ((b9.block _ (Array.getElem?_eq_some_iff.1 E1.out).1).trans E1.out)
    have z2 := b9.size
    replace HB := hide (HB.out.trans (b9.mono HB.out.size))
    clear b9
    by_cases hmt : (mx : Int) < (thW t : Int)
    · rw [szR_neg hmt]
      go_wp2
      go_ret
      exact ⟨rfl, HB.out⟩
    · skip
      rw [szR_pos hmt]
      have hwt : thW t ≤ 1048576 := by omega
      have HGt := hide (thG_of Rt.out (by omega))
      have hnt : ¬ (mx : Int) - (thW t : Int) < 0 := by omega
      have hqt : (mx : Int) - (thW t : Int) ≤ 1048576 := by omega
      have hTt : (mx : Int) - (thW t : Int) + ((thW t : Int) + (pgW x : Int) : Int) ≤ 1048576 := by omega
      generalize (mx : Int) - (thW t : Int) = mt at *
      clear hmt
      have hz0 : w.heap.size + 2 ≤ w2.heap.size := by
        have hh := (Array.getElem?_eq_some_iff.1 E1.out).1
        omega
      go_upto_region 8 with fail
      have HCL : Hid (∀ w', Below w2.heap.size w2 w' → w'.cell? ⟨w.heap.size, 0, none⟩ = some (.slice ax1 x.k.length cx1) ∧ w'.cell? ⟨w.heap.size + 1, 0, none⟩ = some (.int .i64 t.i) ∧ w'.cell? ⟨w.heap.size + 1, 1, none⟩ = some (.slice at1 t.f.length ct1) ∧ w'.cell? ⟨w.heap.size + 1, 2, none⟩ = some (.int .i64 t.s) ∧ w'.cell? ⟨w.heap.size + 1, 3, none⟩ = some (.int .i64 t.d)) := hide (fun w' hb => ⟨(box_of ((hb.block _ (Array.getElem?_eq_some_iff.1 E0.out).1).trans E0.out)).1 0 _ rfl, (box_of ((hb.block _ (Array.getElem?_eq_some_iff.1 E1.out).1).trans E1.out)).1 0 _ rfl, (box_of ((hb.block _ (Array.getElem?_eq_some_iff.1 E1.out).1).trans E1.out)).1 1 _ rfl, (box_of ((hb.block _ (Array.getElem?_eq_some_iff.1 E1.out).1).trans E1.out)).1 2 _ rfl, (box_of ((hb.block _ (Array.getElem?_eq_some_iff.1 E1.out).1).trans E1.out)).1 3 _ rfl⟩)
      have HD := hide (Below.refl w2.heap.size w2).drew
      go_cut [6] from 20 to 24 (fun s6 wq => s6 = .bool V0 ∧ Hid (Below w2.heap.size w2 wq))
      case first =>
        refine wp_region_held_drew (S := fun w' => w'.cell? ⟨w.heap.size, 0, none⟩ = some (.slice ax1 x.k.length cx1) ∧ w'.cell? ⟨w.heap.size + 1, 0, none⟩ = some (.int .i64 t.i) ∧ w'.cell? ⟨w.heap.size + 1, 1, none⟩ = some (.slice at1 t.f.length ct1) ∧ w'.cell? ⟨w.heap.size + 1, 2, none⟩ = some (.int .i64 t.s) ∧ w'.cell? ⟨w.heap.size + 1, 3, none⟩ = some (.int .i64 t.d)) (by kernel_rfl) (HCL.out _ HD.out) (fun hHeld => ?_)
        have HW := HD
        clear HD
        generalize w2.drew = Z0 at *
        refine wpAnyH_take (i := 0) (v := .agg #[.slice ax1 x.k.length cx1]) rfl (by kernel_rfl) (by kernel_rfl) (by kernel_rfl) (fun _ _ _ h => h) (Or.inl ⟨by rfl, ?_⟩) (by assumption) ?_
        · intro w' hSw
          try dsimp only at hSw
          go_simp; try rfl
        simp only [List.getElem_toArray, List.getElem_cons_zero, Act.put, List.setIfInBounds_toArray, List.set_cons_zero, List.set_cons_succ]
        refine wpAnyH_take (i := 2) (v := .agg #[.int .i64 t.i, .slice at1 t.f.length ct1, .int .i64 t.s, .int .i64 t.d]) rfl (by kernel_rfl) (by kernel_rfl) (by kernel_rfl) (fun _ _ _ h => h) (Or.inl ⟨by rfl, ?_⟩) (by assumption) ?_
        · intro w' hSw
          try dsimp only at hSw
          go_simp; try rfl
        simp only [List.getElem_toArray, List.getElem_cons_succ, List.getElem_cons_zero, Act.put, List.setIfInBounds_toArray, List.set_cons_zero, List.set_cons_succ]
        refine wpAnyH_ready (rs := [1]) (by kernel_rfl) (by simp) (AllReadyH.cons rfl (fun K hK => ?_) AllReadyH.nil)
        refine step_callW (some 21) (by kernel_rfl) (by kernel_rfl) 8 _ _ rfl #[.agg #[.slice ax1 x.k.length cx1]] (by kernel_rfl) (toPg _ x _ (Px1.out.at (HB.out.trans (HW.out.mono HB.out.size))) HGx.out) ?_
        rintro e Z1 ⟨n91_1, rfl, o9, b9⟩
        obtain ⟨p91_1, q91_1, f91_1, _⟩ := (pgD_own o9).shape
        subst f91_1
        have OH91 := hide o9
        clear o9
        unfold pgV
        replace HW := hide (HW.out.trans (b9.mono HW.out.size))
        clear b9
        refine ⟨_, rfl, ?_⟩
        refine hK.out _ _ (HCL.out _ HW.out) (fun hHeld => ?_)
        clear hK K
        simp only [Act.put, List.setIfInBounds_toArray, List.set_cons_zero, List.set_cons_succ]
        refine wpAnyH_ready (rs := [3]) (by kernel_rfl) (by simp) (AllReadyH.cons rfl (fun K hK => ?_) AllReadyH.nil)
        refine step_callW (some 23) (by kernel_rfl) (by kernel_rfl) 9 _ _ rfl #[.agg #[.int .i64 t.i, .slice at1 t.f.length ct1, .int .i64 t.s, .int .i64 t.d]] (by kernel_rfl) (toTh _ t _ (Pt1.out.at (HB.out.trans (HW.out.mono HB.out.size))) HGt.out) ?_
        rintro e Z2 ⟨n92_1, rfl, o9, b9⟩
        obtain ⟨p92_1, q92_1, f92_1, _⟩ := (thD_own o9).shape
        subst f92_1
        have OH92 := hide o9
        clear o9
        unfold thV
        replace OH91 := hide (OH91.out.below b9)
        replace HW := hide (HW.out.trans (b9.mono HW.out.size))
        clear b9
        refine ⟨_, rfl, ?_⟩
        refine hK.out _ _ (HCL.out _ HW.out) (fun hHeld => ?_)
        clear hK K
        simp only [Act.put, List.setIfInBounds_toArray, List.set_cons_zero, List.set_cons_succ]
        refine wpAnyH_ready (rs := [4]) (by kernel_rfl) (by simp) (AllReadyH.cons rfl (fun K hK => ?_) AllReadyH.nil)
        refine step_callW (some 24) (by kernel_rfl) (by kernel_rfl) 7 _ _ rfl #[.agg #[.slice p91_1 x.k.length q91_1], .agg #[.int .i64 t.i, .slice p92_1 t.f.length q92_1, .int .i64 t.s, .int .i64 t.d]] (by kernel_rfl) (threadOkS _ x _ t _ (pgD_own OH91.out) (thD_own OH92.out) HGx.out.k HGt.out) ?_
        rintro e Z3 ⟨rfl, b9⟩
        rw [HV0.out]
        clear OH91
        clear OH92
        replace HW := hide (HW.out.trans (b9.mono HW.out.size))
        clear b9
        refine ⟨_, rfl, ?_⟩
        refine hK.out _ _ (HCL.out _ HW.out) (fun hHeld => ?_)
        clear hK K
        simp only [Act.put, List.setIfInBounds_toArray, List.set_cons_zero, List.set_cons_succ]
        refine wpAnyH_take (i := 5) (v := ?_) rfl (by kernel_rfl) (by kernel_rfl) (by kernel_rfl) (fun _ _ _ h => h) (Or.inl ⟨by rfl, ?_⟩) (by assumption) ?_
        rotate_left
        · intro w' hSw
          try dsimp only at hSw
          go_simp; try rfl
        simp only [List.getElem_toArray, List.getElem_cons_succ, List.getElem_cons_zero, Act.put, List.setIfInBounds_toArray, List.set_cons_zero, List.set_cons_succ]
        refine wpAnyH_done (by kernel_rfl) ?_ _
        go_wp2_with fail
        go_meet
        exact ⟨rfl, HW⟩
      case rest =>
      obtain ⟨rfl, HQ9⟩ := hcut
      have b9 := HQ9.out
      clear HQ9 HCL HD
      replace E0 := hide ((b9.block _ (Array.getElem?_eq_some_iff.1 E0.out).1).trans E0.out)
      replace E1 := hide ((b9.block _ (Array.getElem?_eq_some_iff.1 E1.out).1).trans E1.out)
      have z3 := b9.size
      replace HB := hide (HB.out.trans (b9.mono HB.out.size))
      clear b9
      generalize wc = w3 at *
      have y0_0 := (box_of E0.out).1 0 _ rfl
      go_wp2_with fail
      clear y0_0
      refine (toPg _ x _ (Px1.out.at HB.out) HGx.out).mono ?_
      rintro e w4 ⟨n4_1, rfl, o9, b9⟩
      obtain ⟨p4_1, q4_1, f4_1, _⟩ := (pgD_own o9).shape
      subst f4_1
      have O4 := hide o9
      clear o9
      replace E0 := hide ((b9.block _ (Array.getElem?_eq_some_iff.1 E0.out).1).trans E0.out)
      replace E1 := hide ((b9.block _ (Array.getElem?_eq_some_iff.1 E1.out).1).trans E1.out)
      have z4 := b9.size
      replace HB := hide (HB.out.trans (b9.mono HB.out.size))
      clear b9
      unfold pgV
      have bD := (Below.refl w4.heap.size w4).alloc (Nat.le_refl _) (.cells #[.slice p4_1 x.k.length q4_1] 33)
      have X7 := hide (heap_alloc_new w4 (.cells #[.slice p4_1 x.k.length q4_1] 33))
      have z5 : w4.heap.size < (w4.alloc (.cells #[.slice p4_1 x.k.length q4_1] 33)).heap.size := by simp
      replace E0 := hide ((bD.block _ (Array.getElem?_eq_some_iff.1 E0.out).1).trans E0.out)
      replace E1 := hide ((bD.block _ (Array.getElem?_eq_some_iff.1 E1.out).1).trans E1.out)
      replace O4 := hide (O4.out.below bD)
      have z6 := bD.size
      replace HB := hide (HB.out.trans (bD.mono HB.out.size))
      clear bD
      have y0_0 := (box_of E1.out).1 0 _ rfl
      have y0_1 := (box_of E1.out).1 1 _ rfl
      have y0_2 := (box_of E1.out).1 2 _ rfl
      have y0_3 := (box_of E1.out).1 3 _ rfl
      go_wp2_with fail
      clear y0_0 y0_1 y0_2 y0_3
      generalize w4.alloc (.cells #[.slice p4_1 x.k.length q4_1] 33) = w5 at *
      refine (toTh _ t _ (Pt1.out.at HB.out) HGt.out).mono ?_
      rintro e w6 ⟨n6_1, rfl, o9, b9⟩
      obtain ⟨p6_1, q6_1, f6_1, _⟩ := (thD_own o9).shape
      subst f6_1
      have O6 := hide o9
      clear o9
      replace E0 := hide ((b9.block _ (Array.getElem?_eq_some_iff.1 E0.out).1).trans E0.out)
      replace E1 := hide ((b9.block _ (Array.getElem?_eq_some_iff.1 E1.out).1).trans E1.out)
      replace X7 := hide ((b9.block _ (Array.getElem?_eq_some_iff.1 X7.out).1).trans X7.out)
      replace O4 := hide (O4.out.below b9)
      have z7 := b9.size
      replace HB := hide (HB.out.trans (b9.mono HB.out.size))
      clear b9
      unfold thV
      have bD := (Below.refl w6.heap.size w6).alloc (Nat.le_refl _) (.cells #[.int .i64 t.i, .slice p6_1 t.f.length q6_1, .int .i64 t.s, .int .i64 t.d] 37)
      have X8 := hide (heap_alloc_new w6 (.cells #[.int .i64 t.i, .slice p6_1 t.f.length q6_1, .int .i64 t.s, .int .i64 t.d] 37))
      have z8 : w6.heap.size < (w6.alloc (.cells #[.int .i64 t.i, .slice p6_1 t.f.length q6_1, .int .i64 t.s, .int .i64 t.d] 37)).heap.size := by simp
      replace E0 := hide ((bD.block _ (Array.getElem?_eq_some_iff.1 E0.out).1).trans E0.out)
      replace E1 := hide ((bD.block _ (Array.getElem?_eq_some_iff.1 E1.out).1).trans E1.out)
      replace X7 := hide ((bD.block _ (Array.getElem?_eq_some_iff.1 X7.out).1).trans X7.out)
      replace O4 := hide (O4.out.below bD)
      replace O6 := hide (O6.out.below bD)
      have z9 := bD.size
      replace HB := hide (HB.out.trans (bD.mono HB.out.size))
      clear bD
      have y0_0 := (box_of X7.out).1 0 _ rfl
      have y1_0 := (box_of X8.out).1 0 _ rfl
      have y1_1 := (box_of X8.out).1 1 _ rfl
      have y1_2 := (box_of X8.out).1 2 _ rfl
      have y1_3 := (box_of X8.out).1 3 _ rfl
      go_wp2_with fail
      clear y0_0 y1_0 y1_1 y1_2 y1_3
      generalize w6.alloc (.cells #[.int .i64 t.i, .slice p6_1 t.f.length q6_1, .int .i64 t.s, .int .i64 t.d] 37) = w7 at *
      refine (threadOkI _ x _ t _ (pgD_own O4.out) (thD_own O6.out) HGx.out.k HGt.out).mono ?_
      rintro e w8 ⟨rfl, b9⟩
      rw [HV0.out]
      replace E0 := hide ((b9.block _ (Array.getElem?_eq_some_iff.1 E0.out).1).trans E0.out)
      replace E1 := hide ((b9.block _ (Array.getElem?_eq_some_iff.1 E1.out).1).trans E1.out)
      replace X7 := hide ((b9.block _ (Array.getElem?_eq_some_iff.1 X7.out).1).trans X7.out)
      replace X8 := hide ((b9.block _ (Array.getElem?_eq_some_iff.1 X8.out).1).trans X8.out)
      replace O4 := hide (O4.out.below b9)
      replace O6 := hide (O6.out.below b9)
      have z10 := b9.size
      replace HB := hide (HB.out.trans (b9.mono HB.out.size))
      clear b9
      go_upto_region 14 with fail
      have HCL : Hid (∀ w', Below w8.heap.size w8 w' → w'.cell? ⟨w4.heap.size, 0, none⟩ = some (.slice p4_1 x.k.length q4_1) ∧ w'.cell? ⟨w.heap.size, 0, none⟩ = some (.slice ax1 x.k.length cx1)) := hide (fun w' hb => ⟨(box_of ((hb.block _ (Array.getElem?_eq_some_iff.1 X7.out).1).trans X7.out)).1 0 _ rfl, (box_of ((hb.block _ (Array.getElem?_eq_some_iff.1 E0.out).1).trans E0.out)).1 0 _ rfl⟩)
      have HD := hide (Below.refl w8.heap.size w8).drew
      go_cut [39] from 35 to 39 (fun s wq => s = .bool false ∧ Hid (Below w8.heap.size w8 wq))
      case first =>
        refine wp_region_held_drew (S := fun w' => w'.cell? ⟨w4.heap.size, 0, none⟩ = some (.slice p4_1 x.k.length q4_1) ∧ w'.cell? ⟨w.heap.size, 0, none⟩ = some (.slice ax1 x.k.length cx1)) (by kernel_rfl) (HCL.out _ HD.out) (fun hHeld => ?_)
        have HW := HD
        clear HD
        generalize w8.drew = Z0 at *
        refine wpAnyH_take (i := 0) (v := .agg #[.slice p4_1 x.k.length q4_1]) rfl (by kernel_rfl) (by kernel_rfl) (by kernel_rfl) (fun _ _ _ h => h) (Or.inl ⟨by rfl, ?_⟩) (by assumption) ?_
        · intro w' hSw
          try dsimp only at hSw
          go_simp; try rfl
        simp only [List.getElem_toArray, List.getElem_cons_zero, Act.put, List.setIfInBounds_toArray, List.set_cons_zero, List.set_cons_succ]
        refine wpAnyH_take (i := 1) (v := .agg #[.slice ax1 x.k.length cx1]) rfl (by kernel_rfl) (by kernel_rfl) (by kernel_rfl) (fun _ _ _ h => h) (Or.inl ⟨by rfl, ?_⟩) (by assumption) ?_
        · intro w' hSw
          try dsimp only at hSw
          go_simp; try rfl
        simp only [List.getElem_toArray, List.getElem_cons_succ, List.getElem_cons_zero, Act.put, List.setIfInBounds_toArray, List.set_cons_zero, List.set_cons_succ]
        refine wpAnyH_ready (rs := [2]) (by kernel_rfl) (by simp) (AllReadyH.cons rfl (fun K hK => ?_) AllReadyH.nil)
        refine step_callW (some 37) (by kernel_rfl) (by kernel_rfl) 8 _ _ rfl #[.agg #[.slice ax1 x.k.length cx1]] (by kernel_rfl) (toPg _ x _ (Px1.out.at (HB.out.trans (HW.out.mono HB.out.size))) HGx.out) ?_
        rintro e Z1 ⟨n91_1, rfl, o9, b9⟩
        obtain ⟨p91_1, q91_1, f91_1, _⟩ := (pgD_own o9).shape
        subst f91_1
        have OH91 := hide o9
        clear o9
        unfold pgV
        replace HW := hide (HW.out.trans (b9.mono HW.out.size))
        clear b9
        refine ⟨_, rfl, ?_⟩
        refine hK.out _ _ (HCL.out _ HW.out) (fun hHeld => ?_)
        clear hK K
        simp only [Act.put, List.setIfInBounds_toArray, List.set_cons_zero, List.set_cons_succ]
        refine wpAnyH_ready (rs := [3]) (by kernel_rfl) (by simp) (AllReadyH.cons rfl (fun K hK => ?_) AllReadyH.nil)
        refine step_callW (some 38) (by kernel_rfl) (by kernel_rfl) 11 _ _ rfl #[.agg #[.slice p4_1 x.k.length q4_1], .agg #[.slice p91_1 x.k.length q91_1]] (by kernel_rfl) (eqPg _ x _ _ (pgD_own (O4.out.below HW.out)) (pgD_own OH91.out) HGx.out) ?_
        rintro e Z2 ⟨rfl, b9⟩
        replace OH91 := hide (OH91.out.below b9)
        replace HW := hide (HW.out.trans (b9.mono HW.out.size))
        clear b9
        refine ⟨_, rfl, ?_⟩
        refine hK.out _ _ (HCL.out _ HW.out) (fun hHeld => ?_)
        clear hK K
        simp only [Act.put, List.setIfInBounds_toArray, List.set_cons_zero, List.set_cons_succ]
        refine wpAnyH_take (i := 4) (v := ?_) rfl (by kernel_rfl) (by kernel_rfl) (by kernel_rfl) (fun _ _ _ h => h) (Or.inl ⟨by rfl, ?_⟩) (by assumption) ?_
        rotate_left
        · intro w' hSw
          try dsimp only at hSw
          go_simp; try rfl
        simp only [List.getElem_toArray, List.getElem_cons_succ, List.getElem_cons_zero, Act.put, List.setIfInBounds_toArray, List.set_cons_zero, List.set_cons_succ]
        refine wpAnyH_done (by kernel_rfl) ?_ _
        go_wp2_with fail
        go_meet
        exact ⟨rfl, HW⟩
      case rest =>
      obtain ⟨rfl, HQ9⟩ := hcut
      have b9 := HQ9.out
      clear HQ9 HCL HD
      replace E0 := hide ((b9.block _ (Array.getElem?_eq_some_iff.1 E0.out).1).trans E0.out)
      replace E1 := hide ((b9.block _ (Array.getElem?_eq_some_iff.1 E1.out).1).trans E1.out)
      replace X7 := hide ((b9.block _ (Array.getElem?_eq_some_iff.1 X7.out).1).trans X7.out)
      replace X8 := hide ((b9.block _ (Array.getElem?_eq_some_iff.1 X8.out).1).trans X8.out)
      replace O4 := hide (O4.out.below b9)
      replace O6 := hide (O6.out.below b9)
      have z11 := b9.size
      replace HB := hide (HB.out.trans (b9.mono HB.out.size))
      clear b9
      generalize wc = w9 at *
      go_upto_region 16 with fail
      have HCL : Hid (∀ w', Below w9.heap.size w9 w' → w'.cell? ⟨w6.heap.size, 0, none⟩ = some (.int .i64 t.i) ∧ w'.cell? ⟨w6.heap.size, 1, none⟩ = some (.slice p6_1 t.f.length q6_1) ∧ w'.cell? ⟨w6.heap.size, 2, none⟩ = some (.int .i64 t.s) ∧ w'.cell? ⟨w6.heap.size, 3, none⟩ = some (.int .i64 t.d) ∧ w'.cell? ⟨w.heap.size + 1, 0, none⟩ = some (.int .i64 t.i) ∧ w'.cell? ⟨w.heap.size + 1, 1, none⟩ = some (.slice at1 t.f.length ct1) ∧ w'.cell? ⟨w.heap.size + 1, 2, none⟩ = some (.int .i64 t.s) ∧ w'.cell? ⟨w.heap.size + 1, 3, none⟩ = some (.int .i64 t.d)) := hide (fun w' hb => ⟨(box_of ((hb.block _ (Array.getElem?_eq_some_iff.1 X8.out).1).trans X8.out)).1 0 _ rfl, (box_of ((hb.block _ (Array.getElem?_eq_some_iff.1 X8.out).1).trans X8.out)).1 1 _ rfl, (box_of ((hb.block _ (Array.getElem?_eq_some_iff.1 X8.out).1).trans X8.out)).1 2 _ rfl, (box_of ((hb.block _ (Array.getElem?_eq_some_iff.1 X8.out).1).trans X8.out)).1 3 _ rfl, (box_of ((hb.block _ (Array.getElem?_eq_some_iff.1 E1.out).1).trans E1.out)).1 0 _ rfl, (box_of ((hb.block _ (Array.getElem?_eq_some_iff.1 E1.out).1).trans E1.out)).1 1 _ rfl, (box_of ((hb.block _ (Array.getElem?_eq_some_iff.1 E1.out).1).trans E1.out)).1 2 _ rfl, (box_of ((hb.block _ (Array.getElem?_eq_some_iff.1 E1.out).1).trans E1.out)).1 3 _ rfl⟩)
      have HD := hide (Below.refl w9.heap.size w9).drew
      go_cut [44] from 40 to 44 (fun s wq => s = .bool false ∧ Hid (Below w9.heap.size w9 wq))
      case first =>
        refine wp_region_held_drew (S := fun w' => w'.cell? ⟨w6.heap.size, 0, none⟩ = some (.int .i64 t.i) ∧ w'.cell? ⟨w6.heap.size, 1, none⟩ = some (.slice p6_1 t.f.length q6_1) ∧ w'.cell? ⟨w6.heap.size, 2, none⟩ = some (.int .i64 t.s) ∧ w'.cell? ⟨w6.heap.size, 3, none⟩ = some (.int .i64 t.d) ∧ w'.cell? ⟨w.heap.size + 1, 0, none⟩ = some (.int .i64 t.i) ∧ w'.cell? ⟨w.heap.size + 1, 1, none⟩ = some (.slice at1 t.f.length ct1) ∧ w'.cell? ⟨w.heap.size + 1, 2, none⟩ = some (.int .i64 t.s) ∧ w'.cell? ⟨w.heap.size + 1, 3, none⟩ = some (.int .i64 t.d)) (by kernel_rfl) (HCL.out _ HD.out) (fun hHeld => ?_)
        have HW := HD
        clear HD
        generalize w9.drew = Z0 at *
        refine wpAnyH_take (i := 0) (v := .agg #[.int .i64 t.i, .slice p6_1 t.f.length q6_1, .int .i64 t.s, .int .i64 t.d]) rfl (by kernel_rfl) (by kernel_rfl) (by kernel_rfl) (fun _ _ _ h => h) (Or.inl ⟨by rfl, ?_⟩) (by assumption) ?_
        · intro w' hSw
          try dsimp only at hSw
          go_simp; try rfl
        simp only [List.getElem_toArray, List.getElem_cons_zero, Act.put, List.setIfInBounds_toArray, List.set_cons_zero, List.set_cons_succ]
        refine wpAnyH_take (i := 1) (v := .agg #[.int .i64 t.i, .slice at1 t.f.length ct1, .int .i64 t.s, .int .i64 t.d]) rfl (by kernel_rfl) (by kernel_rfl) (by kernel_rfl) (fun _ _ _ h => h) (Or.inl ⟨by rfl, ?_⟩) (by assumption) ?_
        · intro w' hSw
          try dsimp only at hSw
          go_simp; try rfl
        simp only [List.getElem_toArray, List.getElem_cons_succ, List.getElem_cons_zero, Act.put, List.setIfInBounds_toArray, List.set_cons_zero, List.set_cons_succ]
        refine wpAnyH_ready (rs := [2]) (by kernel_rfl) (by simp) (AllReadyH.cons rfl (fun K hK => ?_) AllReadyH.nil)
        refine step_callW (some 42) (by kernel_rfl) (by kernel_rfl) 9 _ _ rfl #[.agg #[.int .i64 t.i, .slice at1 t.f.length ct1, .int .i64 t.s, .int .i64 t.d]] (by kernel_rfl) (toTh _ t _ (Pt1.out.at (HB.out.trans (HW.out.mono HB.out.size))) HGt.out) ?_
        rintro e Z1 ⟨n91_1, rfl, o9, b9⟩
        obtain ⟨p91_1, q91_1, f91_1, _⟩ := (thD_own o9).shape
        subst f91_1
        have OH91 := hide o9
        clear o9
        unfold thV
        replace HW := hide (HW.out.trans (b9.mono HW.out.size))
        clear b9
        refine ⟨_, rfl, ?_⟩
        refine hK.out _ _ (HCL.out _ HW.out) (fun hHeld => ?_)
        clear hK K
        simp only [Act.put, List.setIfInBounds_toArray, List.set_cons_zero, List.set_cons_succ]
        refine wpAnyH_ready (rs := [3]) (by kernel_rfl) (by simp) (AllReadyH.cons rfl (fun K hK => ?_) AllReadyH.nil)
        refine step_callW (some 43) (by kernel_rfl) (by kernel_rfl) 12 _ _ rfl #[.agg #[.int .i64 t.i, .slice p6_1 t.f.length q6_1, .int .i64 t.s, .int .i64 t.d], .agg #[.int .i64 t.i, .slice p91_1 t.f.length q91_1, .int .i64 t.s, .int .i64 t.d]] (by kernel_rfl) (eqTh _ t _ _ (thD_own (O6.out.below HW.out)) (thD_own OH91.out) HGt.out) ?_
        rintro e Z2 ⟨rfl, b9⟩
        replace OH91 := hide (OH91.out.below b9)
        replace HW := hide (HW.out.trans (b9.mono HW.out.size))
        clear b9
        refine ⟨_, rfl, ?_⟩
        refine hK.out _ _ (HCL.out _ HW.out) (fun hHeld => ?_)
        clear hK K
        simp only [Act.put, List.setIfInBounds_toArray, List.set_cons_zero, List.set_cons_succ]
        refine wpAnyH_take (i := 4) (v := ?_) rfl (by kernel_rfl) (by kernel_rfl) (by kernel_rfl) (fun _ _ _ h => h) (Or.inl ⟨by rfl, ?_⟩) (by assumption) ?_
        rotate_left
        · intro w' hSw
          try dsimp only at hSw
          go_simp; try rfl
        simp only [List.getElem_toArray, List.getElem_cons_succ, List.getElem_cons_zero, Act.put, List.setIfInBounds_toArray, List.set_cons_zero, List.set_cons_succ]
        refine wpAnyH_done (by kernel_rfl) ?_ _
        go_wp2_with fail
        go_meet
        exact ⟨rfl, HW⟩
      case rest =>
      obtain ⟨rfl, HQ9⟩ := hcut
      have b9 := HQ9.out
      clear HQ9 HCL HD
      replace E0 := hide ((b9.block _ (Array.getElem?_eq_some_iff.1 E0.out).1).trans E0.out)
      replace E1 := hide ((b9.block _ (Array.getElem?_eq_some_iff.1 E1.out).1).trans E1.out)
      replace X7 := hide ((b9.block _ (Array.getElem?_eq_some_iff.1 X7.out).1).trans X7.out)
      replace X8 := hide ((b9.block _ (Array.getElem?_eq_some_iff.1 X8.out).1).trans X8.out)
      replace O4 := hide (O4.out.below b9)
      replace O6 := hide (O6.out.below b9)
      have z12 := b9.size
      replace HB := hide (HB.out.trans (b9.mono HB.out.size))
      clear b9
      generalize wc = w10 at *
      go_wp2
      go_ret
      exact ⟨rfl, HB.out⟩

set_option maxRecDepth 100000 in
theorem lifted (os : Os) (started : os.Started) (H : Type) (enc : TypeId × Value → H) :
    ReturnsInHanded {} Try.checked os 3 .any (Rows.fnExactThreadOkSpec.pre6 enc Try.prog Try.f3 Rows.fnExactThreadOkRow.domain false) (Rows.fnExactThreadOkSpec.post enc Try.prog Try.f3 false true false false) := by
  refine returnsInHanded_of_change (C := Try.checked) own started (by kernel_rfl) Try.func3
    (ChangeSpec.witness6 (enc := enc) (C := Try.checked) false ⟨#[], #[.agg #[.slice none 0 0], .agg #[.int .i64 0, .slice none 0 0, .int .i64 0, .int .i64 0]], []⟩ 8 (by kernel_rfl) (by kernel_rfl) (by kernel_rfl) (by kernel_rfl)) ?_
  intro W base args ds gs before hval0 hW hcnd _
  have hval : ∀ (j : Nat) t v, Try.f3.params[j]? = some t → args[j]? = some v → Value.okWide Try.prog W .any base t v := hval0
  have hW' := hW
  obtain ⟨p, q, hA0, hV, rfl, hfz, hnd⟩ := hW
  have hA : DataW.TrodAll enc Try.prog W 0 (fun _ => true) true Try.f3.params.toList args.toList ds p := hA0
  rw [Try.params3] at hA hval
  obtain ⟨v0, vs0, d0, ds0, p0, q0, hargs, rfl, rfl, h0, r0⟩ := trodAll_cons hA
  obtain ⟨v1, vs1, d1, ds1, p1, q1, rfl, rfl, rfl, h1, r1⟩ := trodAll_cons r0
  obtain ⟨rfl, rfl, rfl⟩ := trodAll_nil r1
  obtain rfl : args = #[v0, v1] := by cases args; simp_all
  obtain ⟨rfl, rfl⟩ := trodVars_none hV
  have k0 := h0
  have lt0 : ∀ x ∈ p0, x.block < W.heap.size := by obtain ⟨m, hm⟩ := k0; exact DataW.trod_lt m _ _ _ hm
  have w0 := openPg (hval 0 24 v0 rfl rfl) h0
  have k1 := h1
  have lt1 : ∀ x ∈ p1, x.block < W.heap.size := by obtain ⟨m, hm⟩ := k1; exact DataW.trod_lt m _ _ _ hm
  have w1 := openTh (hval 1 27 v1 rfl rfl) h1
  clear hA0 hval0
  refine (walk v0 v1 W w0 w1).mono fun e W' ⟨he, bel⟩ => ?_
  subst he
  exact ⟨_, rfl, _, _, _, [], _, [], hW', trodAll_mk1 (shut_bool Try.underlying4 _), (trodAll_cons_mk (Below.trod laidOut (by kernel_rfl) (of_decide_eq_true (by kernel_rfl)) k0 bel lt0) (trodAll_cons_mk (Below.trod laidOut (by kernel_rfl) (of_decide_eq_true (by kernel_rfl)) k1 bel lt1) trodAll_mk0)), rfl, bel.frame _, fun h => by cases h⟩

theorem over : Rows.fnExactThreadOkRow.holds Try.pinned (OpenSpec.ofChange Rows.fnExactThreadOkSpec) :=
  OpenClaim.holds_of_wide 3 Try.f3 rfl rfl rfl rfl rfl rfl rfl ⟨rfl, rfl, rfl, rfl, rfl⟩ rfl rfl rfl rfl rfl (by kernel_rfl) Try.func3 (by kernel_rfl)
    (of_decide_eq_true (by kernel_rfl)) (by unfold Func.isWrapper; first | (rw [if_pos (by decide +kernel)]; kernel_rfl) | (rw [if_neg (by decide +kernel)]; exact ⟨rfl, rfl⟩))
    (fun os started H enc _ => lifted os started H enc)

end Go.Proofs.Ytgkglebgpbehbaa.fnExactThreadOk
namespace Go.Proofs.Ytgkglebgpbehbaa
theorem fnExactThreadOk_holds : Rows.FnExactThreadOkSaid := fnExactThreadOk.over
#print axioms fnExactThreadOk_holds
end Go.Proofs.Ytgkglebgpbehbaa
