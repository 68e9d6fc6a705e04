/-
  Proved: at every program and every argument the program's Fits answers as its model does and writes into no argument (the law FnExactFits returns true), without any condition.
-/
import Derived.Test.YtcocipbcoplmdaaRows
import Derived.Test.YtcocipbcoplmdaaPrgLaw
import Derived.Test.YtcocipbcoplmdaaTypEq
import Derived.Test.YtcocipbcoplmdaaTypS
import Derived.Test.YtcocipbcoplmdaaTypI
import Derived.Test.YtcocipbcoplmdaaStepW
import Derived.Deep.CutRange
import Derived.Deep.RegionWith
import Derived.Deep.RegionHeld
import Derived.BigRegion
import Derived.WalkKit
import Derived.ProofKit
import Derived.OpenShut
import Derived.ShutString
import Derived.ChangeOld
import Derived.Below
namespace Go.Proofs.Ytcocipbcoplmdaa.fnExactFits
open Go.ChangeShapes Go.WideShapes Go.ChangeAt Go.RowKit
open Go.ChangeMaps (open_string shut_string)
set_option linter.unusedVariables false

theorem own : ownKnob Try.prog.godebug = none := by kernel_rfl
theorem laidOut : laidOutB Try.prog = true := by kernel_rfl
set_option maxRecDepth 100000 in
set_option maxHeartbeats 8000000 in
theorem walk (v0 : Value) (v1 : Value) (v2 : Value) (w : World) (h0 : IsPg w v0) (h1 : IsTy w v1) (h2 : IsTy w v2) :
    Calls Try.prog 5 #[v0, v1, v2] w fun e w' => e = .returned (.bool true) ∧ Below w.heap.size w w' := by
  obtain ⟨x, ux1, rfl, gx1, rx⟩ := h0
  obtain ⟨ax1, cx1, ex1, _⟩ := gx1.shape
  subst ex1
  have Px1 := hide gx1
  have Rx := hide rx
  clear rx gx1
  obtain ⟨a, rfl, ra⟩ := h1
  clear ra
  obtain ⟨b, rfl, rb⟩ := h2
  clear rb
  have bA := ((((Below.refl w.heap.size w).alloc (Nat.le_refl _) (.cells #[.slice ax1 x.k.length cx1] 24)).alloc (by simp) (.cells #[.int .i64 a.k, .int .i64 a.c] 26)).alloc (by simp <;> omega) (.cells #[.int .i64 b.k, .int .i64 b.c] 26))
  have G0 := heap_alloc_new w (.cells #[.slice ax1 x.k.length cx1] 24)
  have G1 := heap_alloc_new (w.alloc (.cells #[.slice ax1 x.k.length cx1] 24)) (.cells #[.int .i64 a.k, .int .i64 a.c] 26)
  have G2 := heap_alloc_new ((w.alloc (.cells #[.slice ax1 x.k.length cx1] 24)).alloc (.cells #[.int .i64 a.k, .int .i64 a.c] 26)) (.cells #[.int .i64 b.k, .int .i64 b.c] 26)
  simp only [World.size_alloc] at G1 G2
  have E0 := hide ((Below.heap_alloc _ (.cells #[.int .i64 b.k, .int .i64 b.c] 26) _ (by simp <;> omega)).trans ((Below.heap_alloc _ (.cells #[.int .i64 a.k, .int .i64 a.c] 26) _ (by simp)).trans (G0)))
  have E1 := hide ((Below.heap_alloc _ (.cells #[.int .i64 b.k, .int .i64 b.c] 26) _ (by simp)).trans (G1))
  have E2 := hide (G2)
  have HB := hide bA
  clear bA G0 G1 G2
  obtain ⟨V0, hV0⟩ : ∃ V, fitsB x.k a b = V := ⟨_, rfl⟩
  have HV0 := hide hV0
  clear hV0
  have hne0 : (V0 != V0) = false := by simp
  unfold pgV tyV
  go_enter Try.func5, Try.ntmps5
  go_wp2_with fail
  generalize (((w.alloc (.cells #[.slice ax1 x.k.length cx1] 24)).alloc (.cells #[.int .i64 a.k, .int .i64 a.c] 26)).alloc (.cells #[.int .i64 b.k, .int .i64 b.c] 26)) = W at *
  refine (szPg _ x _ _ (Px1.out.at HB.out) (by omega) (by omega) Rx.out).mono ?_
  rintro e w1 ⟨rfl, b9⟩
  replace E0 := hide ((b9.block _ (Array.getElem?_eq_some_iff.1 E0.out).1).trans E0.out)
  replace E1 := hide ((b9.block _ (Array.getElem?_eq_some_iff.1 E1.out).1).trans E1.out)
  replace E2 := hide ((b9.block _ (Array.getElem?_eq_some_iff.1 E2.out).1).trans E2.out)
  replace HB := hide (HB.out.trans (b9.mono HB.out.size))
  clear b9
  by_cases hmx : (1048576 : Int) < (pgW x : Int)
  · rw [szR_neg hmx]
    go_wp2
    go_ret
    exact ⟨rfl, HB.out⟩
  · skip
    rw [szR_pos hmx]
    have HGx := hide (pgG_of Rx.out (by omega))
    have hnx : ¬ (1048576 : Int) - (pgW x : Int) < 0 := by omega
    have hqx : (1048576 : Int) - (pgW x : Int) ≤ 1048576 := by omega
    generalize (1048576 : Int) - (pgW x : Int) = mx at *
    clear hmx
    go_upto_region 5 with fail
    have HCL : Hid (∀ w', Below w1.heap.size w1 w' → w'.cell? ⟨w.heap.size, 0, none⟩ = some (.slice ax1 x.k.length cx1) ∧ w'.cell? ⟨w.heap.size + 1, 0, none⟩ = some (.int .i64 a.k) ∧ w'.cell? ⟨w.heap.size + 1, 1, none⟩ = some (.int .i64 a.c) ∧ w'.cell? ⟨w.heap.size + 1 + 1, 0, none⟩ = some (.int .i64 b.k) ∧ w'.cell? ⟨w.heap.size + 1 + 1, 1, none⟩ = some (.int .i64 b.c)) := hide (fun w' hb => ⟨(box_of ((hb.block _ (Array.getElem?_eq_some_iff.1 E0.out).1).trans E0.out)).1 0 _ rfl, (box_of ((hb.block _ (Array.getElem?_eq_some_iff.1 E1.out).1).trans E1.out)).1 0 _ rfl, (box_of ((hb.block _ (Array.getElem?_eq_some_iff.1 E1.out).1).trans E1.out)).1 1 _ rfl, (box_of ((hb.block _ (Array.getElem?_eq_some_iff.1 E2.out).1).trans E2.out)).1 0 _ rfl, (box_of ((hb.block _ (Array.getElem?_eq_some_iff.1 E2.out).1).trans E2.out)).1 1 _ rfl⟩)
    have HD := hide (Below.refl w1.heap.size w1).drew
    go_cut [8] from 16 to 22 (fun s8 wq => s8 = .bool V0 ∧ Hid (Below w1.heap.size w1 wq))
    case first =>
      refine wp_region_held_drew (S := fun w' => w'.cell? ⟨w.heap.size, 0, none⟩ = some (.slice ax1 x.k.length cx1) ∧ w'.cell? ⟨w.heap.size + 1, 0, none⟩ = some (.int .i64 a.k) ∧ w'.cell? ⟨w.heap.size + 1, 1, none⟩ = some (.int .i64 a.c) ∧ w'.cell? ⟨w.heap.size + 1 + 1, 0, none⟩ = some (.int .i64 b.k) ∧ w'.cell? ⟨w.heap.size + 1 + 1, 1, none⟩ = some (.int .i64 b.c)) (by kernel_rfl) (HCL.out _ HD.out) (fun hHeld => ?_)
      have HW := HD
      clear HD
      generalize w1.drew = Z0 at *
      refine wpAnyH_take (i := 0) (v := .agg #[.slice ax1 x.k.length cx1]) rfl (by kernel_rfl) (by kernel_rfl) (by kernel_rfl) (fun _ _ _ h => h) (Or.inl ⟨by rfl, ?_⟩) (by assumption) ?_
      · intro w' hSw
        try dsimp only at hSw
        go_simp; try rfl
      simp only [List.getElem_toArray, List.getElem_cons_zero, Act.put, List.setIfInBounds_toArray, List.set_cons_zero, List.set_cons_succ]
      refine wpAnyH_take (i := 2) (v := .agg #[.int .i64 a.k, .int .i64 a.c]) rfl (by kernel_rfl) (by kernel_rfl) (by kernel_rfl) (fun _ _ _ h => h) (Or.inl ⟨by rfl, ?_⟩) (by assumption) ?_
      · intro w' hSw
        try dsimp only at hSw
        go_simp; try rfl
      simp only [List.getElem_toArray, List.getElem_cons_succ, List.getElem_cons_zero, Act.put, List.setIfInBounds_toArray, List.set_cons_zero, List.set_cons_succ]
      refine wpAnyH_take (i := 4) (v := .agg #[.int .i64 b.k, .int .i64 b.c]) rfl (by kernel_rfl) (by kernel_rfl) (by kernel_rfl) (fun _ _ _ h => h) (Or.inl ⟨by rfl, ?_⟩) (by assumption) ?_
      · intro w' hSw
        try dsimp only at hSw
        go_simp; try rfl
      simp only [List.getElem_toArray, List.getElem_cons_succ, List.getElem_cons_zero, Act.put, List.setIfInBounds_toArray, List.set_cons_zero, List.set_cons_succ]
      refine wpAnyH_ready (rs := [1]) (by kernel_rfl) (by simp) (AllReadyH.cons rfl (fun K hK => ?_) AllReadyH.nil)
      refine step_callW (some 17) (by kernel_rfl) (by kernel_rfl) 9 _ _ rfl #[.agg #[.slice ax1 x.k.length cx1]] (by kernel_rfl) (toPg _ x _ (Px1.out.at (HB.out.trans (HW.out.mono HB.out.size))) HGx.out) ?_
      rintro e Z1 ⟨n1_1, rfl, o9, b9⟩
      obtain ⟨p1_1, q1_1, f1_1, _⟩ := (pgD_own o9).shape
      subst f1_1
      have OH1 := hide o9
      clear o9
      unfold pgV
      replace HW := hide (HW.out.trans (b9.mono HW.out.size))
      clear b9
      refine ⟨_, rfl, ?_⟩
      refine hK.out _ _ (HCL.out _ HW.out) (fun hHeld => ?_)
      clear hK K
      simp only [Act.put, List.setIfInBounds_toArray, List.set_cons_zero, List.set_cons_succ]
      refine wpAnyH_ready (rs := [3]) (by kernel_rfl) (by simp) (AllReadyH.cons rfl (fun K hK => ?_) AllReadyH.nil)
      refine step_callW (some 19) (by kernel_rfl) (by kernel_rfl) 10 _ _ rfl #[.agg #[.int .i64 a.k, .int .i64 a.c]] (by kernel_rfl) (toTy _ a) ?_
      rintro e Z2 ⟨rfl, b9⟩
      unfold tyV
      replace OH1 := hide (OH1.out.below b9)
      replace HW := hide (HW.out.trans (b9.mono HW.out.size))
      clear b9
      refine ⟨_, rfl, ?_⟩
      refine hK.out _ _ (HCL.out _ HW.out) (fun hHeld => ?_)
      clear hK K
      simp only [Act.put, List.setIfInBounds_toArray, List.set_cons_zero, List.set_cons_succ]
      refine wpAnyH_ready (rs := [5]) (by kernel_rfl) (by simp) (AllReadyH.cons rfl (fun K hK => ?_) AllReadyH.nil)
      refine step_callW (some 21) (by kernel_rfl) (by kernel_rfl) 10 _ _ rfl #[.agg #[.int .i64 b.k, .int .i64 b.c]] (by kernel_rfl) (toTy _ b) ?_
      rintro e Z3 ⟨rfl, b9⟩
      unfold tyV
      replace OH1 := hide (OH1.out.below b9)
      replace HW := hide (HW.out.trans (b9.mono HW.out.size))
      clear b9
      refine ⟨_, rfl, ?_⟩
      refine hK.out _ _ (HCL.out _ HW.out) (fun hHeld => ?_)
      clear hK K
      simp only [Act.put, List.setIfInBounds_toArray, List.set_cons_zero, List.set_cons_succ]
      refine wpAnyH_ready (rs := [6]) (by kernel_rfl) (by simp) (AllReadyH.cons rfl (fun K hK => ?_) AllReadyH.nil)
      refine step_callW (some 22) (by kernel_rfl) (by kernel_rfl) 16 _ _ rfl #[.agg #[.slice p1_1 x.k.length q1_1], .agg #[.int .i64 a.k, .int .i64 a.c], .agg #[.int .i64 b.k, .int .i64 b.c]] (by kernel_rfl) (fitsS _ x _ a b (pgD_own OH1.out) HGx.out.k) ?_
      rintro e Z4 ⟨rfl, b9⟩
      rw [HV0.out]
      replace OH1 := hide (OH1.out.below b9)
      replace HW := hide (HW.out.trans (b9.mono HW.out.size))
      clear b9
      refine ⟨_, rfl, ?_⟩
      refine hK.out _ _ (HCL.out _ HW.out) (fun hHeld => ?_)
      clear hK K
      simp only [Act.put, List.setIfInBounds_toArray, List.set_cons_zero, List.set_cons_succ]
      refine wpAnyH_take (i := 7) (v := ?_) rfl (by kernel_rfl) (by kernel_rfl) (by kernel_rfl) (fun _ _ _ h => h) (Or.inl ⟨by rfl, ?_⟩) (by assumption) ?_
      rotate_left
      · intro w' hSw
        try dsimp only at hSw
        go_simp; try rfl
      simp only [List.getElem_toArray, List.getElem_cons_succ, List.getElem_cons_zero, Act.put, List.setIfInBounds_toArray, List.set_cons_zero, List.set_cons_succ]
      refine wpAnyH_done (by kernel_rfl) ?_ _
      go_wp2_with fail
      go_meet
      exact ⟨rfl, HW⟩
    case rest =>
    obtain ⟨rfl, HQ9⟩ := hcut
    have b9 := HQ9.out
    clear HQ9 HCL HD
    replace E0 := hide ((b9.block _ (Array.getElem?_eq_some_iff.1 E0.out).1).trans E0.out)
    replace E1 := hide ((b9.block _ (Array.getElem?_eq_some_iff.1 E1.out).1).trans E1.out)
    replace E2 := hide ((b9.block _ (Array.getElem?_eq_some_iff.1 E2.out).1).trans E2.out)
    replace HB := hide (HB.out.trans (b9.mono HB.out.size))
    clear b9
    generalize wc = w2 at *
    have y0_0 := (box_of E0.out).1 0 _ rfl
    go_wp2_with fail
    clear y0_0
    refine (toPg _ x _ (Px1.out.at HB.out) HGx.out).mono ?_
    rintro e w3 ⟨n3_1, rfl, o9, b9⟩
    obtain ⟨p3_1, q3_1, f3_1, _⟩ := (pgD_own o9).shape
    subst f3_1
    have O3 := hide o9
    clear o9
    replace E0 := hide ((b9.block _ (Array.getElem?_eq_some_iff.1 E0.out).1).trans E0.out)
    replace E1 := hide ((b9.block _ (Array.getElem?_eq_some_iff.1 E1.out).1).trans E1.out)
    replace E2 := hide ((b9.block _ (Array.getElem?_eq_some_iff.1 E2.out).1).trans E2.out)
    replace HB := hide (HB.out.trans (b9.mono HB.out.size))
    clear b9
    unfold pgV
    have bD := (Below.refl w3.heap.size w3).alloc (Nat.le_refl _) (.cells #[.slice p3_1 x.k.length q3_1] 31)
    have X9 := hide (heap_alloc_new w3 (.cells #[.slice p3_1 x.k.length q3_1] 31))
    replace E0 := hide ((bD.block _ (Array.getElem?_eq_some_iff.1 E0.out).1).trans E0.out)
    replace E1 := hide ((bD.block _ (Array.getElem?_eq_some_iff.1 E1.out).1).trans E1.out)
    replace E2 := hide ((bD.block _ (Array.getElem?_eq_some_iff.1 E2.out).1).trans E2.out)
    replace O3 := hide (O3.out.below bD)
    replace HB := hide (HB.out.trans (bD.mono HB.out.size))
    clear bD
    go_upto_region 7 with fail
    generalize w3.alloc (.cells #[.slice p3_1 x.k.length q3_1] 31) = w4 at *
    have HCL : Hid (∀ w', Below w4.heap.size w4 w' → w'.cell? ⟨w3.heap.size, 0, none⟩ = some (.slice p3_1 x.k.length q3_1) ∧ w'.cell? ⟨w.heap.size + 1, 0, none⟩ = some (.int .i64 a.k) ∧ w'.cell? ⟨w.heap.size + 1, 1, none⟩ = some (.int .i64 a.c) ∧ w'.cell? ⟨w.heap.size + 1 + 1, 0, none⟩ = some (.int .i64 b.k) ∧ w'.cell? ⟨w.heap.size + 1 + 1, 1, none⟩ = some (.int .i64 b.c)) := hide (fun w' hb => ⟨(box_of ((hb.block _ (Array.getElem?_eq_some_iff.1 X9.out).1).trans X9.out)).1 0 _ rfl, (box_of ((hb.block _ (Array.getElem?_eq_some_iff.1 E1.out).1).trans E1.out)).1 0 _ rfl, (box_of ((hb.block _ (Array.getElem?_eq_some_iff.1 E1.out).1).trans E1.out)).1 1 _ rfl, (box_of ((hb.block _ (Array.getElem?_eq_some_iff.1 E2.out).1).trans E2.out)).1 0 _ rfl, (box_of ((hb.block _ (Array.getElem?_eq_some_iff.1 E2.out).1).trans E2.out)).1 1 _ rfl⟩)
    have HD := hide (Below.refl w4.heap.size w4).drew
    go_cut [10] from 25 to 30 (fun s10 wq => s10 = .bool V0 ∧ Hid (Below w4.heap.size w4 wq))
    case first =>
      refine wp_region_held_drew (S := fun w' => w'.cell? ⟨w3.heap.size, 0, none⟩ = some (.slice p3_1 x.k.length q3_1) ∧ w'.cell? ⟨w.heap.size + 1, 0, none⟩ = some (.int .i64 a.k) ∧ w'.cell? ⟨w.heap.size + 1, 1, none⟩ = some (.int .i64 a.c) ∧ w'.cell? ⟨w.heap.size + 1 + 1, 0, none⟩ = some (.int .i64 b.k) ∧ w'.cell? ⟨w.heap.size + 1 + 1, 1, none⟩ = some (.int .i64 b.c)) (by kernel_rfl) (HCL.out _ HD.out) (fun hHeld => ?_)
      have HW := HD
      clear HD
      generalize w4.drew = Z0 at *
      refine wpAnyH_take (i := 0) (v := .agg #[.slice p3_1 x.k.length q3_1]) rfl (by kernel_rfl) (by kernel_rfl) (by kernel_rfl) (fun _ _ _ h => h) (Or.inl ⟨by rfl, ?_⟩) (by assumption) ?_
      · intro w' hSw
        try dsimp only at hSw
        go_simp; try rfl
      simp only [List.getElem_toArray, List.getElem_cons_zero, Act.put, List.setIfInBounds_toArray, List.set_cons_zero, List.set_cons_succ]
      refine wpAnyH_take (i := 1) (v := .agg #[.int .i64 a.k, .int .i64 a.c]) rfl (by kernel_rfl) (by kernel_rfl) (by kernel_rfl) (fun _ _ _ h => h) (Or.inl ⟨by rfl, ?_⟩) (by assumption) ?_
      · intro w' hSw
        try dsimp only at hSw
        go_simp; try rfl
      simp only [List.getElem_toArray, List.getElem_cons_succ, List.getElem_cons_zero, Act.put, List.setIfInBounds_toArray, List.set_cons_zero, List.set_cons_succ]
      refine wpAnyH_take (i := 3) (v := .agg #[.int .i64 b.k, .int .i64 b.c]) rfl (by kernel_rfl) (by kernel_rfl) (by kernel_rfl) (fun _ _ _ h => h) (Or.inl ⟨by rfl, ?_⟩) (by assumption) ?_
      · intro w' hSw
        try dsimp only at hSw
        go_simp; try rfl
      simp only [List.getElem_toArray, List.getElem_cons_succ, List.getElem_cons_zero, Act.put, List.setIfInBounds_toArray, List.set_cons_zero, List.set_cons_succ]
      refine wpAnyH_ready (rs := [2]) (by kernel_rfl) (by simp) (AllReadyH.cons rfl (fun K hK => ?_) AllReadyH.nil)
      refine step_callW (some 27) (by kernel_rfl) (by kernel_rfl) 10 _ _ rfl #[.agg #[.int .i64 a.k, .int .i64 a.c]] (by kernel_rfl) (toTy _ a) ?_
      rintro e Z1 ⟨rfl, b9⟩
      unfold tyV
      replace HW := hide (HW.out.trans (b9.mono HW.out.size))
      clear b9
      refine ⟨_, rfl, ?_⟩
      refine hK.out _ _ (HCL.out _ HW.out) (fun hHeld => ?_)
      clear hK K
      simp only [Act.put, List.setIfInBounds_toArray, List.set_cons_zero, List.set_cons_succ]
      refine wpAnyH_ready (rs := [4]) (by kernel_rfl) (by simp) (AllReadyH.cons rfl (fun K hK => ?_) AllReadyH.nil)
      refine step_callW (some 29) (by kernel_rfl) (by kernel_rfl) 10 _ _ rfl #[.agg #[.int .i64 b.k, .int .i64 b.c]] (by kernel_rfl) (toTy _ b) ?_
      rintro e Z2 ⟨rfl, b9⟩
      unfold tyV
      replace HW := hide (HW.out.trans (b9.mono HW.out.size))
      clear b9
      refine ⟨_, rfl, ?_⟩
      refine hK.out _ _ (HCL.out _ HW.out) (fun hHeld => ?_)
      clear hK K
      simp only [Act.put, List.setIfInBounds_toArray, List.set_cons_zero, List.set_cons_succ]
      refine wpAnyH_ready (rs := [5]) (by kernel_rfl) (by simp) (AllReadyH.cons rfl (fun K hK => ?_) AllReadyH.nil)
      refine step_callW (some 30) (by kernel_rfl) (by kernel_rfl) 17 _ _ rfl #[.agg #[.slice p3_1 x.k.length q3_1], .agg #[.int .i64 a.k, .int .i64 a.c], .agg #[.int .i64 b.k, .int .i64 b.c]] (by kernel_rfl) (fitsI _ x _ a b (pgD_own (O3.out.below HW.out)) HGx.out.k) ?_
      rintro e Z3 ⟨rfl, b9⟩
      rw [HV0.out]
      replace HW := hide (HW.out.trans (b9.mono HW.out.size))
      clear b9
      refine ⟨_, rfl, ?_⟩
      refine hK.out _ _ (HCL.out _ HW.out) (fun hHeld => ?_)
      clear hK K
      simp only [Act.put, List.setIfInBounds_toArray, List.set_cons_zero, List.set_cons_succ]
      refine wpAnyH_take (i := 6) (v := ?_) rfl (by kernel_rfl) (by kernel_rfl) (by kernel_rfl) (fun _ _ _ h => h) (Or.inl ⟨by rfl, ?_⟩) (by assumption) ?_
      rotate_left
      · intro w' hSw
        try dsimp only at hSw
        go_simp; try rfl
      simp only [List.getElem_toArray, List.getElem_cons_succ, List.getElem_cons_zero, Act.put, List.setIfInBounds_toArray, List.set_cons_zero, List.set_cons_succ]
      refine wpAnyH_done (by kernel_rfl) ?_ _
      go_wp2_with fail
      go_meet
      exact ⟨rfl, HW⟩
    case rest =>
    obtain ⟨rfl, HQ9⟩ := hcut
    have b9 := HQ9.out
    clear HQ9 HCL HD
    replace E0 := hide ((b9.block _ (Array.getElem?_eq_some_iff.1 E0.out).1).trans E0.out)
    replace E1 := hide ((b9.block _ (Array.getElem?_eq_some_iff.1 E1.out).1).trans E1.out)
    replace E2 := hide ((b9.block _ (Array.getElem?_eq_some_iff.1 E2.out).1).trans E2.out)
    replace X9 := hide ((b9.block _ (Array.getElem?_eq_some_iff.1 X9.out).1).trans X9.out)
    replace O3 := hide (O3.out.below b9)
    replace HB := hide (HB.out.trans (b9.mono HB.out.size))
    clear b9
    generalize wc = w5 at *
    go_upto_region 10 with fail
    have HCL : Hid (∀ w', Below w5.heap.size w5 w' → w'.cell? ⟨w3.heap.size, 0, none⟩ = some (.slice p3_1 x.k.length q3_1) ∧ w'.cell? ⟨w.heap.size, 0, none⟩ = some (.slice ax1 x.k.length cx1)) := hide (fun w' hb => ⟨(box_of ((hb.block _ (Array.getElem?_eq_some_iff.1 X9.out).1).trans X9.out)).1 0 _ rfl, (box_of ((hb.block _ (Array.getElem?_eq_some_iff.1 E0.out).1).trans E0.out)).1 0 _ rfl⟩)
    have HD := hide (Below.refl w5.heap.size w5).drew
    go_cut [38] from 34 to 38 (fun s wq => s = .bool false ∧ Hid (Below w5.heap.size w5 wq))
    case first =>
      refine wp_region_held_drew (S := fun w' => w'.cell? ⟨w3.heap.size, 0, none⟩ = some (.slice p3_1 x.k.length q3_1) ∧ w'.cell? ⟨w.heap.size, 0, none⟩ = some (.slice ax1 x.k.length cx1)) (by kernel_rfl) (HCL.out _ HD.out) (fun hHeld => ?_)
      have HW := HD
      clear HD
      generalize w5.drew = Z0 at *
      refine wpAnyH_take (i := 0) (v := .agg #[.slice p3_1 x.k.length q3_1]) rfl (by kernel_rfl) (by kernel_rfl) (by kernel_rfl) (fun _ _ _ h => h) (Or.inl ⟨by rfl, ?_⟩) (by assumption) ?_
      · intro w' hSw
        try dsimp only at hSw
        go_simp; try rfl
      simp only [List.getElem_toArray, List.getElem_cons_zero, Act.put, List.setIfInBounds_toArray, List.set_cons_zero, List.set_cons_succ]
      refine wpAnyH_take (i := 1) (v := .agg #[.slice ax1 x.k.length cx1]) rfl (by kernel_rfl) (by kernel_rfl) (by kernel_rfl) (fun _ _ _ h => h) (Or.inl ⟨by rfl, ?_⟩) (by assumption) ?_
      · intro w' hSw
        try dsimp only at hSw
        go_simp; try rfl
      simp only [List.getElem_toArray, List.getElem_cons_succ, List.getElem_cons_zero, Act.put, List.setIfInBounds_toArray, List.set_cons_zero, List.set_cons_succ]
      refine wpAnyH_ready (rs := [2]) (by kernel_rfl) (by simp) (AllReadyH.cons rfl (fun K hK => ?_) AllReadyH.nil)
      refine step_callW (some 36) (by kernel_rfl) (by kernel_rfl) 9 _ _ rfl #[.agg #[.slice ax1 x.k.length cx1]] (by kernel_rfl) (toPg _ x _ (Px1.out.at (HB.out.trans (HW.out.mono HB.out.size))) HGx.out) ?_
      rintro e Z1 ⟨n1_1, rfl, o9, b9⟩
      obtain ⟨p1_1, q1_1, f1_1, _⟩ := (pgD_own o9).shape
      subst f1_1
      have OH1 := hide o9
      clear o9
      unfold pgV
      replace HW := hide (HW.out.trans (b9.mono HW.out.size))
      clear b9
      refine ⟨_, rfl, ?_⟩
      refine hK.out _ _ (HCL.out _ HW.out) (fun hHeld => ?_)
      clear hK K
      simp only [Act.put, List.setIfInBounds_toArray, List.set_cons_zero, List.set_cons_succ]
      refine wpAnyH_ready (rs := [3]) (by kernel_rfl) (by simp) (AllReadyH.cons rfl (fun K hK => ?_) AllReadyH.nil)
      refine step_callW (some 37) (by kernel_rfl) (by kernel_rfl) 12 _ _ rfl #[.agg #[.slice p3_1 x.k.length q3_1], .agg #[.slice p1_1 x.k.length q1_1]] (by kernel_rfl) (eqPg _ x _ _ (pgD_own (O3.out.below HW.out)) (pgD_own OH1.out) HGx.out) ?_
      rintro e Z2 ⟨rfl, b9⟩
      replace OH1 := hide (OH1.out.below b9)
      replace HW := hide (HW.out.trans (b9.mono HW.out.size))
      clear b9
      refine ⟨_, rfl, ?_⟩
      refine hK.out _ _ (HCL.out _ HW.out) (fun hHeld => ?_)
      clear hK K
      simp only [Act.put, List.setIfInBounds_toArray, List.set_cons_zero, List.set_cons_succ]
      refine wpAnyH_take (i := 4) (v := ?_) rfl (by kernel_rfl) (by kernel_rfl) (by kernel_rfl) (fun _ _ _ h => h) (Or.inl ⟨by rfl, ?_⟩) (by assumption) ?_
      rotate_left
      · intro w' hSw
        try dsimp only at hSw
        go_simp; try rfl
      simp only [List.getElem_toArray, List.getElem_cons_succ, List.getElem_cons_zero, Act.put, List.setIfInBounds_toArray, List.set_cons_zero, List.set_cons_succ]
      refine wpAnyH_done (by kernel_rfl) ?_ _
      go_wp2_with fail
      go_meet
      exact ⟨rfl, HW⟩
    case rest =>
    obtain ⟨rfl, HQ9⟩ := hcut
    have b9 := HQ9.out
    clear HQ9 HCL HD
    replace E0 := hide ((b9.block _ (Array.getElem?_eq_some_iff.1 E0.out).1).trans E0.out)
    replace E1 := hide ((b9.block _ (Array.getElem?_eq_some_iff.1 E1.out).1).trans E1.out)
    replace E2 := hide ((b9.block _ (Array.getElem?_eq_some_iff.1 E2.out).1).trans E2.out)
    replace X9 := hide ((b9.block _ (Array.getElem?_eq_some_iff.1 X9.out).1).trans X9.out)
    replace O3 := hide (O3.out.below b9)
    replace HB := hide (HB.out.trans (b9.mono HB.out.size))
    clear b9
    generalize wc = w6 at *
    go_wp2
    go_ret
    exact ⟨rfl, HB.out⟩

set_option maxRecDepth 100000 in
theorem lifted (os : Os) (started : os.Started) (H : Type) (enc : TypeId × Value → H) :
    ReturnsInHanded {} Try.checked os 5 .any (Rows.fnExactFitsSpec.pre6 enc Try.prog Try.f5 Rows.fnExactFitsRow.domain false) (Rows.fnExactFitsSpec.post enc Try.prog Try.f5 false true false false) := by
  refine returnsInHanded_of_change (C := Try.checked) own started (by kernel_rfl) Try.func5
    (ChangeSpec.witness6 (enc := enc) (C := Try.checked) false ⟨#[], #[.agg #[.slice none 0 0], .agg #[.int .i64 0, .int .i64 0], .agg #[.int .i64 0, .int .i64 0]], []⟩ 8 (by kernel_rfl) (by kernel_rfl) (by kernel_rfl) (by kernel_rfl)) ?_
  intro W base args ds gs before hval0 hW hcnd _
  have hval : ∀ (j : Nat) t v, Try.f5.params[j]? = some t → args[j]? = some v → Value.okWide Try.prog W .any base t v := hval0
  have hW' := hW
  obtain ⟨p, q, hA0, hV, rfl, hfz, hnd⟩ := hW
  have hA : DataW.TrodAll enc Try.prog W 0 (fun _ => true) true Try.f5.params.toList args.toList ds p := hA0
  rw [Try.params5] at hA hval
  obtain ⟨v0, vs0, d0, ds0, p0, q0, hargs, rfl, rfl, h0, r0⟩ := trodAll_cons hA
  obtain ⟨v1, vs1, d1, ds1, p1, q1, rfl, rfl, rfl, h1, r1⟩ := trodAll_cons r0
  obtain ⟨v2, vs2, d2, ds2, p2, q2, rfl, rfl, rfl, h2, r2⟩ := trodAll_cons r1
  obtain ⟨rfl, rfl, rfl⟩ := trodAll_nil r2
  obtain rfl : args = #[v0, v1, v2] := by cases args; simp_all
  obtain ⟨rfl, rfl⟩ := trodVars_none hV
  have k0 := h0
  have lt0 : ∀ x ∈ p0, x.block < W.heap.size := by obtain ⟨m, hm⟩ := k0; exact DataW.trod_lt m _ _ _ hm
  have w0 := openPg (hval 0 24 v0 rfl rfl) h0
  have k1 := h1
  have lt1 : ∀ x ∈ p1, x.block < W.heap.size := by obtain ⟨m, hm⟩ := k1; exact DataW.trod_lt m _ _ _ hm
  have w1 := openTy (hval 1 26 v1 rfl rfl) h1
  have k2 := h2
  have lt2 : ∀ x ∈ p2, x.block < W.heap.size := by obtain ⟨m, hm⟩ := k2; exact DataW.trod_lt m _ _ _ hm
  have w2 := openTy (hval 2 26 v2 rfl rfl) h2
  clear hA0 hval0
  refine (walk v0 v1 v2 W w0 w1 w2).mono fun e W' ⟨he, bel⟩ => ?_
  subst he
  exact ⟨_, rfl, _, _, _, [], _, [], hW', trodAll_mk1 (shut_bool Try.underlying4 _), (trodAll_cons_mk (Below.trod laidOut (by kernel_rfl) (of_decide_eq_true (by kernel_rfl)) k0 bel lt0) (trodAll_cons_mk (Below.trod laidOut (by kernel_rfl) (of_decide_eq_true (by kernel_rfl)) k1 bel lt1) (trodAll_cons_mk (Below.trod laidOut (by kernel_rfl) (of_decide_eq_true (by kernel_rfl)) k2 bel lt2) trodAll_mk0))), rfl, bel.frame _, fun h => by cases h⟩

theorem over : Rows.fnExactFitsRow.holds Try.pinned (OpenSpec.ofChange Rows.fnExactFitsSpec) :=
  OpenClaim.holds_of_wide 5 Try.f5 rfl rfl rfl rfl rfl rfl rfl ⟨rfl, rfl, rfl, rfl, rfl⟩ rfl rfl rfl rfl rfl (by kernel_rfl) Try.func5 (by kernel_rfl)
    (of_decide_eq_true (by kernel_rfl)) (by unfold Func.isWrapper; first | (rw [if_pos (by decide +kernel)]; kernel_rfl) | (rw [if_neg (by decide +kernel)]; exact ⟨rfl, rfl⟩))
    (fun os started H enc _ => lifted os started H enc)

end Go.Proofs.Ytcocipbcoplmdaa.fnExactFits
namespace Go.Proofs.Ytcocipbcoplmdaa
theorem fnExactFits_holds : Rows.FnExactFitsSaid := fnExactFits.over
#print axioms fnExactFits_holds
end Go.Proofs.Ytcocipbcoplmdaa
