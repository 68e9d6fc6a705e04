/-
  Proved: at every program and every argument the program's Meet answers as its model does, writes into no argument, and its answer owns its memory (the law FnExactMeet returns true), without any condition.
-/
import Derived.Test.YtobomcfiincpoaaRows
import Derived.Test.YtobomcfiincpoaaPrgLaw
import Derived.Test.YtobomcfiincpoaaPrgMk
import Derived.Test.YtobomcfiincpoaaTypSz
import Derived.Test.YtobomcfiincpoaaTypEq
import Derived.Test.YtobomcfiincpoaaTypMk
import Derived.Test.YtobomcfiincpoaaFloT
import Derived.Test.YtobomcfiincpoaaFloJ
import Derived.Test.YtobomcfiincpoaaStepW
import Derived.Deep.CutRange
import Derived.Deep.RegionWith
import Derived.Deep.RegionHeld
import Derived.BigRegion
import Derived.WalkKit
import Derived.ProofKit
import Derived.OpenShut
import Derived.ShutString
import Derived.ChangeOld
import Derived.Below
namespace Go.Proofs.Ytobomcfiincpoaa.fnExactMeet
open Go.ChangeShapes Go.WideShapes Go.ChangeAt Go.RowKit
open Go.ChangeMaps (open_string shut_string)
set_option linter.unusedVariables false

theorem own : ownKnob Try.prog.godebug = none := by kernel_rfl
theorem laidOut : laidOutB Try.prog = true := by kernel_rfl
set_option maxRecDepth 100000 in
set_option maxHeartbeats 8000000 in
theorem walk (v0 : Value) (v1 : Value) (v2 : Value) (w : World) (h0 : IsPg w v0) (h1 : IsFl w v1) (h2 : IsFl w v2) :
    Calls Try.prog 4 #[v0, v1, v2] w fun e w' => e = .returned (.bool true) ∧ Below w.heap.size w w' := by
  obtain ⟨x, ux1, rfl, gx1, rx⟩ := h0
  obtain ⟨ax1, cx1, ex1, _⟩ := gx1.shape
  subst ex1
  have Px1 := hide gx1
  have Rx := hide rx
  clear rx gx1
  obtain ⟨a, ua1, ua2, rfl, ga1, ga2, ra⟩ := h1
  obtain ⟨aa1, ca1, ea1, _⟩ := ga1.shape
  obtain ⟨aa2, ca2, ea2, _⟩ := ga2.shape
  subst ea1 ea2
  have Pa1 := hide ga1
  have Pa2 := hide ga2
  have Ra := hide ra
  clear ra ga1 ga2
  obtain ⟨b, ub1, ub2, rfl, gb1, gb2, rb⟩ := h2
  obtain ⟨ab1, cb1, eb1, _⟩ := gb1.shape
  obtain ⟨ab2, cb2, eb2, _⟩ := gb2.shape
  subst eb1 eb2
  have Pb1 := hide gb1
  have Pb2 := hide gb2
  have Rb := hide rb
  clear rb gb1 gb2
  have bA := ((((Below.refl w.heap.size w).alloc (Nat.le_refl _) (.cells #[.slice ax1 x.k.length cx1] 24)).alloc (by simp) (.cells #[.slice aa1 a.lo.length ca1, .slice aa2 a.st.length ca2, .int .i64 a.h] 27)).alloc (by simp <;> omega) (.cells #[.slice ab1 b.lo.length cb1, .slice ab2 b.st.length cb2, .int .i64 b.h] 27))
  have G0 := heap_alloc_new w (.cells #[.slice ax1 x.k.length cx1] 24)
  have G1 := heap_alloc_new (w.alloc (.cells #[.slice ax1 x.k.length cx1] 24)) (.cells #[.slice aa1 a.lo.length ca1, .slice aa2 a.st.length ca2, .int .i64 a.h] 27)
  have G2 := heap_alloc_new ((w.alloc (.cells #[.slice ax1 x.k.length cx1] 24)).alloc (.cells #[.slice aa1 a.lo.length ca1, .slice aa2 a.st.length ca2, .int .i64 a.h] 27)) (.cells #[.slice ab1 b.lo.length cb1, .slice ab2 b.st.length cb2, .int .i64 b.h] 27)
  simp only [World.size_alloc] at G1 G2
  have E0 := hide ((Below.heap_alloc _ (.cells #[.slice ab1 b.lo.length cb1, .slice ab2 b.st.length cb2, .int .i64 b.h] 27) _ (by simp <;> omega)).trans ((Below.heap_alloc _ (.cells #[.slice aa1 a.lo.length ca1, .slice aa2 a.st.length ca2, .int .i64 a.h] 27) _ (by simp)).trans (G0)))
  have E1 := hide ((Below.heap_alloc _ (.cells #[.slice ab1 b.lo.length cb1, .slice ab2 b.st.length cb2, .int .i64 b.h] 27) _ (by simp)).trans (G1))
  have E2 := hide (G2)
  have HB := hide bA
  clear bA G0 G1 G2
  obtain ⟨V0, hV0⟩ : ∃ V, meetF x.k a b = V := ⟨_, rfl⟩
  have HV0 := hide hV0
  clear hV0
  obtain ⟨V1, hV1⟩ : ∃ V, meetC a b = V := ⟨_, rfl⟩
  have HV1 := hide hV1
  clear hV1
  have hne1 : (V1 != V1) = false := by simp
  unfold pgV flV
  go_enter Try.func4, Try.ntmps4
  go_wp2_with fail
  generalize (((w.alloc (.cells #[.slice ax1 x.k.length cx1] 24)).alloc (.cells #[.slice aa1 a.lo.length ca1, .slice aa2 a.st.length ca2, .int .i64 a.h] 27)).alloc (.cells #[.slice ab1 b.lo.length cb1, .slice ab2 b.st.length cb2, .int .i64 b.h] 27)) = W at *
  refine (szPg _ x _ _ (Px1.out.at HB.out) (by omega) (by omega) Rx.out).mono ?_
  rintro e w1 ⟨rfl, b9⟩
  replace E0 := hide ((b9.block _ (Array.getElem?_eq_some_iff.1 E0.out).1).trans E0.out)
  replace E1 := hide ((b9.block _ (Array.getElem?_eq_some_iff.1 E1.out).1).trans E1.out)
  replace E2 := hide ((b9.block _ (Array.getElem?_eq_some_iff.1 E2.out).1).trans E2.out)
  have z1 := b9.size
  replace HB := hide (HB.out.trans (b9.mono HB.out.size))
  clear b9
  by_cases hmx : (1048576 : Int) < (pgW x : Int)
  · rw [szR_neg hmx]
    go_wp2
    go_ret
    exact ⟨rfl, HB.out⟩
  · skip
    rw [szR_pos hmx]
    have hwx : pgW x ≤ 1048576 := by omega
    have HGx := hide (pgG_of Rx.out (by omega))
    have hnx : ¬ (1048576 : Int) - (pgW x : Int) < 0 := by omega
    have hqx : (1048576 : Int) - (pgW x : Int) ≤ 1048576 := by omega
    generalize (1048576 : Int) - (pgW x : Int) = mx at *
    clear hmx
    have y0_0 := (box_of E1.out).1 0 _ rfl
    have y0_1 := (box_of E1.out).1 1 _ rfl
    have y0_2 := (box_of E1.out).1 2 _ rfl
    go_wp2_with fail
    clear y0_0 y0_1 y0_2
    refine (szFl _ a _ _ _ (Pa1.out.at HB.out) (Pa2.out.at HB.out) (by omega) (by omega) Ra.out).mono ?_
    rintro e w2 ⟨rfl, b9⟩
    replace E0 := hide ((b9.block _ (Array.getElem?_eq_some_iff.1 E0.out).1).trans E0.out)
    replace E1 := hide ((b9.block _ (Array.getElem?_eq_some_iff.1 E1.out).1).trans E1.out)
    replace E2 := hide ((b9.block _ (Array.getElem?_eq_some_iff.1 E2.out).1).trans E2.out)
    have z2 := b9.size
    replace HB := hide (HB.out.trans (b9.mono HB.out.size))
    clear b9
    by_cases hma : (mx : Int) < (flW a : Int)
    · rw [szR_neg hma]
      go_wp2
      go_ret
      exact ⟨rfl, HB.out⟩
    · skip
      rw [szR_pos hma]
      have hwa : flW a ≤ 1048576 := by omega
      have HGa := hide (flG_of Ra.out (by omega))
      have hna : ¬ (mx : Int) - (flW a : Int) < 0 := by omega
      have hqa : (mx : Int) - (flW a : Int) ≤ 1048576 := by omega
      generalize (mx : Int) - (flW a : Int) = ma at *
      clear hma
      have y0_0 := (box_of E2.out).1 0 _ rfl
      have y0_1 := (box_of E2.out).1 1 _ rfl
      have y0_2 := (box_of E2.out).1 2 _ rfl
      go_wp2_with fail
      clear y0_0 y0_1 y0_2
      refine (szFl _ b _ _ _ (Pb1.out.at HB.out) (Pb2.out.at HB.out) (by omega) (by omega) Rb.out).mono ?_
      rintro e w3 ⟨rfl, b9⟩
      replace E0 := hide ((b9.block _ (Array.getElem?_eq_some_iff.1 E0.out).1).trans E0.out)
      replace E1 := hide ((b9.block _ (Array.getElem?_eq_some_iff.1 E1.out).1).trans E1.out)
      replace E2 := hide ((b9.block _ (Array.getElem?_eq_some_iff.1 E2.out).1).trans E2.out)
      have z3 := b9.size
      replace HB := hide (HB.out.trans (b9.mono HB.out.size))
      clear b9
      by_cases hmb : (ma : Int) < (flW b : Int)
      · rw [szR_neg hmb]
        go_wp2
        go_ret
        exact ⟨rfl, HB.out⟩
      · skip
        rw [szR_pos hmb]
        have hwb : flW b ≤ 1048576 := by omega
        have HGb := hide (flG_of Rb.out (by omega))
        have hnb : ¬ (ma : Int) - (flW b : Int) < 0 := by omega
        have hqb : (ma : Int) - (flW b : Int) ≤ 1048576 := by omega
        generalize (ma : Int) - (flW b : Int) = mb at *
        clear hmb
        have HGV0 := hide (HV0.out ▸ meetF_ok HGx.out.k.1 HGa.out HGb.out)
        have hcV0 : flCto V0 ≤ 90000000 := by
          have h1 := cntTys_le V0.lo
          have h2 := cntTys_le V0.st
          have h3 := HGV0.out.lo.1
          have h4 := HGV0.out.st.1
          unfold tysW at h1 h2
          unfold flCto
          omega
        have hz0 : w.heap.size + 3 ≤ w3.heap.size := by
          have hh := (Array.getElem?_eq_some_iff.1 E2.out).1
          omega
        go_upto_region 11 with fail
        have HCL : Hid (∀ w', Below w3.heap.size w3 w' → w'.cell? ⟨w.heap.size, 0, none⟩ = some (.slice ax1 x.k.length cx1) ∧ w'.cell? ⟨w.heap.size + 1, 0, none⟩ = some (.slice aa1 a.lo.length ca1) ∧ w'.cell? ⟨w.heap.size + 1, 1, none⟩ = some (.slice aa2 a.st.length ca2) ∧ w'.cell? ⟨w.heap.size + 1, 2, none⟩ = some (.int .i64 a.h) ∧ w'.cell? ⟨w.heap.size + 1 + 1, 0, none⟩ = some (.slice ab1 b.lo.length cb1) ∧ w'.cell? ⟨w.heap.size + 1 + 1, 1, none⟩ = some (.slice ab2 b.st.length cb2) ∧ w'.cell? ⟨w.heap.size + 1 + 1, 2, none⟩ = some (.int .i64 b.h)) := hide (fun w' hb => ⟨(box_of ((hb.block _ (Array.getElem?_eq_some_iff.1 E0.out).1).trans E0.out)).1 0 _ rfl, (box_of ((hb.block _ (Array.getElem?_eq_some_iff.1 E1.out).1).trans E1.out)).1 0 _ rfl, (box_of ((hb.block _ (Array.getElem?_eq_some_iff.1 E1.out).1).trans E1.out)).1 1 _ rfl, (box_of ((hb.block _ (Array.getElem?_eq_some_iff.1 E1.out).1).trans E1.out)).1 2 _ rfl, (box_of ((hb.block _ (Array.getElem?_eq_some_iff.1 E2.out).1).trans E2.out)).1 0 _ rfl, (box_of ((hb.block _ (Array.getElem?_eq_some_iff.1 E2.out).1).trans E2.out)).1 1 _ rfl, (box_of ((hb.block _ (Array.getElem?_eq_some_iff.1 E2.out).1).trans E2.out)).1 2 _ rfl⟩)
        have HD := hide (Below.refl w3.heap.size w3).drew
        go_cut [8, 9] from 35 to 44 (fun s8 s9 wq => ∃ g8 : Nat, ∃ (a8_1 : Option Addr) (k8_1 : Nat), ∃ (a8_2 : Option Addr) (k8_2 : Nat), ∃ l8 h8 : Nat, s8 = .pointer (some ⟨g8, 0, none⟩) ∧ s9 = .int .i64 V1 ∧ Hid (wq.heap[g8]? = some (.cells #[.slice a8_1 V0.lo.length k8_1, .slice a8_2 V0.st.length k8_2, .int .i64 V0.h] 37 (0, 0))) ∧ Hid (OwnDL wq l8 h8 (flD V0) [.slice a8_1 V0.lo.length k8_1, .slice a8_2 V0.st.length k8_2, .int .i64 V0.h]) ∧ w3.heap.size ≤ l8 ∧ l8 ≤ h8 ∧ h8 ≤ wq.heap.size ∧ (g8 < l8 ∨ h8 ≤ g8) ∧ w3.heap.size ≤ g8 ∧ g8 < wq.heap.size ∧ Hid (Below w3.heap.size w3 wq))
        case first =>
          have hi9 : ((Try.prog.info? 37).map (·.size)) = some 3 := by kernel_rfl
          refine wp_region_held_drew (S := fun w' => w'.cell? ⟨w.heap.size, 0, none⟩ = some (.slice ax1 x.k.length cx1) ∧ w'.cell? ⟨w.heap.size + 1, 0, none⟩ = some (.slice aa1 a.lo.length ca1) ∧ w'.cell? ⟨w.heap.size + 1, 1, none⟩ = some (.slice aa2 a.st.length ca2) ∧ w'.cell? ⟨w.heap.size + 1, 2, none⟩ = some (.int .i64 a.h) ∧ w'.cell? ⟨w.heap.size + 1 + 1, 0, none⟩ = some (.slice ab1 b.lo.length cb1) ∧ w'.cell? ⟨w.heap.size + 1 + 1, 1, none⟩ = some (.slice ab2 b.st.length cb2) ∧ w'.cell? ⟨w.heap.size + 1 + 1, 2, none⟩ = some (.int .i64 b.h)) (by kernel_rfl) (HCL.out _ HD.out) (fun hHeld => ?_)
          have HW := HD
          clear HD
          generalize w3.drew = Z0 at *
          refine wpAnyH_take (i := 0) (v := .agg #[.slice ax1 x.k.length cx1]) rfl (by kernel_rfl) (by kernel_rfl) (by kernel_rfl) (fun _ _ _ h => h) (Or.inl ⟨by rfl, ?_⟩) (by assumption) ?_
          · intro w' hSw
            try dsimp only at hSw
            go_simp; try rfl
          simp only [List.getElem_toArray, List.getElem_cons_zero, Act.put, List.setIfInBounds_toArray, List.set_cons_zero, List.set_cons_succ]
          refine wpAnyH_take (i := 2) (v := .agg #[.slice aa1 a.lo.length ca1, .slice aa2 a.st.length ca2, .int .i64 a.h]) rfl (by kernel_rfl) (by kernel_rfl) (by kernel_rfl) (fun _ _ _ h => h) (Or.inl ⟨by rfl, ?_⟩) (by assumption) ?_
          · intro w' hSw
            try dsimp only at hSw
            go_simp; try rfl
          simp only [List.getElem_toArray, List.getElem_cons_succ, List.getElem_cons_zero, Act.put, List.setIfInBounds_toArray, List.set_cons_zero, List.set_cons_succ]
          refine wpAnyH_take (i := 4) (v := .agg #[.slice ab1 b.lo.length cb1, .slice ab2 b.st.length cb2, .int .i64 b.h]) rfl (by kernel_rfl) (by kernel_rfl) (by kernel_rfl) (fun _ _ _ h => h) (Or.inl ⟨by rfl, ?_⟩) (by assumption) ?_
          · intro w' hSw
            try dsimp only at hSw
            go_simp; try rfl
          simp only [List.getElem_toArray, List.getElem_cons_succ, List.getElem_cons_zero, Act.put, List.setIfInBounds_toArray, List.set_cons_zero, List.set_cons_succ]
          refine wpAnyH_ready (rs := [1, 10]) (by kernel_rfl) (by simp) (AllReadyH.cons rfl (fun K hK => ?_) (AllReadyH.cons rfl (fun K hK => ?_) AllReadyH.nil))
          · skip
            refine step_callW (some 37) (by kernel_rfl) (by kernel_rfl) 8 _ _ rfl #[.agg #[.slice ax1 x.k.length cx1]] (by kernel_rfl) (toPg _ x _ (Px1.out.at (HB.out.trans (HW.out.mono HB.out.size))) HGx.out) ?_
            rintro e Z1 ⟨n91_1, rfl, o9, b9⟩
            obtain ⟨p91_1, q91_1, f91_1, _⟩ := (pgD_own o9).shape
            subst f91_1
            have OH91 := hide o9
            clear o9
            unfold pgV
            replace HW := hide (HW.out.trans (b9.mono HW.out.size))
            clear b9
            refine ⟨_, rfl, ?_⟩
            refine hK.out _ _ (HCL.out _ HW.out) (fun hHeld => ?_)
            clear hK K
            simp only [Act.put, List.setIfInBounds_toArray, List.set_cons_zero, List.set_cons_succ]
            refine wpAnyH_ready (rs := [3, 10]) (by kernel_rfl) (by simp) (AllReadyH.cons rfl (fun K hK => ?_) (AllReadyH.cons rfl (fun K hK => ?_) AllReadyH.nil))
            · skip
              refine step_callW (some 39) (by kernel_rfl) (by kernel_rfl) 9 _ _ rfl #[.agg #[.slice aa1 a.lo.length ca1, .slice aa2 a.st.length ca2, .int .i64 a.h]] (by kernel_rfl) (toFl _ a _ _ (Pa1.out.at (HB.out.trans (HW.out.mono HB.out.size))) (Pa2.out.at (HB.out.trans (HW.out.mono HB.out.size))) HGa.out) ?_
              rintro e Z2 ⟨n92_1, n92_2, rfl, o9, b9⟩
              obtain ⟨p92_1, q92_1, f92_1, _⟩ := (flD_own o9).1.shape
              subst f92_1
              obtain ⟨p92_2, q92_2, f92_2, _⟩ := (flD_own o9).2.shape
              subst f92_2
              have OH92 := hide o9
              clear o9
              unfold flV
              replace OH91 := hide (OH91.out.below b9)
              replace HW := hide (HW.out.trans (b9.mono HW.out.size))
              clear b9
              refine ⟨_, rfl, ?_⟩
              refine hK.out _ _ (HCL.out _ HW.out) (fun hHeld => ?_)
              clear hK K
              simp only [Act.put, List.setIfInBounds_toArray, List.set_cons_zero, List.set_cons_succ]
              refine wpAnyH_ready (rs := [5, 10]) (by kernel_rfl) (by simp) (AllReadyH.cons rfl (fun K hK => ?_) (AllReadyH.cons rfl (fun K hK => ?_) AllReadyH.nil))
              · skip
                refine step_callW (some 41) (by kernel_rfl) (by kernel_rfl) 9 _ _ rfl #[.agg #[.slice ab1 b.lo.length cb1, .slice ab2 b.st.length cb2, .int .i64 b.h]] (by kernel_rfl) (toFl _ b _ _ (Pb1.out.at (HB.out.trans (HW.out.mono HB.out.size))) (Pb2.out.at (HB.out.trans (HW.out.mono HB.out.size))) HGb.out) ?_
                rintro e Z3 ⟨n93_1, n93_2, rfl, o9, b9⟩
                obtain ⟨p93_1, q93_1, f93_1, _⟩ := (flD_own o9).1.shape
                subst f93_1
                obtain ⟨p93_2, q93_2, f93_2, _⟩ := (flD_own o9).2.shape
                subst f93_2
                have OH93 := hide o9
                clear o9
                unfold flV
                replace OH91 := hide (OH91.out.below b9)
                replace OH92 := hide (OH92.out.below b9)
                replace HW := hide (HW.out.trans (b9.mono HW.out.size))
                clear b9
                refine ⟨_, rfl, ?_⟩
                refine hK.out _ _ (HCL.out _ HW.out) (fun hHeld => ?_)
                clear hK K
                simp only [Act.put, List.setIfInBounds_toArray, List.set_cons_zero, List.set_cons_succ]
                refine wpAnyH_ready (rs := [6, 10]) (by kernel_rfl) (by simp) (AllReadyH.cons rfl (fun K hK => ?_) (AllReadyH.cons rfl (fun K hK => ?_) AllReadyH.nil))
                · skip
                  refine step_callW (some 42) (by kernel_rfl) (by kernel_rfl) 13 _ _ rfl #[.agg #[.slice p91_1 x.k.length q91_1], .agg #[.slice p92_1 a.lo.length q92_1, .slice p92_2 a.st.length q92_2, .int .i64 a.h], .agg #[.slice p93_1 b.lo.length q93_1, .slice p93_2 b.st.length q93_2, .int .i64 b.h]] (by kernel_rfl) (meetS _ x _ a b _ _ _ _ (pgD_own OH91.out) (flD_own OH92.out).1 (flD_own OH92.out).2 (flD_own OH93.out).1 (flD_own OH93.out).2 HGx.out.k HGa.out HGb.out) ?_
                  rintro e Z4 ⟨n94_1, n94_2, rfl, o9, b9⟩
                  rw [HV0.out] at o9 ⊢
                  rw [HV1.out]
                  obtain ⟨p94_1, q94_1, f94_1, _⟩ := (flD_own o9).1.shape
                  subst f94_1
                  obtain ⟨p94_2, q94_2, f94_2, _⟩ := (flD_own o9).2.shape
                  subst f94_2
                  unfold flV
                  have HO9 := hide o9
                  have lz9 := HW.out.size
                  have lz8 := b9.size
                  clear o9
                  clear OH91
                  clear OH92
                  clear OH93
                  replace HW := hide (HW.out.trans (b9.mono HW.out.size))
                  clear b9
                  refine ⟨_, rfl, ?_⟩
                  refine hK.out _ _ (HCL.out _ HW.out) (fun hHeld => ?_)
                  clear hK K
                  simp only [Act.put, List.setIfInBounds_toArray, List.set_cons_zero, List.set_cons_succ]
                  refine wpAnyH_take (i := 7) (v := ?_) rfl (by kernel_rfl) (by kernel_rfl) (by kernel_rfl) (fun _ _ _ h => h) (Or.inl ⟨by rfl, ?_⟩) (by assumption) ?_
                  rotate_left
                  · intro w' hSw
                    try dsimp only at hSw
                    go_simp; try rfl
                  simp only [List.getElem_toArray, List.getElem_cons_succ, List.getElem_cons_zero, Act.put, List.setIfInBounds_toArray, List.set_cons_zero, List.set_cons_succ]
                  refine wpAnyH_take (i := 8) (v := ?_) rfl (by kernel_rfl) (by kernel_rfl) (by kernel_rfl) (fun _ _ _ h => h) (Or.inl ⟨by rfl, ?_⟩) (by assumption) ?_
                  rotate_left
                  · intro w' hSw
                    try dsimp only at hSw
                    go_simp; try rfl
                  simp only [List.getElem_toArray, List.getElem_cons_succ, List.getElem_cons_zero, Act.put, List.setIfInBounds_toArray, List.set_cons_zero, List.set_cons_succ]
                  refine wpAnyH_take (i := 9) (v := ?_) rfl (by kernel_rfl) (by kernel_rfl) (by kernel_rfl) (fun _ _ _ h => h) (Or.inl ⟨by rfl, ?_⟩) (by assumption) ?_
                  rotate_left
                  · intro w' hSw
                    try dsimp only at hSw
                    go_simp; try rfl
                  simp only [List.getElem_toArray, List.getElem_cons_succ, List.getElem_cons_zero, Act.put, List.setIfInBounds_toArray, List.set_cons_zero, List.set_cons_succ]
                  refine wpAnyH_ready (rs := [10]) (by kernel_rfl) (by simp) (AllReadyH.cons rfl (fun K hK => ?_) AllReadyH.nil)
                  refine step_runX (some 8) (by kernel_rfl) (by kernel_rfl) (v := .pointer (some ⟨Z4.heap.size, 0, none⟩)) (w' := Z4.alloc (.cells #[.slice none 0 0, .slice none 0 0, .int .i64 0] 37)) (by go_simp; try rfl) ?_
                  have HN := hide (HW.out.alloc HW.out.size (.cells #[.slice none 0 0, .slice none 0 0, .int .i64 0] 37))
                  refine hK.out _ _ (HCL.out _ HN.out) (fun hHeld => ?_)
                  clear hK K
                  simp only [Act.put, List.setIfInBounds_toArray, List.set_cons_zero, List.set_cons_succ]
                  have ka9 := HW.out.size
                  have GA : Hid ((Z4.alloc (.cells #[.slice none 0 0, .slice none 0 0, .int .i64 0] 37)).heap[Z4.heap.size]? = some (.cells #[.slice none 0 0, .slice none 0 0, .int .i64 0] 37 (0, 0))) := hide (heap_alloc_new Z4 (.cells #[.slice none 0 0, .slice none 0 0, .int .i64 0] 37))
                  have kz9 : Z4.heap.size < (Z4.alloc (.cells #[.slice none 0 0, .slice none 0 0, .int .i64 0] 37)).heap.size := by simp
                  replace HO9 := hide (HO9.out.below ((Below.refl Z4.heap.size Z4).alloc (Nat.le_refl _) (.cells #[.slice none 0 0, .slice none 0 0, .int .i64 0] 37)))
                  obtain ⟨g9, hg9⟩ : ∃ g, Z4.heap.size = g := ⟨_, rfl⟩
                  rw [hg9] at GA ka9 kz9 ⊢
                  have kg9 : Z4.heap.size ≤ g9 := Nat.le_of_eq hg9
                  clear HW hg9
                  have HW := HN
                  clear HN
                  generalize Z4.alloc (.cells #[.slice none 0 0, .slice none 0 0, .int .i64 0] 37) = Z5 at *
                  refine wpAnyH_ready (rs := [11]) (by kernel_rfl) (by simp) (AllReadyH.cons rfl (fun K hK => ?_) AllReadyH.nil)
                  refine step_storeX (by kernel_rfl) (by kernel_rfl) 37 _ _ rfl g9 #[.slice p94_1 V0.lo.length q94_1, .slice p94_2 V0.st.length q94_2, .int .i64 V0.h] (by kernel_rfl) (by kernel_rfl) _ _ GA.out hi9 (by rfl) (by simp [Value.oneCell']) ?_
                  have HM := hide (below_setRow HW.out ka9 #[.slice p94_1 V0.lo.length q94_1, .slice p94_2 V0.st.length q94_2, .int .i64 V0.h])
                  refine hK.out _ _ (HCL.out _ HM.out) (fun hHeld => ?_)
                  clear hK K
                  try simp only [Act.put, List.setIfInBounds_toArray, List.set_cons_zero, List.set_cons_succ]
                  have GB := hide (setRow_heap Z5 g9 _ #[.slice p94_1 V0.lo.length q94_1, .slice p94_2 V0.st.length q94_2, .int .i64 V0.h] _ _ GA.out)
                  have OR := hide (OwnDL.setRowA HO9.out g9 #[.slice p94_1 V0.lo.length q94_1, .slice p94_2 V0.st.length q94_2, .int .i64 V0.h] (by omega))
                  have zz9 : Z5.heap.size ≤ (Z5.setRow g9 #[.slice p94_1 V0.lo.length q94_1, .slice p94_2 V0.st.length q94_2, .int .i64 V0.h]).heap.size := by simp
                  clear HO9
                  clear HW GA
                  generalize Z5.setRow g9 #[.slice p94_1 V0.lo.length q94_1, .slice p94_2 V0.st.length q94_2, .int .i64 V0.h] = Y6 at *
                  refine wpAnyH_take (i := 12) (v := ?_) rfl (by kernel_rfl) (by kernel_rfl) (by kernel_rfl) (fun _ _ _ h => h) (Or.inl ⟨by rfl, ?_⟩) (by assumption) ?_
                  rotate_left
                  · intro w' hSw
                    try dsimp only at hSw
                    go_simp; try rfl
                  simp only [List.getElem_toArray, List.getElem_cons_succ, List.getElem_cons_zero, Act.put, List.setIfInBounds_toArray, List.set_cons_zero, List.set_cons_succ]
                  refine wpAnyH_done (by kernel_rfl) ?_ _
                  go_wp2_with fail
                  go_meet
                  exact ⟨g9, _, _, _, _, _, _, rfl, rfl, GB, OR, by omega, by omega, by omega, by omega, by omega, by omega, HM⟩
                · skip
                  refine step_runX (some 8) (by kernel_rfl) (by kernel_rfl) (v := .pointer (some ⟨Z3.heap.size, 0, none⟩)) (w' := Z3.alloc (.cells #[.slice none 0 0, .slice none 0 0, .int .i64 0] 37)) (by go_simp; try rfl) ?_
                  have HN := hide (HW.out.alloc HW.out.size (.cells #[.slice none 0 0, .slice none 0 0, .int .i64 0] 37))
                  refine hK.out _ _ (HCL.out _ HN.out) (fun hHeld => ?_)
                  clear hK K
                  simp only [Act.put, List.setIfInBounds_toArray, List.set_cons_zero, List.set_cons_succ]
                  have ka9 := HW.out.size
                  have GA : Hid ((Z3.alloc (.cells #[.slice none 0 0, .slice none 0 0, .int .i64 0] 37)).heap[Z3.heap.size]? = some (.cells #[.slice none 0 0, .slice none 0 0, .int .i64 0] 37 (0, 0))) := hide (heap_alloc_new Z3 (.cells #[.slice none 0 0, .slice none 0 0, .int .i64 0] 37))
                  have kz9 : Z3.heap.size < (Z3.alloc (.cells #[.slice none 0 0, .slice none 0 0, .int .i64 0] 37)).heap.size := by simp
                  replace OH91 := hide (OH91.out.below ((Below.refl Z3.heap.size Z3).alloc (Nat.le_refl _) (.cells #[.slice none 0 0, .slice none 0 0, .int .i64 0] 37)))
                  replace OH92 := hide (OH92.out.below ((Below.refl Z3.heap.size Z3).alloc (Nat.le_refl _) (.cells #[.slice none 0 0, .slice none 0 0, .int .i64 0] 37)))
                  replace OH93 := hide (OH93.out.below ((Below.refl Z3.heap.size Z3).alloc (Nat.le_refl _) (.cells #[.slice none 0 0, .slice none 0 0, .int .i64 0] 37)))
                  obtain ⟨g9, hg9⟩ : ∃ g, Z3.heap.size = g := ⟨_, rfl⟩
                  rw [hg9] at GA ka9 kz9 ⊢
                  have kg9 : Z3.heap.size ≤ g9 := Nat.le_of_eq hg9
                  clear HW hg9
                  have HW := HN
                  clear HN
                  generalize Z3.alloc (.cells #[.slice none 0 0, .slice none 0 0, .int .i64 0] 37) = Z7 at *
                  refine wpAnyH_ready (rs := [6]) (by kernel_rfl) (by simp) (AllReadyH.cons rfl (fun K hK => ?_) AllReadyH.nil)
                  refine step_callW (some 42) (by kernel_rfl) (by kernel_rfl) 13 _ _ rfl #[.agg #[.slice p91_1 x.k.length q91_1], .agg #[.slice p92_1 a.lo.length q92_1, .slice p92_2 a.st.length q92_2, .int .i64 a.h], .agg #[.slice p93_1 b.lo.length q93_1, .slice p93_2 b.st.length q93_2, .int .i64 b.h]] (by kernel_rfl) (meetS _ x _ a b _ _ _ _ (pgD_own OH91.out) (flD_own OH92.out).1 (flD_own OH92.out).2 (flD_own OH93.out).1 (flD_own OH93.out).2 HGx.out.k HGa.out HGb.out) ?_
                  rintro e Z8 ⟨n98_1, n98_2, rfl, o9, b9⟩
                  rw [HV0.out] at o9 ⊢
                  rw [HV1.out]
                  obtain ⟨p98_1, q98_1, f98_1, _⟩ := (flD_own o9).1.shape
                  subst f98_1
                  obtain ⟨p98_2, q98_2, f98_2, _⟩ := (flD_own o9).2.shape
                  subst f98_2
                  unfold flV
                  have HO9 := hide o9
                  have lz9 := HW.out.size
                  have lz8 := b9.size
                  clear o9
                  clear OH91
                  clear OH92
                  clear OH93
                  replace GA := hide ((b9.block g9 (Array.getElem?_eq_some_iff.1 GA.out).1).trans GA.out)
                  replace HW := hide (HW.out.trans (b9.mono HW.out.size))
                  clear b9
                  refine ⟨_, rfl, ?_⟩
                  refine hK.out _ _ (HCL.out _ HW.out) (fun hHeld => ?_)
                  clear hK K
                  simp only [Act.put, List.setIfInBounds_toArray, List.set_cons_zero, List.set_cons_succ]
                  refine wpAnyH_take (i := 7) (v := ?_) rfl (by kernel_rfl) (by kernel_rfl) (by kernel_rfl) (fun _ _ _ h => h) (Or.inl ⟨by rfl, ?_⟩) (by assumption) ?_
                  rotate_left
                  · intro w' hSw
                    try dsimp only at hSw
                    go_simp; try rfl
                  simp only [List.getElem_toArray, List.getElem_cons_succ, List.getElem_cons_zero, Act.put, List.setIfInBounds_toArray, List.set_cons_zero, List.set_cons_succ]
                  refine wpAnyH_take (i := 8) (v := ?_) rfl (by kernel_rfl) (by kernel_rfl) (by kernel_rfl) (fun _ _ _ h => h) (Or.inl ⟨by rfl, ?_⟩) (by assumption) ?_
                  rotate_left
                  · intro w' hSw
                    try dsimp only at hSw
                    go_simp; try rfl
                  simp only [List.getElem_toArray, List.getElem_cons_succ, List.getElem_cons_zero, Act.put, List.setIfInBounds_toArray, List.set_cons_zero, List.set_cons_succ]
                  refine wpAnyH_take (i := 9) (v := ?_) rfl (by kernel_rfl) (by kernel_rfl) (by kernel_rfl) (fun _ _ _ h => h) (Or.inl ⟨by rfl, ?_⟩) (by assumption) ?_
                  rotate_left
                  · intro w' hSw
                    try dsimp only at hSw
                    go_simp; try rfl
                  simp only [List.getElem_toArray, List.getElem_cons_succ, List.getElem_cons_zero, Act.put, List.setIfInBounds_toArray, List.set_cons_zero, List.set_cons_succ]
                  refine wpAnyH_ready (rs := [11]) (by kernel_rfl) (by simp) (AllReadyH.cons rfl (fun K hK => ?_) AllReadyH.nil)
                  refine step_storeX (by kernel_rfl) (by kernel_rfl) 37 _ _ rfl g9 #[.slice p98_1 V0.lo.length q98_1, .slice p98_2 V0.st.length q98_2, .int .i64 V0.h] (by kernel_rfl) (by kernel_rfl) _ _ GA.out hi9 (by rfl) (by simp [Value.oneCell']) ?_
                  have HM := hide (below_setRow HW.out ka9 #[.slice p98_1 V0.lo.length q98_1, .slice p98_2 V0.st.length q98_2, .int .i64 V0.h])
                  refine hK.out _ _ (HCL.out _ HM.out) (fun hHeld => ?_)
                  clear hK K
                  try simp only [Act.put, List.setIfInBounds_toArray, List.set_cons_zero, List.set_cons_succ]
                  have GB := hide (setRow_heap Z8 g9 _ #[.slice p98_1 V0.lo.length q98_1, .slice p98_2 V0.st.length q98_2, .int .i64 V0.h] _ _ GA.out)
                  have OR := hide (OwnDL.setRowA HO9.out g9 #[.slice p98_1 V0.lo.length q98_1, .slice p98_2 V0.st.length q98_2, .int .i64 V0.h] (by omega))
                  have zz9 : Z8.heap.size ≤ (Z8.setRow g9 #[.slice p98_1 V0.lo.length q98_1, .slice p98_2 V0.st.length q98_2, .int .i64 V0.h]).heap.size := by simp
                  clear HO9
                  clear HW GA
                  generalize Z8.setRow g9 #[.slice p98_1 V0.lo.length q98_1, .slice p98_2 V0.st.length q98_2, .int .i64 V0.h] = Y9 at *
                  refine wpAnyH_take (i := 12) (v := ?_) rfl (by kernel_rfl) (by kernel_rfl) (by kernel_rfl) (fun _ _ _ h => h) (Or.inl ⟨by rfl, ?_⟩) (by assumption) ?_
                  rotate_left
                  · intro w' hSw
                    try dsimp only at hSw
                    go_simp; try rfl
                  simp only [List.getElem_toArray, List.getElem_cons_succ, List.getElem_cons_zero, Act.put, List.setIfInBounds_toArray, List.set_cons_zero, List.set_cons_succ]
                  refine wpAnyH_done (by kernel_rfl) ?_ _
                  go_wp2_with fail
                  go_meet
                  exact ⟨g9, _, _, _, _, _, _, rfl, rfl, GB, OR, by omega, by omega, by omega, by omega, by omega, by omega, HM⟩
              · skip
                refine step_runX (some 8) (by kernel_rfl) (by kernel_rfl) (v := .pointer (some ⟨Z2.heap.size, 0, none⟩)) (w' := Z2.alloc (.cells #[.slice none 0 0, .slice none 0 0, .int .i64 0] 37)) (by go_simp; try rfl) ?_
                have HN := hide (HW.out.alloc HW.out.size (.cells #[.slice none 0 0, .slice none 0 0, .int .i64 0] 37))
                refine hK.out _ _ (HCL.out _ HN.out) (fun hHeld => ?_)
                clear hK K
                simp only [Act.put, List.setIfInBounds_toArray, List.set_cons_zero, List.set_cons_succ]
                have ka9 := HW.out.size
                have GA : Hid ((Z2.alloc (.cells #[.slice none 0 0, .slice none 0 0, .int .i64 0] 37)).heap[Z2.heap.size]? = some (.cells #[.slice none 0 0, .slice none 0 0, .int .i64 0] 37 (0, 0))) := hide (heap_alloc_new Z2 (.cells #[.slice none 0 0, .slice none 0 0, .int .i64 0] 37))
                have kz9 : Z2.heap.size < (Z2.alloc (.cells #[.slice none 0 0, .slice none 0 0, .int .i64 0] 37)).heap.size := by simp
                replace OH91 := hide (OH91.out.below ((Below.refl Z2.heap.size Z2).alloc (Nat.le_refl _) (.cells #[.slice none 0 0, .slice none 0 0, .int .i64 0] 37)))
                replace OH92 := hide (OH92.out.below ((Below.refl Z2.heap.size Z2).alloc (Nat.le_refl _) (.cells #[.slice none 0 0, .slice none 0 0, .int .i64 0] 37)))
                obtain ⟨g9, hg9⟩ : ∃ g, Z2.heap.size = g := ⟨_, rfl⟩
                rw [hg9] at GA ka9 kz9 ⊢
                have kg9 : Z2.heap.size ≤ g9 := Nat.le_of_eq hg9
                clear HW hg9
                have HW := HN
                clear HN
                generalize Z2.alloc (.cells #[.slice none 0 0, .slice none 0 0, .int .i64 0] 37) = Z10 at *
                refine wpAnyH_ready (rs := [5]) (by kernel_rfl) (by simp) (AllReadyH.cons rfl (fun K hK => ?_) AllReadyH.nil)
                refine step_callW (some 41) (by kernel_rfl) (by kernel_rfl) 9 _ _ rfl #[.agg #[.slice ab1 b.lo.length cb1, .slice ab2 b.st.length cb2, .int .i64 b.h]] (by kernel_rfl) (toFl _ b _ _ (Pb1.out.at (HB.out.trans (HW.out.mono HB.out.size))) (Pb2.out.at (HB.out.trans (HW.out.mono HB.out.size))) HGb.out) ?_
                rintro e Z11 ⟨n911_1, n911_2, rfl, o9, b9⟩
                obtain ⟨p911_1, q911_1, f911_1, _⟩ := (flD_own o9).1.shape
                subst f911_1
                obtain ⟨p911_2, q911_2, f911_2, _⟩ := (flD_own o9).2.shape
                subst f911_2
                have OH911 := hide o9
                clear o9
                unfold flV
                replace OH91 := hide (OH91.out.below b9)
                replace OH92 := hide (OH92.out.below b9)
                replace GA := hide ((b9.block g9 (Array.getElem?_eq_some_iff.1 GA.out).1).trans GA.out)
                replace kz9 := Nat.lt_of_lt_of_le kz9 b9.size
                replace HW := hide (HW.out.trans (b9.mono HW.out.size))
                clear b9
                refine ⟨_, rfl, ?_⟩
                refine hK.out _ _ (HCL.out _ HW.out) (fun hHeld => ?_)
                clear hK K
                simp only [Act.put, List.setIfInBounds_toArray, List.set_cons_zero, List.set_cons_succ]
                refine wpAnyH_ready (rs := [6]) (by kernel_rfl) (by simp) (AllReadyH.cons rfl (fun K hK => ?_) AllReadyH.nil)
                refine step_callW (some 42) (by kernel_rfl) (by kernel_rfl) 13 _ _ rfl #[.agg #[.slice p91_1 x.k.length q91_1], .agg #[.slice p92_1 a.lo.length q92_1, .slice p92_2 a.st.length q92_2, .int .i64 a.h], .agg #[.slice p911_1 b.lo.length q911_1, .slice p911_2 b.st.length q911_2, .int .i64 b.h]] (by kernel_rfl) (meetS _ x _ a b _ _ _ _ (pgD_own OH91.out) (flD_own OH92.out).1 (flD_own OH92.out).2 (flD_own OH911.out).1 (flD_own OH911.out).2 HGx.out.k HGa.out HGb.out) ?_
                rintro e Z12 ⟨n912_1, n912_2, rfl, o9, b9⟩
                rw [HV0.out] at o9 ⊢
                rw [HV1.out]
                obtain ⟨p912_1, q912_1, f912_1, _⟩ := (flD_own o9).1.shape
                subst f912_1
                obtain ⟨p912_2, q912_2, f912_2, _⟩ := (flD_own o9).2.shape
                subst f912_2
                unfold flV
                have HO9 := hide o9
                have lz9 := HW.out.size
                have lz8 := b9.size
                clear o9
                clear OH91
                clear OH92
                clear OH911
                replace GA := hide ((b9.block g9 (Array.getElem?_eq_some_iff.1 GA.out).1).trans GA.out)
                replace HW := hide (HW.out.trans (b9.mono HW.out.size))
                clear b9
                refine ⟨_, rfl, ?_⟩
                refine hK.out _ _ (HCL.out _ HW.out) (fun hHeld => ?_)
                clear hK K
                simp only [Act.put, List.setIfInBounds_toArray, List.set_cons_zero, List.set_cons_succ]
                refine wpAnyH_take (i := 7) (v := ?_) rfl (by kernel_rfl) (by kernel_rfl) (by kernel_rfl) (fun _ _ _ h => h) (Or.inl ⟨by rfl, ?_⟩) (by assumption) ?_
                rotate_left
                · intro w' hSw
                  try dsimp only at hSw
                  go_simp; try rfl
                simp only [List.getElem_toArray, List.getElem_cons_succ, List.getElem_cons_zero, Act.put, List.setIfInBounds_toArray, List.set_cons_zero, List.set_cons_succ]
                refine wpAnyH_take (i := 8) (v := ?_) rfl (by kernel_rfl) (by kernel_rfl) (by kernel_rfl) (fun _ _ _ h => h) (Or.inl ⟨by rfl, ?_⟩) (by assumption) ?_
                rotate_left
                · intro w' hSw
                  try dsimp only at hSw
                  go_simp; try rfl
                simp only [List.getElem_toArray, List.getElem_cons_succ, List.getElem_cons_zero, Act.put, List.setIfInBounds_toArray, List.set_cons_zero, List.set_cons_succ]
                refine wpAnyH_take (i := 9) (v := ?_) rfl (by kernel_rfl) (by kernel_rfl) (by kernel_rfl) (fun _ _ _ h => h) (Or.inl ⟨by rfl, ?_⟩) (by assumption) ?_
                rotate_left
                · intro w' hSw
                  try dsimp only at hSw
                  go_simp; try rfl
                simp only [List.getElem_toArray, List.getElem_cons_succ, List.getElem_cons_zero, Act.put, List.setIfInBounds_toArray, List.set_cons_zero, List.set_cons_succ]
                refine wpAnyH_ready (rs := [11]) (by kernel_rfl) (by simp) (AllReadyH.cons rfl (fun K hK => ?_) AllReadyH.nil)
                refine step_storeX (by kernel_rfl) (by kernel_rfl) 37 _ _ rfl g9 #[.slice p912_1 V0.lo.length q912_1, .slice p912_2 V0.st.length q912_2, .int .i64 V0.h] (by kernel_rfl) (by kernel_rfl) _ _ GA.out hi9 (by rfl) (by simp [Value.oneCell']) ?_
                have HM := hide (below_setRow HW.out ka9 #[.slice p912_1 V0.lo.length q912_1, .slice p912_2 V0.st.length q912_2, .int .i64 V0.h])
                refine hK.out _ _ (HCL.out _ HM.out) (fun hHeld => ?_)
                clear hK K
                try simp only [Act.put, List.setIfInBounds_toArray, List.set_cons_zero, List.set_cons_succ]
                have GB := hide (setRow_heap Z12 g9 _ #[.slice p912_1 V0.lo.length q912_1, .slice p912_2 V0.st.length q912_2, .int .i64 V0.h] _ _ GA.out)
                have OR := hide (OwnDL.setRowA HO9.out g9 #[.slice p912_1 V0.lo.length q912_1, .slice p912_2 V0.st.length q912_2, .int .i64 V0.h] (by omega))
                have zz9 : Z12.heap.size ≤ (Z12.setRow g9 #[.slice p912_1 V0.lo.length q912_1, .slice p912_2 V0.st.length q912_2, .int .i64 V0.h]).heap.size := by simp
                clear HO9
                clear HW GA
                generalize Z12.setRow g9 #[.slice p912_1 V0.lo.length q912_1, .slice p912_2 V0.st.length q912_2, .int .i64 V0.h] = Y13 at *
                refine wpAnyH_take (i := 12) (v := ?_) rfl (by kernel_rfl) (by kernel_rfl) (by kernel_rfl) (fun _ _ _ h => h) (Or.inl ⟨by rfl, ?_⟩) (by assumption) ?_
                rotate_left
                · intro w' hSw
                  try dsimp only at hSw
                  go_simp; try rfl
                simp only [List.getElem_toArray, List.getElem_cons_succ, List.getElem_cons_zero, Act.put, List.setIfInBounds_toArray, List.set_cons_zero, List.set_cons_succ]
                refine wpAnyH_done (by kernel_rfl) ?_ _
                go_wp2_with fail
                go_meet
                exact ⟨g9, _, _, _, _, _, _, rfl, rfl, GB, OR, by omega, by omega, by omega, by omega, by omega, by omega, HM⟩
            · skip
              refine step_runX (some 8) (by kernel_rfl) (by kernel_rfl) (v := .pointer (some ⟨Z1.heap.size, 0, none⟩)) (w' := Z1.alloc (.cells #[.slice none 0 0, .slice none 0 0, .int .i64 0] 37)) (by go_simp; try rfl) ?_
              have HN := hide (HW.out.alloc HW.out.size (.cells #[.slice none 0 0, .slice none 0 0, .int .i64 0] 37))
              refine hK.out _ _ (HCL.out _ HN.out) (fun hHeld => ?_)
              clear hK K
              simp only [Act.put, List.setIfInBounds_toArray, List.set_cons_zero, List.set_cons_succ]
              have ka9 := HW.out.size
              have GA : Hid ((Z1.alloc (.cells #[.slice none 0 0, .slice none 0 0, .int .i64 0] 37)).heap[Z1.heap.size]? = some (.cells #[.slice none 0 0, .slice none 0 0, .int .i64 0] 37 (0, 0))) := hide (heap_alloc_new Z1 (.cells #[.slice none 0 0, .slice none 0 0, .int .i64 0] 37))
              have kz9 : Z1.heap.size < (Z1.alloc (.cells #[.slice none 0 0, .slice none 0 0, .int .i64 0] 37)).heap.size := by simp
              replace OH91 := hide (OH91.out.below ((Below.refl Z1.heap.size Z1).alloc (Nat.le_refl _) (.cells #[.slice none 0 0, .slice none 0 0, .int .i64 0] 37)))
              obtain ⟨g9, hg9⟩ : ∃ g, Z1.heap.size = g := ⟨_, rfl⟩
              rw [hg9] at GA ka9 kz9 ⊢
              have kg9 : Z1.heap.size ≤ g9 := Nat.le_of_eq hg9
              clear HW hg9
              have HW := HN
              clear HN
              generalize Z1.alloc (.cells #[.slice none 0 0, .slice none 0 0, .int .i64 0] 37) = Z14 at *
              refine wpAnyH_ready (rs := [3]) (by kernel_rfl) (by simp) (AllReadyH.cons rfl (fun K hK => ?_) AllReadyH.nil)
              refine step_callW (some 39) (by kernel_rfl) (by kernel_rfl) 9 _ _ rfl #[.agg #[.slice aa1 a.lo.length ca1, .slice aa2 a.st.length ca2, .int .i64 a.h]] (by kernel_rfl) (toFl _ a _ _ (Pa1.out.at (HB.out.trans (HW.out.mono HB.out.size))) (Pa2.out.at (HB.out.trans (HW.out.mono HB.out.size))) HGa.out) ?_
              rintro e Z15 ⟨n915_1, n915_2, rfl, o9, b9⟩
              obtain ⟨p915_1, q915_1, f915_1, _⟩ := (flD_own o9).1.shape
              subst f915_1
              obtain ⟨p915_2, q915_2, f915_2, _⟩ := (flD_own o9).2.shape
              subst f915_2
              have OH915 := hide o9
              clear o9
              unfold flV
              replace OH91 := hide (OH91.out.below b9)
              replace GA := hide ((b9.block g9 (Array.getElem?_eq_some_iff.1 GA.out).1).trans GA.out)
              replace kz9 := Nat.lt_of_lt_of_le kz9 b9.size
              replace HW := hide (HW.out.trans (b9.mono HW.out.size))
              clear b9
              refine ⟨_, rfl, ?_⟩
              refine hK.out _ _ (HCL.out _ HW.out) (fun hHeld => ?_)
              clear hK K
              simp only [Act.put, List.setIfInBounds_toArray, List.set_cons_zero, List.set_cons_succ]
              refine wpAnyH_ready (rs := [5]) (by kernel_rfl) (by simp) (AllReadyH.cons rfl (fun K hK => ?_) AllReadyH.nil)
              refine step_callW (some 41) (by kernel_rfl) (by kernel_rfl) 9 _ _ rfl #[.agg #[.slice ab1 b.lo.length cb1, .slice ab2 b.st.length cb2, .int .i64 b.h]] (by kernel_rfl) (toFl _ b _ _ (Pb1.out.at (HB.out.trans (HW.out.mono HB.out.size))) (Pb2.out.at (HB.out.trans (HW.out.mono HB.out.size))) HGb.out) ?_
              rintro e Z16 ⟨n916_1, n916_2, rfl, o9, b9⟩
              obtain ⟨p916_1, q916_1, f916_1, _⟩ := (flD_own o9).1.shape
              subst f916_1
              obtain ⟨p916_2, q916_2, f916_2, _⟩ := (flD_own o9).2.shape
              subst f916_2
              have OH916 := hide o9
              clear o9
              unfold flV
              replace OH91 := hide (OH91.out.below b9)
              replace OH915 := hide (OH915.out.below b9)
              replace GA := hide ((b9.block g9 (Array.getElem?_eq_some_iff.1 GA.out).1).trans GA.out)
              replace kz9 := Nat.lt_of_lt_of_le kz9 b9.size
              replace HW := hide (HW.out.trans (b9.mono HW.out.size))
              clear b9
              refine ⟨_, rfl, ?_⟩
              refine hK.out _ _ (HCL.out _ HW.out) (fun hHeld => ?_)
              clear hK K
              simp only [Act.put, List.setIfInBounds_toArray, List.set_cons_zero, List.set_cons_succ]
              refine wpAnyH_ready (rs := [6]) (by kernel_rfl) (by simp) (AllReadyH.cons rfl (fun K hK => ?_) AllReadyH.nil)
              refine step_callW (some 42) (by kernel_rfl) (by kernel_rfl) 13 _ _ rfl #[.agg #[.slice p91_1 x.k.length q91_1], .agg #[.slice p915_1 a.lo.length q915_1, .slice p915_2 a.st.length q915_2, .int .i64 a.h], .agg #[.slice p916_1 b.lo.length q916_1, .slice p916_2 b.st.length q916_2, .int .i64 b.h]] (by kernel_rfl) (meetS _ x _ a b _ _ _ _ (pgD_own OH91.out) (flD_own OH915.out).1 (flD_own OH915.out).2 (flD_own OH916.out).1 (flD_own OH916.out).2 HGx.out.k HGa.out HGb.out) ?_
              rintro e Z17 ⟨n917_1, n917_2, rfl, o9, b9⟩
              rw [HV0.out] at o9 ⊢
              rw [HV1.out]
              obtain ⟨p917_1, q917_1, f917_1, _⟩ := (flD_own o9).1.shape
              subst f917_1
              obtain ⟨p917_2, q917_2, f917_2, _⟩ := (flD_own o9).2.shape
              subst f917_2
              unfold flV
              have HO9 := hide o9
              have lz9 := HW.out.size
              have lz8 := b9.size
              clear o9
              clear OH91
              clear OH915
              clear OH916
              replace GA := hide ((b9.block g9 (Array.getElem?_eq_some_iff.1 GA.out).1).trans GA.out)
              replace HW := hide (HW.out.trans (b9.mono HW.out.size))
              clear b9
              refine ⟨_, rfl, ?_⟩
              refine hK.out _ _ (HCL.out _ HW.out) (fun hHeld => ?_)
              clear hK K
              simp only [Act.put, List.setIfInBounds_toArray, List.set_cons_zero, List.set_cons_succ]
              refine wpAnyH_take (i := 7) (v := ?_) rfl (by kernel_rfl) (by kernel_rfl) (by kernel_rfl) (fun _ _ _ h => h) (Or.inl ⟨by rfl, ?_⟩) (by assumption) ?_
              rotate_left
              · intro w' hSw
                try dsimp only at hSw
                go_simp; try rfl
              simp only [List.getElem_toArray, List.getElem_cons_succ, List.getElem_cons_zero, Act.put, List.setIfInBounds_toArray, List.set_cons_zero, List.set_cons_succ]
              refine wpAnyH_take (i := 8) (v := ?_) rfl (by kernel_rfl) (by kernel_rfl) (by kernel_rfl) (fun _ _ _ h => h) (Or.inl ⟨by rfl, ?_⟩) (by assumption) ?_
              rotate_left
              · intro w' hSw
                try dsimp only at hSw
                go_simp; try rfl
              simp only [List.getElem_toArray, List.getElem_cons_succ, List.getElem_cons_zero, Act.put, List.setIfInBounds_toArray, List.set_cons_zero, List.set_cons_succ]
              refine wpAnyH_take (i := 9) (v := ?_) rfl (by kernel_rfl) (by kernel_rfl) (by kernel_rfl) (fun _ _ _ h => h) (Or.inl ⟨by rfl, ?_⟩) (by assumption) ?_
              rotate_left
              · intro w' hSw
                try dsimp only at hSw
                go_simp; try rfl
              simp only [List.getElem_toArray, List.getElem_cons_succ, List.getElem_cons_zero, Act.put, List.setIfInBounds_toArray, List.set_cons_zero, List.set_cons_succ]
              refine wpAnyH_ready (rs := [11]) (by kernel_rfl) (by simp) (AllReadyH.cons rfl (fun K hK => ?_) AllReadyH.nil)
              refine step_storeX (by kernel_rfl) (by kernel_rfl) 37 _ _ rfl g9 #[.slice p917_1 V0.lo.length q917_1, .slice p917_2 V0.st.length q917_2, .int .i64 V0.h] (by kernel_rfl) (by kernel_rfl) _ _ GA.out hi9 (by rfl) (by simp [Value.oneCell']) ?_
              have HM := hide (below_setRow HW.out ka9 #[.slice p917_1 V0.lo.length q917_1, .slice p917_2 V0.st.length q917_2, .int .i64 V0.h])
              refine hK.out _ _ (HCL.out _ HM.out) (fun hHeld => ?_)
              clear hK K
              try simp only [Act.put, List.setIfInBounds_toArray, List.set_cons_zero, List.set_cons_succ]
              have GB := hide (setRow_heap Z17 g9 _ #[.slice p917_1 V0.lo.length q917_1, .slice p917_2 V0.st.length q917_2, .int .i64 V0.h] _ _ GA.out)
              have OR := hide (OwnDL.setRowA HO9.out g9 #[.slice p917_1 V0.lo.length q917_1, .slice p917_2 V0.st.length q917_2, .int .i64 V0.h] (by omega))
              have zz9 : Z17.heap.size ≤ (Z17.setRow g9 #[.slice p917_1 V0.lo.length q917_1, .slice p917_2 V0.st.length q917_2, .int .i64 V0.h]).heap.size := by simp
              clear HO9
              clear HW GA
              generalize Z17.setRow g9 #[.slice p917_1 V0.lo.length q917_1, .slice p917_2 V0.st.length q917_2, .int .i64 V0.h] = Y18 at *
              refine wpAnyH_take (i := 12) (v := ?_) rfl (by kernel_rfl) (by kernel_rfl) (by kernel_rfl) (fun _ _ _ h => h) (Or.inl ⟨by rfl, ?_⟩) (by assumption) ?_
              rotate_left
              · intro w' hSw
                try dsimp only at hSw
                go_simp; try rfl
              simp only [List.getElem_toArray, List.getElem_cons_succ, List.getElem_cons_zero, Act.put, List.setIfInBounds_toArray, List.set_cons_zero, List.set_cons_succ]
              refine wpAnyH_done (by kernel_rfl) ?_ _
              go_wp2_with fail
              go_meet
              exact ⟨g9, _, _, _, _, _, _, rfl, rfl, GB, OR, by omega, by omega, by omega, by omega, by omega, by omega, HM⟩
          · skip
            refine step_runX (some 8) (by kernel_rfl) (by kernel_rfl) (v := .pointer (some ⟨Z0.heap.size, 0, none⟩)) (w' := Z0.alloc (.cells #[.slice none 0 0, .slice none 0 0, .int .i64 0] 37)) (by go_simp; try rfl) ?_
            have HN := hide (HW.out.alloc HW.out.size (.cells #[.slice none 0 0, .slice none 0 0, .int .i64 0] 37))
            refine hK.out _ _ (HCL.out _ HN.out) (fun hHeld => ?_)
            clear hK K
            simp only [Act.put, List.setIfInBounds_toArray, List.set_cons_zero, List.set_cons_succ]
            have ka9 := HW.out.size
            have GA : Hid ((Z0.alloc (.cells #[.slice none 0 0, .slice none 0 0, .int .i64 0] 37)).heap[Z0.heap.size]? = some (.cells #[.slice none 0 0, .slice none 0 0, .int .i64 0] 37 (0, 0))) := hide (heap_alloc_new Z0 (.cells #[.slice none 0 0, .slice none 0 0, .int .i64 0] 37))
            have kz9 : Z0.heap.size < (Z0.alloc (.cells #[.slice none 0 0, .slice none 0 0, .int .i64 0] 37)).heap.size := by simp
            obtain ⟨g9, hg9⟩ : ∃ g, Z0.heap.size = g := ⟨_, rfl⟩
            rw [hg9] at GA ka9 kz9 ⊢
            have kg9 : Z0.heap.size ≤ g9 := Nat.le_of_eq hg9
            clear HW hg9
            have HW := HN
            clear HN
            generalize Z0.alloc (.cells #[.slice none 0 0, .slice none 0 0, .int .i64 0] 37) = Z19 at *
            refine wpAnyH_ready (rs := [1]) (by kernel_rfl) (by simp) (AllReadyH.cons rfl (fun K hK => ?_) AllReadyH.nil)
            refine step_callW (some 37) (by kernel_rfl) (by kernel_rfl) 8 _ _ rfl #[.agg #[.slice ax1 x.k.length cx1]] (by kernel_rfl) (toPg _ x _ (Px1.out.at (HB.out.trans (HW.out.mono HB.out.size))) HGx.out) ?_
            rintro e Z20 ⟨n920_1, rfl, o9, b9⟩
            obtain ⟨p920_1, q920_1, f920_1, _⟩ := (pgD_own o9).shape
            subst f920_1
            have OH920 := hide o9
            clear o9
            unfold pgV
            replace GA := hide ((b9.block g9 (Array.getElem?_eq_some_iff.1 GA.out).1).trans GA.out)
            replace kz9 := Nat.lt_of_lt_of_le kz9 b9.size
            replace HW := hide (HW.out.trans (b9.mono HW.out.size))
            clear b9
            refine ⟨_, rfl, ?_⟩
            refine hK.out _ _ (HCL.out _ HW.out) (fun hHeld => ?_)
            clear hK K
            simp only [Act.put, List.setIfInBounds_toArray, List.set_cons_zero, List.set_cons_succ]
            refine wpAnyH_ready (rs := [3]) (by kernel_rfl) (by simp) (AllReadyH.cons rfl (fun K hK => ?_) AllReadyH.nil)
            refine step_callW (some 39) (by kernel_rfl) (by kernel_rfl) 9 _ _ rfl #[.agg #[.slice aa1 a.lo.length ca1, .slice aa2 a.st.length ca2, .int .i64 a.h]] (by kernel_rfl) (toFl _ a _ _ (Pa1.out.at (HB.out.trans (HW.out.mono HB.out.size))) (Pa2.out.at (HB.out.trans (HW.out.mono HB.out.size))) HGa.out) ?_
            rintro e Z21 ⟨n921_1, n921_2, rfl, o9, b9⟩
            obtain ⟨p921_1, q921_1, f921_1, _⟩ := (flD_own o9).1.shape
            subst f921_1
            obtain ⟨p921_2, q921_2, f921_2, _⟩ := (flD_own o9).2.shape
            subst f921_2
            have OH921 := hide o9
            clear o9
            unfold flV
            replace OH920 := hide (OH920.out.below b9)
            replace GA := hide ((b9.block g9 (Array.getElem?_eq_some_iff.1 GA.out).1).trans GA.out)
            replace kz9 := Nat.lt_of_lt_of_le kz9 b9.size
            replace HW := hide (HW.out.trans (b9.mono HW.out.size))
            clear b9
            refine ⟨_, rfl, ?_⟩
            refine hK.out _ _ (HCL.out _ HW.out) (fun hHeld => ?_)
            clear hK K
            simp only [Act.put, List.setIfInBounds_toArray, List.set_cons_zero, List.set_cons_succ]
            refine wpAnyH_ready (rs := [5]) (by kernel_rfl) (by simp) (AllReadyH.cons rfl (fun K hK => ?_) AllReadyH.nil)
            refine step_callW (some 41) (by kernel_rfl) (by kernel_rfl) 9 _ _ rfl #[.agg #[.slice ab1 b.lo.length cb1, .slice ab2 b.st.length cb2, .int .i64 b.h]] (by kernel_rfl) (toFl _ b _ _ (Pb1.out.at (HB.out.trans (HW.out.mono HB.out.size))) (Pb2.out.at (HB.out.trans (HW.out.mono HB.out.size))) HGb.out) ?_
            rintro e Z22 ⟨n922_1, n922_2, rfl, o9, b9⟩
            obtain ⟨p922_1, q922_1, f922_1, _⟩ := (flD_own o9).1.shape
            subst f922_1
            obtain ⟨p922_2, q922_2, f922_2, _⟩ := (flD_own o9).2.shape
            subst f922_2
            have OH922 := hide o9
            clear o9
            unfold flV
            replace OH920 := hide (OH920.out.below b9)
            replace OH921 := hide (OH921.out.below b9)
            replace GA := hide ((b9.block g9 (Array.getElem?_eq_some_iff.1 GA.out).1).trans GA.out)
            replace kz9 := Nat.lt_of_lt_of_le kz9 b9.size
            replace HW := hide (HW.out.trans (b9.mono HW.out.size))
            clear b9
            refine ⟨_, rfl, ?_⟩
            refine hK.out _ _ (HCL.out _ HW.out) (fun hHeld => ?_)
            clear hK K
            simp only [Act.put, List.setIfInBounds_toArray, List.set_cons_zero, List.set_cons_succ]
            refine wpAnyH_ready (rs := [6]) (by kernel_rfl) (by simp) (AllReadyH.cons rfl (fun K hK => ?_) AllReadyH.nil)
            refine step_callW (some 42) (by kernel_rfl) (by kernel_rfl) 13 _ _ rfl #[.agg #[.slice p920_1 x.k.length q920_1], .agg #[.slice p921_1 a.lo.length q921_1, .slice p921_2 a.st.length q921_2, .int .i64 a.h], .agg #[.slice p922_1 b.lo.length q922_1, .slice p922_2 b.st.length q922_2, .int .i64 b.h]] (by kernel_rfl) (meetS _ x _ a b _ _ _ _ (pgD_own OH920.out) (flD_own OH921.out).1 (flD_own OH921.out).2 (flD_own OH922.out).1 (flD_own OH922.out).2 HGx.out.k HGa.out HGb.out) ?_
            rintro e Z23 ⟨n923_1, n923_2, rfl, o9, b9⟩
            rw [HV0.out] at o9 ⊢
            rw [HV1.out]
            obtain ⟨p923_1, q923_1, f923_1, _⟩ := (flD_own o9).1.shape
            subst f923_1
            obtain ⟨p923_2, q923_2, f923_2, _⟩ := (flD_own o9).2.shape
            subst f923_2
            unfold flV
            have HO9 := hide o9
            have lz9 := HW.out.size
            have lz8 := b9.size
            clear o9
            clear OH920
            clear OH921
            clear OH922
            replace GA := hide ((b9.block g9 (Array.getElem?_eq_some_iff.1 GA.out).1).trans GA.out)
            replace HW := hide (HW.out.trans (b9.mono HW.out.size))
            clear b9
            refine ⟨_, rfl, ?_⟩
            refine hK.out _ _ (HCL.out _ HW.out) (fun hHeld => ?_)
            clear hK K
            simp only [Act.put, List.setIfInBounds_toArray, List.set_cons_zero, List.set_cons_succ]
            refine wpAnyH_take (i := 7) (v := ?_) rfl (by kernel_rfl) (by kernel_rfl) (by kernel_rfl) (fun _ _ _ h => h) (Or.inl ⟨by rfl, ?_⟩) (by assumption) ?_
            rotate_left
            · intro w' hSw
              try dsimp only at hSw
              go_simp; try rfl
            simp only [List.getElem_toArray, List.getElem_cons_succ, List.getElem_cons_zero, Act.put, List.setIfInBounds_toArray, List.set_cons_zero, List.set_cons_succ]
            refine wpAnyH_take (i := 8) (v := ?_) rfl (by kernel_rfl) (by kernel_rfl) (by kernel_rfl) (fun _ _ _ h => h) (Or.inl ⟨by rfl, ?_⟩) (by assumption) ?_
            rotate_left
            · intro w' hSw
              try dsimp only at hSw
              go_simp; try rfl
            simp only [List.getElem_toArray, List.getElem_cons_succ, List.getElem_cons_zero, Act.put, List.setIfInBounds_toArray, List.set_cons_zero, List.set_cons_succ]
            refine wpAnyH_take (i := 9) (v := ?_) rfl (by kernel_rfl) (by kernel_rfl) (by kernel_rfl) (fun _ _ _ h => h) (Or.inl ⟨by rfl, ?_⟩) (by assumption) ?_
            rotate_left
            · intro w' hSw
              try dsimp only at hSw
              go_simp; try rfl
            simp only [List.getElem_toArray, List.getElem_cons_succ, List.getElem_cons_zero, Act.put, List.setIfInBounds_toArray, List.set_cons_zero, List.set_cons_succ]
            refine wpAnyH_ready (rs := [11]) (by kernel_rfl) (by simp) (AllReadyH.cons rfl (fun K hK => ?_) AllReadyH.nil)
            refine step_storeX (by kernel_rfl) (by kernel_rfl) 37 _ _ rfl g9 #[.slice p923_1 V0.lo.length q923_1, .slice p923_2 V0.st.length q923_2, .int .i64 V0.h] (by kernel_rfl) (by kernel_rfl) _ _ GA.out hi9 (by rfl) (by simp [Value.oneCell']) ?_
            have HM := hide (below_setRow HW.out ka9 #[.slice p923_1 V0.lo.length q923_1, .slice p923_2 V0.st.length q923_2, .int .i64 V0.h])
            refine hK.out _ _ (HCL.out _ HM.out) (fun hHeld => ?_)
            clear hK K
            try simp only [Act.put, List.setIfInBounds_toArray, List.set_cons_zero, List.set_cons_succ]
            have GB := hide (setRow_heap Z23 g9 _ #[.slice p923_1 V0.lo.length q923_1, .slice p923_2 V0.st.length q923_2, .int .i64 V0.h] _ _ GA.out)
            have OR := hide (OwnDL.setRowA HO9.out g9 #[.slice p923_1 V0.lo.length q923_1, .slice p923_2 V0.st.length q923_2, .int .i64 V0.h] (by omega))
            have zz9 : Z23.heap.size ≤ (Z23.setRow g9 #[.slice p923_1 V0.lo.length q923_1, .slice p923_2 V0.st.length q923_2, .int .i64 V0.h]).heap.size := by simp
            clear HO9
            clear HW GA
            generalize Z23.setRow g9 #[.slice p923_1 V0.lo.length q923_1, .slice p923_2 V0.st.length q923_2, .int .i64 V0.h] = Y24 at *
            refine wpAnyH_take (i := 12) (v := ?_) rfl (by kernel_rfl) (by kernel_rfl) (by kernel_rfl) (fun _ _ _ h => h) (Or.inl ⟨by rfl, ?_⟩) (by assumption) ?_
            rotate_left
            · intro w' hSw
              try dsimp only at hSw
              go_simp; try rfl
            simp only [List.getElem_toArray, List.getElem_cons_succ, List.getElem_cons_zero, Act.put, List.setIfInBounds_toArray, List.set_cons_zero, List.set_cons_succ]
            refine wpAnyH_done (by kernel_rfl) ?_ _
            go_wp2_with fail
            go_meet
            exact ⟨g9, _, _, _, _, _, _, rfl, rfl, GB, OR, by omega, by omega, by omega, by omega, by omega, by omega, HM⟩
        case rest =>
        obtain ⟨G8, a8_1, k8_1, a8_2, k8_2, l8, h8, rfl, rfl, X8, OX8, zl8, zm8, zh8, zg8, zb8, zc8, HQ9⟩ := hcut
        have b9 := HQ9.out
        clear HQ9 HCL HD
        replace E0 := hide ((b9.block _ (Array.getElem?_eq_some_iff.1 E0.out).1).trans E0.out)
        replace E1 := hide ((b9.block _ (Array.getElem?_eq_some_iff.1 E1.out).1).trans E1.out)
        replace E2 := hide ((b9.block _ (Array.getElem?_eq_some_iff.1 E2.out).1).trans E2.out)
        have z4 := b9.size
        replace HB := hide (HB.out.trans (b9.mono HB.out.size))
        clear b9
        generalize wc = w4 at *
        have y0_0 := (box_of E0.out).1 0 _ rfl
        go_wp2_with fail
        clear y0_0
        refine (toPg _ x _ (Px1.out.at HB.out) HGx.out).mono ?_
        rintro e w5 ⟨n5_1, rfl, o9, b9⟩
        obtain ⟨p5_1, q5_1, f5_1, _⟩ := (pgD_own o9).shape
        subst f5_1
        have O5 := hide o9
        clear o9
        replace E0 := hide ((b9.block _ (Array.getElem?_eq_some_iff.1 E0.out).1).trans E0.out)
        replace E1 := hide ((b9.block _ (Array.getElem?_eq_some_iff.1 E1.out).1).trans E1.out)
        replace E2 := hide ((b9.block _ (Array.getElem?_eq_some_iff.1 E2.out).1).trans E2.out)
        replace X8 := hide ((b9.block _ (Array.getElem?_eq_some_iff.1 X8.out).1).trans X8.out)
        replace OX8 := hide (OX8.out.below b9)
        have z5 := b9.size
        replace HB := hide (HB.out.trans (b9.mono HB.out.size))
        clear b9
        unfold pgV
        have bD := (Below.refl w5.heap.size w5).alloc (Nat.le_refl _) (.cells #[.slice p5_1 x.k.length q5_1] 33)
        have X10 := hide (heap_alloc_new w5 (.cells #[.slice p5_1 x.k.length q5_1] 33))
        have z6 : w5.heap.size < (w5.alloc (.cells #[.slice p5_1 x.k.length q5_1] 33)).heap.size := by simp
        replace E0 := hide ((bD.block _ (Array.getElem?_eq_some_iff.1 E0.out).1).trans E0.out)
        replace E1 := hide ((bD.block _ (Array.getElem?_eq_some_iff.1 E1.out).1).trans E1.out)
        replace E2 := hide ((bD.block _ (Array.getElem?_eq_some_iff.1 E2.out).1).trans E2.out)
        replace X8 := hide ((bD.block _ (Array.getElem?_eq_some_iff.1 X8.out).1).trans X8.out)
        replace OX8 := hide (OX8.out.below bD)
        replace O5 := hide (O5.out.below bD)
        have z7 := bD.size
        replace HB := hide (HB.out.trans (bD.mono HB.out.size))
        clear bD
        have y0_0 := (box_of E1.out).1 0 _ rfl
        have y0_1 := (box_of E1.out).1 1 _ rfl
        have y0_2 := (box_of E1.out).1 2 _ rfl
        go_wp2_with fail
        clear y0_0 y0_1 y0_2
        generalize w5.alloc (.cells #[.slice p5_1 x.k.length q5_1] 33) = w6 at *
        refine (toFl _ a _ _ (Pa1.out.at HB.out) (Pa2.out.at HB.out) HGa.out).mono ?_
        rintro e w7 ⟨n7_1, n7_2, rfl, o9, b9⟩
        obtain ⟨p7_1, q7_1, f7_1, _⟩ := (flD_own o9).1.shape
        subst f7_1
        obtain ⟨p7_2, q7_2, f7_2, _⟩ := (flD_own o9).2.shape
        subst f7_2
        have O7 := hide o9
        clear o9
        replace E0 := hide ((b9.block _ (Array.getElem?_eq_some_iff.1 E0.out).1).trans E0.out)
        replace E1 := hide ((b9.block _ (Array.getElem?_eq_some_iff.1 E1.out).1).trans E1.out)
        replace E2 := hide ((b9.block _ (Array.getElem?_eq_some_iff.1 E2.out).1).trans E2.out)
        replace X8 := hide ((b9.block _ (Array.getElem?_eq_some_iff.1 X8.out).1).trans X8.out)
        replace X10 := hide ((b9.block _ (Array.getElem?_eq_some_iff.1 X10.out).1).trans X10.out)
        replace OX8 := hide (OX8.out.below b9)
        replace O5 := hide (O5.out.below b9)
        have z8 := b9.size
        replace HB := hide (HB.out.trans (b9.mono HB.out.size))
        clear b9
        unfold flV
        have bD := (Below.refl w7.heap.size w7).alloc (Nat.le_refl _) (.cells #[.slice p7_1 a.lo.length q7_1, .slice p7_2 a.st.length q7_2, .int .i64 a.h] 37)
        have X11 := hide (heap_alloc_new w7 (.cells #[.slice p7_1 a.lo.length q7_1, .slice p7_2 a.st.length q7_2, .int .i64 a.h] 37))
        have z9 : w7.heap.size < (w7.alloc (.cells #[.slice p7_1 a.lo.length q7_1, .slice p7_2 a.st.length q7_2, .int .i64 a.h] 37)).heap.size := by simp
        replace E0 := hide ((bD.block _ (Array.getElem?_eq_some_iff.1 E0.out).1).trans E0.out)
        replace E1 := hide ((bD.block _ (Array.getElem?_eq_some_iff.1 E1.out).1).trans E1.out)
        replace E2 := hide ((bD.block _ (Array.getElem?_eq_some_iff.1 E2.out).1).trans E2.out)
        replace X8 := hide ((bD.block _ (Array.getElem?_eq_some_iff.1 X8.out).1).trans X8.out)
        replace X10 := hide ((bD.block _ (Array.getElem?_eq_some_iff.1 X10.out).1).trans X10.out)
        replace OX8 := hide (OX8.out.below bD)
        replace O5 := hide (O5.out.below bD)
        replace O7 := hide (O7.out.below bD)
        have z10 := bD.size
        replace HB := hide (HB.out.trans (bD.mono HB.out.size))
        clear bD
        have y0_0 := (box_of E2.out).1 0 _ rfl
        have y0_1 := (box_of E2.out).1 1 _ rfl
        have y0_2 := (box_of E2.out).1 2 _ rfl
        go_wp2_with fail
        clear y0_0 y0_1 y0_2
        generalize w7.alloc (.cells #[.slice p7_1 a.lo.length q7_1, .slice p7_2 a.st.length q7_2, .int .i64 a.h] 37) = w8 at *
        refine (toFl _ b _ _ (Pb1.out.at HB.out) (Pb2.out.at HB.out) HGb.out).mono ?_
        rintro e w9 ⟨n9_1, n9_2, rfl, o9, b9⟩
        obtain ⟨p9_1, q9_1, f9_1, _⟩ := (flD_own o9).1.shape
        subst f9_1
        obtain ⟨p9_2, q9_2, f9_2, _⟩ := (flD_own o9).2.shape
        subst f9_2
        have O9 := hide o9
        clear o9
        replace E0 := hide ((b9.block _ (Array.getElem?_eq_some_iff.1 E0.out).1).trans E0.out)
        replace E1 := hide ((b9.block _ (Array.getElem?_eq_some_iff.1 E1.out).1).trans E1.out)
        replace E2 := hide ((b9.block _ (Array.getElem?_eq_some_iff.1 E2.out).1).trans E2.out)
        replace X8 := hide ((b9.block _ (Array.getElem?_eq_some_iff.1 X8.out).1).trans X8.out)
        replace X10 := hide ((b9.block _ (Array.getElem?_eq_some_iff.1 X10.out).1).trans X10.out)
        replace X11 := hide ((b9.block _ (Array.getElem?_eq_some_iff.1 X11.out).1).trans X11.out)
        replace OX8 := hide (OX8.out.below b9)
        replace O5 := hide (O5.out.below b9)
        replace O7 := hide (O7.out.below b9)
        have z11 := b9.size
        replace HB := hide (HB.out.trans (b9.mono HB.out.size))
        clear b9
        unfold flV
        have bD := (Below.refl w9.heap.size w9).alloc (Nat.le_refl _) (.cells #[.slice p9_1 b.lo.length q9_1, .slice p9_2 b.st.length q9_2, .int .i64 b.h] 37)
        have X12 := hide (heap_alloc_new w9 (.cells #[.slice p9_1 b.lo.length q9_1, .slice p9_2 b.st.length q9_2, .int .i64 b.h] 37))
        have z12 : w9.heap.size < (w9.alloc (.cells #[.slice p9_1 b.lo.length q9_1, .slice p9_2 b.st.length q9_2, .int .i64 b.h] 37)).heap.size := by simp
        replace E0 := hide ((bD.block _ (Array.getElem?_eq_some_iff.1 E0.out).1).trans E0.out)
        replace E1 := hide ((bD.block _ (Array.getElem?_eq_some_iff.1 E1.out).1).trans E1.out)
        replace E2 := hide ((bD.block _ (Array.getElem?_eq_some_iff.1 E2.out).1).trans E2.out)
        replace X8 := hide ((bD.block _ (Array.getElem?_eq_some_iff.1 X8.out).1).trans X8.out)
        replace X10 := hide ((bD.block _ (Array.getElem?_eq_some_iff.1 X10.out).1).trans X10.out)
        replace X11 := hide ((bD.block _ (Array.getElem?_eq_some_iff.1 X11.out).1).trans X11.out)
        replace OX8 := hide (OX8.out.below bD)
        replace O5 := hide (O5.out.below bD)
        replace O7 := hide (O7.out.below bD)
        replace O9 := hide (O9.out.below bD)
        have z13 := bD.size
        replace HB := hide (HB.out.trans (bD.mono HB.out.size))
        clear bD
        have y0_0 := (box_of X10.out).1 0 _ rfl
        have y1_0 := (box_of X11.out).1 0 _ rfl
        have y1_1 := (box_of X11.out).1 1 _ rfl
        have y1_2 := (box_of X11.out).1 2 _ rfl
        have y2_0 := (box_of X12.out).1 0 _ rfl
        have y2_1 := (box_of X12.out).1 1 _ rfl
        have y2_2 := (box_of X12.out).1 2 _ rfl
        go_wp2_with fail
        clear y0_0 y1_0 y1_1 y1_2 y2_0 y2_1 y2_2
        generalize w9.alloc (.cells #[.slice p9_1 b.lo.length q9_1, .slice p9_2 b.st.length q9_2, .int .i64 b.h] 37) = w10 at *
        refine (meetI _ x _ a b _ _ _ _ (pgD_own O5.out) (flD_own O7.out).1 (flD_own O7.out).2 (flD_own O9.out).1 (flD_own O9.out).2 HGx.out.k HGa.out HGb.out).mono ?_
        rintro e w11 ⟨n11_1, n11_2, rfl, o9, b9⟩
        rw [HV0.out] at o9 ⊢
        rw [HV1.out]
        obtain ⟨p11_1, q11_1, f11_1, _⟩ := (flD_own o9).1.shape
        subst f11_1
        obtain ⟨p11_2, q11_2, f11_2, _⟩ := (flD_own o9).2.shape
        subst f11_2
        unfold flV
        have O11 := hide o9
        clear o9
        replace E0 := hide ((b9.block _ (Array.getElem?_eq_some_iff.1 E0.out).1).trans E0.out)
        replace E1 := hide ((b9.block _ (Array.getElem?_eq_some_iff.1 E1.out).1).trans E1.out)
        replace E2 := hide ((b9.block _ (Array.getElem?_eq_some_iff.1 E2.out).1).trans E2.out)
        replace X8 := hide ((b9.block _ (Array.getElem?_eq_some_iff.1 X8.out).1).trans X8.out)
        replace X10 := hide ((b9.block _ (Array.getElem?_eq_some_iff.1 X10.out).1).trans X10.out)
        replace X11 := hide ((b9.block _ (Array.getElem?_eq_some_iff.1 X11.out).1).trans X11.out)
        replace X12 := hide ((b9.block _ (Array.getElem?_eq_some_iff.1 X12.out).1).trans X12.out)
        replace OX8 := hide (OX8.out.below b9)
        replace O5 := hide (O5.out.below b9)
        replace O7 := hide (O7.out.below b9)
        replace O9 := hide (O9.out.below b9)
        have z14 := b9.size
        replace HB := hide (HB.out.trans (b9.mono HB.out.size))
        clear b9
        have bD := (Below.refl w11.heap.size w11).alloc (Nat.le_refl _) (.cells #[.slice p11_1 V0.lo.length q11_1, .slice p11_2 V0.st.length q11_2, .int .i64 V0.h] 37)
        have X13 := hide (heap_alloc_new w11 (.cells #[.slice p11_1 V0.lo.length q11_1, .slice p11_2 V0.st.length q11_2, .int .i64 V0.h] 37))
        have z15 : w11.heap.size < (w11.alloc (.cells #[.slice p11_1 V0.lo.length q11_1, .slice p11_2 V0.st.length q11_2, .int .i64 V0.h] 37)).heap.size := by simp
        replace E0 := hide ((bD.block _ (Array.getElem?_eq_some_iff.1 E0.out).1).trans E0.out)
        replace E1 := hide ((bD.block _ (Array.getElem?_eq_some_iff.1 E1.out).1).trans E1.out)
        replace E2 := hide ((bD.block _ (Array.getElem?_eq_some_iff.1 E2.out).1).trans E2.out)
        replace X8 := hide ((bD.block _ (Array.getElem?_eq_some_iff.1 X8.out).1).trans X8.out)
        replace X10 := hide ((bD.block _ (Array.getElem?_eq_some_iff.1 X10.out).1).trans X10.out)
        replace X11 := hide ((bD.block _ (Array.getElem?_eq_some_iff.1 X11.out).1).trans X11.out)
        replace X12 := hide ((bD.block _ (Array.getElem?_eq_some_iff.1 X12.out).1).trans X12.out)
        replace OX8 := hide (OX8.out.below bD)
        replace O5 := hide (O5.out.below bD)
        replace O7 := hide (O7.out.below bD)
        replace O9 := hide (O9.out.below bD)
        replace O11 := hide (O11.out.below bD)
        have z16 := bD.size
        replace HB := hide (HB.out.trans (bD.mono HB.out.size))
        clear bD
        have y0_0 := (box_of X13.out).1 0 _ rfl
        have y0_1 := (box_of X13.out).1 1 _ rfl
        have y0_2 := (box_of X13.out).1 2 _ rfl
        have y1_0 := (box_of X8.out).1 0 _ rfl
        have y1_1 := (box_of X8.out).1 1 _ rfl
        have y1_2 := (box_of X8.out).1 2 _ rfl
        go_wp2_with fail
        clear y0_0 y0_1 y0_2 y1_0 y1_1 y1_2
        generalize w11.alloc (.cells #[.slice p11_1 V0.lo.length q11_1, .slice p11_2 V0.st.length q11_2, .int .i64 V0.h] 37) = w12 at *
        refine (eqFl _ V0 _ _ _ _ (flD_own O11.out).1 (flD_own O11.out).2 (flD_own OX8.out).1 (flD_own OX8.out).2 HGV0.out).mono ?_
        rintro e w13 ⟨rfl, b9⟩
        replace E0 := hide ((b9.block _ (Array.getElem?_eq_some_iff.1 E0.out).1).trans E0.out)
        replace E1 := hide ((b9.block _ (Array.getElem?_eq_some_iff.1 E1.out).1).trans E1.out)
        replace E2 := hide ((b9.block _ (Array.getElem?_eq_some_iff.1 E2.out).1).trans E2.out)
        replace X8 := hide ((b9.block _ (Array.getElem?_eq_some_iff.1 X8.out).1).trans X8.out)
        replace X10 := hide ((b9.block _ (Array.getElem?_eq_some_iff.1 X10.out).1).trans X10.out)
        replace X11 := hide ((b9.block _ (Array.getElem?_eq_some_iff.1 X11.out).1).trans X11.out)
        replace X12 := hide ((b9.block _ (Array.getElem?_eq_some_iff.1 X12.out).1).trans X12.out)
        replace X13 := hide ((b9.block _ (Array.getElem?_eq_some_iff.1 X13.out).1).trans X13.out)
        replace OX8 := hide (OX8.out.below b9)
        replace O5 := hide (O5.out.below b9)
        replace O7 := hide (O7.out.below b9)
        replace O9 := hide (O9.out.below b9)
        replace O11 := hide (O11.out.below b9)
        have z17 := b9.size
        replace HB := hide (HB.out.trans (b9.mono HB.out.size))
        clear b9
        go_upto_region 18 with fail
        have HCL : Hid (∀ w', Below w13.heap.size w13 w' → w'.cell? ⟨w5.heap.size, 0, none⟩ = some (.slice p5_1 x.k.length q5_1) ∧ w'.cell? ⟨w.heap.size, 0, none⟩ = some (.slice ax1 x.k.length cx1)) := hide (fun w' hb => ⟨(box_of ((hb.block _ (Array.getElem?_eq_some_iff.1 X10.out).1).trans X10.out)).1 0 _ rfl, (box_of ((hb.block _ (Array.getElem?_eq_some_iff.1 E0.out).1).trans E0.out)).1 0 _ rfl⟩)
        have HD := hide (Below.refl w13.heap.size w13).drew
        go_cut [71] from 67 to 71 (fun s wq => s = .bool false ∧ Hid (Below w13.heap.size w13 wq))
        case first =>
          refine wp_region_held_drew (S := fun w' => w'.cell? ⟨w5.heap.size, 0, none⟩ = some (.slice p5_1 x.k.length q5_1) ∧ w'.cell? ⟨w.heap.size, 0, none⟩ = some (.slice ax1 x.k.length cx1)) (by kernel_rfl) (HCL.out _ HD.out) (fun hHeld => ?_)
          have HW := HD
          clear HD
          generalize w13.drew = Z0 at *
          refine wpAnyH_take (i := 0) (v := .agg #[.slice p5_1 x.k.length q5_1]) rfl (by kernel_rfl) (by kernel_rfl) (by kernel_rfl) (fun _ _ _ h => h) (Or.inl ⟨by rfl, ?_⟩) (by assumption) ?_
          · intro w' hSw
            try dsimp only at hSw
            go_simp; try rfl
          simp only [List.getElem_toArray, List.getElem_cons_zero, Act.put, List.setIfInBounds_toArray, List.set_cons_zero, List.set_cons_succ]
          refine wpAnyH_take (i := 1) (v := .agg #[.slice ax1 x.k.length cx1]) rfl (by kernel_rfl) (by kernel_rfl) (by kernel_rfl) (fun _ _ _ h => h) (Or.inl ⟨by rfl, ?_⟩) (by assumption) ?_
          · intro w' hSw
            try dsimp only at hSw
            go_simp; try rfl
          simp only [List.getElem_toArray, List.getElem_cons_succ, List.getElem_cons_zero, Act.put, List.setIfInBounds_toArray, List.set_cons_zero, List.set_cons_succ]
          refine wpAnyH_ready (rs := [2]) (by kernel_rfl) (by simp) (AllReadyH.cons rfl (fun K hK => ?_) AllReadyH.nil)
          refine step_callW (some 69) (by kernel_rfl) (by kernel_rfl) 8 _ _ rfl #[.agg #[.slice ax1 x.k.length cx1]] (by kernel_rfl) (toPg _ x _ (Px1.out.at (HB.out.trans (HW.out.mono HB.out.size))) HGx.out) ?_
          rintro e Z1 ⟨n91_1, rfl, o9, b9⟩
          obtain ⟨p91_1, q91_1, f91_1, _⟩ := (pgD_own o9).shape
          subst f91_1
          have OH91 := hide o9
          clear o9
          unfold pgV
          replace HW := hide (HW.out.trans (b9.mono HW.out.size))
          clear b9
          refine ⟨_, rfl, ?_⟩
          refine hK.out _ _ (HCL.out _ HW.out) (fun hHeld => ?_)
          clear hK K
          simp only [Act.put, List.setIfInBounds_toArray, List.set_cons_zero, List.set_cons_succ]
          refine wpAnyH_ready (rs := [3]) (by kernel_rfl) (by simp) (AllReadyH.cons rfl (fun K hK => ?_) AllReadyH.nil)
          refine step_callW (some 70) (by kernel_rfl) (by kernel_rfl) 11 _ _ rfl #[.agg #[.slice p5_1 x.k.length q5_1], .agg #[.slice p91_1 x.k.length q91_1]] (by kernel_rfl) (eqPg _ x _ _ (pgD_own (O5.out.below HW.out)) (pgD_own OH91.out) HGx.out) ?_
          rintro e Z2 ⟨rfl, b9⟩
          replace OH91 := hide (OH91.out.below b9)
          replace HW := hide (HW.out.trans (b9.mono HW.out.size))
          clear b9
          refine ⟨_, rfl, ?_⟩
          refine hK.out _ _ (HCL.out _ HW.out) (fun hHeld => ?_)
          clear hK K
          simp only [Act.put, List.setIfInBounds_toArray, List.set_cons_zero, List.set_cons_succ]
          refine wpAnyH_take (i := 4) (v := ?_) rfl (by kernel_rfl) (by kernel_rfl) (by kernel_rfl) (fun _ _ _ h => h) (Or.inl ⟨by rfl, ?_⟩) (by assumption) ?_
          rotate_left
          · intro w' hSw
            try dsimp only at hSw
            go_simp; try rfl
          simp only [List.getElem_toArray, List.getElem_cons_succ, List.getElem_cons_zero, Act.put, List.setIfInBounds_toArray, List.set_cons_zero, List.set_cons_succ]
          refine wpAnyH_done (by kernel_rfl) ?_ _
          go_wp2_with fail
          go_meet
          exact ⟨rfl, HW⟩
        case rest =>
        obtain ⟨rfl, HQ9⟩ := hcut
        have b9 := HQ9.out
        clear HQ9 HCL HD
        replace E0 := hide ((b9.block _ (Array.getElem?_eq_some_iff.1 E0.out).1).trans E0.out)
        replace E1 := hide ((b9.block _ (Array.getElem?_eq_some_iff.1 E1.out).1).trans E1.out)
        replace E2 := hide ((b9.block _ (Array.getElem?_eq_some_iff.1 E2.out).1).trans E2.out)
        replace X8 := hide ((b9.block _ (Array.getElem?_eq_some_iff.1 X8.out).1).trans X8.out)
        replace X10 := hide ((b9.block _ (Array.getElem?_eq_some_iff.1 X10.out).1).trans X10.out)
        replace X11 := hide ((b9.block _ (Array.getElem?_eq_some_iff.1 X11.out).1).trans X11.out)
        replace X12 := hide ((b9.block _ (Array.getElem?_eq_some_iff.1 X12.out).1).trans X12.out)
        replace X13 := hide ((b9.block _ (Array.getElem?_eq_some_iff.1 X13.out).1).trans X13.out)
        replace OX8 := hide (OX8.out.below b9)
        replace O5 := hide (O5.out.below b9)
        replace O7 := hide (O7.out.below b9)
        replace O9 := hide (O9.out.below b9)
        replace O11 := hide (O11.out.below b9)
        have z18 := b9.size
        replace HB := hide (HB.out.trans (b9.mono HB.out.size))
        clear b9
        generalize wc = w14 at *
        go_upto_region 20 with fail
        have HCL : Hid (∀ w', Below w14.heap.size w14 w' → w'.cell? ⟨w7.heap.size, 0, none⟩ = some (.slice p7_1 a.lo.length q7_1) ∧ w'.cell? ⟨w7.heap.size, 1, none⟩ = some (.slice p7_2 a.st.length q7_2) ∧ w'.cell? ⟨w7.heap.size, 2, none⟩ = some (.int .i64 a.h) ∧ w'.cell? ⟨w.heap.size + 1, 0, none⟩ = some (.slice aa1 a.lo.length ca1) ∧ w'.cell? ⟨w.heap.size + 1, 1, none⟩ = some (.slice aa2 a.st.length ca2) ∧ w'.cell? ⟨w.heap.size + 1, 2, none⟩ = some (.int .i64 a.h)) := hide (fun w' hb => ⟨(box_of ((hb.block _ (Array.getElem?_eq_some_iff.1 X11.out).1).trans X11.out)).1 0 _ rfl, (box_of ((hb.block _ (Array.getElem?_eq_some_iff.1 X11.out).1).trans X11.out)).1 1 _ rfl, (box_of ((hb.block _ (Array.getElem?_eq_some_iff.1 X11.out).1).trans X11.out)).1 2 _ rfl, (box_of ((hb.block _ (Array.getElem?_eq_some_iff.1 E1.out).1).trans E1.out)).1 0 _ rfl, (box_of ((hb.block _ (Array.getElem?_eq_some_iff.1 E1.out).1).trans E1.out)).1 1 _ rfl, (box_of ((hb.block _ (Array.getElem?_eq_some_iff.1 E1.out).1).trans E1.out)).1 2 _ rfl⟩)
        have HD := hide (Below.refl w14.heap.size w14).drew
        go_cut [76] from 72 to 76 (fun s wq => s = .bool false ∧ Hid (Below w14.heap.size w14 wq))
        case first =>
          refine wp_region_held_drew (S := fun w' => w'.cell? ⟨w7.heap.size, 0, none⟩ = some (.slice p7_1 a.lo.length q7_1) ∧ w'.cell? ⟨w7.heap.size, 1, none⟩ = some (.slice p7_2 a.st.length q7_2) ∧ w'.cell? ⟨w7.heap.size, 2, none⟩ = some (.int .i64 a.h) ∧ w'.cell? ⟨w.heap.size + 1, 0, none⟩ = some (.slice aa1 a.lo.length ca1) ∧ w'.cell? ⟨w.heap.size + 1, 1, none⟩ = some (.slice aa2 a.st.length ca2) ∧ w'.cell? ⟨w.heap.size + 1, 2, none⟩ = some (.int .i64 a.h)) (by kernel_rfl) (HCL.out _ HD.out) (fun hHeld => ?_)
          have HW := HD
          clear HD
          generalize w14.drew = Z0 at *
          refine wpAnyH_take (i := 0) (v := .agg #[.slice p7_1 a.lo.length q7_1, .slice p7_2 a.st.length q7_2, .int .i64 a.h]) rfl (by kernel_rfl) (by kernel_rfl) (by kernel_rfl) (fun _ _ _ h => h) (Or.inl ⟨by rfl, ?_⟩) (by assumption) ?_
          · intro w' hSw
            try dsimp only at hSw
            go_simp; try rfl
          simp only [List.getElem_toArray, List.getElem_cons_zero, Act.put, List.setIfInBounds_toArray, List.set_cons_zero, List.set_cons_succ]
          refine wpAnyH_take (i := 1) (v := .agg #[.slice aa1 a.lo.length ca1, .slice aa2 a.st.length ca2, .int .i64 a.h]) rfl (by kernel_rfl) (by kernel_rfl) (by kernel_rfl) (fun _ _ _ h => h) (Or.inl ⟨by rfl, ?_⟩) (by assumption) ?_
          · intro w' hSw
            try dsimp only at hSw
            go_simp; try rfl
          simp only [List.getElem_toArray, List.getElem_cons_succ, List.getElem_cons_zero, Act.put, List.setIfInBounds_toArray, List.set_cons_zero, List.set_cons_succ]
          refine wpAnyH_ready (rs := [2]) (by kernel_rfl) (by simp) (AllReadyH.cons rfl (fun K hK => ?_) AllReadyH.nil)
          refine step_callW (some 74) (by kernel_rfl) (by kernel_rfl) 9 _ _ rfl #[.agg #[.slice aa1 a.lo.length ca1, .slice aa2 a.st.length ca2, .int .i64 a.h]] (by kernel_rfl) (toFl _ a _ _ (Pa1.out.at (HB.out.trans (HW.out.mono HB.out.size))) (Pa2.out.at (HB.out.trans (HW.out.mono HB.out.size))) HGa.out) ?_
          rintro e Z1 ⟨n91_1, n91_2, rfl, o9, b9⟩
          obtain ⟨p91_1, q91_1, f91_1, _⟩ := (flD_own o9).1.shape
          subst f91_1
          obtain ⟨p91_2, q91_2, f91_2, _⟩ := (flD_own o9).2.shape
          subst f91_2
          have OH91 := hide o9
          clear o9
          unfold flV
          replace HW := hide (HW.out.trans (b9.mono HW.out.size))
          clear b9
          refine ⟨_, rfl, ?_⟩
          refine hK.out _ _ (HCL.out _ HW.out) (fun hHeld => ?_)
          clear hK K
          simp only [Act.put, List.setIfInBounds_toArray, List.set_cons_zero, List.set_cons_succ]
          refine wpAnyH_ready (rs := [3]) (by kernel_rfl) (by simp) (AllReadyH.cons rfl (fun K hK => ?_) AllReadyH.nil)
          refine step_callW (some 75) (by kernel_rfl) (by kernel_rfl) 12 _ _ rfl #[.agg #[.slice p7_1 a.lo.length q7_1, .slice p7_2 a.st.length q7_2, .int .i64 a.h], .agg #[.slice p91_1 a.lo.length q91_1, .slice p91_2 a.st.length q91_2, .int .i64 a.h]] (by kernel_rfl) (eqFl _ a _ _ _ _ (flD_own (O7.out.below HW.out)).1 (flD_own (O7.out.below HW.out)).2 (flD_own OH91.out).1 (flD_own OH91.out).2 HGa.out) ?_
          rintro e Z2 ⟨rfl, b9⟩
          replace OH91 := hide (OH91.out.below b9)
          replace HW := hide (HW.out.trans (b9.mono HW.out.size))
          clear b9
          refine ⟨_, rfl, ?_⟩
          refine hK.out _ _ (HCL.out _ HW.out) (fun hHeld => ?_)
          clear hK K
          simp only [Act.put, List.setIfInBounds_toArray, List.set_cons_zero, List.set_cons_succ]
          refine wpAnyH_take (i := 4) (v := ?_) rfl (by kernel_rfl) (by kernel_rfl) (by kernel_rfl) (fun _ _ _ h => h) (Or.inl ⟨by rfl, ?_⟩) (by assumption) ?_
          rotate_left
          · intro w' hSw
            try dsimp only at hSw
            go_simp; try rfl
          simp only [List.getElem_toArray, List.getElem_cons_succ, List.getElem_cons_zero, Act.put, List.setIfInBounds_toArray, List.set_cons_zero, List.set_cons_succ]
          refine wpAnyH_done (by kernel_rfl) ?_ _
          go_wp2_with fail
          go_meet
          exact ⟨rfl, HW⟩
        case rest =>
        obtain ⟨rfl, HQ9⟩ := hcut
        have b9 := HQ9.out
        clear HQ9 HCL HD
        replace E0 := hide ((b9.block _ (Array.getElem?_eq_some_iff.1 E0.out).1).trans E0.out)
        replace E1 := hide ((b9.block _ (Array.getElem?_eq_some_iff.1 E1.out).1).trans E1.out)
        replace E2 := hide ((b9.block _ (Array.getElem?_eq_some_iff.1 E2.out).1).trans E2.out)
        replace X8 := hide ((b9.block _ (Array.getElem?_eq_some_iff.1 X8.out).1).trans X8.out)
        replace X10 := hide ((b9.block _ (Array.getElem?_eq_some_iff.1 X10.out).1).trans X10.out)
        replace X11 := hide ((b9.block _ (Array.getElem?_eq_some_iff.1 X11.out).1).trans X11.out)
        replace X12 := hide ((b9.block _ (Array.getElem?_eq_some_iff.1 X12.out).1).trans X12.out)
        replace X13 := hide ((b9.block _ (Array.getElem?_eq_some_iff.1 X13.out).1).trans X13.out)
        replace OX8 := hide (OX8.out.below b9)
        replace O5 := hide (O5.out.below b9)
        replace O7 := hide (O7.out.below b9)
        replace O9 := hide (O9.out.below b9)
        replace O11 := hide (O11.out.below b9)
        have z19 := b9.size
        replace HB := hide (HB.out.trans (b9.mono HB.out.size))
        clear b9
        generalize wc = w15 at *
        go_upto_region 22 with fail
        have HCL : Hid (∀ w', Below w15.heap.size w15 w' → w'.cell? ⟨w9.heap.size, 0, none⟩ = some (.slice p9_1 b.lo.length q9_1) ∧ w'.cell? ⟨w9.heap.size, 1, none⟩ = some (.slice p9_2 b.st.length q9_2) ∧ w'.cell? ⟨w9.heap.size, 2, none⟩ = some (.int .i64 b.h) ∧ w'.cell? ⟨w.heap.size + 1 + 1, 0, none⟩ = some (.slice ab1 b.lo.length cb1) ∧ w'.cell? ⟨w.heap.size + 1 + 1, 1, none⟩ = some (.slice ab2 b.st.length cb2) ∧ w'.cell? ⟨w.heap.size + 1 + 1, 2, none⟩ = some (.int .i64 b.h)) := hide (fun w' hb => ⟨(box_of ((hb.block _ (Array.getElem?_eq_some_iff.1 X12.out).1).trans X12.out)).1 0 _ rfl, (box_of ((hb.block _ (Array.getElem?_eq_some_iff.1 X12.out).1).trans X12.out)).1 1 _ rfl, (box_of ((hb.block _ (Array.getElem?_eq_some_iff.1 X12.out).1).trans X12.out)).1 2 _ rfl, (box_of ((hb.block _ (Array.getElem?_eq_some_iff.1 E2.out).1).trans E2.out)).1 0 _ rfl, (box_of ((hb.block _ (Array.getElem?_eq_some_iff.1 E2.out).1).trans E2.out)).1 1 _ rfl, (box_of ((hb.block _ (Array.getElem?_eq_some_iff.1 E2.out).1).trans E2.out)).1 2 _ rfl⟩)
        have HD := hide (Below.refl w15.heap.size w15).drew
        go_cut [81] from 77 to 81 (fun s wq => s = .bool false ∧ Hid (Below w15.heap.size w15 wq))
        case first =>
          refine wp_region_held_drew (S := fun w' => w'.cell? ⟨w9.heap.size, 0, none⟩ = some (.slice p9_1 b.lo.length q9_1) ∧ w'.cell? ⟨w9.heap.size, 1, none⟩ = some (.slice p9_2 b.st.length q9_2) ∧ w'.cell? ⟨w9.heap.size, 2, none⟩ = some (.int .i64 b.h) ∧ w'.cell? ⟨w.heap.size + 1 + 1, 0, none⟩ = some (.slice ab1 b.lo.length cb1) ∧ w'.cell? ⟨w.heap.size + 1 + 1, 1, none⟩ = some (.slice ab2 b.st.length cb2) ∧ w'.cell? ⟨w.heap.size + 1 + 1, 2, none⟩ = some (.int .i64 b.h)) (by kernel_rfl) (HCL.out _ HD.out) (fun hHeld => ?_)
          have HW := HD
          clear HD
          generalize w15.drew = Z0 at *
          refine wpAnyH_take (i := 0) (v := .agg #[.slice p9_1 b.lo.length q9_1, .slice p9_2 b.st.length q9_2, .int .i64 b.h]) rfl (by kernel_rfl) (by kernel_rfl) (by kernel_rfl) (fun _ _ _ h => h) (Or.inl ⟨by rfl, ?_⟩) (by assumption) ?_
          · intro w' hSw
            try dsimp only at hSw
            go_simp; try rfl
          simp only [List.getElem_toArray, List.getElem_cons_zero, Act.put, List.setIfInBounds_toArray, List.set_cons_zero, List.set_cons_succ]
          refine wpAnyH_take (i := 1) (v := .agg #[.slice ab1 b.lo.length cb1, .slice ab2 b.st.length cb2, .int .i64 b.h]) rfl (by kernel_rfl) (by kernel_rfl) (by kernel_rfl) (fun _ _ _ h => h) (Or.inl ⟨by rfl, ?_⟩) (by assumption) ?_
          · intro w' hSw
            try dsimp only at hSw
            go_simp; try rfl
          simp only [List.getElem_toArray, List.getElem_cons_succ, List.getElem_cons_zero, Act.put, List.setIfInBounds_toArray, List.set_cons_zero, List.set_cons_succ]
          refine wpAnyH_ready (rs := [2]) (by kernel_rfl) (by simp) (AllReadyH.cons rfl (fun K hK => ?_) AllReadyH.nil)
          refine step_callW (some 79) (by kernel_rfl) (by kernel_rfl) 9 _ _ rfl #[.agg #[.slice ab1 b.lo.length cb1, .slice ab2 b.st.length cb2, .int .i64 b.h]] (by kernel_rfl) (toFl _ b _ _ (Pb1.out.at (HB.out.trans (HW.out.mono HB.out.size))) (Pb2.out.at (HB.out.trans (HW.out.mono HB.out.size))) HGb.out) ?_
          rintro e Z1 ⟨n91_1, n91_2, rfl, o9, b9⟩
          obtain ⟨p91_1, q91_1, f91_1, _⟩ := (flD_own o9).1.shape
          subst f91_1
          obtain ⟨p91_2, q91_2, f91_2, _⟩ := (flD_own o9).2.shape
          subst f91_2
          have OH91 := hide o9
          clear o9
          unfold flV
          replace HW := hide (HW.out.trans (b9.mono HW.out.size))
          clear b9
          refine ⟨_, rfl, ?_⟩
          refine hK.out _ _ (HCL.out _ HW.out) (fun hHeld => ?_)
          clear hK K
          simp only [Act.put, List.setIfInBounds_toArray, List.set_cons_zero, List.set_cons_succ]
          refine wpAnyH_ready (rs := [3]) (by kernel_rfl) (by simp) (AllReadyH.cons rfl (fun K hK => ?_) AllReadyH.nil)
          refine step_callW (some 80) (by kernel_rfl) (by kernel_rfl) 12 _ _ rfl #[.agg #[.slice p9_1 b.lo.length q9_1, .slice p9_2 b.st.length q9_2, .int .i64 b.h], .agg #[.slice p91_1 b.lo.length q91_1, .slice p91_2 b.st.length q91_2, .int .i64 b.h]] (by kernel_rfl) (eqFl _ b _ _ _ _ (flD_own (O9.out.below HW.out)).1 (flD_own (O9.out.below HW.out)).2 (flD_own OH91.out).1 (flD_own OH91.out).2 HGb.out) ?_
          rintro e Z2 ⟨rfl, b9⟩
          replace OH91 := hide (OH91.out.below b9)
          replace HW := hide (HW.out.trans (b9.mono HW.out.size))
          clear b9
          refine ⟨_, rfl, ?_⟩
          refine hK.out _ _ (HCL.out _ HW.out) (fun hHeld => ?_)
          clear hK K
          simp only [Act.put, List.setIfInBounds_toArray, List.set_cons_zero, List.set_cons_succ]
          refine wpAnyH_take (i := 4) (v := ?_) rfl (by kernel_rfl) (by kernel_rfl) (by kernel_rfl) (fun _ _ _ h => h) (Or.inl ⟨by rfl, ?_⟩) (by assumption) ?_
          rotate_left
          · intro w' hSw
            try dsimp only at hSw
            go_simp; try rfl
          simp only [List.getElem_toArray, List.getElem_cons_succ, List.getElem_cons_zero, Act.put, List.setIfInBounds_toArray, List.set_cons_zero, List.set_cons_succ]
          refine wpAnyH_done (by kernel_rfl) ?_ _
          go_wp2_with fail
          go_meet
          exact ⟨rfl, HW⟩
        case rest =>
        obtain ⟨rfl, HQ9⟩ := hcut
        have b9 := HQ9.out
        clear HQ9 HCL HD
        replace E0 := hide ((b9.block _ (Array.getElem?_eq_some_iff.1 E0.out).1).trans E0.out)
        replace E1 := hide ((b9.block _ (Array.getElem?_eq_some_iff.1 E1.out).1).trans E1.out)
        replace E2 := hide ((b9.block _ (Array.getElem?_eq_some_iff.1 E2.out).1).trans E2.out)
        replace X8 := hide ((b9.block _ (Array.getElem?_eq_some_iff.1 X8.out).1).trans X8.out)
        replace X10 := hide ((b9.block _ (Array.getElem?_eq_some_iff.1 X10.out).1).trans X10.out)
        replace X11 := hide ((b9.block _ (Array.getElem?_eq_some_iff.1 X11.out).1).trans X11.out)
        replace X12 := hide ((b9.block _ (Array.getElem?_eq_some_iff.1 X12.out).1).trans X12.out)
        replace X13 := hide ((b9.block _ (Array.getElem?_eq_some_iff.1 X13.out).1).trans X13.out)
        replace OX8 := hide (OX8.out.below b9)
        replace O5 := hide (O5.out.below b9)
        replace O7 := hide (O7.out.below b9)
        replace O9 := hide (O9.out.below b9)
        replace O11 := hide (O11.out.below b9)
        have z20 := b9.size
        replace HB := hide (HB.out.trans (b9.mono HB.out.size))
        clear b9
        generalize wc = w16 at *
        have y0_0 := (box_of X10.out).1 0 _ rfl
        go_wp2_with fail
        clear y0_0
        have hct17 := pgCto_le x
        refine (mkPgI _ (w4.heap.size) (w5.heap.size) 1 _ (by first | rfl | omega) x _ O5.out (by omega) (by omega)).mono ?_
        rintro e w17 ⟨rfl, o9, c9⟩
        replace O5 := hide o9
        clear o9
        replace E0 := hide ((c9.block _ (Array.getElem?_eq_some_iff.1 E0.out).1 (by omega)).trans E0.out)
        replace E1 := hide ((c9.block _ (Array.getElem?_eq_some_iff.1 E1.out).1 (by omega)).trans E1.out)
        replace E2 := hide ((c9.block _ (Array.getElem?_eq_some_iff.1 E2.out).1 (by omega)).trans E2.out)
        replace X8 := hide ((c9.block _ (Array.getElem?_eq_some_iff.1 X8.out).1 (by omega)).trans X8.out)
        replace X10 := hide ((c9.block _ (Array.getElem?_eq_some_iff.1 X10.out).1 (by omega)).trans X10.out)
        replace X11 := hide ((c9.block _ (Array.getElem?_eq_some_iff.1 X11.out).1 (by omega)).trans X11.out)
        replace X12 := hide ((c9.block _ (Array.getElem?_eq_some_iff.1 X12.out).1 (by omega)).trans X12.out)
        replace X13 := hide ((c9.block _ (Array.getElem?_eq_some_iff.1 X13.out).1 (by omega)).trans X13.out)
        replace OX8 := hide (OX8.out.apart c9 (by omega))
        replace O7 := hide (O7.out.apart c9 (by omega))
        replace O9 := hide (O9.out.apart c9 (by omega))
        replace O11 := hide (O11.out.apart c9 (by omega))
        have z21 := c9.size
        replace HB := hide (HB.out.trans (c9.below (by omega) HB.out.size))
        clear c9
        obtain ⟨K17, hk17⟩ : ∃ k, 1 + pgCto x = k := ⟨_, rfl⟩
        rw [hk17]
        have hkp17 : 0 < K17 := by omega
        have hkb17 : K17 ≤ 8388608 + 1 := by omega
        have hkn17 : ¬ ((K17 : Nat) : Int) < 0 := by omega
        clear hk17 hct17
        clear O5
        have y0_0 := (box_of X11.out).1 0 _ rfl
        have y0_1 := (box_of X11.out).1 1 _ rfl
        have y0_2 := (box_of X11.out).1 2 _ rfl
        go_wp2_with fail
        clear y0_0 y0_1 y0_2
        have hct18 := flCto_le a
        refine (mkFlI _ (w6.heap.size) (w7.heap.size) K17 _ (by first | rfl | omega) a _ _ O7.out (by omega) (by omega)).mono ?_
        rintro e w18 ⟨rfl, o9, c9⟩
        replace O7 := hide o9
        clear o9
        replace E0 := hide ((c9.block _ (Array.getElem?_eq_some_iff.1 E0.out).1 (by omega)).trans E0.out)
        replace E1 := hide ((c9.block _ (Array.getElem?_eq_some_iff.1 E1.out).1 (by omega)).trans E1.out)
        replace E2 := hide ((c9.block _ (Array.getElem?_eq_some_iff.1 E2.out).1 (by omega)).trans E2.out)
        replace X8 := hide ((c9.block _ (Array.getElem?_eq_some_iff.1 X8.out).1 (by omega)).trans X8.out)
        replace X10 := hide ((c9.block _ (Array.getElem?_eq_some_iff.1 X10.out).1 (by omega)).trans X10.out)
        replace X11 := hide ((c9.block _ (Array.getElem?_eq_some_iff.1 X11.out).1 (by omega)).trans X11.out)
        replace X12 := hide ((c9.block _ (Array.getElem?_eq_some_iff.1 X12.out).1 (by omega)).trans X12.out)
        replace X13 := hide ((c9.block _ (Array.getElem?_eq_some_iff.1 X13.out).1 (by omega)).trans X13.out)
        replace OX8 := hide (OX8.out.apart c9 (by omega))
        replace O9 := hide (O9.out.apart c9 (by omega))
        replace O11 := hide (O11.out.apart c9 (by omega))
        have z22 := c9.size
        replace HB := hide (HB.out.trans (c9.below (by omega) HB.out.size))
        clear c9
        obtain ⟨K18, hk18⟩ : ∃ k, K17 + flCto a = k := ⟨_, rfl⟩
        rw [hk18]
        have hkp18 : 0 < K18 := by omega
        have hkb18 : K18 ≤ 8388608 + K17 := by omega
        have hkn18 : ¬ ((K18 : Nat) : Int) < 0 := by omega
        clear hk18 hct18
        clear O7
        have y0_0 := (box_of X12.out).1 0 _ rfl
        have y0_1 := (box_of X12.out).1 1 _ rfl
        have y0_2 := (box_of X12.out).1 2 _ rfl
        go_wp2_with fail
        clear y0_0 y0_1 y0_2
        have hct19 := flCto_le b
        refine (mkFlI _ (w8.heap.size) (w9.heap.size) K18 _ (by first | rfl | omega) b _ _ O9.out (by omega) (by omega)).mono ?_
        rintro e w19 ⟨rfl, o9, c9⟩
        replace O9 := hide o9
        clear o9
        replace E0 := hide ((c9.block _ (Array.getElem?_eq_some_iff.1 E0.out).1 (by omega)).trans E0.out)
        replace E1 := hide ((c9.block _ (Array.getElem?_eq_some_iff.1 E1.out).1 (by omega)).trans E1.out)
        replace E2 := hide ((c9.block _ (Array.getElem?_eq_some_iff.1 E2.out).1 (by omega)).trans E2.out)
        replace X8 := hide ((c9.block _ (Array.getElem?_eq_some_iff.1 X8.out).1 (by omega)).trans X8.out)
        replace X10 := hide ((c9.block _ (Array.getElem?_eq_some_iff.1 X10.out).1 (by omega)).trans X10.out)
        replace X11 := hide ((c9.block _ (Array.getElem?_eq_some_iff.1 X11.out).1 (by omega)).trans X11.out)
        replace X12 := hide ((c9.block _ (Array.getElem?_eq_some_iff.1 X12.out).1 (by omega)).trans X12.out)
        replace X13 := hide ((c9.block _ (Array.getElem?_eq_some_iff.1 X13.out).1 (by omega)).trans X13.out)
        replace OX8 := hide (OX8.out.apart c9 (by omega))
        replace O11 := hide (O11.out.apart c9 (by omega))
        have z23 := c9.size
        replace HB := hide (HB.out.trans (c9.below (by omega) HB.out.size))
        clear c9
        obtain ⟨K19, hk19⟩ : ∃ k, K18 + flCto b = k := ⟨_, rfl⟩
        rw [hk19]
        have hkp19 : 0 < K19 := by omega
        have hkb19 : K19 ≤ 8388608 + K18 := by omega
        have hkn19 : ¬ ((K19 : Nat) : Int) < 0 := by omega
        clear hk19 hct19
        clear O9
        have y0_0 := (box_of X13.out).1 0 _ rfl
        have y0_1 := (box_of X13.out).1 1 _ rfl
        have y0_2 := (box_of X13.out).1 2 _ rfl
        have y1_0 := (box_of X8.out).1 0 _ rfl
        have y1_1 := (box_of X8.out).1 1 _ rfl
        have y1_2 := (box_of X8.out).1 2 _ rfl
        go_wp2_with fail
        clear y0_0 y0_1 y0_2 y1_0 y1_1 y1_2
        refine (eqFl _ V0 _ _ _ _ (flD_own O11.out).1 (flD_own O11.out).2 (flD_own OX8.out).1 (flD_own OX8.out).2 HGV0.out).mono ?_
        rintro e w20 ⟨rfl, b9⟩
        replace E0 := hide ((b9.block _ (Array.getElem?_eq_some_iff.1 E0.out).1).trans E0.out)
        replace E1 := hide ((b9.block _ (Array.getElem?_eq_some_iff.1 E1.out).1).trans E1.out)
        replace E2 := hide ((b9.block _ (Array.getElem?_eq_some_iff.1 E2.out).1).trans E2.out)
        replace X8 := hide ((b9.block _ (Array.getElem?_eq_some_iff.1 X8.out).1).trans X8.out)
        replace X10 := hide ((b9.block _ (Array.getElem?_eq_some_iff.1 X10.out).1).trans X10.out)
        replace X11 := hide ((b9.block _ (Array.getElem?_eq_some_iff.1 X11.out).1).trans X11.out)
        replace X12 := hide ((b9.block _ (Array.getElem?_eq_some_iff.1 X12.out).1).trans X12.out)
        replace X13 := hide ((b9.block _ (Array.getElem?_eq_some_iff.1 X13.out).1).trans X13.out)
        replace OX8 := hide (OX8.out.below b9)
        replace O11 := hide (O11.out.below b9)
        have z24 := b9.size
        replace HB := hide (HB.out.trans (b9.mono HB.out.size))
        clear b9
        have y0_0 := (box_of X13.out).1 0 _ rfl
        have y0_1 := (box_of X13.out).1 1 _ rfl
        have y0_2 := (box_of X13.out).1 2 _ rfl
        go_wp2_with fail
        clear y0_0 y0_1 y0_2
        refine (mkFlI _ (w10.heap.size) (w11.heap.size) 1 _ (by first | rfl | omega) V0 _ _ O11.out (by omega) (by omega)).mono ?_
        rintro e w21 ⟨rfl, o9, c9⟩
        replace O11 := hide o9
        clear o9
        replace E0 := hide ((c9.block _ (Array.getElem?_eq_some_iff.1 E0.out).1 (by omega)).trans E0.out)
        replace E1 := hide ((c9.block _ (Array.getElem?_eq_some_iff.1 E1.out).1 (by omega)).trans E1.out)
        replace E2 := hide ((c9.block _ (Array.getElem?_eq_some_iff.1 E2.out).1 (by omega)).trans E2.out)
        replace X8 := hide ((c9.block _ (Array.getElem?_eq_some_iff.1 X8.out).1 (by omega)).trans X8.out)
        replace X10 := hide ((c9.block _ (Array.getElem?_eq_some_iff.1 X10.out).1 (by omega)).trans X10.out)
        replace X11 := hide ((c9.block _ (Array.getElem?_eq_some_iff.1 X11.out).1 (by omega)).trans X11.out)
        replace X12 := hide ((c9.block _ (Array.getElem?_eq_some_iff.1 X12.out).1 (by omega)).trans X12.out)
        replace X13 := hide ((c9.block _ (Array.getElem?_eq_some_iff.1 X13.out).1 (by omega)).trans X13.out)
        replace OX8 := hide (OX8.out.apart c9 (by omega))
        have z25 := c9.size
        replace HB := hide (HB.out.trans (c9.below (by omega) HB.out.size))
        clear c9
        obtain ⟨K21, hk21⟩ : ∃ k, 1 + flCto V0 = k := ⟨_, rfl⟩
        rw [hk21]
        have hkp21 : 0 < K21 := by omega
        have hkb21 : K21 ≤ 90000000 + 1 := by omega
        have hkn21 : ¬ ((K21 : Nat) : Int) < 0 := by omega
        have HMV0 := hide hk21
        have hmmV0 : (((K21 : Nat) : Int) != ((K21 : Nat) : Int)) = false := by simp
        clear hk21
        have y0_0 := (box_of X13.out).1 0 _ rfl
        have y0_1 := (box_of X13.out).1 1 _ rfl
        have y0_2 := (box_of X13.out).1 2 _ rfl
        go_wp2_with fail
        clear y0_0 y0_1 y0_2
        refine (heldFlO _ 1 _ (by first | rfl | omega) V0 _ _ (O11.out.rd (Nat.le_refl _)) (by omega) (by omega)).mono ?_
        rintro e w22 ⟨rfl, b9⟩
        rw [HMV0.out]
        replace E0 := hide ((b9.block _ (Array.getElem?_eq_some_iff.1 E0.out).1).trans E0.out)
        replace E1 := hide ((b9.block _ (Array.getElem?_eq_some_iff.1 E1.out).1).trans E1.out)
        replace E2 := hide ((b9.block _ (Array.getElem?_eq_some_iff.1 E2.out).1).trans E2.out)
        replace X8 := hide ((b9.block _ (Array.getElem?_eq_some_iff.1 X8.out).1).trans X8.out)
        replace X10 := hide ((b9.block _ (Array.getElem?_eq_some_iff.1 X10.out).1).trans X10.out)
        replace X11 := hide ((b9.block _ (Array.getElem?_eq_some_iff.1 X11.out).1).trans X11.out)
        replace X12 := hide ((b9.block _ (Array.getElem?_eq_some_iff.1 X12.out).1).trans X12.out)
        replace X13 := hide ((b9.block _ (Array.getElem?_eq_some_iff.1 X13.out).1).trans X13.out)
        replace OX8 := hide (OX8.out.below b9)
        replace O11 := hide (O11.out.below b9)
        have z26 := b9.size
        replace HB := hide (HB.out.trans (b9.mono HB.out.size))
        clear b9
        go_upto_region 38 with fail
        have HCL : Hid (∀ w', Below w22.heap.size w22 w' → w'.cell? ⟨w.heap.size, 0, none⟩ = some (.slice ax1 x.k.length cx1) ∧ w'.cell? ⟨w.heap.size + 1, 0, none⟩ = some (.slice aa1 a.lo.length ca1) ∧ w'.cell? ⟨w.heap.size + 1, 1, none⟩ = some (.slice aa2 a.st.length ca2) ∧ w'.cell? ⟨w.heap.size + 1, 2, none⟩ = some (.int .i64 a.h) ∧ w'.cell? ⟨w.heap.size + 1 + 1, 0, none⟩ = some (.slice ab1 b.lo.length cb1) ∧ w'.cell? ⟨w.heap.size + 1 + 1, 1, none⟩ = some (.slice ab2 b.st.length cb2) ∧ w'.cell? ⟨w.heap.size + 1 + 1, 2, none⟩ = some (.int .i64 b.h)) := hide (fun w' hb => ⟨(box_of ((hb.block _ (Array.getElem?_eq_some_iff.1 E0.out).1).trans E0.out)).1 0 _ rfl, (box_of ((hb.block _ (Array.getElem?_eq_some_iff.1 E1.out).1).trans E1.out)).1 0 _ rfl, (box_of ((hb.block _ (Array.getElem?_eq_some_iff.1 E1.out).1).trans E1.out)).1 1 _ rfl, (box_of ((hb.block _ (Array.getElem?_eq_some_iff.1 E1.out).1).trans E1.out)).1 2 _ rfl, (box_of ((hb.block _ (Array.getElem?_eq_some_iff.1 E2.out).1).trans E2.out)).1 0 _ rfl, (box_of ((hb.block _ (Array.getElem?_eq_some_iff.1 E2.out).1).trans E2.out)).1 1 _ rfl, (box_of ((hb.block _ (Array.getElem?_eq_some_iff.1 E2.out).1).trans E2.out)).1 2 _ rfl⟩)
        have HD := hide (Below.refl w22.heap.size w22).drew
        go_cut [18, 19] from 115 to 124 (fun s18 s19 wq => ∃ g18 : Nat, ∃ (a18_1 : Option Addr) (k18_1 : Nat), ∃ (a18_2 : Option Addr) (k18_2 : Nat), ∃ l18 h18 : Nat, s18 = .pointer (some ⟨g18, 0, none⟩) ∧ s19 = .int .i64 V1 ∧ Hid (wq.heap[g18]? = some (.cells #[.slice a18_1 V0.lo.length k18_1, .slice a18_2 V0.st.length k18_2, .int .i64 V0.h] 37 (0, 0))) ∧ Hid (OwnDL wq l18 h18 (flD V0) [.slice a18_1 V0.lo.length k18_1, .slice a18_2 V0.st.length k18_2, .int .i64 V0.h]) ∧ w22.heap.size ≤ l18 ∧ l18 ≤ h18 ∧ h18 ≤ wq.heap.size ∧ (g18 < l18 ∨ h18 ≤ g18) ∧ w22.heap.size ≤ g18 ∧ g18 < wq.heap.size ∧ Hid (Below w22.heap.size w22 wq))
        case first =>
          have hi9 : ((Try.prog.info? 37).map (·.size)) = some 3 := by kernel_rfl
          refine wp_region_held_drew (S := fun w' => w'.cell? ⟨w.heap.size, 0, none⟩ = some (.slice ax1 x.k.length cx1) ∧ w'.cell? ⟨w.heap.size + 1, 0, none⟩ = some (.slice aa1 a.lo.length ca1) ∧ w'.cell? ⟨w.heap.size + 1, 1, none⟩ = some (.slice aa2 a.st.length ca2) ∧ w'.cell? ⟨w.heap.size + 1, 2, none⟩ = some (.int .i64 a.h) ∧ w'.cell? ⟨w.heap.size + 1 + 1, 0, none⟩ = some (.slice ab1 b.lo.length cb1) ∧ w'.cell? ⟨w.heap.size + 1 + 1, 1, none⟩ = some (.slice ab2 b.st.length cb2) ∧ w'.cell? ⟨w.heap.size + 1 + 1, 2, none⟩ = some (.int .i64 b.h)) (by kernel_rfl) (HCL.out _ HD.out) (fun hHeld => ?_)
          have HW := HD
          clear HD
          generalize w22.drew = Z0 at *
          refine wpAnyH_take (i := 0) (v := .agg #[.slice ax1 x.k.length cx1]) rfl (by kernel_rfl) (by kernel_rfl) (by kernel_rfl) (fun _ _ _ h => h) (Or.inl ⟨by rfl, ?_⟩) (by assumption) ?_
          · intro w' hSw
            try dsimp only at hSw
            go_simp; try rfl
          simp only [List.getElem_toArray, List.getElem_cons_zero, Act.put, List.setIfInBounds_toArray, List.set_cons_zero, List.set_cons_succ]
          refine wpAnyH_take (i := 2) (v := .agg #[.slice aa1 a.lo.length ca1, .slice aa2 a.st.length ca2, .int .i64 a.h]) rfl (by kernel_rfl) (by kernel_rfl) (by kernel_rfl) (fun _ _ _ h => h) (Or.inl ⟨by rfl, ?_⟩) (by assumption) ?_
          · intro w' hSw
            try dsimp only at hSw
            go_simp; try rfl
          simp only [List.getElem_toArray, List.getElem_cons_succ, List.getElem_cons_zero, Act.put, List.setIfInBounds_toArray, List.set_cons_zero, List.set_cons_succ]
          refine wpAnyH_take (i := 4) (v := .agg #[.slice ab1 b.lo.length cb1, .slice ab2 b.st.length cb2, .int .i64 b.h]) rfl (by kernel_rfl) (by kernel_rfl) (by kernel_rfl) (fun _ _ _ h => h) (Or.inl ⟨by rfl, ?_⟩) (by assumption) ?_
          · intro w' hSw
            try dsimp only at hSw
            go_simp; try rfl
          simp only [List.getElem_toArray, List.getElem_cons_succ, List.getElem_cons_zero, Act.put, List.setIfInBounds_toArray, List.set_cons_zero, List.set_cons_succ]
          refine wpAnyH_ready (rs := [1, 10]) (by kernel_rfl) (by simp) (AllReadyH.cons rfl (fun K hK => ?_) (AllReadyH.cons rfl (fun K hK => ?_) AllReadyH.nil))
          · skip
            refine step_callW (some 117) (by kernel_rfl) (by kernel_rfl) 8 _ _ rfl #[.agg #[.slice ax1 x.k.length cx1]] (by kernel_rfl) (toPg _ x _ (Px1.out.at (HB.out.trans (HW.out.mono HB.out.size))) HGx.out) ?_
            rintro e Z1 ⟨n91_1, rfl, o9, b9⟩
            obtain ⟨p91_1, q91_1, f91_1, _⟩ := (pgD_own o9).shape
            subst f91_1
            have OH91 := hide o9
            clear o9
            unfold pgV
            replace HW := hide (HW.out.trans (b9.mono HW.out.size))
            clear b9
            refine ⟨_, rfl, ?_⟩
            refine hK.out _ _ (HCL.out _ HW.out) (fun hHeld => ?_)
            clear hK K
            simp only [Act.put, List.setIfInBounds_toArray, List.set_cons_zero, List.set_cons_succ]
            refine wpAnyH_ready (rs := [3, 10]) (by kernel_rfl) (by simp) (AllReadyH.cons rfl (fun K hK => ?_) (AllReadyH.cons rfl (fun K hK => ?_) AllReadyH.nil))
            · skip
              refine step_callW (some 119) (by kernel_rfl) (by kernel_rfl) 9 _ _ rfl #[.agg #[.slice aa1 a.lo.length ca1, .slice aa2 a.st.length ca2, .int .i64 a.h]] (by kernel_rfl) (toFl _ a _ _ (Pa1.out.at (HB.out.trans (HW.out.mono HB.out.size))) (Pa2.out.at (HB.out.trans (HW.out.mono HB.out.size))) HGa.out) ?_
              rintro e Z2 ⟨n92_1, n92_2, rfl, o9, b9⟩
              obtain ⟨p92_1, q92_1, f92_1, _⟩ := (flD_own o9).1.shape
              subst f92_1
              obtain ⟨p92_2, q92_2, f92_2, _⟩ := (flD_own o9).2.shape
              subst f92_2
              have OH92 := hide o9
              clear o9
              unfold flV
              replace OH91 := hide (OH91.out.below b9)
              replace HW := hide (HW.out.trans (b9.mono HW.out.size))
              clear b9
              refine ⟨_, rfl, ?_⟩
              refine hK.out _ _ (HCL.out _ HW.out) (fun hHeld => ?_)
              clear hK K
              simp only [Act.put, List.setIfInBounds_toArray, List.set_cons_zero, List.set_cons_succ]
              refine wpAnyH_ready (rs := [5, 10]) (by kernel_rfl) (by simp) (AllReadyH.cons rfl (fun K hK => ?_) (AllReadyH.cons rfl (fun K hK => ?_) AllReadyH.nil))
              · skip
                refine step_callW (some 121) (by kernel_rfl) (by kernel_rfl) 9 _ _ rfl #[.agg #[.slice ab1 b.lo.length cb1, .slice ab2 b.st.length cb2, .int .i64 b.h]] (by kernel_rfl) (toFl _ b _ _ (Pb1.out.at (HB.out.trans (HW.out.mono HB.out.size))) (Pb2.out.at (HB.out.trans (HW.out.mono HB.out.size))) HGb.out) ?_
                rintro e Z3 ⟨n93_1, n93_2, rfl, o9, b9⟩
                obtain ⟨p93_1, q93_1, f93_1, _⟩ := (flD_own o9).1.shape
                subst f93_1
                obtain ⟨p93_2, q93_2, f93_2, _⟩ := (flD_own o9).2.shape
                subst f93_2
                have OH93 := hide o9
                clear o9
                unfold flV
                replace OH91 := hide (OH91.out.below b9)
                replace OH92 := hide (OH92.out.below b9)
                replace HW := hide (HW.out.trans (b9.mono HW.out.size))
                clear b9
                refine ⟨_, rfl, ?_⟩
                refine hK.out _ _ (HCL.out _ HW.out) (fun hHeld => ?_)
                clear hK K
                simp only [Act.put, List.setIfInBounds_toArray, List.set_cons_zero, List.set_cons_succ]
                refine wpAnyH_ready (rs := [6, 10]) (by kernel_rfl) (by simp) (AllReadyH.cons rfl (fun K hK => ?_) (AllReadyH.cons rfl (fun K hK => ?_) AllReadyH.nil))
                · skip
                  refine step_callW (some 122) (by kernel_rfl) (by kernel_rfl) 14 _ _ rfl #[.agg #[.slice p91_1 x.k.length q91_1], .agg #[.slice p92_1 a.lo.length q92_1, .slice p92_2 a.st.length q92_2, .int .i64 a.h], .agg #[.slice p93_1 b.lo.length q93_1, .slice p93_2 b.st.length q93_2, .int .i64 b.h]] (by kernel_rfl) (meetI _ x _ a b _ _ _ _ (pgD_own OH91.out) (flD_own OH92.out).1 (flD_own OH92.out).2 (flD_own OH93.out).1 (flD_own OH93.out).2 HGx.out.k HGa.out HGb.out) ?_
                  rintro e Z4 ⟨n94_1, n94_2, rfl, o9, b9⟩
                  rw [HV0.out] at o9 ⊢
                  rw [HV1.out]
                  obtain ⟨p94_1, q94_1, f94_1, _⟩ := (flD_own o9).1.shape
                  subst f94_1
                  obtain ⟨p94_2, q94_2, f94_2, _⟩ := (flD_own o9).2.shape
                  subst f94_2
                  unfold flV
                  have HO9 := hide o9
                  have lz9 := HW.out.size
                  have lz8 := b9.size
                  clear o9
                  clear OH91
                  clear OH92
                  clear OH93
                  replace HW := hide (HW.out.trans (b9.mono HW.out.size))
                  clear b9
                  refine ⟨_, rfl, ?_⟩
                  refine hK.out _ _ (HCL.out _ HW.out) (fun hHeld => ?_)
                  clear hK K
                  simp only [Act.put, List.setIfInBounds_toArray, List.set_cons_zero, List.set_cons_succ]
                  refine wpAnyH_take (i := 7) (v := ?_) rfl (by kernel_rfl) (by kernel_rfl) (by kernel_rfl) (fun _ _ _ h => h) (Or.inl ⟨by rfl, ?_⟩) (by assumption) ?_
                  rotate_left
                  · intro w' hSw
                    try dsimp only at hSw
                    go_simp; try rfl
                  simp only [List.getElem_toArray, List.getElem_cons_succ, List.getElem_cons_zero, Act.put, List.setIfInBounds_toArray, List.set_cons_zero, List.set_cons_succ]
                  refine wpAnyH_take (i := 8) (v := ?_) rfl (by kernel_rfl) (by kernel_rfl) (by kernel_rfl) (fun _ _ _ h => h) (Or.inl ⟨by rfl, ?_⟩) (by assumption) ?_
                  rotate_left
                  · intro w' hSw
                    try dsimp only at hSw
                    go_simp; try rfl
                  simp only [List.getElem_toArray, List.getElem_cons_succ, List.getElem_cons_zero, Act.put, List.setIfInBounds_toArray, List.set_cons_zero, List.set_cons_succ]
                  refine wpAnyH_take (i := 9) (v := ?_) rfl (by kernel_rfl) (by kernel_rfl) (by kernel_rfl) (fun _ _ _ h => h) (Or.inl ⟨by rfl, ?_⟩) (by assumption) ?_
                  rotate_left
                  · intro w' hSw
                    try dsimp only at hSw
                    go_simp; try rfl
                  simp only [List.getElem_toArray, List.getElem_cons_succ, List.getElem_cons_zero, Act.put, List.setIfInBounds_toArray, List.set_cons_zero, List.set_cons_succ]
                  refine wpAnyH_ready (rs := [10]) (by kernel_rfl) (by simp) (AllReadyH.cons rfl (fun K hK => ?_) AllReadyH.nil)
                  refine step_runX (some 18) (by kernel_rfl) (by kernel_rfl) (v := .pointer (some ⟨Z4.heap.size, 0, none⟩)) (w' := Z4.alloc (.cells #[.slice none 0 0, .slice none 0 0, .int .i64 0] 37)) (by go_simp; try rfl) ?_
                  have HN := hide (HW.out.alloc HW.out.size (.cells #[.slice none 0 0, .slice none 0 0, .int .i64 0] 37))
                  refine hK.out _ _ (HCL.out _ HN.out) (fun hHeld => ?_)
                  clear hK K
                  simp only [Act.put, List.setIfInBounds_toArray, List.set_cons_zero, List.set_cons_succ]
                  have ka9 := HW.out.size
                  have GA : Hid ((Z4.alloc (.cells #[.slice none 0 0, .slice none 0 0, .int .i64 0] 37)).heap[Z4.heap.size]? = some (.cells #[.slice none 0 0, .slice none 0 0, .int .i64 0] 37 (0, 0))) := hide (heap_alloc_new Z4 (.cells #[.slice none 0 0, .slice none 0 0, .int .i64 0] 37))
                  have kz9 : Z4.heap.size < (Z4.alloc (.cells #[.slice none 0 0, .slice none 0 0, .int .i64 0] 37)).heap.size := by simp
                  replace HO9 := hide (HO9.out.below ((Below.refl Z4.heap.size Z4).alloc (Nat.le_refl _) (.cells #[.slice none 0 0, .slice none 0 0, .int .i64 0] 37)))
                  obtain ⟨g9, hg9⟩ : ∃ g, Z4.heap.size = g := ⟨_, rfl⟩
                  rw [hg9] at GA ka9 kz9 ⊢
                  have kg9 : Z4.heap.size ≤ g9 := Nat.le_of_eq hg9
                  clear HW hg9
                  have HW := HN
                  clear HN
                  generalize Z4.alloc (.cells #[.slice none 0 0, .slice none 0 0, .int .i64 0] 37) = Z5 at *
                  refine wpAnyH_ready (rs := [11]) (by kernel_rfl) (by simp) (AllReadyH.cons rfl (fun K hK => ?_) AllReadyH.nil)
                  refine step_storeX (by kernel_rfl) (by kernel_rfl) 37 _ _ rfl g9 #[.slice p94_1 V0.lo.length q94_1, .slice p94_2 V0.st.length q94_2, .int .i64 V0.h] (by kernel_rfl) (by kernel_rfl) _ _ GA.out hi9 (by rfl) (by simp [Value.oneCell']) ?_
                  have HM := hide (below_setRow HW.out ka9 #[.slice p94_1 V0.lo.length q94_1, .slice p94_2 V0.st.length q94_2, .int .i64 V0.h])
                  refine hK.out _ _ (HCL.out _ HM.out) (fun hHeld => ?_)
                  clear hK K
                  try simp only [Act.put, List.setIfInBounds_toArray, List.set_cons_zero, List.set_cons_succ]
                  have GB := hide (setRow_heap Z5 g9 _ #[.slice p94_1 V0.lo.length q94_1, .slice p94_2 V0.st.length q94_2, .int .i64 V0.h] _ _ GA.out)
                  have OR := hide (OwnDL.setRowA HO9.out g9 #[.slice p94_1 V0.lo.length q94_1, .slice p94_2 V0.st.length q94_2, .int .i64 V0.h] (by omega))
                  have zz9 : Z5.heap.size ≤ (Z5.setRow g9 #[.slice p94_1 V0.lo.length q94_1, .slice p94_2 V0.st.length q94_2, .int .i64 V0.h]).heap.size := by simp
                  clear HO9
                  clear HW GA
                  generalize Z5.setRow g9 #[.slice p94_1 V0.lo.length q94_1, .slice p94_2 V0.st.length q94_2, .int .i64 V0.h] = Y6 at *
                  refine wpAnyH_take (i := 12) (v := ?_) rfl (by kernel_rfl) (by kernel_rfl) (by kernel_rfl) (fun _ _ _ h => h) (Or.inl ⟨by rfl, ?_⟩) (by assumption) ?_
                  rotate_left
                  · intro w' hSw
                    try dsimp only at hSw
                    go_simp; try rfl
                  simp only [List.getElem_toArray, List.getElem_cons_succ, List.getElem_cons_zero, Act.put, List.setIfInBounds_toArray, List.set_cons_zero, List.set_cons_succ]
                  refine wpAnyH_done (by kernel_rfl) ?_ _
                  go_wp2_with fail
                  go_meet
                  exact ⟨g9, _, _, _, _, _, _, rfl, rfl, GB, OR, by omega, by omega, by omega, by omega, by omega, by omega, HM⟩
                · skip
                  refine step_runX (some 18) (by kernel_rfl) (by kernel_rfl) (v := .pointer (some ⟨Z3.heap.size, 0, none⟩)) (w' := Z3.alloc (.cells #[.slice none 0 0, .slice none 0 0, .int .i64 0] 37)) (by go_simp; try rfl) ?_
                  have HN := hide (HW.out.alloc HW.out.size (.cells #[.slice none 0 0, .slice none 0 0, .int .i64 0] 37))
                  refine hK.out _ _ (HCL.out _ HN.out) (fun hHeld => ?_)
                  clear hK K
                  simp only [Act.put, List.setIfInBounds_toArray, List.set_cons_zero, List.set_cons_succ]
                  have ka9 := HW.out.size
                  have GA : Hid ((Z3.alloc (.cells #[.slice none 0 0, .slice none 0 0, .int .i64 0] 37)).heap[Z3.heap.size]? = some (.cells #[.slice none 0 0, .slice none 0 0, .int .i64 0] 37 (0, 0))) := hide (heap_alloc_new Z3 (.cells #[.slice none 0 0, .slice none 0 0, .int .i64 0] 37))
                  have kz9 : Z3.heap.size < (Z3.alloc (.cells #[.slice none 0 0, .slice none 0 0, .int .i64 0] 37)).heap.size := by simp
                  replace OH91 := hide (OH91.out.below ((Below.refl Z3.heap.size Z3).alloc (Nat.le_refl _) (.cells #[.slice none 0 0, .slice none 0 0, .int .i64 0] 37)))
                  replace OH92 := hide (OH92.out.below ((Below.refl Z3.heap.size Z3).alloc (Nat.le_refl _) (.cells #[.slice none 0 0, .slice none 0 0, .int .i64 0] 37)))
                  replace OH93 := hide (OH93.out.below ((Below.refl Z3.heap.size Z3).alloc (Nat.le_refl _) (.cells #[.slice none 0 0, .slice none 0 0, .int .i64 0] 37)))
                  obtain ⟨g9, hg9⟩ : ∃ g, Z3.heap.size = g := ⟨_, rfl⟩
                  rw [hg9] at GA ka9 kz9 ⊢
                  have kg9 : Z3.heap.size ≤ g9 := Nat.le_of_eq hg9
                  clear HW hg9
                  have HW := HN
                  clear HN
                  generalize Z3.alloc (.cells #[.slice none 0 0, .slice none 0 0, .int .i64 0] 37) = Z7 at *
                  refine wpAnyH_ready (rs := [6]) (by kernel_rfl) (by simp) (AllReadyH.cons rfl (fun K hK => ?_) AllReadyH.nil)
                  refine step_callW (some 122) (by kernel_rfl) (by kernel_rfl) 14 _ _ rfl #[.agg #[.slice p91_1 x.k.length q91_1], .agg #[.slice p92_1 a.lo.length q92_1, .slice p92_2 a.st.length q92_2, .int .i64 a.h], .agg #[.slice p93_1 b.lo.length q93_1, .slice p93_2 b.st.length q93_2, .int .i64 b.h]] (by kernel_rfl) (meetI _ x _ a b _ _ _ _ (pgD_own OH91.out) (flD_own OH92.out).1 (flD_own OH92.out).2 (flD_own OH93.out).1 (flD_own OH93.out).2 HGx.out.k HGa.out HGb.out) ?_
                  rintro e Z8 ⟨n98_1, n98_2, rfl, o9, b9⟩
                  rw [HV0.out] at o9 ⊢
                  rw [HV1.out]
                  obtain ⟨p98_1, q98_1, f98_1, _⟩ := (flD_own o9).1.shape
                  subst f98_1
                  obtain ⟨p98_2, q98_2, f98_2, _⟩ := (flD_own o9).2.shape
                  subst f98_2
                  unfold flV
                  have HO9 := hide o9
                  have lz9 := HW.out.size
                  have lz8 := b9.size
                  clear o9
                  clear OH91
                  clear OH92
                  clear OH93
                  replace GA := hide ((b9.block g9 (Array.getElem?_eq_some_iff.1 GA.out).1).trans GA.out)
                  replace HW := hide (HW.out.trans (b9.mono HW.out.size))
                  clear b9
                  refine ⟨_, rfl, ?_⟩
                  refine hK.out _ _ (HCL.out _ HW.out) (fun hHeld => ?_)
                  clear hK K
                  simp only [Act.put, List.setIfInBounds_toArray, List.set_cons_zero, List.set_cons_succ]
                  refine wpAnyH_take (i := 7) (v := ?_) rfl (by kernel_rfl) (by kernel_rfl) (by kernel_rfl) (fun _ _ _ h => h) (Or.inl ⟨by rfl, ?_⟩) (by assumption) ?_
                  rotate_left
                  · intro w' hSw
                    try dsimp only at hSw
                    go_simp; try rfl
                  simp only [List.getElem_toArray, List.getElem_cons_succ, List.getElem_cons_zero, Act.put, List.setIfInBounds_toArray, List.set_cons_zero, List.set_cons_succ]
                  refine wpAnyH_take (i := 8) (v := ?_) rfl (by kernel_rfl) (by kernel_rfl) (by kernel_rfl) (fun _ _ _ h => h) (Or.inl ⟨by rfl, ?_⟩) (by assumption) ?_
                  rotate_left
                  · intro w' hSw
                    try dsimp only at hSw
                    go_simp; try rfl
                  simp only [List.getElem_toArray, List.getElem_cons_succ, List.getElem_cons_zero, Act.put, List.setIfInBounds_toArray, List.set_cons_zero, List.set_cons_succ]
                  refine wpAnyH_take (i := 9) (v := ?_) rfl (by kernel_rfl) (by kernel_rfl) (by kernel_rfl) (fun _ _ _ h => h) (Or.inl ⟨by rfl, ?_⟩) (by assumption) ?_
                  rotate_left
                  · intro w' hSw
                    try dsimp only at hSw
                    go_simp; try rfl
                  simp only [List.getElem_toArray, List.getElem_cons_succ, List.getElem_cons_zero, Act.put, List.setIfInBounds_toArray, List.set_cons_zero, List.set_cons_succ]
                  refine wpAnyH_ready (rs := [11]) (by kernel_rfl) (by simp) (AllReadyH.cons rfl (fun K hK => ?_) AllReadyH.nil)
                  refine step_storeX (by kernel_rfl) (by kernel_rfl) 37 _ _ rfl g9 #[.slice p98_1 V0.lo.length q98_1, .slice p98_2 V0.st.length q98_2, .int .i64 V0.h] (by kernel_rfl) (by kernel_rfl) _ _ GA.out hi9 (by rfl) (by simp [Value.oneCell']) ?_
                  have HM := hide (below_setRow HW.out ka9 #[.slice p98_1 V0.lo.length q98_1, .slice p98_2 V0.st.length q98_2, .int .i64 V0.h])
                  refine hK.out _ _ (HCL.out _ HM.out) (fun hHeld => ?_)
                  clear hK K
                  try simp only [Act.put, List.setIfInBounds_toArray, List.set_cons_zero, List.set_cons_succ]
                  have GB := hide (setRow_heap Z8 g9 _ #[.slice p98_1 V0.lo.length q98_1, .slice p98_2 V0.st.length q98_2, .int .i64 V0.h] _ _ GA.out)
                  have OR := hide (OwnDL.setRowA HO9.out g9 #[.slice p98_1 V0.lo.length q98_1, .slice p98_2 V0.st.length q98_2, .int .i64 V0.h] (by omega))
                  have zz9 : Z8.heap.size ≤ (Z8.setRow g9 #[.slice p98_1 V0.lo.length q98_1, .slice p98_2 V0.st.length q98_2, .int .i64 V0.h]).heap.size := by simp
                  clear HO9
                  clear HW GA
                  generalize Z8.setRow g9 #[.slice p98_1 V0.lo.length q98_1, .slice p98_2 V0.st.length q98_2, .int .i64 V0.h] = Y9 at *
                  refine wpAnyH_take (i := 12) (v := ?_) rfl (by kernel_rfl) (by kernel_rfl) (by kernel_rfl) (fun _ _ _ h => h) (Or.inl ⟨by rfl, ?_⟩) (by assumption) ?_
                  rotate_left
                  · intro w' hSw
                    try dsimp only at hSw
                    go_simp; try rfl
                  simp only [List.getElem_toArray, List.getElem_cons_succ, List.getElem_cons_zero, Act.put, List.setIfInBounds_toArray, List.set_cons_zero, List.set_cons_succ]
                  refine wpAnyH_done (by kernel_rfl) ?_ _
                  go_wp2_with fail
                  go_meet
                  exact ⟨g9, _, _, _, _, _, _, rfl, rfl, GB, OR, by omega, by omega, by omega, by omega, by omega, by omega, HM⟩
              · skip
                refine step_runX (some 18) (by kernel_rfl) (by kernel_rfl) (v := .pointer (some ⟨Z2.heap.size, 0, none⟩)) (w' := Z2.alloc (.cells #[.slice none 0 0, .slice none 0 0, .int .i64 0] 37)) (by go_simp; try rfl) ?_
                have HN := hide (HW.out.alloc HW.out.size (.cells #[.slice none 0 0, .slice none 0 0, .int .i64 0] 37))
                refine hK.out _ _ (HCL.out _ HN.out) (fun hHeld => ?_)
                clear hK K
                simp only [Act.put, List.setIfInBounds_toArray, List.set_cons_zero, List.set_cons_succ]
                have ka9 := HW.out.size
                have GA : Hid ((Z2.alloc (.cells #[.slice none 0 0, .slice none 0 0, .int .i64 0] 37)).heap[Z2.heap.size]? = some (.cells #[.slice none 0 0, .slice none 0 0, .int .i64 0] 37 (0, 0))) := hide (heap_alloc_new Z2 (.cells #[.slice none 0 0, .slice none 0 0, .int .i64 0] 37))
                have kz9 : Z2.heap.size < (Z2.alloc (.cells #[.slice none 0 0, .slice none 0 0, .int .i64 0] 37)).heap.size := by simp
                replace OH91 := hide (OH91.out.below ((Below.refl Z2.heap.size Z2).alloc (Nat.le_refl _) (.cells #[.slice none 0 0, .slice none 0 0, .int .i64 0] 37)))
                replace OH92 := hide (OH92.out.below ((Below.refl Z2.heap.size Z2).alloc (Nat.le_refl _) (.cells #[.slice none 0 0, .slice none 0 0, .int .i64 0] 37)))
                obtain ⟨g9, hg9⟩ : ∃ g, Z2.heap.size = g := ⟨_, rfl⟩
                rw [hg9] at GA ka9 kz9 ⊢
                have kg9 : Z2.heap.size ≤ g9 := Nat.le_of_eq hg9
                clear HW hg9
                have HW := HN
                clear HN
                generalize Z2.alloc (.cells #[.slice none 0 0, .slice none 0 0, .int .i64 0] 37) = Z10 at *
                refine wpAnyH_ready (rs := [5]) (by kernel_rfl) (by simp) (AllReadyH.cons rfl (fun K hK => ?_) AllReadyH.nil)
                refine step_callW (some 121) (by kernel_rfl) (by kernel_rfl) 9 _ _ rfl #[.agg #[.slice ab1 b.lo.length cb1, .slice ab2 b.st.length cb2, .int .i64 b.h]] (by kernel_rfl) (toFl _ b _ _ (Pb1.out.at (HB.out.trans (HW.out.mono HB.out.size))) (Pb2.out.at (HB.out.trans (HW.out.mono HB.out.size))) HGb.out) ?_
                rintro e Z11 ⟨n911_1, n911_2, rfl, o9, b9⟩
                obtain ⟨p911_1, q911_1, f911_1, _⟩ := (flD_own o9).1.shape
                subst f911_1
                obtain ⟨p911_2, q911_2, f911_2, _⟩ := (flD_own o9).2.shape
                subst f911_2
                have OH911 := hide o9
                clear o9
                unfold flV
                replace OH91 := hide (OH91.out.below b9)
                replace OH92 := hide (OH92.out.below b9)
                replace GA := hide ((b9.block g9 (Array.getElem?_eq_some_iff.1 GA.out).1).trans GA.out)
                replace kz9 := Nat.lt_of_lt_of_le kz9 b9.size
                replace HW := hide (HW.out.trans (b9.mono HW.out.size))
                clear b9
                refine ⟨_, rfl, ?_⟩
                refine hK.out _ _ (HCL.out _ HW.out) (fun hHeld => ?_)
                clear hK K
                simp only [Act.put, List.setIfInBounds_toArray, List.set_cons_zero, List.set_cons_succ]
                refine wpAnyH_ready (rs := [6]) (by kernel_rfl) (by simp) (AllReadyH.cons rfl (fun K hK => ?_) AllReadyH.nil)
                refine step_callW (some 122) (by kernel_rfl) (by kernel_rfl) 14 _ _ rfl #[.agg #[.slice p91_1 x.k.length q91_1], .agg #[.slice p92_1 a.lo.length q92_1, .slice p92_2 a.st.length q92_2, .int .i64 a.h], .agg #[.slice p911_1 b.lo.length q911_1, .slice p911_2 b.st.length q911_2, .int .i64 b.h]] (by kernel_rfl) (meetI _ x _ a b _ _ _ _ (pgD_own OH91.out) (flD_own OH92.out).1 (flD_own OH92.out).2 (flD_own OH911.out).1 (flD_own OH911.out).2 HGx.out.k HGa.out HGb.out) ?_
                rintro e Z12 ⟨n912_1, n912_2, rfl, o9, b9⟩
                rw [HV0.out] at o9 ⊢
                rw [HV1.out]
                obtain ⟨p912_1, q912_1, f912_1, _⟩ := (flD_own o9).1.shape
                subst f912_1
                obtain ⟨p912_2, q912_2, f912_2, _⟩ := (flD_own o9).2.shape
                subst f912_2
                unfold flV
                have HO9 := hide o9
                have lz9 := HW.out.size
                have lz8 := b9.size
                clear o9
                clear OH91
                clear OH92
                clear OH911
                replace GA := hide ((b9.block g9 (Array.getElem?_eq_some_iff.1 GA.out).1).trans GA.out)
                replace HW := hide (HW.out.trans (b9.mono HW.out.size))
                clear b9
                refine ⟨_, rfl, ?_⟩
                refine hK.out _ _ (HCL.out _ HW.out) (fun hHeld => ?_)
                clear hK K
                simp only [Act.put, List.setIfInBounds_toArray, List.set_cons_zero, List.set_cons_succ]
                refine wpAnyH_take (i := 7) (v := ?_) rfl (by kernel_rfl) (by kernel_rfl) (by kernel_rfl) (fun _ _ _ h => h) (Or.inl ⟨by rfl, ?_⟩) (by assumption) ?_
                rotate_left
                · intro w' hSw
                  try dsimp only at hSw
                  go_simp; try rfl
                simp only [List.getElem_toArray, List.getElem_cons_succ, List.getElem_cons_zero, Act.put, List.setIfInBounds_toArray, List.set_cons_zero, List.set_cons_succ]
                refine wpAnyH_take (i := 8) (v := ?_) rfl (by kernel_rfl) (by kernel_rfl) (by kernel_rfl) (fun _ _ _ h => h) (Or.inl ⟨by rfl, ?_⟩) (by assumption) ?_
                rotate_left
                · intro w' hSw
                  try dsimp only at hSw
                  go_simp; try rfl
                simp only [List.getElem_toArray, List.getElem_cons_succ, List.getElem_cons_zero, Act.put, List.setIfInBounds_toArray, List.set_cons_zero, List.set_cons_succ]
                refine wpAnyH_take (i := 9) (v := ?_) rfl (by kernel_rfl) (by kernel_rfl) (by kernel_rfl) (fun _ _ _ h => h) (Or.inl ⟨by rfl, ?_⟩) (by assumption) ?_
                rotate_left
                · intro w' hSw
                  try dsimp only at hSw
                  go_simp; try rfl
                simp only [List.getElem_toArray, List.getElem_cons_succ, List.getElem_cons_zero, Act.put, List.setIfInBounds_toArray, List.set_cons_zero, List.set_cons_succ]
                refine wpAnyH_ready (rs := [11]) (by kernel_rfl) (by simp) (AllReadyH.cons rfl (fun K hK => ?_) AllReadyH.nil)
                refine step_storeX (by kernel_rfl) (by kernel_rfl) 37 _ _ rfl g9 #[.slice p912_1 V0.lo.length q912_1, .slice p912_2 V0.st.length q912_2, .int .i64 V0.h] (by kernel_rfl) (by kernel_rfl) _ _ GA.out hi9 (by rfl) (by simp [Value.oneCell']) ?_
                have HM := hide (below_setRow HW.out ka9 #[.slice p912_1 V0.lo.length q912_1, .slice p912_2 V0.st.length q912_2, .int .i64 V0.h])
                refine hK.out _ _ (HCL.out _ HM.out) (fun hHeld => ?_)
                clear hK K
                try simp only [Act.put, List.setIfInBounds_toArray, List.set_cons_zero, List.set_cons_succ]
                have GB := hide (setRow_heap Z12 g9 _ #[.slice p912_1 V0.lo.length q912_1, .slice p912_2 V0.st.length q912_2, .int .i64 V0.h] _ _ GA.out)
                have OR := hide (OwnDL.setRowA HO9.out g9 #[.slice p912_1 V0.lo.length q912_1, .slice p912_2 V0.st.length q912_2, .int .i64 V0.h] (by omega))
                have zz9 : Z12.heap.size ≤ (Z12.setRow g9 #[.slice p912_1 V0.lo.length q912_1, .slice p912_2 V0.st.length q912_2, .int .i64 V0.h]).heap.size := by simp
                clear HO9
                clear HW GA
                generalize Z12.setRow g9 #[.slice p912_1 V0.lo.length q912_1, .slice p912_2 V0.st.length q912_2, .int .i64 V0.h] = Y13 at *
                refine wpAnyH_take (i := 12) (v := ?_) rfl (by kernel_rfl) (by kernel_rfl) (by kernel_rfl) (fun _ _ _ h => h) (Or.inl ⟨by rfl, ?_⟩) (by assumption) ?_
                rotate_left
                · intro w' hSw
                  try dsimp only at hSw
                  go_simp; try rfl
                simp only [List.getElem_toArray, List.getElem_cons_succ, List.getElem_cons_zero, Act.put, List.setIfInBounds_toArray, List.set_cons_zero, List.set_cons_succ]
                refine wpAnyH_done (by kernel_rfl) ?_ _
                go_wp2_with fail
                go_meet
                exact ⟨g9, _, _, _, _, _, _, rfl, rfl, GB, OR, by omega, by omega, by omega, by omega, by omega, by omega, HM⟩
            · skip
              refine step_runX (some 18) (by kernel_rfl) (by kernel_rfl) (v := .pointer (some ⟨Z1.heap.size, 0, none⟩)) (w' := Z1.alloc (.cells #[.slice none 0 0, .slice none 0 0, .int .i64 0] 37)) (by go_simp; try rfl) ?_
              have HN := hide (HW.out.alloc HW.out.size (.cells #[.slice none 0 0, .slice none 0 0, .int .i64 0] 37))
              refine hK.out _ _ (HCL.out _ HN.out) (fun hHeld => ?_)
              clear hK K
              simp only [Act.put, List.setIfInBounds_toArray, List.set_cons_zero, List.set_cons_succ]
              have ka9 := HW.out.size
              have GA : Hid ((Z1.alloc (.cells #[.slice none 0 0, .slice none 0 0, .int .i64 0] 37)).heap[Z1.heap.size]? = some (.cells #[.slice none 0 0, .slice none 0 0, .int .i64 0] 37 (0, 0))) := hide (heap_alloc_new Z1 (.cells #[.slice none 0 0, .slice none 0 0, .int .i64 0] 37))
              have kz9 : Z1.heap.size < (Z1.alloc (.cells #[.slice none 0 0, .slice none 0 0, .int .i64 0] 37)).heap.size := by simp
              replace OH91 := hide (OH91.out.below ((Below.refl Z1.heap.size Z1).alloc (Nat.le_refl _) (.cells #[.slice none 0 0, .slice none 0 0, .int .i64 0] 37)))
              obtain ⟨g9, hg9⟩ : ∃ g, Z1.heap.size = g := ⟨_, rfl⟩
              rw [hg9] at GA ka9 kz9 ⊢
              have kg9 : Z1.heap.size ≤ g9 := Nat.le_of_eq hg9
              clear HW hg9
              have HW := HN
              clear HN
              generalize Z1.alloc (.cells #[.slice none 0 0, .slice none 0 0, .int .i64 0] 37) = Z14 at *
              refine wpAnyH_ready (rs := [3]) (by kernel_rfl) (by simp) (AllReadyH.cons rfl (fun K hK => ?_) AllReadyH.nil)
              refine step_callW (some 119) (by kernel_rfl) (by kernel_rfl) 9 _ _ rfl #[.agg #[.slice aa1 a.lo.length ca1, .slice aa2 a.st.length ca2, .int .i64 a.h]] (by kernel_rfl) (toFl _ a _ _ (Pa1.out.at (HB.out.trans (HW.out.mono HB.out.size))) (Pa2.out.at (HB.out.trans (HW.out.mono HB.out.size))) HGa.out) ?_
              rintro e Z15 ⟨n915_1, n915_2, rfl, o9, b9⟩
              obtain ⟨p915_1, q915_1, f915_1, _⟩ := (flD_own o9).1.shape
              subst f915_1
              obtain ⟨p915_2, q915_2, f915_2, _⟩ := (flD_own o9).2.shape
              subst f915_2
              have OH915 := hide o9
              clear o9
              unfold flV
              replace OH91 := hide (OH91.out.below b9)
              replace GA := hide ((b9.block g9 (Array.getElem?_eq_some_iff.1 GA.out).1).trans GA.out)
              replace kz9 := Nat.lt_of_lt_of_le kz9 b9.size
              replace HW := hide (HW.out.trans (b9.mono HW.out.size))
              clear b9
              refine ⟨_, rfl, ?_⟩
              refine hK.out _ _ (HCL.out _ HW.out) (fun hHeld => ?_)
              clear hK K
              simp only [Act.put, List.setIfInBounds_toArray, List.set_cons_zero, List.set_cons_succ]
              refine wpAnyH_ready (rs := [5]) (by kernel_rfl) (by simp) (AllReadyH.cons rfl (fun K hK => ?_) AllReadyH.nil)
              refine step_callW (some 121) (by kernel_rfl) (by kernel_rfl) 9 _ _ rfl #[.agg #[.slice ab1 b.lo.length cb1, .slice ab2 b.st.length cb2, .int .i64 b.h]] (by kernel_rfl) (toFl _ b _ _ (Pb1.out.at (HB.out.trans (HW.out.mono HB.out.size))) (Pb2.out.at (HB.out.trans (HW.out.mono HB.out.size))) HGb.out) ?_
              rintro e Z16 ⟨n916_1, n916_2, rfl, o9, b9⟩
              obtain ⟨p916_1, q916_1, f916_1, _⟩ := (flD_own o9).1.shape
              subst f916_1
              obtain ⟨p916_2, q916_2, f916_2, _⟩ := (flD_own o9).2.shape
              subst f916_2
              have OH916 := hide o9
              clear o9
              unfold flV
              replace OH91 := hide (OH91.out.below b9)
              replace OH915 := hide (OH915.out.below b9)
              replace GA := hide ((b9.block g9 (Array.getElem?_eq_some_iff.1 GA.out).1).trans GA.out)
              replace kz9 := Nat.lt_of_lt_of_le kz9 b9.size
              replace HW := hide (HW.out.trans (b9.mono HW.out.size))
              clear b9
              refine ⟨_, rfl, ?_⟩
              refine hK.out _ _ (HCL.out _ HW.out) (fun hHeld => ?_)
              clear hK K
              simp only [Act.put, List.setIfInBounds_toArray, List.set_cons_zero, List.set_cons_succ]
              refine wpAnyH_ready (rs := [6]) (by kernel_rfl) (by simp) (AllReadyH.cons rfl (fun K hK => ?_) AllReadyH.nil)
              refine step_callW (some 122) (by kernel_rfl) (by kernel_rfl) 14 _ _ rfl #[.agg #[.slice p91_1 x.k.length q91_1], .agg #[.slice p915_1 a.lo.length q915_1, .slice p915_2 a.st.length q915_2, .int .i64 a.h], .agg #[.slice p916_1 b.lo.length q916_1, .slice p916_2 b.st.length q916_2, .int .i64 b.h]] (by kernel_rfl) (meetI _ x _ a b _ _ _ _ (pgD_own OH91.out) (flD_own OH915.out).1 (flD_own OH915.out).2 (flD_own OH916.out).1 (flD_own OH916.out).2 HGx.out.k HGa.out HGb.out) ?_
              rintro e Z17 ⟨n917_1, n917_2, rfl, o9, b9⟩
              rw [HV0.out] at o9 ⊢
              rw [HV1.out]
              obtain ⟨p917_1, q917_1, f917_1, _⟩ := (flD_own o9).1.shape
              subst f917_1
              obtain ⟨p917_2, q917_2, f917_2, _⟩ := (flD_own o9).2.shape
              subst f917_2
              unfold flV
              have HO9 := hide o9
              have lz9 := HW.out.size
              have lz8 := b9.size
              clear o9
              clear OH91
              clear OH915
              clear OH916
              replace GA := hide ((b9.block g9 (Array.getElem?_eq_some_iff.1 GA.out).1).trans GA.out)
              replace HW := hide (HW.out.trans (b9.mono HW.out.size))
              clear b9
              refine ⟨_, rfl, ?_⟩
              refine hK.out _ _ (HCL.out _ HW.out) (fun hHeld => ?_)
              clear hK K
              simp only [Act.put, List.setIfInBounds_toArray, List.set_cons_zero, List.set_cons_succ]
              refine wpAnyH_take (i := 7) (v := ?_) rfl (by kernel_rfl) (by kernel_rfl) (by kernel_rfl) (fun _ _ _ h => h) (Or.inl ⟨by rfl, ?_⟩) (by assumption) ?_
              rotate_left
              · intro w' hSw
                try dsimp only at hSw
                go_simp; try rfl
              simp only [List.getElem_toArray, List.getElem_cons_succ, List.getElem_cons_zero, Act.put, List.setIfInBounds_toArray, List.set_cons_zero, List.set_cons_succ]
              refine wpAnyH_take (i := 8) (v := ?_) rfl (by kernel_rfl) (by kernel_rfl) (by kernel_rfl) (fun _ _ _ h => h) (Or.inl ⟨by rfl, ?_⟩) (by assumption) ?_
              rotate_left
              · intro w' hSw
                try dsimp only at hSw
                go_simp; try rfl
              simp only [List.getElem_toArray, List.getElem_cons_succ, List.getElem_cons_zero, Act.put, List.setIfInBounds_toArray, List.set_cons_zero, List.set_cons_succ]
              refine wpAnyH_take (i := 9) (v := ?_) rfl (by kernel_rfl) (by kernel_rfl) (by kernel_rfl) (fun _ _ _ h => h) (Or.inl ⟨by rfl, ?_⟩) (by assumption) ?_
              rotate_left
              · intro w' hSw
                try dsimp only at hSw
                go_simp; try rfl
              simp only [List.getElem_toArray, List.getElem_cons_succ, List.getElem_cons_zero, Act.put, List.setIfInBounds_toArray, List.set_cons_zero, List.set_cons_succ]
              refine wpAnyH_ready (rs := [11]) (by kernel_rfl) (by simp) (AllReadyH.cons rfl (fun K hK => ?_) AllReadyH.nil)
              refine step_storeX (by kernel_rfl) (by kernel_rfl) 37 _ _ rfl g9 #[.slice p917_1 V0.lo.length q917_1, .slice p917_2 V0.st.length q917_2, .int .i64 V0.h] (by kernel_rfl) (by kernel_rfl) _ _ GA.out hi9 (by rfl) (by simp [Value.oneCell']) ?_
              have HM := hide (below_setRow HW.out ka9 #[.slice p917_1 V0.lo.length q917_1, .slice p917_2 V0.st.length q917_2, .int .i64 V0.h])
              refine hK.out _ _ (HCL.out _ HM.out) (fun hHeld => ?_)
              clear hK K
              try simp only [Act.put, List.setIfInBounds_toArray, List.set_cons_zero, List.set_cons_succ]
              have GB := hide (setRow_heap Z17 g9 _ #[.slice p917_1 V0.lo.length q917_1, .slice p917_2 V0.st.length q917_2, .int .i64 V0.h] _ _ GA.out)
              have OR := hide (OwnDL.setRowA HO9.out g9 #[.slice p917_1 V0.lo.length q917_1, .slice p917_2 V0.st.length q917_2, .int .i64 V0.h] (by omega))
              have zz9 : Z17.heap.size ≤ (Z17.setRow g9 #[.slice p917_1 V0.lo.length q917_1, .slice p917_2 V0.st.length q917_2, .int .i64 V0.h]).heap.size := by simp
              clear HO9
              clear HW GA
              generalize Z17.setRow g9 #[.slice p917_1 V0.lo.length q917_1, .slice p917_2 V0.st.length q917_2, .int .i64 V0.h] = Y18 at *
              refine wpAnyH_take (i := 12) (v := ?_) rfl (by kernel_rfl) (by kernel_rfl) (by kernel_rfl) (fun _ _ _ h => h) (Or.inl ⟨by rfl, ?_⟩) (by assumption) ?_
              rotate_left
              · intro w' hSw
                try dsimp only at hSw
                go_simp; try rfl
              simp only [List.getElem_toArray, List.getElem_cons_succ, List.getElem_cons_zero, Act.put, List.setIfInBounds_toArray, List.set_cons_zero, List.set_cons_succ]
              refine wpAnyH_done (by kernel_rfl) ?_ _
              go_wp2_with fail
              go_meet
              exact ⟨g9, _, _, _, _, _, _, rfl, rfl, GB, OR, by omega, by omega, by omega, by omega, by omega, by omega, HM⟩
          · skip
            refine step_runX (some 18) (by kernel_rfl) (by kernel_rfl) (v := .pointer (some ⟨Z0.heap.size, 0, none⟩)) (w' := Z0.alloc (.cells #[.slice none 0 0, .slice none 0 0, .int .i64 0] 37)) (by go_simp; try rfl) ?_
            have HN := hide (HW.out.alloc HW.out.size (.cells #[.slice none 0 0, .slice none 0 0, .int .i64 0] 37))
            refine hK.out _ _ (HCL.out _ HN.out) (fun hHeld => ?_)
            clear hK K
            simp only [Act.put, List.setIfInBounds_toArray, List.set_cons_zero, List.set_cons_succ]
            have ka9 := HW.out.size
            have GA : Hid ((Z0.alloc (.cells #[.slice none 0 0, .slice none 0 0, .int .i64 0] 37)).heap[Z0.heap.size]? = some (.cells #[.slice none 0 0, .slice none 0 0, .int .i64 0] 37 (0, 0))) := hide (heap_alloc_new Z0 (.cells #[.slice none 0 0, .slice none 0 0, .int .i64 0] 37))
            have kz9 : Z0.heap.size < (Z0.alloc (.cells #[.slice none 0 0, .slice none 0 0, .int .i64 0] 37)).heap.size := by simp
            obtain ⟨g9, hg9⟩ : ∃ g, Z0.heap.size = g := ⟨_, rfl⟩
            rw [hg9] at GA ka9 kz9 ⊢
            have kg9 : Z0.heap.size ≤ g9 := Nat.le_of_eq hg9
            clear HW hg9
            have HW := HN
            clear HN
            generalize Z0.alloc (.cells #[.slice none 0 0, .slice none 0 0, .int .i64 0] 37) = Z19 at *
            refine wpAnyH_ready (rs := [1]) (by kernel_rfl) (by simp) (AllReadyH.cons rfl (fun K hK => ?_) AllReadyH.nil)
            refine step_callW (some 117) (by kernel_rfl) (by kernel_rfl) 8 _ _ rfl #[.agg #[.slice ax1 x.k.length cx1]] (by kernel_rfl) (toPg _ x _ (Px1.out.at (HB.out.trans (HW.out.mono HB.out.size))) HGx.out) ?_
            rintro e Z20 ⟨n920_1, rfl, o9, b9⟩
            obtain ⟨p920_1, q920_1, f920_1, _⟩ := (pgD_own o9).shape
            subst f920_1
            have OH920 := hide o9
            clear o9
            unfold pgV
            replace GA := hide ((b9.block g9 (Array.getElem?_eq_some_iff.1 GA.out).1).trans GA.out)
            replace kz9 := Nat.lt_of_lt_of_le kz9 b9.size
            replace HW := hide (HW.out.trans (b9.mono HW.out.size))
            clear b9
            refine ⟨_, rfl, ?_⟩
            refine hK.out _ _ (HCL.out _ HW.out) (fun hHeld => ?_)
            clear hK K
            simp only [Act.put, List.setIfInBounds_toArray, List.set_cons_zero, List.set_cons_succ]
            refine wpAnyH_ready (rs := [3]) (by kernel_rfl) (by simp) (AllReadyH.cons rfl (fun K hK => ?_) AllReadyH.nil)
            refine step_callW (some 119) (by kernel_rfl) (by kernel_rfl) 9 _ _ rfl #[.agg #[.slice aa1 a.lo.length ca1, .slice aa2 a.st.length ca2, .int .i64 a.h]] (by kernel_rfl) (toFl _ a _ _ (Pa1.out.at (HB.out.trans (HW.out.mono HB.out.size))) (Pa2.out.at (HB.out.trans (HW.out.mono HB.out.size))) HGa.out) ?_
            rintro e Z21 ⟨n921_1, n921_2, rfl, o9, b9⟩
            obtain ⟨p921_1, q921_1, f921_1, _⟩ := (flD_own o9).1.shape
            subst f921_1
            obtain ⟨p921_2, q921_2, f921_2, _⟩ := (flD_own o9).2.shape
            subst f921_2
            have OH921 := hide o9
            clear o9
            unfold flV
            replace OH920 := hide (OH920.out.below b9)
            replace GA := hide ((b9.block g9 (Array.getElem?_eq_some_iff.1 GA.out).1).trans GA.out)
            replace kz9 := Nat.lt_of_lt_of_le kz9 b9.size
            replace HW := hide (HW.out.trans (b9.mono HW.out.size))
            clear b9
            refine ⟨_, rfl, ?_⟩
            refine hK.out _ _ (HCL.out _ HW.out) (fun hHeld => ?_)
            clear hK K
            simp only [Act.put, List.setIfInBounds_toArray, List.set_cons_zero, List.set_cons_succ]
            refine wpAnyH_ready (rs := [5]) (by kernel_rfl) (by simp) (AllReadyH.cons rfl (fun K hK => ?_) AllReadyH.nil)
            refine step_callW (some 121) (by kernel_rfl) (by kernel_rfl) 9 _ _ rfl #[.agg #[.slice ab1 b.lo.length cb1, .slice ab2 b.st.length cb2, .int .i64 b.h]] (by kernel_rfl) (toFl _ b _ _ (Pb1.out.at (HB.out.trans (HW.out.mono HB.out.size))) (Pb2.out.at (HB.out.trans (HW.out.mono HB.out.size))) HGb.out) ?_
            rintro e Z22 ⟨n922_1, n922_2, rfl, o9, b9⟩
            obtain ⟨p922_1, q922_1, f922_1, _⟩ := (flD_own o9).1.shape
            subst f922_1
            obtain ⟨p922_2, q922_2, f922_2, _⟩ := (flD_own o9).2.shape
            subst f922_2
            have OH922 := hide o9
            clear o9
            unfold flV
            replace OH920 := hide (OH920.out.below b9)
            replace OH921 := hide (OH921.out.below b9)
            replace GA := hide ((b9.block g9 (Array.getElem?_eq_some_iff.1 GA.out).1).trans GA.out)
            replace kz9 := Nat.lt_of_lt_of_le kz9 b9.size
            replace HW := hide (HW.out.trans (b9.mono HW.out.size))
            clear b9
            refine ⟨_, rfl, ?_⟩
            refine hK.out _ _ (HCL.out _ HW.out) (fun hHeld => ?_)
            clear hK K
            simp only [Act.put, List.setIfInBounds_toArray, List.set_cons_zero, List.set_cons_succ]
            refine wpAnyH_ready (rs := [6]) (by kernel_rfl) (by simp) (AllReadyH.cons rfl (fun K hK => ?_) AllReadyH.nil)
            refine step_callW (some 122) (by kernel_rfl) (by kernel_rfl) 14 _ _ rfl #[.agg #[.slice p920_1 x.k.length q920_1], .agg #[.slice p921_1 a.lo.length q921_1, .slice p921_2 a.st.length q921_2, .int .i64 a.h], .agg #[.slice p922_1 b.lo.length q922_1, .slice p922_2 b.st.length q922_2, .int .i64 b.h]] (by kernel_rfl) (meetI _ x _ a b _ _ _ _ (pgD_own OH920.out) (flD_own OH921.out).1 (flD_own OH921.out).2 (flD_own OH922.out).1 (flD_own OH922.out).2 HGx.out.k HGa.out HGb.out) ?_
            rintro e Z23 ⟨n923_1, n923_2, rfl, o9, b9⟩
            rw [HV0.out] at o9 ⊢
            rw [HV1.out]
            obtain ⟨p923_1, q923_1, f923_1, _⟩ := (flD_own o9).1.shape
            subst f923_1
            obtain ⟨p923_2, q923_2, f923_2, _⟩ := (flD_own o9).2.shape
            subst f923_2
            unfold flV
            have HO9 := hide o9
            have lz9 := HW.out.size
            have lz8 := b9.size
            clear o9
            clear OH920
            clear OH921
            clear OH922
            replace GA := hide ((b9.block g9 (Array.getElem?_eq_some_iff.1 GA.out).1).trans GA.out)
            replace HW := hide (HW.out.trans (b9.mono HW.out.size))
            clear b9
            refine ⟨_, rfl, ?_⟩
            refine hK.out _ _ (HCL.out _ HW.out) (fun hHeld => ?_)
            clear hK K
            simp only [Act.put, List.setIfInBounds_toArray, List.set_cons_zero, List.set_cons_succ]
            refine wpAnyH_take (i := 7) (v := ?_) rfl (by kernel_rfl) (by kernel_rfl) (by kernel_rfl) (fun _ _ _ h => h) (Or.inl ⟨by rfl, ?_⟩) (by assumption) ?_
            rotate_left
            · intro w' hSw
              try dsimp only at hSw
              go_simp; try rfl
            simp only [List.getElem_toArray, List.getElem_cons_succ, List.getElem_cons_zero, Act.put, List.setIfInBounds_toArray, List.set_cons_zero, List.set_cons_succ]
            refine wpAnyH_take (i := 8) (v := ?_) rfl (by kernel_rfl) (by kernel_rfl) (by kernel_rfl) (fun _ _ _ h => h) (Or.inl ⟨by rfl, ?_⟩) (by assumption) ?_
            rotate_left
            · intro w' hSw
              try dsimp only at hSw
              go_simp; try rfl
            simp only [List.getElem_toArray, List.getElem_cons_succ, List.getElem_cons_zero, Act.put, List.setIfInBounds_toArray, List.set_cons_zero, List.set_cons_succ]
            refine wpAnyH_take (i := 9) (v := ?_) rfl (by kernel_rfl) (by kernel_rfl) (by kernel_rfl) (fun _ _ _ h => h) (Or.inl ⟨by rfl, ?_⟩) (by assumption) ?_
            rotate_left
            · intro w' hSw
              try dsimp only at hSw
              go_simp; try rfl
            simp only [List.getElem_toArray, List.getElem_cons_succ, List.getElem_cons_zero, Act.put, List.setIfInBounds_toArray, List.set_cons_zero, List.set_cons_succ]
            refine wpAnyH_ready (rs := [11]) (by kernel_rfl) (by simp) (AllReadyH.cons rfl (fun K hK => ?_) AllReadyH.nil)
            refine step_storeX (by kernel_rfl) (by kernel_rfl) 37 _ _ rfl g9 #[.slice p923_1 V0.lo.length q923_1, .slice p923_2 V0.st.length q923_2, .int .i64 V0.h] (by kernel_rfl) (by kernel_rfl) _ _ GA.out hi9 (by rfl) (by simp [Value.oneCell']) ?_
            have HM := hide (below_setRow HW.out ka9 #[.slice p923_1 V0.lo.length q923_1, .slice p923_2 V0.st.length q923_2, .int .i64 V0.h])
            refine hK.out _ _ (HCL.out _ HM.out) (fun hHeld => ?_)
            clear hK K
            try simp only [Act.put, List.setIfInBounds_toArray, List.set_cons_zero, List.set_cons_succ]
            have GB := hide (setRow_heap Z23 g9 _ #[.slice p923_1 V0.lo.length q923_1, .slice p923_2 V0.st.length q923_2, .int .i64 V0.h] _ _ GA.out)
            have OR := hide (OwnDL.setRowA HO9.out g9 #[.slice p923_1 V0.lo.length q923_1, .slice p923_2 V0.st.length q923_2, .int .i64 V0.h] (by omega))
            have zz9 : Z23.heap.size ≤ (Z23.setRow g9 #[.slice p923_1 V0.lo.length q923_1, .slice p923_2 V0.st.length q923_2, .int .i64 V0.h]).heap.size := by simp
            clear HO9
            clear HW GA
            generalize Z23.setRow g9 #[.slice p923_1 V0.lo.length q923_1, .slice p923_2 V0.st.length q923_2, .int .i64 V0.h] = Y24 at *
            refine wpAnyH_take (i := 12) (v := ?_) rfl (by kernel_rfl) (by kernel_rfl) (by kernel_rfl) (fun _ _ _ h => h) (Or.inl ⟨by rfl, ?_⟩) (by assumption) ?_
            rotate_left
            · intro w' hSw
              try dsimp only at hSw
              go_simp; try rfl
            simp only [List.getElem_toArray, List.getElem_cons_succ, List.getElem_cons_zero, Act.put, List.setIfInBounds_toArray, List.set_cons_zero, List.set_cons_succ]
            refine wpAnyH_done (by kernel_rfl) ?_ _
            go_wp2_with fail
            go_meet
            exact ⟨g9, _, _, _, _, _, _, rfl, rfl, GB, OR, by omega, by omega, by omega, by omega, by omega, by omega, HM⟩
        case rest =>
        obtain ⟨G18, a18_1, k18_1, a18_2, k18_2, l18, h18, rfl, rfl, X18, OX18, zl18, zm18, zh18, zg18, zb18, zc18, HQ9⟩ := hcut
        have b9 := HQ9.out
        clear HQ9 HCL HD
        replace E0 := hide ((b9.block _ (Array.getElem?_eq_some_iff.1 E0.out).1).trans E0.out)
        replace E1 := hide ((b9.block _ (Array.getElem?_eq_some_iff.1 E1.out).1).trans E1.out)
        replace E2 := hide ((b9.block _ (Array.getElem?_eq_some_iff.1 E2.out).1).trans E2.out)
        replace X8 := hide ((b9.block _ (Array.getElem?_eq_some_iff.1 X8.out).1).trans X8.out)
        replace X10 := hide ((b9.block _ (Array.getElem?_eq_some_iff.1 X10.out).1).trans X10.out)
        replace X11 := hide ((b9.block _ (Array.getElem?_eq_some_iff.1 X11.out).1).trans X11.out)
        replace X12 := hide ((b9.block _ (Array.getElem?_eq_some_iff.1 X12.out).1).trans X12.out)
        replace X13 := hide ((b9.block _ (Array.getElem?_eq_some_iff.1 X13.out).1).trans X13.out)
        replace OX8 := hide (OX8.out.below b9)
        replace O11 := hide (O11.out.below b9)
        have z27 := b9.size
        replace HB := hide (HB.out.trans (b9.mono HB.out.size))
        clear b9
        generalize wc = w23 at *
        have y0_0 := (box_of X18.out).1 0 _ rfl
        have y0_1 := (box_of X18.out).1 1 _ rfl
        have y0_2 := (box_of X18.out).1 2 _ rfl
        have y1_0 := (box_of X8.out).1 0 _ rfl
        have y1_1 := (box_of X8.out).1 1 _ rfl
        have y1_2 := (box_of X8.out).1 2 _ rfl
        go_wp2_with fail
        clear y0_0 y0_1 y0_2 y1_0 y1_1 y1_2
        refine (eqFl _ V0 _ _ _ _ (flD_own OX18.out).1 (flD_own OX18.out).2 (flD_own OX8.out).1 (flD_own OX8.out).2 HGV0.out).mono ?_
        rintro e w24 ⟨rfl, b9⟩
        replace E0 := hide ((b9.block _ (Array.getElem?_eq_some_iff.1 E0.out).1).trans E0.out)
        replace E1 := hide ((b9.block _ (Array.getElem?_eq_some_iff.1 E1.out).1).trans E1.out)
        replace E2 := hide ((b9.block _ (Array.getElem?_eq_some_iff.1 E2.out).1).trans E2.out)
        replace X8 := hide ((b9.block _ (Array.getElem?_eq_some_iff.1 X8.out).1).trans X8.out)
        replace X10 := hide ((b9.block _ (Array.getElem?_eq_some_iff.1 X10.out).1).trans X10.out)
        replace X11 := hide ((b9.block _ (Array.getElem?_eq_some_iff.1 X11.out).1).trans X11.out)
        replace X12 := hide ((b9.block _ (Array.getElem?_eq_some_iff.1 X12.out).1).trans X12.out)
        replace X13 := hide ((b9.block _ (Array.getElem?_eq_some_iff.1 X13.out).1).trans X13.out)
        replace X18 := hide ((b9.block _ (Array.getElem?_eq_some_iff.1 X18.out).1).trans X18.out)
        replace OX8 := hide (OX8.out.below b9)
        replace O11 := hide (O11.out.below b9)
        replace OX18 := hide (OX18.out.below b9)
        have z28 := b9.size
        replace HB := hide (HB.out.trans (b9.mono HB.out.size))
        clear b9
        have y0_0 := (box_of X13.out).1 0 _ rfl
        have y0_1 := (box_of X13.out).1 1 _ rfl
        have y0_2 := (box_of X13.out).1 2 _ rfl
        go_wp2_with fail
        clear y0_0 y0_1 y0_2
        refine (heldFlO _ 1 _ (by first | rfl | omega) V0 _ _ (O11.out.rd (Nat.le_refl _)) (by omega) (by omega)).mono ?_
        rintro e w25 ⟨rfl, b9⟩
        rw [HMV0.out]
        replace E0 := hide ((b9.block _ (Array.getElem?_eq_some_iff.1 E0.out).1).trans E0.out)
        replace E1 := hide ((b9.block _ (Array.getElem?_eq_some_iff.1 E1.out).1).trans E1.out)
        replace E2 := hide ((b9.block _ (Array.getElem?_eq_some_iff.1 E2.out).1).trans E2.out)
        replace X8 := hide ((b9.block _ (Array.getElem?_eq_some_iff.1 X8.out).1).trans X8.out)
        replace X10 := hide ((b9.block _ (Array.getElem?_eq_some_iff.1 X10.out).1).trans X10.out)
        replace X11 := hide ((b9.block _ (Array.getElem?_eq_some_iff.1 X11.out).1).trans X11.out)
        replace X12 := hide ((b9.block _ (Array.getElem?_eq_some_iff.1 X12.out).1).trans X12.out)
        replace X13 := hide ((b9.block _ (Array.getElem?_eq_some_iff.1 X13.out).1).trans X13.out)
        replace X18 := hide ((b9.block _ (Array.getElem?_eq_some_iff.1 X18.out).1).trans X18.out)
        replace OX8 := hide (OX8.out.below b9)
        replace O11 := hide (O11.out.below b9)
        replace OX18 := hide (OX18.out.below b9)
        have z29 := b9.size
        replace HB := hide (HB.out.trans (b9.mono HB.out.size))
        clear b9
        go_wp2
        go_ret
        exact ⟨rfl, HB.out⟩

set_option maxRecDepth 100000 in
theorem lifted (os : Os) (started : os.Started) (H : Type) (enc : TypeId × Value → H) :
    ReturnsInHanded {} Try.checked os 4 .any (Rows.fnExactMeetSpec.pre6 enc Try.prog Try.f4 Rows.fnExactMeetRow.domain false) (Rows.fnExactMeetSpec.post enc Try.prog Try.f4 false true false false) := by
  refine returnsInHanded_of_change (C := Try.checked) own started (by kernel_rfl) Try.func4
    (ChangeSpec.witness6 (enc := enc) (C := Try.checked) false ⟨#[], #[.agg #[.slice none 0 0], .agg #[.slice none 0 0, .slice none 0 0, .int .i64 0], .agg #[.slice none 0 0, .slice none 0 0, .int .i64 0]], []⟩ 8 (by kernel_rfl) (by kernel_rfl) (by kernel_rfl) (by kernel_rfl)) ?_
  intro W base args ds gs before hval0 hW hcnd _
  have hval : ∀ (j : Nat) t v, Try.f4.params[j]? = some t → args[j]? = some v → Value.okWide Try.prog W .any base t v := hval0
  have hW' := hW
  obtain ⟨p, q, hA0, hV, rfl, hfz, hnd⟩ := hW
  have hA : DataW.TrodAll enc Try.prog W 0 (fun _ => true) true Try.f4.params.toList args.toList ds p := hA0
  rw [Try.params4] at hA hval
  obtain ⟨v0, vs0, d0, ds0, p0, q0, hargs, rfl, rfl, h0, r0⟩ := trodAll_cons hA
  obtain ⟨v1, vs1, d1, ds1, p1, q1, rfl, rfl, rfl, h1, r1⟩ := trodAll_cons r0
  obtain ⟨v2, vs2, d2, ds2, p2, q2, rfl, rfl, rfl, h2, r2⟩ := trodAll_cons r1
  obtain ⟨rfl, rfl, rfl⟩ := trodAll_nil r2
  obtain rfl : args = #[v0, v1, v2] := by cases args; simp_all
  obtain ⟨rfl, rfl⟩ := trodVars_none hV
  have k0 := h0
  have lt0 : ∀ x ∈ p0, x.block < W.heap.size := by obtain ⟨m, hm⟩ := k0; exact DataW.trod_lt m _ _ _ hm
  have w0 := openPg (hval 0 24 v0 rfl rfl) h0
  have k1 := h1
  have lt1 : ∀ x ∈ p1, x.block < W.heap.size := by obtain ⟨m, hm⟩ := k1; exact DataW.trod_lt m _ _ _ hm
  have w1 := openFl (hval 1 27 v1 rfl rfl) h1
  have k2 := h2
  have lt2 : ∀ x ∈ p2, x.block < W.heap.size := by obtain ⟨m, hm⟩ := k2; exact DataW.trod_lt m _ _ _ hm
  have w2 := openFl (hval 2 27 v2 rfl rfl) h2
  clear hA0 hval0
  refine (walk v0 v1 v2 W w0 w1 w2).mono fun e W' ⟨he, bel⟩ => ?_
  subst he
  exact ⟨_, rfl, _, _, _, [], _, [], hW', trodAll_mk1 (shut_bool Try.underlying4 _), (trodAll_cons_mk (Below.trod laidOut (by kernel_rfl) (of_decide_eq_true (by kernel_rfl)) k0 bel lt0) (trodAll_cons_mk (Below.trod laidOut (by kernel_rfl) (of_decide_eq_true (by kernel_rfl)) k1 bel lt1) (trodAll_cons_mk (Below.trod laidOut (by kernel_rfl) (of_decide_eq_true (by kernel_rfl)) k2 bel lt2) trodAll_mk0))), rfl, bel.frame _, fun h => by cases h⟩

theorem over : Rows.fnExactMeetRow.holds Try.pinned (OpenSpec.ofChange Rows.fnExactMeetSpec) :=
  OpenClaim.holds_of_wide 4 Try.f4 rfl rfl rfl rfl rfl rfl rfl ⟨rfl, rfl, rfl, rfl, rfl⟩ rfl rfl rfl rfl rfl (by kernel_rfl) Try.func4 (by kernel_rfl)
    (of_decide_eq_true (by kernel_rfl)) (by unfold Func.isWrapper; first | (rw [if_pos (by decide +kernel)]; kernel_rfl) | (rw [if_neg (by decide +kernel)]; exact ⟨rfl, rfl⟩))
    (fun os started H enc _ => lifted os started H enc)

end Go.Proofs.Ytobomcfiincpoaa.fnExactMeet
namespace Go.Proofs.Ytobomcfiincpoaa
theorem fnExactMeet_holds : Rows.FnExactMeetSaid := fnExactMeet.over
#print axioms fnExactMeet_holds
end Go.Proofs.Ytobomcfiincpoaa
