/-
  Proved: at every argument the program's ThreadOf answers as its model does, and writes into no argument (the law FnExactThreadOf returns true), without any condition.
-/
import Derived.Test.YtelpdlhgjepgbaaRows
import Derived.Test.YtelpdlhgjepgbaaMdI
import Derived.Test.YtelpdlhgjepgbaaStepW
import Derived.Deep.CutRange
import Derived.Deep.RegionWith
import Derived.Deep.RegionHeld
import Derived.BigRegion
import Derived.WalkKit
import Derived.ProofKit
import Derived.OpenShut
import Derived.ShutString
import Derived.ChangeOld
import Derived.Below
namespace Go.Proofs.Ytelpdlhgjepgbaa.fnExactThreadOf
open Go.ChangeShapes Go.WideShapes Go.ChangeAt Go.RowKit
open Go.ChangeMaps (open_string shut_string)
set_option linter.unusedVariables false

theorem own : ownKnob Try.prog.godebug = none := by kernel_rfl
theorem laidOut : laidOutB Try.prog = true := by kernel_rfl
set_option maxRecDepth 100000 in
set_option maxHeartbeats 8000000 in
theorem walk (v0 : Value) (q : Int) (w : World) (h0 : IsMd w v0) (_hq : -9223372036854775808 ≤ q ∧ q ≤ 9223372036854775807) :
    Calls Try.prog 3 #[v0, .int .i64 q] w fun e w' => e = .returned (.bool true) ∧ Below w.heap.size w w' := by
  obtain ⟨x, ux1, ux2, ux3, ux4, ux5, rfl, gx1, gx2, gx3, gx4, gx5, rx⟩ := h0
  obtain ⟨ax1, cx1, ex1, _⟩ := gx1.shape
  obtain ⟨ax2, cx2, ex2, _⟩ := gx2.shape
  obtain ⟨ax3, cx3, ex3, _⟩ := gx3.shape
  obtain ⟨ax4, cx4, ex4, _⟩ := gx4.shape
  obtain ⟨ax5, cx5, ex5, _⟩ := gx5.shape
  subst ex1 ex2 ex3 ex4 ex5
  have Px1 := hide gx1
  have Px2 := hide gx2
  have Px3 := hide gx3
  have Px4 := hide gx4
  have Px5 := hide gx5
  have Rx := hide rx
  clear rx gx1 gx2 gx3 gx4 gx5
  have bA := ((Below.refl w.heap.size w).alloc (Nat.le_refl _) (.cells #[.slice ax1 x.p.k.length cx1, .slice ax2 x.m.o.length cx2, .slice ax3 x.m.l.length cx3, .slice ax4 x.t.length cx4, .slice ax5 x.o.length cx5] 32))
  have G0 := heap_alloc_new w (.cells #[.slice ax1 x.p.k.length cx1, .slice ax2 x.m.o.length cx2, .slice ax3 x.m.l.length cx3, .slice ax4 x.t.length cx4, .slice ax5 x.o.length cx5] 32)
  have E0 := hide (G0)
  have HB := hide bA
  clear bA G0
  obtain ⟨V0, hV0⟩ : ∃ V, thrAt x.t q = V := ⟨_, rfl⟩
  have HV0 := hide hV0
  clear hV0
  have hne0 : (V0 != V0) = false := by simp
  unfold mdV
  go_enter Try.func3, Try.ntmps3
  go_wp2_with fail
  generalize (w.alloc (.cells #[.slice ax1 x.p.k.length cx1, .slice ax2 x.m.o.length cx2, .slice ax3 x.m.l.length cx3, .slice ax4 x.t.length cx4, .slice ax5 x.o.length cx5] 32)) = W at *
  refine (szMd _ x _ _ _ _ _ _ (Px1.out.at HB.out) (Px2.out.at HB.out) (Px3.out.at HB.out) (Px4.out.at HB.out) (Px5.out.at HB.out) (by omega) (by omega) Rx.out).mono ?_
  rintro e w1 ⟨rfl, b9⟩
  replace E0 := hide ((b9.block _ (Array.getElem?_eq_some_iff.1 E0.out).1).trans E0.out)
  have z1 := b9.size
  replace HB := hide (HB.out.trans (b9.mono HB.out.size))
  clear b9
  by_cases hmx : (1048576 : Int) < (mdW x : Int)
  · rw [szR_neg hmx]
    go_wp2
    go_ret
    exact ⟨rfl, HB.out⟩
  · skip
    rw [szR_pos hmx]
    have hwx : mdW x ≤ 1048576 := by omega
    have HGx := hide (mdG_of Rx.out (by omega))
    have hnx : ¬ (1048576 : Int) - (mdW x : Int) < 0 := by omega
    have hqx : (1048576 : Int) - (mdW x : Int) ≤ 1048576 := by omega
    have hTx : (1048576 : Int) - (mdW x : Int) + ((mdW x : Int) : Int) ≤ 1048576 := by omega
    generalize (1048576 : Int) - (mdW x : Int) = mx at *
    clear hmx
    have hz0 : w.heap.size + 1 ≤ w1.heap.size := by
      have hh := (Array.getElem?_eq_some_iff.1 E0.out).1
      omega
    have y0_0 := (box_of E0.out).1 0 _ rfl
    have y0_1 := (box_of E0.out).1 1 _ rfl
    have y0_2 := (box_of E0.out).1 2 _ rfl
    have y0_3 := (box_of E0.out).1 3 _ rfl
    have y0_4 := (box_of E0.out).1 4 _ rfl
    go_wp2_with fail
    clear y0_0 y0_1 y0_2 y0_3 y0_4
    refine (toMd _ x _ _ _ _ _ (Px1.out.at HB.out) (Px2.out.at HB.out) (Px3.out.at HB.out) (Px4.out.at HB.out) (Px5.out.at HB.out) HGx.out).mono ?_
    rintro e w2 ⟨n2_1, n2_2, n2_3, n2_4, n2_5, rfl, o9, b9⟩
    obtain ⟨p2_1, q2_1, f2_1, _⟩ := (mdD_own o9).1.shape
    subst f2_1
    obtain ⟨p2_2, q2_2, f2_2, _⟩ := (mdD_own o9).2.1.shape
    subst f2_2
    obtain ⟨p2_3, q2_3, f2_3, _⟩ := (mdD_own o9).2.2.1.shape
    subst f2_3
    obtain ⟨p2_4, q2_4, f2_4, _⟩ := (mdD_own o9).2.2.2.1.shape
    subst f2_4
    obtain ⟨p2_5, q2_5, f2_5, _⟩ := (mdD_own o9).2.2.2.2.shape
    subst f2_5
    have O2 := hide o9
    clear o9
    replace E0 := hide ((b9.block _ (Array.getElem?_eq_some_iff.1 E0.out).1).trans E0.out)
    have z2 := b9.size
    replace HB := hide (HB.out.trans (b9.mono HB.out.size))
    clear b9
    unfold mdV
    go_wp2_with fail
    refine (threadOfS _ x _ _ _ _ _ q (mdD_own O2.out).2.2.2.1 HGx.out.t.1).mono ?_
    rintro e w3 ⟨rfl, b9⟩
    rw [HV0.out]
    replace E0 := hide ((b9.block _ (Array.getElem?_eq_some_iff.1 E0.out).1).trans E0.out)
    replace O2 := hide (O2.out.below b9)
    have z3 := b9.size
    replace HB := hide (HB.out.trans (b9.mono HB.out.size))
    clear b9
    have y0_0 := (box_of E0.out).1 0 _ rfl
    have y0_1 := (box_of E0.out).1 1 _ rfl
    have y0_2 := (box_of E0.out).1 2 _ rfl
    have y0_3 := (box_of E0.out).1 3 _ rfl
    have y0_4 := (box_of E0.out).1 4 _ rfl
    go_wp2_with fail
    clear y0_0 y0_1 y0_2 y0_3 y0_4
    refine (toMd _ x _ _ _ _ _ (Px1.out.at HB.out) (Px2.out.at HB.out) (Px3.out.at HB.out) (Px4.out.at HB.out) (Px5.out.at HB.out) HGx.out).mono ?_
    rintro e w4 ⟨n4_1, n4_2, n4_3, n4_4, n4_5, rfl, o9, b9⟩
    obtain ⟨p4_1, q4_1, f4_1, _⟩ := (mdD_own o9).1.shape
    subst f4_1
    obtain ⟨p4_2, q4_2, f4_2, _⟩ := (mdD_own o9).2.1.shape
    subst f4_2
    obtain ⟨p4_3, q4_3, f4_3, _⟩ := (mdD_own o9).2.2.1.shape
    subst f4_3
    obtain ⟨p4_4, q4_4, f4_4, _⟩ := (mdD_own o9).2.2.2.1.shape
    subst f4_4
    obtain ⟨p4_5, q4_5, f4_5, _⟩ := (mdD_own o9).2.2.2.2.shape
    subst f4_5
    have O4 := hide o9
    clear o9
    replace E0 := hide ((b9.block _ (Array.getElem?_eq_some_iff.1 E0.out).1).trans E0.out)
    replace O2 := hide (O2.out.below b9)
    have z4 := b9.size
    replace HB := hide (HB.out.trans (b9.mono HB.out.size))
    clear b9
    unfold mdV
    have bD := (Below.refl w4.heap.size w4).alloc (Nat.le_refl _) (.cells #[.slice p4_1 x.p.k.length q4_1, .slice p4_2 x.m.o.length q4_2, .slice p4_3 x.m.l.length q4_3, .slice p4_4 x.t.length q4_4, .slice p4_5 x.o.length q4_5] 44)
    have X7 := hide (heap_alloc_new w4 (.cells #[.slice p4_1 x.p.k.length q4_1, .slice p4_2 x.m.o.length q4_2, .slice p4_3 x.m.l.length q4_3, .slice p4_4 x.t.length q4_4, .slice p4_5 x.o.length q4_5] 44))
    have z5 : w4.heap.size < (w4.alloc (.cells #[.slice p4_1 x.p.k.length q4_1, .slice p4_2 x.m.o.length q4_2, .slice p4_3 x.m.l.length q4_3, .slice p4_4 x.t.length q4_4, .slice p4_5 x.o.length q4_5] 44)).heap.size := by simp
    replace E0 := hide ((bD.block _ (Array.getElem?_eq_some_iff.1 E0.out).1).trans E0.out)
    replace O2 := hide (O2.out.below bD)
    replace O4 := hide (O4.out.below bD)
    have z6 := bD.size
    replace HB := hide (HB.out.trans (bD.mono HB.out.size))
    clear bD
    have y0_0 := (box_of X7.out).1 0 _ rfl
    have y0_1 := (box_of X7.out).1 1 _ rfl
    have y0_2 := (box_of X7.out).1 2 _ rfl
    have y0_3 := (box_of X7.out).1 3 _ rfl
    have y0_4 := (box_of X7.out).1 4 _ rfl
    go_wp2_with fail
    clear y0_0 y0_1 y0_2 y0_3 y0_4
    generalize w4.alloc (.cells #[.slice p4_1 x.p.k.length q4_1, .slice p4_2 x.m.o.length q4_2, .slice p4_3 x.m.l.length q4_3, .slice p4_4 x.t.length q4_4, .slice p4_5 x.o.length q4_5] 44) = w5 at *
    refine (threadOfI _ x _ _ _ _ _ q (mdD_own O4.out).2.2.2.1 HGx.out.t.1).mono ?_
    rintro e w6 ⟨rfl, b9⟩
    rw [HV0.out]
    replace E0 := hide ((b9.block _ (Array.getElem?_eq_some_iff.1 E0.out).1).trans E0.out)
    replace X7 := hide ((b9.block _ (Array.getElem?_eq_some_iff.1 X7.out).1).trans X7.out)
    replace O2 := hide (O2.out.below b9)
    replace O4 := hide (O4.out.below b9)
    have z7 := b9.size
    replace HB := hide (HB.out.trans (b9.mono HB.out.size))
    clear b9
    go_upto_region 10 with fail
    have HCL : Hid (∀ w', Below w6.heap.size w6 w' → w'.cell? ⟨w4.heap.size, 0, none⟩ = some (.slice p4_1 x.p.k.length q4_1) ∧ w'.cell? ⟨w4.heap.size, 1, none⟩ = some (.slice p4_2 x.m.o.length q4_2) ∧ w'.cell? ⟨w4.heap.size, 2, none⟩ = some (.slice p4_3 x.m.l.length q4_3) ∧ w'.cell? ⟨w4.heap.size, 3, none⟩ = some (.slice p4_4 x.t.length q4_4) ∧ w'.cell? ⟨w4.heap.size, 4, none⟩ = some (.slice p4_5 x.o.length q4_5) ∧ w'.cell? ⟨w.heap.size, 0, none⟩ = some (.slice ax1 x.p.k.length cx1) ∧ w'.cell? ⟨w.heap.size, 1, none⟩ = some (.slice ax2 x.m.o.length cx2) ∧ w'.cell? ⟨w.heap.size, 2, none⟩ = some (.slice ax3 x.m.l.length cx3) ∧ w'.cell? ⟨w.heap.size, 3, none⟩ = some (.slice ax4 x.t.length cx4) ∧ w'.cell? ⟨w.heap.size, 4, none⟩ = some (.slice ax5 x.o.length cx5)) := hide (fun w' hb => ⟨(box_of ((hb.block _ (Array.getElem?_eq_some_iff.1 X7.out).1).trans X7.out)).1 0 _ rfl, (box_of ((hb.block _ (Array.getElem?_eq_some_iff.1 X7.out).1).trans X7.out)).1 1 _ rfl, (box_of ((hb.block _ (Array.getElem?_eq_some_iff.1 X7.out).1).trans X7.out)).1 2 _ rfl, (box_of ((hb.block _ (Array.getElem?_eq_some_iff.1 X7.out).1).trans X7.out)).1 3 _ rfl, (box_of ((hb.block _ (Array.getElem?_eq_some_iff.1 X7.out).1).trans X7.out)).1 4 _ rfl, (box_of ((hb.block _ (Array.getElem?_eq_some_iff.1 E0.out).1).trans E0.out)).1 0 _ rfl, (box_of ((hb.block _ (Array.getElem?_eq_some_iff.1 E0.out).1).trans E0.out)).1 1 _ rfl, (box_of ((hb.block _ (Array.getElem?_eq_some_iff.1 E0.out).1).trans E0.out)).1 2 _ rfl, (box_of ((hb.block _ (Array.getElem?_eq_some_iff.1 E0.out).1).trans E0.out)).1 3 _ rfl, (box_of ((hb.block _ (Array.getElem?_eq_some_iff.1 E0.out).1).trans E0.out)).1 4 _ rfl⟩)
    have HD := hide (Below.refl w6.heap.size w6).drew
    go_cut [30] from 26 to 30 (fun s wq => s = .bool false ∧ Hid (Below w6.heap.size w6 wq))
    case first =>
      refine wp_region_held_drew (S := fun w' => w'.cell? ⟨w4.heap.size, 0, none⟩ = some (.slice p4_1 x.p.k.length q4_1) ∧ w'.cell? ⟨w4.heap.size, 1, none⟩ = some (.slice p4_2 x.m.o.length q4_2) ∧ w'.cell? ⟨w4.heap.size, 2, none⟩ = some (.slice p4_3 x.m.l.length q4_3) ∧ w'.cell? ⟨w4.heap.size, 3, none⟩ = some (.slice p4_4 x.t.length q4_4) ∧ w'.cell? ⟨w4.heap.size, 4, none⟩ = some (.slice p4_5 x.o.length q4_5) ∧ w'.cell? ⟨w.heap.size, 0, none⟩ = some (.slice ax1 x.p.k.length cx1) ∧ w'.cell? ⟨w.heap.size, 1, none⟩ = some (.slice ax2 x.m.o.length cx2) ∧ w'.cell? ⟨w.heap.size, 2, none⟩ = some (.slice ax3 x.m.l.length cx3) ∧ w'.cell? ⟨w.heap.size, 3, none⟩ = some (.slice ax4 x.t.length cx4) ∧ w'.cell? ⟨w.heap.size, 4, none⟩ = some (.slice ax5 x.o.length cx5)) (by kernel_rfl) (HCL.out _ HD.out) (fun hHeld => ?_)
      have HW := HD
      clear HD
      generalize w6.drew = Z0 at *
      refine wpAnyH_take (i := 0) (v := .agg #[.slice p4_1 x.p.k.length q4_1, .slice p4_2 x.m.o.length q4_2, .slice p4_3 x.m.l.length q4_3, .slice p4_4 x.t.length q4_4, .slice p4_5 x.o.length q4_5]) rfl (by kernel_rfl) (by kernel_rfl) (by kernel_rfl) (fun _ _ _ h => h) (Or.inl ⟨by rfl, ?_⟩) (by assumption) ?_
      · intro w' hSw
        try dsimp only at hSw
        go_simp; try rfl
      simp only [List.getElem_toArray, List.getElem_cons_zero, Act.put, List.setIfInBounds_toArray, List.set_cons_zero, List.set_cons_succ]
      refine wpAnyH_take (i := 1) (v := .agg #[.slice ax1 x.p.k.length cx1, .slice ax2 x.m.o.length cx2, .slice ax3 x.m.l.length cx3, .slice ax4 x.t.length cx4, .slice ax5 x.o.length cx5]) rfl (by kernel_rfl) (by kernel_rfl) (by kernel_rfl) (fun _ _ _ h => h) (Or.inl ⟨by rfl, ?_⟩) (by assumption) ?_
      · intro w' hSw
        try dsimp only at hSw
        go_simp; try rfl
      simp only [List.getElem_toArray, List.getElem_cons_succ, List.getElem_cons_zero, Act.put, List.setIfInBounds_toArray, List.set_cons_zero, List.set_cons_succ]
      refine wpAnyH_ready (rs := [2]) (by kernel_rfl) (by simp) (AllReadyH.cons rfl (fun K hK => ?_) AllReadyH.nil)
      refine step_callW (some 28) (by kernel_rfl) (by kernel_rfl) 6 _ _ rfl #[.agg #[.slice ax1 x.p.k.length cx1, .slice ax2 x.m.o.length cx2, .slice ax3 x.m.l.length cx3, .slice ax4 x.t.length cx4, .slice ax5 x.o.length cx5]] (by kernel_rfl) (toMd _ x _ _ _ _ _ (Px1.out.at (HB.out.trans (HW.out.mono HB.out.size))) (Px2.out.at (HB.out.trans (HW.out.mono HB.out.size))) (Px3.out.at (HB.out.trans (HW.out.mono HB.out.size))) (Px4.out.at (HB.out.trans (HW.out.mono HB.out.size))) (Px5.out.at (HB.out.trans (HW.out.mono HB.out.size))) HGx.out) ?_
      rintro e Z1 ⟨n91_1, n91_2, n91_3, n91_4, n91_5, rfl, o9, b9⟩
      obtain ⟨p91_1, q91_1, f91_1, _⟩ := (mdD_own o9).1.shape
      subst f91_1
      obtain ⟨p91_2, q91_2, f91_2, _⟩ := (mdD_own o9).2.1.shape
      subst f91_2
      obtain ⟨p91_3, q91_3, f91_3, _⟩ := (mdD_own o9).2.2.1.shape
      subst f91_3
      obtain ⟨p91_4, q91_4, f91_4, _⟩ := (mdD_own o9).2.2.2.1.shape
      subst f91_4
      obtain ⟨p91_5, q91_5, f91_5, _⟩ := (mdD_own o9).2.2.2.2.shape
      subst f91_5
      have OH91 := hide o9
      clear o9
      unfold mdV
      replace HW := hide (HW.out.trans (b9.mono HW.out.size))
      clear b9
      refine ⟨_, rfl, ?_⟩
      refine hK.out _ _ (HCL.out _ HW.out) (fun hHeld => ?_)
      clear hK K
      simp only [Act.put, List.setIfInBounds_toArray, List.set_cons_zero, List.set_cons_succ]
      refine wpAnyH_ready (rs := [3]) (by kernel_rfl) (by simp) (AllReadyH.cons rfl (fun K hK => ?_) AllReadyH.nil)
      refine step_callW (some 29) (by kernel_rfl) (by kernel_rfl) 8 _ _ rfl #[.agg #[.slice p4_1 x.p.k.length q4_1, .slice p4_2 x.m.o.length q4_2, .slice p4_3 x.m.l.length q4_3, .slice p4_4 x.t.length q4_4, .slice p4_5 x.o.length q4_5], .agg #[.slice p91_1 x.p.k.length q91_1, .slice p91_2 x.m.o.length q91_2, .slice p91_3 x.m.l.length q91_3, .slice p91_4 x.t.length q91_4, .slice p91_5 x.o.length q91_5]] (by kernel_rfl) (eqMd _ x _ _ _ _ _ _ _ _ _ _ (mdD_own (O4.out.below HW.out)).1 (mdD_own (O4.out.below HW.out)).2.1 (mdD_own (O4.out.below HW.out)).2.2.1 (mdD_own (O4.out.below HW.out)).2.2.2.1 (mdD_own (O4.out.below HW.out)).2.2.2.2 (mdD_own OH91.out).1 (mdD_own OH91.out).2.1 (mdD_own OH91.out).2.2.1 (mdD_own OH91.out).2.2.2.1 (mdD_own OH91.out).2.2.2.2 HGx.out) ?_
      rintro e Z2 ⟨rfl, b9⟩
      replace OH91 := hide (OH91.out.below b9)
      replace HW := hide (HW.out.trans (b9.mono HW.out.size))
      clear b9
      refine ⟨_, rfl, ?_⟩
      refine hK.out _ _ (HCL.out _ HW.out) (fun hHeld => ?_)
      clear hK K
      simp only [Act.put, List.setIfInBounds_toArray, List.set_cons_zero, List.set_cons_succ]
      refine wpAnyH_take (i := 4) (v := ?_) rfl (by kernel_rfl) (by kernel_rfl) (by kernel_rfl) (fun _ _ _ h => h) (Or.inl ⟨by rfl, ?_⟩) (by assumption) ?_
      rotate_left
      · intro w' hSw
        try dsimp only at hSw
        go_simp; try rfl
      simp only [List.getElem_toArray, List.getElem_cons_succ, List.getElem_cons_zero, Act.put, List.setIfInBounds_toArray, List.set_cons_zero, List.set_cons_succ]
      refine wpAnyH_done (by kernel_rfl) ?_ _
      go_wp2_with fail
      go_meet
      exact ⟨rfl, HW⟩
    case rest =>
    obtain ⟨rfl, HQ9⟩ := hcut
    have b9 := HQ9.out
    clear HQ9 HCL HD
    replace E0 := hide ((b9.block _ (Array.getElem?_eq_some_iff.1 E0.out).1).trans E0.out)
    replace X7 := hide ((b9.block _ (Array.getElem?_eq_some_iff.1 X7.out).1).trans X7.out)
    replace O2 := hide (O2.out.below b9)
    replace O4 := hide (O4.out.below b9)
    have z8 := b9.size
    replace HB := hide (HB.out.trans (b9.mono HB.out.size))
    clear b9
    generalize wc = w7 at *
    go_wp2
    go_ret
    exact ⟨rfl, HB.out⟩

set_option maxRecDepth 100000 in
theorem lifted (os : Os) (started : os.Started) (H : Type) (enc : TypeId × Value → H) :
    ReturnsInHanded {} Try.checked os 3 .any (Rows.fnExactThreadOfSpec.pre6 enc Try.prog Try.f3 Rows.fnExactThreadOfRow.domain false) (Rows.fnExactThreadOfSpec.post enc Try.prog Try.f3 false true false false) := by
  refine returnsInHanded_of_change (C := Try.checked) own started (by kernel_rfl) Try.func3
    (ChangeSpec.witness6 (enc := enc) (C := Try.checked) false ⟨#[], #[.agg #[.slice none 0 0, .slice none 0 0, .slice none 0 0, .slice none 0 0, .slice none 0 0], .int .i64 0], []⟩ 8 (by kernel_rfl) (by kernel_rfl) (by kernel_rfl) (by kernel_rfl)) ?_
  intro W base args ds gs before hval0 hW hcnd _
  have hval : ∀ (j : Nat) t v, Try.f3.params[j]? = some t → args[j]? = some v → Value.okWide Try.prog W .any base t v := hval0
  have hW' := hW
  obtain ⟨p, q, hA0, hV, rfl, hfz, hnd⟩ := hW
  have hA : DataW.TrodAll enc Try.prog W 0 (fun _ => true) true Try.f3.params.toList args.toList ds p := hA0
  rw [Try.params3] at hA hval
  obtain ⟨v0, vs0, d0, ds0, p0, q0, hargs, rfl, rfl, h0, r0⟩ := trodAll_cons hA
  obtain ⟨v1, vs1, d1, ds1, p1, q1, rfl, rfl, rfl, h1, r1⟩ := trodAll_cons r0
  obtain ⟨rfl, rfl, rfl⟩ := trodAll_nil r1
  obtain rfl : args = #[v0, v1] := by cases args; simp_all
  obtain ⟨rfl, rfl⟩ := trodVars_none hV
  have k0 := h0
  have lt0 : ∀ x ∈ p0, x.block < W.heap.size := by obtain ⟨m, hm⟩ := k0; exact DataW.trod_lt m _ _ _ hm
  have w0 := openMd (hval 0 32 v0 rfl rfl) h0
  obtain ⟨a1, rfl, rfl, rfl, w1⟩ := open_int Try.underlying3 (hval 1 3 v1 rfl rfl) h1
  clear hA0 hval0
  refine (walk v0 a1 W w0 (bounds_i64 w1)).mono fun e W' ⟨he, bel⟩ => ?_
  subst he
  exact ⟨_, rfl, _, _, _, [], _, [], hW', trodAll_mk1 (shut_bool Try.underlying4 _), (trodAll_cons_mk (Below.trod laidOut (by kernel_rfl) (of_decide_eq_true (by kernel_rfl)) k0 bel lt0) (trodAll_cons_mk (shut_int Try.underlying3 w1) trodAll_mk0)), rfl, bel.frame _, fun h => by cases h⟩

theorem over : Rows.fnExactThreadOfRow.holds Try.pinned (OpenSpec.ofChange Rows.fnExactThreadOfSpec) :=
  OpenClaim.holds_of_wide 3 Try.f3 rfl rfl rfl rfl rfl rfl rfl ⟨rfl, rfl, rfl, rfl, rfl⟩ rfl rfl rfl rfl rfl (by kernel_rfl) Try.func3 (by kernel_rfl)
    (of_decide_eq_true (by kernel_rfl)) (by unfold Func.isWrapper; first | (rw [if_pos (by decide +kernel)]; kernel_rfl) | (rw [if_neg (by decide +kernel)]; exact ⟨rfl, rfl⟩))
    (fun os started H enc _ => lifted os started H enc)

end Go.Proofs.Ytelpdlhgjepgbaa.fnExactThreadOf
namespace Go.Proofs.Ytelpdlhgjepgbaa
theorem fnExactThreadOf_holds : Rows.FnExactThreadOfSaid := fnExactThreadOf.over
#print axioms fnExactThreadOf_holds
end Go.Proofs.Ytelpdlhgjepgbaa
