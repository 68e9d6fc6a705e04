/-
  Proved: at every argument the program's MemoryOk answers as its model does, writes into no argument, and its answer owns its memory (the law FnExactMemoryOk returns true), without any condition.
-/
import Derived.Test.YthlaihkpffddcaaRows
import Derived.Test.YthlaihkpffddcaaJ14
import Derived.Test.YthlaihkpffddcaaJ23
import Derived.Test.YthlaihkpffddcaaKMemK
import Derived.Test.YthlaihkpffddcaaJ38
import Derived.Test.YthlaihkpffddcaaJ19
import Derived.Deep.CutRange
import Derived.Deep.RegionWith
import Derived.Deep.RegionHeld
import Derived.BigRegion
import Derived.WalkKit
import Derived.ProofKit
import Derived.OpenShut
import Derived.ShutString
import Derived.ChangeOld
import Derived.Below
namespace Go.Proofs.Ythlaihkpffddcaa.fnExactMemoryOk
open Go.ChangeShapes Go.WideShapes Go.ChangeAt Go.RowKit
open Go.ChangeMaps (open_string shut_string)
set_option linter.unusedVariables false

theorem own : ownKnob Try.prog.godebug = none := by kernel_rfl
theorem laidOut : laidOutB Try.prog = true := by kernel_rfl
set_option maxRecDepth 100000 in
set_option maxHeartbeats 8000000 in
theorem walk (v0 : Value) (v1 : Value) (w : World) (h0 : IsPg w v0) (h1 : IsMm w v1) :
    Calls Try.prog 3 #[v0, v1] w fun e w' => e = .returned (.bool true) ∧ Below w.heap.size w w' := by
  obtain ⟨x, ux1, rfl, gx1, rx⟩ := h0
  obtain ⟨ax1, cx1, ex1, _⟩ := gx1.shape
  subst ex1
  have Px1 := hide gx1
  have Rx := hide rx
  clear rx gx1
  obtain ⟨m, um1, um2, rfl, gm1, gm2, rm⟩ := h1
  obtain ⟨am1, cm1, em1, _⟩ := gm1.shape
  obtain ⟨am2, cm2, em2, _⟩ := gm2.shape
  subst em1 em2
  have Pm1 := hide gm1
  have Pm2 := hide gm2
  have Rm := hide rm
  clear rm gm1 gm2
  have bA := (((Below.refl w.heap.size w).alloc (Nat.le_refl _) (.cells #[.slice ax1 x.k.length cx1] 24)).alloc (by simp) (.cells #[.slice am1 m.o.length cm1, .slice am2 m.l.length cm2] 28))
  have G0 := heap_alloc_new w (.cells #[.slice ax1 x.k.length cx1] 24)
  have G1 := heap_alloc_new (w.alloc (.cells #[.slice ax1 x.k.length cx1] 24)) (.cells #[.slice am1 m.o.length cm1, .slice am2 m.l.length cm2] 28)
  simp only [World.size_alloc] at G1
  have E0 := hide ((Below.heap_alloc _ (.cells #[.slice am1 m.o.length cm1, .slice am2 m.l.length cm2] 28) _ (by simp)).trans (G0))
  have E1 := hide (G1)
  have HB := hide bA
  clear bA G0 G1
  obtain ⟨V0, hV0⟩ : ∃ V, mmB x.k m = V := ⟨_, rfl⟩
  have HV0 := hide hV0
  clear hV0
  have hne0 : (V0 != V0) = false := by simp
  unfold pgV mmV
  go_enter Try.func3, Try.ntmps3
  go_wp2_with fail
  generalize ((w.alloc (.cells #[.slice ax1 x.k.length cx1] 24)).alloc (.cells #[.slice am1 m.o.length cm1, .slice am2 m.l.length cm2] 28)) = W at *
  refine (szPg _ x _ _ (Px1.out.at HB.out) (by omega) (by omega) Rx.out).mono ?_
  rintro e w1 ⟨rfl, b9⟩
  replace E0 := hide ((b9.block _ (Array.getElem?_eq_some_iff.1 E0.out).1).trans E0.out)
  replace E1 := hide ((b9.block _ (Array.getElem?_eq_some_iff.1 E1.out).1).trans E1.out)
  have z1 := b9.size
  replace HB := hide (HB.out.trans (b9.mono HB.out.size))
  clear b9
  by_cases hmx : (1048576 : Int) < (pgW x : Int)
  · rw [szR_neg hmx]
    go_wp2
    go_ret
    exact ⟨rfl, HB.out⟩
  · skip
    rw [szR_pos hmx]
    have hwx : pgW x ≤ 1048576 := by omega
    have HGx := hide (pgG_of Rx.out (by omega))
    have hnx : ¬ (1048576 : Int) - (pgW x : Int) < 0 := by omega
    have hqx : (1048576 : Int) - (pgW x : Int) ≤ 1048576 := by omega
    have hTx : (1048576 : Int) - (pgW x : Int) + ((pgW x : Int) : Int) ≤ 1048576 := by omega
    generalize (1048576 : Int) - (pgW x : Int) = mx at *
    clear hmx
    have y0_0 := (box_of E1.out).1 0 _ rfl
    have y0_1 := (box_of E1.out).1 1 _ rfl
    go_wp2_with fail
    clear y0_0 y0_1
    refine (szMm _ m _ _ _ (Pm1.out.at HB.out) (Pm2.out.at HB.out) (by omega) (by omega) Rm.out).mono ?_
    rintro e w2 ⟨rfl, b9⟩
    replace E0 := hide ((b9.block _ (Array.getElem?_eq_some_iff.1 E0.out).1).trans E0.out)
    replace E1 := hide ((b9.block _ (Array.getElem?_eq_some_iff.1 E1.out).1).trans E1.out)
    have z2 := b9.size
    replace HB := hide (HB.out.trans (b9.mono HB.out.size))
    clear b9
    by_cases hmm : (mx : Int) < (mmW m : Int)
    · rw [szR_neg hmm]
      go_wp2
      go_ret
      exact ⟨rfl, HB.out⟩
    · skip
      rw [szR_pos hmm]
      have hwm : mmW m ≤ 1048576 := by omega
      have HGm := hide (mmG_of Rm.out (by omega))
      have hnm : ¬ (mx : Int) - (mmW m : Int) < 0 := by omega
      have hqm : (mx : Int) - (mmW m : Int) ≤ 1048576 := by omega
      have hTm : (mx : Int) - (mmW m : Int) + ((mmW m : Int) + (pgW x : Int) : Int) ≤ 1048576 := by omega
      generalize (mx : Int) - (mmW m : Int) = mm at *
      clear hmm
      have hz0 : w.heap.size + 2 ≤ w2.heap.size := by
        have hh := (Array.getElem?_eq_some_iff.1 E1.out).1
        omega
      go_upto_region 8 with fail
      have HCL : Hid (∀ w', Below w2.heap.size w2 w' → w'.cell? ⟨w.heap.size, 0, none⟩ = some (.slice ax1 x.k.length cx1) ∧ w'.cell? ⟨w.heap.size + 1, 0, none⟩ = some (.slice am1 m.o.length cm1) ∧ w'.cell? ⟨w.heap.size + 1, 1, none⟩ = some (.slice am2 m.l.length cm2)) := hide (fun w' hb => ⟨(box_of ((hb.block _ (Array.getElem?_eq_some_iff.1 E0.out).1).trans E0.out)).1 0 _ rfl, (box_of ((hb.block _ (Array.getElem?_eq_some_iff.1 E1.out).1).trans E1.out)).1 0 _ rfl, (box_of ((hb.block _ (Array.getElem?_eq_some_iff.1 E1.out).1).trans E1.out)).1 1 _ rfl⟩)
      have HD := hide (Below.refl w2.heap.size w2).drew
      go_cut [6] from 20 to 24 (fun s6 wq => s6 = .bool V0 ∧ Hid (Below w2.heap.size w2 wq))
      case first =>
        refine wp_region_held_drew (S := fun w' => w'.cell? ⟨w.heap.size, 0, none⟩ = some (.slice ax1 x.k.length cx1) ∧ w'.cell? ⟨w.heap.size + 1, 0, none⟩ = some (.slice am1 m.o.length cm1) ∧ w'.cell? ⟨w.heap.size + 1, 1, none⟩ = some (.slice am2 m.l.length cm2)) (by kernel_rfl) (HCL.out _ HD.out) (fun hHeld => ?_)
        have HW := HD
        clear HD
        generalize w2.drew = Z0 at *
        refine wpAnyH_take (i := 0) (v := .agg #[.slice ax1 x.k.length cx1]) rfl (by kernel_rfl) (by kernel_rfl) (by kernel_rfl) (fun _ _ _ h => h) (Or.inl ⟨by rfl, ?_⟩) (by assumption) ?_
        · intro w' hSw
          try dsimp only at hSw
          go_simp; try rfl
        simp only [List.getElem_toArray, List.getElem_cons_zero, Act.put, List.setIfInBounds_toArray, List.set_cons_zero, List.set_cons_succ]
        refine wpAnyH_take (i := 2) (v := .agg #[.slice am1 m.o.length cm1, .slice am2 m.l.length cm2]) rfl (by kernel_rfl) (by kernel_rfl) (by kernel_rfl) (fun _ _ _ h => h) (Or.inl ⟨by rfl, ?_⟩) (by assumption) ?_
        · intro w' hSw
          try dsimp only at hSw
          go_simp; try rfl
        simp only [List.getElem_toArray, List.getElem_cons_succ, List.getElem_cons_zero, Act.put, List.setIfInBounds_toArray, List.set_cons_zero, List.set_cons_succ]
        refine wpAnyH_ready (rs := [1]) (by kernel_rfl) (by simp) (AllReadyH.cons rfl (fun K hK => ?_) AllReadyH.nil)
        refine step_callW (some 21) (by kernel_rfl) (by kernel_rfl) 11 _ _ rfl #[.agg #[.slice ax1 x.k.length cx1]] (by kernel_rfl) (toPg _ x _ (Px1.out.at (HB.out.trans (HW.out.mono HB.out.size))) HGx.out) ?_
        rintro e Z1 ⟨n91_1, rfl, o9, b9⟩
        obtain ⟨p91_1, q91_1, f91_1, _⟩ := (pgD_own o9).shape
        subst f91_1
        have OH91 := hide o9
        clear o9
        unfold pgV
        replace HW := hide (HW.out.trans (b9.mono HW.out.size))
        clear b9
        refine ⟨_, rfl, ?_⟩
        refine hK.out _ _ (HCL.out _ HW.out) (fun hHeld => ?_)
        clear hK K
        simp only [Act.put, List.setIfInBounds_toArray, List.set_cons_zero, List.set_cons_succ]
        refine wpAnyH_ready (rs := [3]) (by kernel_rfl) (by simp) (AllReadyH.cons rfl (fun K hK => ?_) AllReadyH.nil)
        refine step_callW (some 23) (by kernel_rfl) (by kernel_rfl) 12 _ _ rfl #[.agg #[.slice am1 m.o.length cm1, .slice am2 m.l.length cm2]] (by kernel_rfl) (toMm _ m _ _ (Pm1.out.at (HB.out.trans (HW.out.mono HB.out.size))) (Pm2.out.at (HB.out.trans (HW.out.mono HB.out.size))) HGm.out) ?_
        rintro e Z2 ⟨n92_1, n92_2, rfl, o9, b9⟩
        obtain ⟨p92_1, q92_1, f92_1, _⟩ := (mmD_own o9).1.shape
        subst f92_1
        obtain ⟨p92_2, q92_2, f92_2, _⟩ := (mmD_own o9).2.shape
        subst f92_2
        have OH92 := hide o9
        clear o9
        unfold mmV
        replace OH91 := hide (OH91.out.below b9)
        replace HW := hide (HW.out.trans (b9.mono HW.out.size))
        clear b9
        refine ⟨_, rfl, ?_⟩
        refine hK.out _ _ (HCL.out _ HW.out) (fun hHeld => ?_)
        clear hK K
        simp only [Act.put, List.setIfInBounds_toArray, List.set_cons_zero, List.set_cons_succ]
        refine wpAnyH_ready (rs := [4]) (by kernel_rfl) (by simp) (AllReadyH.cons rfl (fun K hK => ?_) AllReadyH.nil)
        refine step_callW (some 24) (by kernel_rfl) (by kernel_rfl) 10 _ _ rfl #[.agg #[.slice p91_1 x.k.length q91_1], .agg #[.slice p92_1 m.o.length q92_1, .slice p92_2 m.l.length q92_2]] (by kernel_rfl) (memoryOkS _ x _ m _ _ (pgD_own OH91.out) (mmD_own OH92.out).1 (mmD_own OH92.out).2 HGx.out.k HGm.out) ?_
        rintro e Z3 ⟨rfl, b9⟩
        rw [HV0.out]
        clear OH91
        clear OH92
        replace HW := hide (HW.out.trans (b9.mono HW.out.size))
        clear b9
        refine ⟨_, rfl, ?_⟩
        refine hK.out _ _ (HCL.out _ HW.out) (fun hHeld => ?_)
        clear hK K
        simp only [Act.put, List.setIfInBounds_toArray, List.set_cons_zero, List.set_cons_succ]
        refine wpAnyH_take (i := 5) (v := ?_) rfl (by kernel_rfl) (by kernel_rfl) (by kernel_rfl) (fun _ _ _ h => h) (Or.inl ⟨by rfl, ?_⟩) (by assumption) ?_
        rotate_left
        · intro w' hSw
          try dsimp only at hSw
          go_simp; try rfl
        simp only [List.getElem_toArray, List.getElem_cons_succ, List.getElem_cons_zero, Act.put, List.setIfInBounds_toArray, List.set_cons_zero, List.set_cons_succ]
        refine wpAnyH_done (by kernel_rfl) ?_ _
        go_wp2_with fail
        go_meet
        exact ⟨rfl, HW⟩
      case rest =>
      obtain ⟨rfl, HQ9⟩ := hcut
      have b9 := HQ9.out
      clear HQ9 HCL HD
      replace E0 := hide ((b9.block _ (Array.getElem?_eq_some_iff.1 E0.out).1).trans E0.out)
      replace E1 := hide ((b9.block _ (Array.getElem?_eq_some_iff.1 E1.out).1).trans E1.out)
      have z3 := b9.size
      replace HB := hide (HB.out.trans (b9.mono HB.out.size))
      clear b9
      generalize wc = w3 at *
      have y0_0 := (box_of E0.out).1 0 _ rfl
      go_wp2_with fail
      clear y0_0
      refine (toPg _ x _ (Px1.out.at HB.out) HGx.out).mono ?_
      rintro e w4 ⟨n4_1, rfl, o9, b9⟩
      obtain ⟨p4_1, q4_1, f4_1, _⟩ := (pgD_own o9).shape
      subst f4_1
      have O4 := hide o9
      clear o9
      replace E0 := hide ((b9.block _ (Array.getElem?_eq_some_iff.1 E0.out).1).trans E0.out)
      replace E1 := hide ((b9.block _ (Array.getElem?_eq_some_iff.1 E1.out).1).trans E1.out)
      have z4 := b9.size
      replace HB := hide (HB.out.trans (b9.mono HB.out.size))
      clear b9
      unfold pgV
      have bD := (Below.refl w4.heap.size w4).alloc (Nat.le_refl _) (.cells #[.slice p4_1 x.k.length q4_1] 34)
      have X7 := hide (heap_alloc_new w4 (.cells #[.slice p4_1 x.k.length q4_1] 34))
      have z5 : w4.heap.size < (w4.alloc (.cells #[.slice p4_1 x.k.length q4_1] 34)).heap.size := by simp
      replace E0 := hide ((bD.block _ (Array.getElem?_eq_some_iff.1 E0.out).1).trans E0.out)
      replace E1 := hide ((bD.block _ (Array.getElem?_eq_some_iff.1 E1.out).1).trans E1.out)
      replace O4 := hide (O4.out.below bD)
      have z6 := bD.size
      replace HB := hide (HB.out.trans (bD.mono HB.out.size))
      clear bD
      have y0_0 := (box_of E1.out).1 0 _ rfl
      have y0_1 := (box_of E1.out).1 1 _ rfl
      go_wp2_with fail
      clear y0_0 y0_1
      generalize w4.alloc (.cells #[.slice p4_1 x.k.length q4_1] 34) = w5 at *
      refine (toMm _ m _ _ (Pm1.out.at HB.out) (Pm2.out.at HB.out) HGm.out).mono ?_
      rintro e w6 ⟨n6_1, n6_2, rfl, o9, b9⟩
      obtain ⟨p6_1, q6_1, f6_1, _⟩ := (mmD_own o9).1.shape
      subst f6_1
      obtain ⟨p6_2, q6_2, f6_2, _⟩ := (mmD_own o9).2.shape
      subst f6_2
      have O6 := hide o9
      clear o9
      replace E0 := hide ((b9.block _ (Array.getElem?_eq_some_iff.1 E0.out).1).trans E0.out)
      replace E1 := hide ((b9.block _ (Array.getElem?_eq_some_iff.1 E1.out).1).trans E1.out)
      replace X7 := hide ((b9.block _ (Array.getElem?_eq_some_iff.1 X7.out).1).trans X7.out)
      replace O4 := hide (O4.out.below b9)
      have z7 := b9.size
      replace HB := hide (HB.out.trans (b9.mono HB.out.size))
      clear b9
      unfold mmV
      have bD := (Below.refl w6.heap.size w6).alloc (Nat.le_refl _) (.cells #[.slice p6_1 m.o.length q6_1, .slice p6_2 m.l.length q6_2] 39)
      have X8 := hide (heap_alloc_new w6 (.cells #[.slice p6_1 m.o.length q6_1, .slice p6_2 m.l.length q6_2] 39))
      have z8 : w6.heap.size < (w6.alloc (.cells #[.slice p6_1 m.o.length q6_1, .slice p6_2 m.l.length q6_2] 39)).heap.size := by simp
      replace E0 := hide ((bD.block _ (Array.getElem?_eq_some_iff.1 E0.out).1).trans E0.out)
      replace E1 := hide ((bD.block _ (Array.getElem?_eq_some_iff.1 E1.out).1).trans E1.out)
      replace X7 := hide ((bD.block _ (Array.getElem?_eq_some_iff.1 X7.out).1).trans X7.out)
      replace O4 := hide (O4.out.below bD)
      replace O6 := hide (O6.out.below bD)
      have z9 := bD.size
      replace HB := hide (HB.out.trans (bD.mono HB.out.size))
      clear bD
      have y0_0 := (box_of X7.out).1 0 _ rfl
      have y1_0 := (box_of X8.out).1 0 _ rfl
      have y1_1 := (box_of X8.out).1 1 _ rfl
      go_wp2_with fail
      clear y0_0 y1_0 y1_1
      generalize w6.alloc (.cells #[.slice p6_1 m.o.length q6_1, .slice p6_2 m.l.length q6_2] 39) = w7 at *
      refine (memoryOkI _ x _ m _ _ (pgD_own O4.out) (mmD_own O6.out).1 (mmD_own O6.out).2 HGx.out.k HGm.out).mono ?_
      rintro e w8 ⟨rfl, b9⟩
      rw [HV0.out]
      replace E0 := hide ((b9.block _ (Array.getElem?_eq_some_iff.1 E0.out).1).trans E0.out)
      replace E1 := hide ((b9.block _ (Array.getElem?_eq_some_iff.1 E1.out).1).trans E1.out)
      replace X7 := hide ((b9.block _ (Array.getElem?_eq_some_iff.1 X7.out).1).trans X7.out)
      replace X8 := hide ((b9.block _ (Array.getElem?_eq_some_iff.1 X8.out).1).trans X8.out)
      replace O4 := hide (O4.out.below b9)
      replace O6 := hide (O6.out.below b9)
      have z10 := b9.size
      replace HB := hide (HB.out.trans (b9.mono HB.out.size))
      clear b9
      go_upto_region 14 with fail
      have HCL : Hid (∀ w', Below w8.heap.size w8 w' → w'.cell? ⟨w4.heap.size, 0, none⟩ = some (.slice p4_1 x.k.length q4_1) ∧ w'.cell? ⟨w.heap.size, 0, none⟩ = some (.slice ax1 x.k.length cx1)) := hide (fun w' hb => ⟨(box_of ((hb.block _ (Array.getElem?_eq_some_iff.1 X7.out).1).trans X7.out)).1 0 _ rfl, (box_of ((hb.block _ (Array.getElem?_eq_some_iff.1 E0.out).1).trans E0.out)).1 0 _ rfl⟩)
      have HD := hide (Below.refl w8.heap.size w8).drew
      go_cut [39] from 35 to 39 (fun s wq => s = .bool false ∧ Hid (Below w8.heap.size w8 wq))
      case first =>
        refine wp_region_held_drew (S := fun w' => w'.cell? ⟨w4.heap.size, 0, none⟩ = some (.slice p4_1 x.k.length q4_1) ∧ w'.cell? ⟨w.heap.size, 0, none⟩ = some (.slice ax1 x.k.length cx1)) (by kernel_rfl) (HCL.out _ HD.out) (fun hHeld => ?_)
        have HW := HD
        clear HD
        generalize w8.drew = Z0 at *
        refine wpAnyH_take (i := 0) (v := .agg #[.slice p4_1 x.k.length q4_1]) rfl (by kernel_rfl) (by kernel_rfl) (by kernel_rfl) (fun _ _ _ h => h) (Or.inl ⟨by rfl, ?_⟩) (by assumption) ?_
        · intro w' hSw
          try dsimp only at hSw
          go_simp; try rfl
        simp only [List.getElem_toArray, List.getElem_cons_zero, Act.put, List.setIfInBounds_toArray, List.set_cons_zero, List.set_cons_succ]
        refine wpAnyH_take (i := 1) (v := .agg #[.slice ax1 x.k.length cx1]) rfl (by kernel_rfl) (by kernel_rfl) (by kernel_rfl) (fun _ _ _ h => h) (Or.inl ⟨by rfl, ?_⟩) (by assumption) ?_
        · intro w' hSw
          try dsimp only at hSw
          go_simp; try rfl
        simp only [List.getElem_toArray, List.getElem_cons_succ, List.getElem_cons_zero, Act.put, List.setIfInBounds_toArray, List.set_cons_zero, List.set_cons_succ]
        refine wpAnyH_ready (rs := [2]) (by kernel_rfl) (by simp) (AllReadyH.cons rfl (fun K hK => ?_) AllReadyH.nil)
        refine step_callW (some 37) (by kernel_rfl) (by kernel_rfl) 11 _ _ rfl #[.agg #[.slice ax1 x.k.length cx1]] (by kernel_rfl) (toPg _ x _ (Px1.out.at (HB.out.trans (HW.out.mono HB.out.size))) HGx.out) ?_
        rintro e Z1 ⟨n91_1, rfl, o9, b9⟩
        obtain ⟨p91_1, q91_1, f91_1, _⟩ := (pgD_own o9).shape
        subst f91_1
        have OH91 := hide o9
        clear o9
        unfold pgV
        replace HW := hide (HW.out.trans (b9.mono HW.out.size))
        clear b9
        refine ⟨_, rfl, ?_⟩
        refine hK.out _ _ (HCL.out _ HW.out) (fun hHeld => ?_)
        clear hK K
        simp only [Act.put, List.setIfInBounds_toArray, List.set_cons_zero, List.set_cons_succ]
        refine wpAnyH_ready (rs := [3]) (by kernel_rfl) (by simp) (AllReadyH.cons rfl (fun K hK => ?_) AllReadyH.nil)
        refine step_callW (some 38) (by kernel_rfl) (by kernel_rfl) 14 _ _ rfl #[.agg #[.slice p4_1 x.k.length q4_1], .agg #[.slice p91_1 x.k.length q91_1]] (by kernel_rfl) (eqPg _ x _ _ (pgD_own (O4.out.below HW.out)) (pgD_own OH91.out) HGx.out) ?_
        rintro e Z2 ⟨rfl, b9⟩
        replace OH91 := hide (OH91.out.below b9)
        replace HW := hide (HW.out.trans (b9.mono HW.out.size))
        clear b9
        refine ⟨_, rfl, ?_⟩
        refine hK.out _ _ (HCL.out _ HW.out) (fun hHeld => ?_)
        clear hK K
        simp only [Act.put, List.setIfInBounds_toArray, List.set_cons_zero, List.set_cons_succ]
        refine wpAnyH_take (i := 4) (v := ?_) rfl (by kernel_rfl) (by kernel_rfl) (by kernel_rfl) (fun _ _ _ h => h) (Or.inl ⟨by rfl, ?_⟩) (by assumption) ?_
        rotate_left
        · intro w' hSw
          try dsimp only at hSw
          go_simp; try rfl
        simp only [List.getElem_toArray, List.getElem_cons_succ, List.getElem_cons_zero, Act.put, List.setIfInBounds_toArray, List.set_cons_zero, List.set_cons_succ]
        refine wpAnyH_done (by kernel_rfl) ?_ _
        go_wp2_with fail
        go_meet
        exact ⟨rfl, HW⟩
      case rest =>
      obtain ⟨rfl, HQ9⟩ := hcut
      have b9 := HQ9.out
      clear HQ9 HCL HD
      replace E0 := hide ((b9.block _ (Array.getElem?_eq_some_iff.1 E0.out).1).trans E0.out)
      replace E1 := hide ((b9.block _ (Array.getElem?_eq_some_iff.1 E1.out).1).trans E1.out)
      replace X7 := hide ((b9.block _ (Array.getElem?_eq_some_iff.1 X7.out).1).trans X7.out)
      replace X8 := hide ((b9.block _ (Array.getElem?_eq_some_iff.1 X8.out).1).trans X8.out)
      replace O4 := hide (O4.out.below b9)
      replace O6 := hide (O6.out.below b9)
      have z11 := b9.size
      replace HB := hide (HB.out.trans (b9.mono HB.out.size))
      clear b9
      generalize wc = w9 at *
      go_upto_region 16 with fail
      have HCL : Hid (∀ w', Below w9.heap.size w9 w' → w'.cell? ⟨w6.heap.size, 0, none⟩ = some (.slice p6_1 m.o.length q6_1) ∧ w'.cell? ⟨w6.heap.size, 1, none⟩ = some (.slice p6_2 m.l.length q6_2) ∧ w'.cell? ⟨w.heap.size + 1, 0, none⟩ = some (.slice am1 m.o.length cm1) ∧ w'.cell? ⟨w.heap.size + 1, 1, none⟩ = some (.slice am2 m.l.length cm2)) := hide (fun w' hb => ⟨(box_of ((hb.block _ (Array.getElem?_eq_some_iff.1 X8.out).1).trans X8.out)).1 0 _ rfl, (box_of ((hb.block _ (Array.getElem?_eq_some_iff.1 X8.out).1).trans X8.out)).1 1 _ rfl, (box_of ((hb.block _ (Array.getElem?_eq_some_iff.1 E1.out).1).trans E1.out)).1 0 _ rfl, (box_of ((hb.block _ (Array.getElem?_eq_some_iff.1 E1.out).1).trans E1.out)).1 1 _ rfl⟩)
      have HD := hide (Below.refl w9.heap.size w9).drew
      go_cut [44] from 40 to 44 (fun s wq => s = .bool false ∧ Hid (Below w9.heap.size w9 wq))
      case first =>
        refine wp_region_held_drew (S := fun w' => w'.cell? ⟨w6.heap.size, 0, none⟩ = some (.slice p6_1 m.o.length q6_1) ∧ w'.cell? ⟨w6.heap.size, 1, none⟩ = some (.slice p6_2 m.l.length q6_2) ∧ w'.cell? ⟨w.heap.size + 1, 0, none⟩ = some (.slice am1 m.o.length cm1) ∧ w'.cell? ⟨w.heap.size + 1, 1, none⟩ = some (.slice am2 m.l.length cm2)) (by kernel_rfl) (HCL.out _ HD.out) (fun hHeld => ?_)
        have HW := HD
        clear HD
        generalize w9.drew = Z0 at *
        refine wpAnyH_take (i := 0) (v := .agg #[.slice p6_1 m.o.length q6_1, .slice p6_2 m.l.length q6_2]) rfl (by kernel_rfl) (by kernel_rfl) (by kernel_rfl) (fun _ _ _ h => h) (Or.inl ⟨by rfl, ?_⟩) (by assumption) ?_
        · intro w' hSw
          try dsimp only at hSw
          go_simp; try rfl
        simp only [List.getElem_toArray, List.getElem_cons_zero, Act.put, List.setIfInBounds_toArray, List.set_cons_zero, List.set_cons_succ]
        refine wpAnyH_take (i := 1) (v := .agg #[.slice am1 m.o.length cm1, .slice am2 m.l.length cm2]) rfl (by kernel_rfl) (by kernel_rfl) (by kernel_rfl) (fun _ _ _ h => h) (Or.inl ⟨by rfl, ?_⟩) (by assumption) ?_
        · intro w' hSw
          try dsimp only at hSw
          go_simp; try rfl
        simp only [List.getElem_toArray, List.getElem_cons_succ, List.getElem_cons_zero, Act.put, List.setIfInBounds_toArray, List.set_cons_zero, List.set_cons_succ]
        refine wpAnyH_ready (rs := [2]) (by kernel_rfl) (by simp) (AllReadyH.cons rfl (fun K hK => ?_) AllReadyH.nil)
        refine step_callW (some 42) (by kernel_rfl) (by kernel_rfl) 12 _ _ rfl #[.agg #[.slice am1 m.o.length cm1, .slice am2 m.l.length cm2]] (by kernel_rfl) (toMm _ m _ _ (Pm1.out.at (HB.out.trans (HW.out.mono HB.out.size))) (Pm2.out.at (HB.out.trans (HW.out.mono HB.out.size))) HGm.out) ?_
        rintro e Z1 ⟨n91_1, n91_2, rfl, o9, b9⟩
        obtain ⟨p91_1, q91_1, f91_1, _⟩ := (mmD_own o9).1.shape
        subst f91_1
        obtain ⟨p91_2, q91_2, f91_2, _⟩ := (mmD_own o9).2.shape
        subst f91_2
        have OH91 := hide o9
        clear o9
        unfold mmV
        replace HW := hide (HW.out.trans (b9.mono HW.out.size))
        clear b9
        refine ⟨_, rfl, ?_⟩
        refine hK.out _ _ (HCL.out _ HW.out) (fun hHeld => ?_)
        clear hK K
        simp only [Act.put, List.setIfInBounds_toArray, List.set_cons_zero, List.set_cons_succ]
        refine wpAnyH_ready (rs := [3]) (by kernel_rfl) (by simp) (AllReadyH.cons rfl (fun K hK => ?_) AllReadyH.nil)
        refine step_callW (some 43) (by kernel_rfl) (by kernel_rfl) 15 _ _ rfl #[.agg #[.slice p6_1 m.o.length q6_1, .slice p6_2 m.l.length q6_2], .agg #[.slice p91_1 m.o.length q91_1, .slice p91_2 m.l.length q91_2]] (by kernel_rfl) (eqMm _ m _ _ _ _ (mmD_own (O6.out.below HW.out)).1 (mmD_own (O6.out.below HW.out)).2 (mmD_own OH91.out).1 (mmD_own OH91.out).2 HGm.out) ?_
        rintro e Z2 ⟨rfl, b9⟩
        replace OH91 := hide (OH91.out.below b9)
        replace HW := hide (HW.out.trans (b9.mono HW.out.size))
        clear b9
        refine ⟨_, rfl, ?_⟩
        refine hK.out _ _ (HCL.out _ HW.out) (fun hHeld => ?_)
        clear hK K
        simp only [Act.put, List.setIfInBounds_toArray, List.set_cons_zero, List.set_cons_succ]
        refine wpAnyH_take (i := 4) (v := ?_) rfl (by kernel_rfl) (by kernel_rfl) (by kernel_rfl) (fun _ _ _ h => h) (Or.inl ⟨by rfl, ?_⟩) (by assumption) ?_
        rotate_left
        · intro w' hSw
          try dsimp only at hSw
          go_simp; try rfl
        simp only [List.getElem_toArray, List.getElem_cons_succ, List.getElem_cons_zero, Act.put, List.setIfInBounds_toArray, List.set_cons_zero, List.set_cons_succ]
        refine wpAnyH_done (by kernel_rfl) ?_ _
        go_wp2_with fail
        go_meet
        exact ⟨rfl, HW⟩
      case rest =>
      obtain ⟨rfl, HQ9⟩ := hcut
      have b9 := HQ9.out
      clear HQ9 HCL HD
      replace E0 := hide ((b9.block _ (Array.getElem?_eq_some_iff.1 E0.out).1).trans E0.out)
      replace E1 := hide ((b9.block _ (Array.getElem?_eq_some_iff.1 E1.out).1).trans E1.out)
      replace X7 := hide ((b9.block _ (Array.getElem?_eq_some_iff.1 X7.out).1).trans X7.out)
      replace X8 := hide ((b9.block _ (Array.getElem?_eq_some_iff.1 X8.out).1).trans X8.out)
      replace O4 := hide (O4.out.below b9)
      replace O6 := hide (O6.out.below b9)
      have z12 := b9.size
      replace HB := hide (HB.out.trans (b9.mono HB.out.size))
      clear b9
      generalize wc = w10 at *
      go_wp2
      go_ret
      exact ⟨rfl, HB.out⟩

set_option maxRecDepth 100000 in
theorem lifted (os : Os) (started : os.Started) (H : Type) (enc : TypeId × Value → H) :
    ReturnsInHanded {} Try.checked os 3 .any (Rows.fnExactMemoryOkSpec.pre6 enc Try.prog Try.f3 Rows.fnExactMemoryOkRow.domain false) (Rows.fnExactMemoryOkSpec.post enc Try.prog Try.f3 false true false false) := by
  refine returnsInHanded_of_change (C := Try.checked) own started (by kernel_rfl) Try.func3
    (ChangeSpec.witness6 (enc := enc) (C := Try.checked) false ⟨#[], #[.agg #[.slice none 0 0], .agg #[.slice none 0 0, .slice none 0 0]], []⟩ 8 (by kernel_rfl) (by kernel_rfl) (by kernel_rfl) (by kernel_rfl)) ?_
  intro W base args ds gs before hval0 hW hcnd _
  have hval : ∀ (j : Nat) t v, Try.f3.params[j]? = some t → args[j]? = some v → Value.okWide Try.prog W .any base t v := hval0
  have hW' := hW
  obtain ⟨p, q, hA0, hV, rfl, hfz, hnd⟩ := hW
  have hA : DataW.TrodAll enc Try.prog W 0 (fun _ => true) true Try.f3.params.toList args.toList ds p := hA0
  rw [Try.params3] at hA hval
  obtain ⟨v0, vs0, d0, ds0, p0, q0, hargs, rfl, rfl, h0, r0⟩ := trodAll_cons hA
  obtain ⟨v1, vs1, d1, ds1, p1, q1, rfl, rfl, rfl, h1, r1⟩ := trodAll_cons r0
  obtain ⟨rfl, rfl, rfl⟩ := trodAll_nil r1
  obtain rfl : args = #[v0, v1] := by cases args; simp_all
  obtain ⟨rfl, rfl⟩ := trodVars_none hV
  have k0 := h0
  have lt0 : ∀ x ∈ p0, x.block < W.heap.size := by obtain ⟨m, hm⟩ := k0; exact DataW.trod_lt m _ _ _ hm
  have w0 := openPg (hval 0 24 v0 rfl rfl) h0
  have k1 := h1
  have lt1 : ∀ x ∈ p1, x.block < W.heap.size := by obtain ⟨m, hm⟩ := k1; exact DataW.trod_lt m _ _ _ hm
  have w1 := openMm (hval 1 28 v1 rfl rfl) h1
  clear hA0 hval0
  refine (walk v0 v1 W w0 w1).mono fun e W' ⟨he, bel⟩ => ?_
  subst he
  exact ⟨_, rfl, _, _, _, [], _, [], hW', trodAll_mk1 (shut_bool Try.underlying4 _), (trodAll_cons_mk (Below.trod laidOut (by kernel_rfl) (of_decide_eq_true (by kernel_rfl)) k0 bel lt0) (trodAll_cons_mk (Below.trod laidOut (by kernel_rfl) (of_decide_eq_true (by kernel_rfl)) k1 bel lt1) trodAll_mk0)), rfl, bel.frame _, fun h => by cases h⟩

theorem over : Rows.fnExactMemoryOkRow.holds Try.pinned (OpenSpec.ofChange Rows.fnExactMemoryOkSpec) :=
  OpenClaim.holds_of_wide 3 Try.f3 rfl rfl rfl rfl rfl rfl rfl ⟨rfl, rfl, rfl, rfl, rfl⟩ rfl rfl rfl rfl rfl (by kernel_rfl) Try.func3 (by kernel_rfl)
    (of_decide_eq_true (by kernel_rfl)) (by unfold Func.isWrapper; first | (rw [if_pos (by decide +kernel)]; kernel_rfl) | (rw [if_neg (by decide +kernel)]; exact ⟨rfl, rfl⟩))
    (fun os started H enc _ => lifted os started H enc)

end Go.Proofs.Ythlaihkpffddcaa.fnExactMemoryOk
namespace Go.Proofs.Ythlaihkpffddcaa
theorem fnExactMemoryOk_holds : Rows.FnExactMemoryOkSaid := fnExactMemoryOk.over
#print axioms fnExactMemoryOk_holds
end Go.Proofs.Ythlaihkpffddcaa
