/-
  Proved: at every argument the program's Find answers as its model does, writes into no argument, and its answer owns its memory (the law FnExactFind returns true), without any condition.
-/
import Derived.Test.YthlaihkpffddcaaRows
import Derived.Test.YthlaihkpffddcaaMmR
import Derived.Test.YthlaihkpffddcaaMmRK
import Derived.Test.YthlaihkpffddcaaMemG
import Derived.Test.YthlaihkpffddcaaMemJ
import Derived.Test.YthlaihkpffddcaaStepW
import Derived.Deep.CutRange
import Derived.Deep.RegionWith
import Derived.Deep.RegionHeld
import Derived.BigRegion
import Derived.WalkKit
import Derived.ProofKit
import Derived.OpenShut
import Derived.ShutString
import Derived.ChangeOld
import Derived.Below
namespace Go.Proofs.Ythlaihkpffddcaa.fnExactFind
open Go.ChangeShapes Go.WideShapes Go.ChangeAt Go.RowKit
open Go.ChangeMaps (open_string shut_string)
set_option linter.unusedVariables false

theorem own : ownKnob Try.prog.godebug = none := by kernel_rfl
theorem laidOut : laidOutB Try.prog = true := by kernel_rfl
set_option maxRecDepth 100000 in
set_option maxHeartbeats 8000000 in
theorem walk (v0 : Value) (q : Int) (w : World) (h0 : IsMm w v0) (_hq : -9223372036854775808 ≤ q ∧ q ≤ 9223372036854775807) :
    Calls Try.prog 5 #[v0, .int .i64 q] w fun e w' => e = .returned (.bool true) ∧ Below w.heap.size w w' := by
  obtain ⟨m, um1, um2, rfl, gm1, gm2, rm⟩ := h0
  obtain ⟨am1, cm1, em1, _⟩ := gm1.shape
  obtain ⟨am2, cm2, em2, _⟩ := gm2.shape
  subst em1 em2
  have Pm1 := hide gm1
  have Pm2 := hide gm2
  have Rm := hide rm
  clear rm gm1 gm2
  have bA := ((Below.refl w.heap.size w).alloc (Nat.le_refl _) (.cells #[.slice am1 m.o.length cm1, .slice am2 m.l.length cm2] 28))
  have G0 := heap_alloc_new w (.cells #[.slice am1 m.o.length cm1, .slice am2 m.l.length cm2] 28)
  have E0 := hide (G0)
  have HB := hide bA
  clear bA G0
  obtain ⟨V0, hV0⟩ : ∃ V, findX m q = V := ⟨_, rfl⟩
  have HV0 := hide hV0
  clear hV0
  obtain ⟨V1, hV1⟩ : ∃ V, foundB m q = V := ⟨_, rfl⟩
  have HV1 := hide hV1
  clear hV1
  have hne1 : (V1 != V1) = false := by simp
  unfold mmV
  go_enter Try.func5, Try.ntmps5
  go_wp2_with fail
  generalize (w.alloc (.cells #[.slice am1 m.o.length cm1, .slice am2 m.l.length cm2] 28)) = W at *
  refine (szMm _ m _ _ _ (Pm1.out.at HB.out) (Pm2.out.at HB.out) (by omega) (by omega) Rm.out).mono ?_
  rintro e w1 ⟨rfl, b9⟩
  replace E0 := hide ((b9.block _ (Array.getElem?_eq_some_iff.1 E0.out).1).trans E0.out)
  have z1 := b9.size
  replace HB := hide (HB.out.trans (b9.mono HB.out.size))
  clear b9
  by_cases hmm : (1048576 : Int) < (mmW m : Int)
  · rw [szR_neg hmm]
    go_wp2
    go_ret
    exact ⟨rfl, HB.out⟩
  · skip
    rw [szR_pos hmm]
    have hwm : mmW m ≤ 1048576 := by omega
    have HGm := hide (mmG_of Rm.out (by omega))
    have hnm : ¬ (1048576 : Int) - (mmW m : Int) < 0 := by omega
    have hqm : (1048576 : Int) - (mmW m : Int) ≤ 1048576 := by omega
    have hTm : (1048576 : Int) - (mmW m : Int) + ((mmW m : Int) : Int) ≤ 1048576 := by omega
    generalize (1048576 : Int) - (mmW m : Int) = mm at *
    clear hmm
    have HGV0 := hide (HV0.out ▸ findX_ok HGm.out.o)
    have hcV0 : obCto V0 ≤ 90000000 := by
      have h1 := obCto_le V0
      have h2 := findX_w m q
      rw [HV0.out] at h2
      omega
    have hz0 : w.heap.size + 1 ≤ w1.heap.size := by
      have hh := (Array.getElem?_eq_some_iff.1 E0.out).1
      omega
    have y0_0 := (box_of E0.out).1 0 _ rfl
    have y0_1 := (box_of E0.out).1 1 _ rfl
    go_wp2_with fail
    clear y0_0 y0_1
    refine (toMm _ m _ _ (Pm1.out.at HB.out) (Pm2.out.at HB.out) HGm.out).mono ?_
    rintro e w2 ⟨n2_1, n2_2, rfl, o9, b9⟩
    obtain ⟨p2_1, q2_1, f2_1, _⟩ := (mmD_own o9).1.shape
    subst f2_1
    obtain ⟨p2_2, q2_2, f2_2, _⟩ := (mmD_own o9).2.shape
    subst f2_2
    have O2 := hide o9
    clear o9
    replace E0 := hide ((b9.block _ (Array.getElem?_eq_some_iff.1 E0.out).1).trans E0.out)
    have z2 := b9.size
    replace HB := hide (HB.out.trans (b9.mono HB.out.size))
    clear b9
    unfold mmV
    go_wp2_with fail
    refine (findS _ m _ _ q (mmD_own O2.out).1 (mmD_own O2.out).2 HGm.out.o).mono ?_
    rintro e w3 ⟨n3_1, rfl, o9, b9⟩
    rw [HV0.out] at o9 ⊢
    rw [HV1.out]
    obtain ⟨p3_1, q3_1, f3_1, _⟩ := (obD_own o9).shape
    subst f3_1
    unfold obV
    have O3 := hide o9
    clear o9
    replace E0 := hide ((b9.block _ (Array.getElem?_eq_some_iff.1 E0.out).1).trans E0.out)
    replace O2 := hide (O2.out.below b9)
    have z3 := b9.size
    replace HB := hide (HB.out.trans (b9.mono HB.out.size))
    clear b9
    have bD := (Below.refl w3.heap.size w3).alloc (Nat.le_refl _) (.cells #[.int .i64 V0.i, .int .i64 V0.c, .slice p3_1 V0.f.length q3_1] 51)
    have X6 := hide (heap_alloc_new w3 (.cells #[.int .i64 V0.i, .int .i64 V0.c, .slice p3_1 V0.f.length q3_1] 51))
    have z4 : w3.heap.size < (w3.alloc (.cells #[.int .i64 V0.i, .int .i64 V0.c, .slice p3_1 V0.f.length q3_1] 51)).heap.size := by simp
    replace E0 := hide ((bD.block _ (Array.getElem?_eq_some_iff.1 E0.out).1).trans E0.out)
    replace O2 := hide (O2.out.below bD)
    replace O3 := hide (O3.out.below bD)
    have z5 := bD.size
    replace HB := hide (HB.out.trans (bD.mono HB.out.size))
    clear bD
    have y0_0 := (box_of E0.out).1 0 _ rfl
    have y0_1 := (box_of E0.out).1 1 _ rfl
    go_wp2_with fail
    clear y0_0 y0_1
    generalize w3.alloc (.cells #[.int .i64 V0.i, .int .i64 V0.c, .slice p3_1 V0.f.length q3_1] 51) = w4 at *
    refine (toMm _ m _ _ (Pm1.out.at HB.out) (Pm2.out.at HB.out) HGm.out).mono ?_
    rintro e w5 ⟨n5_1, n5_2, rfl, o9, b9⟩
    obtain ⟨p5_1, q5_1, f5_1, _⟩ := (mmD_own o9).1.shape
    subst f5_1
    obtain ⟨p5_2, q5_2, f5_2, _⟩ := (mmD_own o9).2.shape
    subst f5_2
    have O5 := hide o9
    clear o9
    replace E0 := hide ((b9.block _ (Array.getElem?_eq_some_iff.1 E0.out).1).trans E0.out)
    replace X6 := hide ((b9.block _ (Array.getElem?_eq_some_iff.1 X6.out).1).trans X6.out)
    replace O2 := hide (O2.out.below b9)
    replace O3 := hide (O3.out.below b9)
    have z6 := b9.size
    replace HB := hide (HB.out.trans (b9.mono HB.out.size))
    clear b9
    unfold mmV
    have bD := (Below.refl w5.heap.size w5).alloc (Nat.le_refl _) (.cells #[.slice p5_1 m.o.length q5_1, .slice p5_2 m.l.length q5_2] 39)
    have X8 := hide (heap_alloc_new w5 (.cells #[.slice p5_1 m.o.length q5_1, .slice p5_2 m.l.length q5_2] 39))
    have z7 : w5.heap.size < (w5.alloc (.cells #[.slice p5_1 m.o.length q5_1, .slice p5_2 m.l.length q5_2] 39)).heap.size := by simp
    replace E0 := hide ((bD.block _ (Array.getElem?_eq_some_iff.1 E0.out).1).trans E0.out)
    replace X6 := hide ((bD.block _ (Array.getElem?_eq_some_iff.1 X6.out).1).trans X6.out)
    replace O2 := hide (O2.out.below bD)
    replace O3 := hide (O3.out.below bD)
    replace O5 := hide (O5.out.below bD)
    have z8 := bD.size
    replace HB := hide (HB.out.trans (bD.mono HB.out.size))
    clear bD
    have y0_0 := (box_of X8.out).1 0 _ rfl
    have y0_1 := (box_of X8.out).1 1 _ rfl
    go_wp2_with fail
    clear y0_0 y0_1
    generalize w5.alloc (.cells #[.slice p5_1 m.o.length q5_1, .slice p5_2 m.l.length q5_2] 39) = w6 at *
    refine (findI _ m _ _ q (mmD_own O5.out).1 (mmD_own O5.out).2 HGm.out.o).mono ?_
    rintro e w7 ⟨n7_1, rfl, o9, b9⟩
    rw [HV0.out] at o9 ⊢
    rw [HV1.out]
    obtain ⟨p7_1, q7_1, f7_1, _⟩ := (obD_own o9).shape
    subst f7_1
    unfold obV
    have O7 := hide o9
    clear o9
    replace E0 := hide ((b9.block _ (Array.getElem?_eq_some_iff.1 E0.out).1).trans E0.out)
    replace X6 := hide ((b9.block _ (Array.getElem?_eq_some_iff.1 X6.out).1).trans X6.out)
    replace X8 := hide ((b9.block _ (Array.getElem?_eq_some_iff.1 X8.out).1).trans X8.out)
    replace O2 := hide (O2.out.below b9)
    replace O3 := hide (O3.out.below b9)
    replace O5 := hide (O5.out.below b9)
    have z9 := b9.size
    replace HB := hide (HB.out.trans (b9.mono HB.out.size))
    clear b9
    have bD := (Below.refl w7.heap.size w7).alloc (Nat.le_refl _) (.cells #[.int .i64 V0.i, .int .i64 V0.c, .slice p7_1 V0.f.length q7_1] 51)
    have X9 := hide (heap_alloc_new w7 (.cells #[.int .i64 V0.i, .int .i64 V0.c, .slice p7_1 V0.f.length q7_1] 51))
    have z10 : w7.heap.size < (w7.alloc (.cells #[.int .i64 V0.i, .int .i64 V0.c, .slice p7_1 V0.f.length q7_1] 51)).heap.size := by simp
    replace E0 := hide ((bD.block _ (Array.getElem?_eq_some_iff.1 E0.out).1).trans E0.out)
    replace X6 := hide ((bD.block _ (Array.getElem?_eq_some_iff.1 X6.out).1).trans X6.out)
    replace X8 := hide ((bD.block _ (Array.getElem?_eq_some_iff.1 X8.out).1).trans X8.out)
    replace O2 := hide (O2.out.below bD)
    replace O3 := hide (O3.out.below bD)
    replace O5 := hide (O5.out.below bD)
    replace O7 := hide (O7.out.below bD)
    have z11 := bD.size
    replace HB := hide (HB.out.trans (bD.mono HB.out.size))
    clear bD
    have y0_0 := (box_of X9.out).1 0 _ rfl
    have y0_1 := (box_of X9.out).1 1 _ rfl
    have y0_2 := (box_of X9.out).1 2 _ rfl
    have y1_0 := (box_of X6.out).1 0 _ rfl
    have y1_1 := (box_of X6.out).1 1 _ rfl
    have y1_2 := (box_of X6.out).1 2 _ rfl
    go_wp2_with fail
    clear y0_0 y0_1 y0_2 y1_0 y1_1 y1_2
    generalize w7.alloc (.cells #[.int .i64 V0.i, .int .i64 V0.c, .slice p7_1 V0.f.length q7_1] 51) = w8 at *
    refine (eqOb _ V0 _ _ (obD_own O7.out) (obD_own O3.out) HGV0.out).mono ?_
    rintro e w9 ⟨rfl, b9⟩
    replace E0 := hide ((b9.block _ (Array.getElem?_eq_some_iff.1 E0.out).1).trans E0.out)
    replace X6 := hide ((b9.block _ (Array.getElem?_eq_some_iff.1 X6.out).1).trans X6.out)
    replace X8 := hide ((b9.block _ (Array.getElem?_eq_some_iff.1 X8.out).1).trans X8.out)
    replace X9 := hide ((b9.block _ (Array.getElem?_eq_some_iff.1 X9.out).1).trans X9.out)
    replace O2 := hide (O2.out.below b9)
    replace O3 := hide (O3.out.below b9)
    replace O5 := hide (O5.out.below b9)
    replace O7 := hide (O7.out.below b9)
    have z12 := b9.size
    replace HB := hide (HB.out.trans (b9.mono HB.out.size))
    clear b9
    go_upto_region 10 with fail
    have HCL : Hid (∀ w', Below w9.heap.size w9 w' → w'.cell? ⟨w5.heap.size, 0, none⟩ = some (.slice p5_1 m.o.length q5_1) ∧ w'.cell? ⟨w5.heap.size, 1, none⟩ = some (.slice p5_2 m.l.length q5_2) ∧ w'.cell? ⟨w.heap.size, 0, none⟩ = some (.slice am1 m.o.length cm1) ∧ w'.cell? ⟨w.heap.size, 1, none⟩ = some (.slice am2 m.l.length cm2)) := hide (fun w' hb => ⟨(box_of ((hb.block _ (Array.getElem?_eq_some_iff.1 X8.out).1).trans X8.out)).1 0 _ rfl, (box_of ((hb.block _ (Array.getElem?_eq_some_iff.1 X8.out).1).trans X8.out)).1 1 _ rfl, (box_of ((hb.block _ (Array.getElem?_eq_some_iff.1 E0.out).1).trans E0.out)).1 0 _ rfl, (box_of ((hb.block _ (Array.getElem?_eq_some_iff.1 E0.out).1).trans E0.out)).1 1 _ rfl⟩)
    have HD := hide (Below.refl w9.heap.size w9).drew
    go_cut [49] from 45 to 49 (fun s wq => s = .bool false ∧ Hid (Below w9.heap.size w9 wq))
    case first =>
      refine wp_region_held_drew (S := fun w' => w'.cell? ⟨w5.heap.size, 0, none⟩ = some (.slice p5_1 m.o.length q5_1) ∧ w'.cell? ⟨w5.heap.size, 1, none⟩ = some (.slice p5_2 m.l.length q5_2) ∧ w'.cell? ⟨w.heap.size, 0, none⟩ = some (.slice am1 m.o.length cm1) ∧ w'.cell? ⟨w.heap.size, 1, none⟩ = some (.slice am2 m.l.length cm2)) (by kernel_rfl) (HCL.out _ HD.out) (fun hHeld => ?_)
      have HW := HD
      clear HD
      generalize w9.drew = Z0 at *
      refine wpAnyH_take (i := 0) (v := .agg #[.slice p5_1 m.o.length q5_1, .slice p5_2 m.l.length q5_2]) rfl (by kernel_rfl) (by kernel_rfl) (by kernel_rfl) (fun _ _ _ h => h) (Or.inl ⟨by rfl, ?_⟩) (by assumption) ?_
      · intro w' hSw
        try dsimp only at hSw
        go_simp; try rfl
      simp only [List.getElem_toArray, List.getElem_cons_zero, Act.put, List.setIfInBounds_toArray, List.set_cons_zero, List.set_cons_succ]
      refine wpAnyH_take (i := 1) (v := .agg #[.slice am1 m.o.length cm1, .slice am2 m.l.length cm2]) rfl (by kernel_rfl) (by kernel_rfl) (by kernel_rfl) (fun _ _ _ h => h) (Or.inl ⟨by rfl, ?_⟩) (by assumption) ?_
      · intro w' hSw
        try dsimp only at hSw
        go_simp; try rfl
      simp only [List.getElem_toArray, List.getElem_cons_succ, List.getElem_cons_zero, Act.put, List.setIfInBounds_toArray, List.set_cons_zero, List.set_cons_succ]
      refine wpAnyH_ready (rs := [2]) (by kernel_rfl) (by simp) (AllReadyH.cons rfl (fun K hK => ?_) AllReadyH.nil)
      refine step_callW (some 47) (by kernel_rfl) (by kernel_rfl) 12 _ _ rfl #[.agg #[.slice am1 m.o.length cm1, .slice am2 m.l.length cm2]] (by kernel_rfl) (toMm _ m _ _ (Pm1.out.at (HB.out.trans (HW.out.mono HB.out.size))) (Pm2.out.at (HB.out.trans (HW.out.mono HB.out.size))) HGm.out) ?_
      rintro e Z1 ⟨n91_1, n91_2, rfl, o9, b9⟩
      obtain ⟨p91_1, q91_1, f91_1, _⟩ := (mmD_own o9).1.shape
      subst f91_1
      obtain ⟨p91_2, q91_2, f91_2, _⟩ := (mmD_own o9).2.shape
      subst f91_2
      have OH91 := hide o9
      clear o9
      unfold mmV
      replace HW := hide (HW.out.trans (b9.mono HW.out.size))
      clear b9
      refine ⟨_, rfl, ?_⟩
      refine hK.out _ _ (HCL.out _ HW.out) (fun hHeld => ?_)
      clear hK K
      simp only [Act.put, List.setIfInBounds_toArray, List.set_cons_zero, List.set_cons_succ]
      refine wpAnyH_ready (rs := [3]) (by kernel_rfl) (by simp) (AllReadyH.cons rfl (fun K hK => ?_) AllReadyH.nil)
      refine step_callW (some 48) (by kernel_rfl) (by kernel_rfl) 15 _ _ rfl #[.agg #[.slice p5_1 m.o.length q5_1, .slice p5_2 m.l.length q5_2], .agg #[.slice p91_1 m.o.length q91_1, .slice p91_2 m.l.length q91_2]] (by kernel_rfl) (eqMm _ m _ _ _ _ (mmD_own (O5.out.below HW.out)).1 (mmD_own (O5.out.below HW.out)).2 (mmD_own OH91.out).1 (mmD_own OH91.out).2 HGm.out) ?_
      rintro e Z2 ⟨rfl, b9⟩
      replace OH91 := hide (OH91.out.below b9)
      replace HW := hide (HW.out.trans (b9.mono HW.out.size))
      clear b9
      refine ⟨_, rfl, ?_⟩
      refine hK.out _ _ (HCL.out _ HW.out) (fun hHeld => ?_)
      clear hK K
      simp only [Act.put, List.setIfInBounds_toArray, List.set_cons_zero, List.set_cons_succ]
      refine wpAnyH_take (i := 4) (v := ?_) rfl (by kernel_rfl) (by kernel_rfl) (by kernel_rfl) (fun _ _ _ h => h) (Or.inl ⟨by rfl, ?_⟩) (by assumption) ?_
      rotate_left
      · intro w' hSw
        try dsimp only at hSw
        go_simp; try rfl
      simp only [List.getElem_toArray, List.getElem_cons_succ, List.getElem_cons_zero, Act.put, List.setIfInBounds_toArray, List.set_cons_zero, List.set_cons_succ]
      refine wpAnyH_done (by kernel_rfl) ?_ _
      go_wp2_with fail
      go_meet
      exact ⟨rfl, HW⟩
    case rest =>
    obtain ⟨rfl, HQ9⟩ := hcut
    have b9 := HQ9.out
    clear HQ9 HCL HD
    replace E0 := hide ((b9.block _ (Array.getElem?_eq_some_iff.1 E0.out).1).trans E0.out)
    replace X6 := hide ((b9.block _ (Array.getElem?_eq_some_iff.1 X6.out).1).trans X6.out)
    replace X8 := hide ((b9.block _ (Array.getElem?_eq_some_iff.1 X8.out).1).trans X8.out)
    replace X9 := hide ((b9.block _ (Array.getElem?_eq_some_iff.1 X9.out).1).trans X9.out)
    replace O2 := hide (O2.out.below b9)
    replace O3 := hide (O3.out.below b9)
    replace O5 := hide (O5.out.below b9)
    replace O7 := hide (O7.out.below b9)
    have z13 := b9.size
    replace HB := hide (HB.out.trans (b9.mono HB.out.size))
    clear b9
    generalize wc = w10 at *
    have y0_0 := (box_of X8.out).1 0 _ rfl
    have y0_1 := (box_of X8.out).1 1 _ rfl
    go_wp2_with fail
    clear y0_0 y0_1
    have hct11 := mmCto_le m
    refine (mkMmI _ (w4.heap.size) (w5.heap.size) 1 _ (by first | rfl | omega) m _ _ O5.out (by omega) (by omega)).mono ?_
    rintro e w11 ⟨rfl, o9, c9⟩
    replace O5 := hide o9
    clear o9
    replace E0 := hide ((c9.block _ (Array.getElem?_eq_some_iff.1 E0.out).1 (by omega)).trans E0.out)
    replace X6 := hide ((c9.block _ (Array.getElem?_eq_some_iff.1 X6.out).1 (by omega)).trans X6.out)
    replace X8 := hide ((c9.block _ (Array.getElem?_eq_some_iff.1 X8.out).1 (by omega)).trans X8.out)
    replace X9 := hide ((c9.block _ (Array.getElem?_eq_some_iff.1 X9.out).1 (by omega)).trans X9.out)
    replace O2 := hide (O2.out.apart c9 (by omega))
    replace O3 := hide (O3.out.apart c9 (by omega))
    replace O7 := hide (O7.out.apart c9 (by omega))
    have z14 := c9.size
    replace HB := hide (HB.out.trans (c9.below (by omega) HB.out.size))
    clear c9
    obtain ⟨K11, hk11⟩ : ∃ k, 1 + mmCto m = k := ⟨_, rfl⟩
    rw [hk11]
    have hkp11 : 0 < K11 := by omega
    have hkb11 : K11 ≤ 8388608 + 1 := by omega
    have hkn11 : ¬ ((K11 : Nat) : Int) < 0 := by omega
    clear hk11 hct11
    clear O5
    have y0_0 := (box_of X9.out).1 0 _ rfl
    have y0_1 := (box_of X9.out).1 1 _ rfl
    have y0_2 := (box_of X9.out).1 2 _ rfl
    have y1_0 := (box_of X6.out).1 0 _ rfl
    have y1_1 := (box_of X6.out).1 1 _ rfl
    have y1_2 := (box_of X6.out).1 2 _ rfl
    go_wp2_with fail
    clear y0_0 y0_1 y0_2 y1_0 y1_1 y1_2
    refine (eqOb _ V0 _ _ (obD_own O7.out) (obD_own O3.out) HGV0.out).mono ?_
    rintro e w12 ⟨rfl, b9⟩
    replace E0 := hide ((b9.block _ (Array.getElem?_eq_some_iff.1 E0.out).1).trans E0.out)
    replace X6 := hide ((b9.block _ (Array.getElem?_eq_some_iff.1 X6.out).1).trans X6.out)
    replace X8 := hide ((b9.block _ (Array.getElem?_eq_some_iff.1 X8.out).1).trans X8.out)
    replace X9 := hide ((b9.block _ (Array.getElem?_eq_some_iff.1 X9.out).1).trans X9.out)
    replace O2 := hide (O2.out.below b9)
    replace O3 := hide (O3.out.below b9)
    replace O7 := hide (O7.out.below b9)
    have z15 := b9.size
    replace HB := hide (HB.out.trans (b9.mono HB.out.size))
    clear b9
    have y0_0 := (box_of X9.out).1 0 _ rfl
    have y0_1 := (box_of X9.out).1 1 _ rfl
    have y0_2 := (box_of X9.out).1 2 _ rfl
    go_wp2_with fail
    clear y0_0 y0_1 y0_2
    refine (mkObI _ (w6.heap.size) (w7.heap.size) 1 _ (by first | rfl | omega) V0 _ O7.out (by omega) (by omega)).mono ?_
    rintro e w13 ⟨rfl, o9, c9⟩
    replace O7 := hide o9
    clear o9
    replace E0 := hide ((c9.block _ (Array.getElem?_eq_some_iff.1 E0.out).1 (by omega)).trans E0.out)
    replace X6 := hide ((c9.block _ (Array.getElem?_eq_some_iff.1 X6.out).1 (by omega)).trans X6.out)
    replace X8 := hide ((c9.block _ (Array.getElem?_eq_some_iff.1 X8.out).1 (by omega)).trans X8.out)
    replace X9 := hide ((c9.block _ (Array.getElem?_eq_some_iff.1 X9.out).1 (by omega)).trans X9.out)
    replace O2 := hide (O2.out.apart c9 (by omega))
    replace O3 := hide (O3.out.apart c9 (by omega))
    have z16 := c9.size
    replace HB := hide (HB.out.trans (c9.below (by omega) HB.out.size))
    clear c9
    obtain ⟨K13, hk13⟩ : ∃ k, 1 + obCto V0 = k := ⟨_, rfl⟩
    rw [hk13]
    have hkp13 : 0 < K13 := by omega
    have hkb13 : K13 ≤ 90000000 + 1 := by omega
    have hkn13 : ¬ ((K13 : Nat) : Int) < 0 := by omega
    have HMV0 := hide hk13
    have hmmV0 : (((K13 : Nat) : Int) != ((K13 : Nat) : Int)) = false := by simp
    clear hk13
    have y0_0 := (box_of X9.out).1 0 _ rfl
    have y0_1 := (box_of X9.out).1 1 _ rfl
    have y0_2 := (box_of X9.out).1 2 _ rfl
    go_wp2_with fail
    clear y0_0 y0_1 y0_2
    refine (heldObO _ 1 _ (by first | rfl | omega) V0 _ (O7.out.rd (Nat.le_refl _)) (by omega) (by omega)).mono ?_
    rintro e w14 ⟨rfl, b9⟩
    rw [HMV0.out]
    replace E0 := hide ((b9.block _ (Array.getElem?_eq_some_iff.1 E0.out).1).trans E0.out)
    replace X6 := hide ((b9.block _ (Array.getElem?_eq_some_iff.1 X6.out).1).trans X6.out)
    replace X8 := hide ((b9.block _ (Array.getElem?_eq_some_iff.1 X8.out).1).trans X8.out)
    replace X9 := hide ((b9.block _ (Array.getElem?_eq_some_iff.1 X9.out).1).trans X9.out)
    replace O2 := hide (O2.out.below b9)
    replace O3 := hide (O3.out.below b9)
    replace O7 := hide (O7.out.below b9)
    have z17 := b9.size
    replace HB := hide (HB.out.trans (b9.mono HB.out.size))
    clear b9
    have y0_0 := (box_of E0.out).1 0 _ rfl
    have y0_1 := (box_of E0.out).1 1 _ rfl
    go_wp2_with fail
    clear y0_0 y0_1
    refine (toMm _ m _ _ (Pm1.out.at HB.out) (Pm2.out.at HB.out) HGm.out).mono ?_
    rintro e w15 ⟨n15_1, n15_2, rfl, o9, b9⟩
    obtain ⟨p15_1, q15_1, f15_1, _⟩ := (mmD_own o9).1.shape
    subst f15_1
    obtain ⟨p15_2, q15_2, f15_2, _⟩ := (mmD_own o9).2.shape
    subst f15_2
    have O15 := hide o9
    clear o9
    replace E0 := hide ((b9.block _ (Array.getElem?_eq_some_iff.1 E0.out).1).trans E0.out)
    replace X6 := hide ((b9.block _ (Array.getElem?_eq_some_iff.1 X6.out).1).trans X6.out)
    replace X8 := hide ((b9.block _ (Array.getElem?_eq_some_iff.1 X8.out).1).trans X8.out)
    replace X9 := hide ((b9.block _ (Array.getElem?_eq_some_iff.1 X9.out).1).trans X9.out)
    replace O2 := hide (O2.out.below b9)
    replace O3 := hide (O3.out.below b9)
    replace O7 := hide (O7.out.below b9)
    have z18 := b9.size
    replace HB := hide (HB.out.trans (b9.mono HB.out.size))
    clear b9
    unfold mmV
    go_wp2_with fail
    refine (findI _ m _ _ q (mmD_own O15.out).1 (mmD_own O15.out).2 HGm.out.o).mono ?_
    rintro e w16 ⟨n16_1, rfl, o9, b9⟩
    rw [HV0.out] at o9 ⊢
    rw [HV1.out]
    obtain ⟨p16_1, q16_1, f16_1, _⟩ := (obD_own o9).shape
    subst f16_1
    unfold obV
    have O16 := hide o9
    clear o9
    replace E0 := hide ((b9.block _ (Array.getElem?_eq_some_iff.1 E0.out).1).trans E0.out)
    replace X6 := hide ((b9.block _ (Array.getElem?_eq_some_iff.1 X6.out).1).trans X6.out)
    replace X8 := hide ((b9.block _ (Array.getElem?_eq_some_iff.1 X8.out).1).trans X8.out)
    replace X9 := hide ((b9.block _ (Array.getElem?_eq_some_iff.1 X9.out).1).trans X9.out)
    replace O2 := hide (O2.out.below b9)
    replace O3 := hide (O3.out.below b9)
    replace O7 := hide (O7.out.below b9)
    replace O15 := hide (O15.out.below b9)
    have z19 := b9.size
    replace HB := hide (HB.out.trans (b9.mono HB.out.size))
    clear b9
    have bD := (Below.refl w16.heap.size w16).alloc (Nat.le_refl _) (.cells #[.int .i64 V0.i, .int .i64 V0.c, .slice p16_1 V0.f.length q16_1] 51)
    have X14 := hide (heap_alloc_new w16 (.cells #[.int .i64 V0.i, .int .i64 V0.c, .slice p16_1 V0.f.length q16_1] 51))
    have z20 : w16.heap.size < (w16.alloc (.cells #[.int .i64 V0.i, .int .i64 V0.c, .slice p16_1 V0.f.length q16_1] 51)).heap.size := by simp
    replace E0 := hide ((bD.block _ (Array.getElem?_eq_some_iff.1 E0.out).1).trans E0.out)
    replace X6 := hide ((bD.block _ (Array.getElem?_eq_some_iff.1 X6.out).1).trans X6.out)
    replace X8 := hide ((bD.block _ (Array.getElem?_eq_some_iff.1 X8.out).1).trans X8.out)
    replace X9 := hide ((bD.block _ (Array.getElem?_eq_some_iff.1 X9.out).1).trans X9.out)
    replace O2 := hide (O2.out.below bD)
    replace O3 := hide (O3.out.below bD)
    replace O7 := hide (O7.out.below bD)
    replace O15 := hide (O15.out.below bD)
    replace O16 := hide (O16.out.below bD)
    have z21 := bD.size
    replace HB := hide (HB.out.trans (bD.mono HB.out.size))
    clear bD
    have y0_0 := (box_of X14.out).1 0 _ rfl
    have y0_1 := (box_of X14.out).1 1 _ rfl
    have y0_2 := (box_of X14.out).1 2 _ rfl
    have y1_0 := (box_of X6.out).1 0 _ rfl
    have y1_1 := (box_of X6.out).1 1 _ rfl
    have y1_2 := (box_of X6.out).1 2 _ rfl
    go_wp2_with fail
    clear y0_0 y0_1 y0_2 y1_0 y1_1 y1_2
    generalize w16.alloc (.cells #[.int .i64 V0.i, .int .i64 V0.c, .slice p16_1 V0.f.length q16_1] 51) = w17 at *
    refine (eqOb _ V0 _ _ (obD_own O16.out) (obD_own O3.out) HGV0.out).mono ?_
    rintro e w18 ⟨rfl, b9⟩
    replace E0 := hide ((b9.block _ (Array.getElem?_eq_some_iff.1 E0.out).1).trans E0.out)
    replace X6 := hide ((b9.block _ (Array.getElem?_eq_some_iff.1 X6.out).1).trans X6.out)
    replace X8 := hide ((b9.block _ (Array.getElem?_eq_some_iff.1 X8.out).1).trans X8.out)
    replace X9 := hide ((b9.block _ (Array.getElem?_eq_some_iff.1 X9.out).1).trans X9.out)
    replace X14 := hide ((b9.block _ (Array.getElem?_eq_some_iff.1 X14.out).1).trans X14.out)
    replace O2 := hide (O2.out.below b9)
    replace O3 := hide (O3.out.below b9)
    replace O7 := hide (O7.out.below b9)
    replace O15 := hide (O15.out.below b9)
    replace O16 := hide (O16.out.below b9)
    have z22 := b9.size
    replace HB := hide (HB.out.trans (b9.mono HB.out.size))
    clear b9
    have y0_0 := (box_of X9.out).1 0 _ rfl
    have y0_1 := (box_of X9.out).1 1 _ rfl
    have y0_2 := (box_of X9.out).1 2 _ rfl
    go_wp2_with fail
    clear y0_0 y0_1 y0_2
    refine (heldObO _ 1 _ (by first | rfl | omega) V0 _ (O7.out.rd (Nat.le_refl _)) (by omega) (by omega)).mono ?_
    rintro e w19 ⟨rfl, b9⟩
    rw [HMV0.out]
    replace E0 := hide ((b9.block _ (Array.getElem?_eq_some_iff.1 E0.out).1).trans E0.out)
    replace X6 := hide ((b9.block _ (Array.getElem?_eq_some_iff.1 X6.out).1).trans X6.out)
    replace X8 := hide ((b9.block _ (Array.getElem?_eq_some_iff.1 X8.out).1).trans X8.out)
    replace X9 := hide ((b9.block _ (Array.getElem?_eq_some_iff.1 X9.out).1).trans X9.out)
    replace X14 := hide ((b9.block _ (Array.getElem?_eq_some_iff.1 X14.out).1).trans X14.out)
    replace O2 := hide (O2.out.below b9)
    replace O3 := hide (O3.out.below b9)
    replace O7 := hide (O7.out.below b9)
    replace O15 := hide (O15.out.below b9)
    replace O16 := hide (O16.out.below b9)
    have z23 := b9.size
    replace HB := hide (HB.out.trans (b9.mono HB.out.size))
    clear b9
    go_wp2
    go_ret
    exact ⟨rfl, HB.out⟩

set_option maxRecDepth 100000 in
theorem lifted (os : Os) (started : os.Started) (H : Type) (enc : TypeId × Value → H) :
    ReturnsInHanded {} Try.checked os 5 .any (Rows.fnExactFindSpec.pre6 enc Try.prog Try.f5 Rows.fnExactFindRow.domain false) (Rows.fnExactFindSpec.post enc Try.prog Try.f5 false true false false) := by
  refine returnsInHanded_of_change (C := Try.checked) own started (by kernel_rfl) Try.func5
    (ChangeSpec.witness6 (enc := enc) (C := Try.checked) false ⟨#[], #[.agg #[.slice none 0 0, .slice none 0 0], .int .i64 0], []⟩ 8 (by kernel_rfl) (by kernel_rfl) (by kernel_rfl) (by kernel_rfl)) ?_
  intro W base args ds gs before hval0 hW hcnd _
  have hval : ∀ (j : Nat) t v, Try.f5.params[j]? = some t → args[j]? = some v → Value.okWide Try.prog W .any base t v := hval0
  have hW' := hW
  obtain ⟨p, q, hA0, hV, rfl, hfz, hnd⟩ := hW
  have hA : DataW.TrodAll enc Try.prog W 0 (fun _ => true) true Try.f5.params.toList args.toList ds p := hA0
  rw [Try.params5] at hA hval
  obtain ⟨v0, vs0, d0, ds0, p0, q0, hargs, rfl, rfl, h0, r0⟩ := trodAll_cons hA
  obtain ⟨v1, vs1, d1, ds1, p1, q1, rfl, rfl, rfl, h1, r1⟩ := trodAll_cons r0
  obtain ⟨rfl, rfl, rfl⟩ := trodAll_nil r1
  obtain rfl : args = #[v0, v1] := by cases args; simp_all
  obtain ⟨rfl, rfl⟩ := trodVars_none hV
  have k0 := h0
  have lt0 : ∀ x ∈ p0, x.block < W.heap.size := by obtain ⟨m, hm⟩ := k0; exact DataW.trod_lt m _ _ _ hm
  have w0 := openMm (hval 0 28 v0 rfl rfl) h0
  obtain ⟨a1, rfl, rfl, rfl, w1⟩ := open_int Try.underlying3 (hval 1 3 v1 rfl rfl) h1
  clear hA0 hval0
  refine (walk v0 a1 W w0 (bounds_i64 w1)).mono fun e W' ⟨he, bel⟩ => ?_
  subst he
  exact ⟨_, rfl, _, _, _, [], _, [], hW', trodAll_mk1 (shut_bool Try.underlying4 _), (trodAll_cons_mk (Below.trod laidOut (by kernel_rfl) (of_decide_eq_true (by kernel_rfl)) k0 bel lt0) (trodAll_cons_mk (shut_int Try.underlying3 w1) trodAll_mk0)), rfl, bel.frame _, fun h => by cases h⟩

theorem over : Rows.fnExactFindRow.holds Try.pinned (OpenSpec.ofChange Rows.fnExactFindSpec) :=
  OpenClaim.holds_of_wide 5 Try.f5 rfl rfl rfl rfl rfl rfl rfl ⟨rfl, rfl, rfl, rfl, rfl⟩ rfl rfl rfl rfl rfl (by kernel_rfl) Try.func5 (by kernel_rfl)
    (of_decide_eq_true (by kernel_rfl)) (by unfold Func.isWrapper; first | (rw [if_pos (by decide +kernel)]; kernel_rfl) | (rw [if_neg (by decide +kernel)]; exact ⟨rfl, rfl⟩))
    (fun os started H enc _ => lifted os started H enc)

end Go.Proofs.Ythlaihkpffddcaa.fnExactFind
namespace Go.Proofs.Ythlaihkpffddcaa
theorem fnExactFind_holds : Rows.FnExactFindSaid := fnExactFind.over
#print axioms fnExactFind_holds
end Go.Proofs.Ythlaihkpffddcaa
