/-
  Proved: at every argument the program's Write answers as its model does, writes into no argument, and its answer owns its memory (the law FnExactWrite returns true), without any condition.
-/
import Derived.Test.YthlaihkpffddcaaRows
import Derived.Test.YthlaihkpffddcaaMmR
import Derived.Test.YthlaihkpffddcaaMmRK
import Derived.Test.YthlaihkpffddcaaMemG
import Derived.Test.YthlaihkpffddcaaMemJ
import Derived.Test.YthlaihkpffddcaaStepW
import Derived.Deep.CutRange
import Derived.Deep.RegionWith
import Derived.Deep.RegionHeld
import Derived.BigRegion
import Derived.WalkKit
import Derived.ProofKit
import Derived.OpenShut
import Derived.ShutString
import Derived.ChangeOld
import Derived.Below
namespace Go.Proofs.Ythlaihkpffddcaa.fnExactWrite
open Go.ChangeShapes Go.WideShapes Go.ChangeAt Go.RowKit
open Go.ChangeMaps (open_string shut_string)
set_option linter.unusedVariables false

theorem own : ownKnob Try.prog.godebug = none := by kernel_rfl
theorem laidOut : laidOutB Try.prog = true := by kernel_rfl
set_option maxRecDepth 100000 in
set_option maxHeartbeats 8000000 in
theorem walk (v0 : Value) (q : Int) (p : Int) (v3 : Value) (w : World) (h0 : IsMm w v0) (_hq : -9223372036854775808 ≤ q ∧ q ≤ 9223372036854775807) (_hp : -9223372036854775808 ≤ p ∧ p ≤ 9223372036854775807) (h3 : IsVl w v3) :
    Calls Try.prog 7 #[v0, .int .i64 q, .int .i64 p, v3] w fun e w' => e = .returned (.bool true) ∧ Below w.heap.size w w' := by
  obtain ⟨m, um1, um2, rfl, gm1, gm2, rm⟩ := h0
  obtain ⟨am1, cm1, em1, _⟩ := gm1.shape
  obtain ⟨am2, cm2, em2, _⟩ := gm2.shape
  subst em1 em2
  have Pm1 := hide gm1
  have Pm2 := hide gm2
  have Rm := hide rm
  clear rm gm1 gm2
  obtain ⟨v, rfl, rv⟩ := h3
  have Rv := hide rv
  clear rv
  have bA := (((Below.refl w.heap.size w).alloc (Nat.le_refl _) (.cells #[.slice am1 m.o.length cm1, .slice am2 m.l.length cm2] 28)).alloc (by simp) (.cells #[.bool v.r, .int .i64 v.n] 64))
  have G0 := heap_alloc_new w (.cells #[.slice am1 m.o.length cm1, .slice am2 m.l.length cm2] 28)
  have G1 := heap_alloc_new (w.alloc (.cells #[.slice am1 m.o.length cm1, .slice am2 m.l.length cm2] 28)) (.cells #[.bool v.r, .int .i64 v.n] 64)
  simp only [World.size_alloc] at G1
  have E0 := hide ((Below.heap_alloc _ (.cells #[.bool v.r, .int .i64 v.n] 64) _ (by simp)).trans (G0))
  have E1 := hide (G1)
  have HB := hide bA
  clear bA G0 G1
  obtain ⟨V0, hV0⟩ : ∃ V, writeX m q p v = V := ⟨_, rfl⟩
  have HV0 := hide hV0
  clear hV0
  obtain ⟨V1, hV1⟩ : ∃ V, hasF m q p = V := ⟨_, rfl⟩
  have HV1 := hide hV1
  clear hV1
  have hne1 : (V1 != V1) = false := by simp
  unfold mmV vlV
  go_enter Try.func7, Try.ntmps7
  go_wp2_with fail
  generalize ((w.alloc (.cells #[.slice am1 m.o.length cm1, .slice am2 m.l.length cm2] 28)).alloc (.cells #[.bool v.r, .int .i64 v.n] 64)) = W at *
  refine (szMm _ m _ _ _ (Pm1.out.at HB.out) (Pm2.out.at HB.out) (by omega) (by omega) Rm.out).mono ?_
  rintro e w1 ⟨rfl, b9⟩
  replace E0 := hide ((b9.block _ (Array.getElem?_eq_some_iff.1 E0.out).1).trans E0.out)
  replace E1 := hide ((b9.block _ (Array.getElem?_eq_some_iff.1 E1.out).1).trans E1.out)
  have z1 := b9.size
  replace HB := hide (HB.out.trans (b9.mono HB.out.size))
  clear b9
  by_cases hmm : (1048576 : Int) < (mmW m : Int)
  · rw [szR_neg hmm]
    go_wp2
    go_ret
    exact ⟨rfl, HB.out⟩
  · skip
    rw [szR_pos hmm]
    have hwm : mmW m ≤ 1048576 := by omega
    have HGm := hide (mmG_of Rm.out (by omega))
    have hnm : ¬ (1048576 : Int) - (mmW m : Int) < 0 := by omega
    have hqm : (1048576 : Int) - (mmW m : Int) ≤ 1048576 := by omega
    have hTm : (1048576 : Int) - (mmW m : Int) + ((mmW m : Int) : Int) ≤ 1048576 := by omega
    generalize (1048576 : Int) - (mmW m : Int) = mm at *
    clear hmm
    have HGV0 := hide (HV0.out ▸ writeX_ok HGm.out (vlG_of Rv.out (Nat.zero_le _)))
    have hcV0 : mmCto V0 ≤ 90000000 := by
      have h1 := mmCto_le V0
      have h2 := writeX_w m q p v
      rw [HV0.out] at h2
      omega
    have hz0 : w.heap.size + 2 ≤ w1.heap.size := by
      have hh := (Array.getElem?_eq_some_iff.1 E1.out).1
      omega
    go_upto_region 5 with fail
    have HCL : Hid (∀ w', Below w1.heap.size w1 w' → w'.cell? ⟨w.heap.size, 0, none⟩ = some (.slice am1 m.o.length cm1) ∧ w'.cell? ⟨w.heap.size, 1, none⟩ = some (.slice am2 m.l.length cm2) ∧ w'.cell? ⟨w.heap.size + 1, 0, none⟩ = some (.bool v.r) ∧ w'.cell? ⟨w.heap.size + 1, 1, none⟩ = some (.int .i64 v.n)) := hide (fun w' hb => ⟨(box_of ((hb.block _ (Array.getElem?_eq_some_iff.1 E0.out).1).trans E0.out)).1 0 _ rfl, (box_of ((hb.block _ (Array.getElem?_eq_some_iff.1 E0.out).1).trans E0.out)).1 1 _ rfl, (box_of ((hb.block _ (Array.getElem?_eq_some_iff.1 E1.out).1).trans E1.out)).1 0 _ rfl, (box_of ((hb.block _ (Array.getElem?_eq_some_iff.1 E1.out).1).trans E1.out)).1 1 _ rfl⟩)
    have HD := hide (Below.refl w1.heap.size w1).drew
    go_cut [10, 11] from 25 to 34 (fun s10 s11 wq => ∃ g10 : Nat, ∃ (a10_1 : Option Addr) (k10_1 : Nat), ∃ (a10_2 : Option Addr) (k10_2 : Nat), ∃ l10 h10 : Nat, s10 = .pointer (some ⟨g10, 0, none⟩) ∧ s11 = .bool V1 ∧ Hid (wq.heap[g10]? = some (.cells #[.slice a10_1 V0.o.length k10_1, .slice a10_2 V0.l.length k10_2] 39 (0, 0))) ∧ Hid (OwnDL wq l10 h10 (mmD V0) [.slice a10_1 V0.o.length k10_1, .slice a10_2 V0.l.length k10_2]) ∧ w1.heap.size ≤ l10 ∧ l10 ≤ h10 ∧ h10 ≤ wq.heap.size ∧ (g10 < l10 ∨ h10 ≤ g10) ∧ w1.heap.size ≤ g10 ∧ g10 < wq.heap.size ∧ Hid (Below w1.heap.size w1 wq))
    case first =>
      have hi9 : ((Try.prog.info? 39).map (·.size)) = some 2 := by kernel_rfl
      refine wp_region_held_drew (S := fun w' => w'.cell? ⟨w.heap.size, 0, none⟩ = some (.slice am1 m.o.length cm1) ∧ w'.cell? ⟨w.heap.size, 1, none⟩ = some (.slice am2 m.l.length cm2) ∧ w'.cell? ⟨w.heap.size + 1, 0, none⟩ = some (.bool v.r) ∧ w'.cell? ⟨w.heap.size + 1, 1, none⟩ = some (.int .i64 v.n)) (by kernel_rfl) (HCL.out _ HD.out) (fun hHeld => ?_)
      have HW := HD
      clear HD
      generalize w1.drew = Z0 at *
      refine wpAnyH_take (i := 0) (v := .agg #[.slice am1 m.o.length cm1, .slice am2 m.l.length cm2]) rfl (by kernel_rfl) (by kernel_rfl) (by kernel_rfl) (fun _ _ _ h => h) (Or.inl ⟨by rfl, ?_⟩) (by assumption) ?_
      · intro w' hSw
        try dsimp only at hSw
        go_simp; try rfl
      simp only [List.getElem_toArray, List.getElem_cons_zero, Act.put, List.setIfInBounds_toArray, List.set_cons_zero, List.set_cons_succ]
      refine wpAnyH_take (i := 2) (v := ?_) rfl (by kernel_rfl) (by kernel_rfl) (by kernel_rfl) (fun _ _ _ h => h) (Or.inl ⟨by rfl, ?_⟩) (by assumption) ?_
      rotate_left
      · intro w' hSw
        try dsimp only at hSw
        go_simp; try rfl
      simp only [List.getElem_toArray, List.getElem_cons_succ, List.getElem_cons_zero, Act.put, List.setIfInBounds_toArray, List.set_cons_zero, List.set_cons_succ]
      refine wpAnyH_take (i := 3) (v := ?_) rfl (by kernel_rfl) (by kernel_rfl) (by kernel_rfl) (fun _ _ _ h => h) (Or.inl ⟨by rfl, ?_⟩) (by assumption) ?_
      rotate_left
      · intro w' hSw
        try dsimp only at hSw
        go_simp; try rfl
      simp only [List.getElem_toArray, List.getElem_cons_succ, List.getElem_cons_zero, Act.put, List.setIfInBounds_toArray, List.set_cons_zero, List.set_cons_succ]
      refine wpAnyH_take (i := 4) (v := .agg #[.bool v.r, .int .i64 v.n]) rfl (by kernel_rfl) (by kernel_rfl) (by kernel_rfl) (fun _ _ _ h => h) (Or.inl ⟨by rfl, ?_⟩) (by assumption) ?_
      · intro w' hSw
        try dsimp only at hSw
        go_simp; try rfl
      simp only [List.getElem_toArray, List.getElem_cons_succ, List.getElem_cons_zero, Act.put, List.setIfInBounds_toArray, List.set_cons_zero, List.set_cons_succ]
      refine wpAnyH_ready (rs := [1, 10]) (by kernel_rfl) (by simp) (AllReadyH.cons rfl (fun K hK => ?_) (AllReadyH.cons rfl (fun K hK => ?_) AllReadyH.nil))
      · skip
        refine step_callW (some 27) (by kernel_rfl) (by kernel_rfl) 12 _ _ rfl #[.agg #[.slice am1 m.o.length cm1, .slice am2 m.l.length cm2]] (by kernel_rfl) (toMm _ m _ _ (Pm1.out.at (HB.out.trans (HW.out.mono HB.out.size))) (Pm2.out.at (HB.out.trans (HW.out.mono HB.out.size))) HGm.out) ?_
        rintro e Z1 ⟨n91_1, n91_2, rfl, o9, b9⟩
        obtain ⟨p91_1, q91_1, f91_1, _⟩ := (mmD_own o9).1.shape
        subst f91_1
        obtain ⟨p91_2, q91_2, f91_2, _⟩ := (mmD_own o9).2.shape
        subst f91_2
        have OH91 := hide o9
        clear o9
        unfold mmV
        replace HW := hide (HW.out.trans (b9.mono HW.out.size))
        clear b9
        refine ⟨_, rfl, ?_⟩
        refine hK.out _ _ (HCL.out _ HW.out) (fun hHeld => ?_)
        clear hK K
        simp only [Act.put, List.setIfInBounds_toArray, List.set_cons_zero, List.set_cons_succ]
        refine wpAnyH_ready (rs := [5, 10]) (by kernel_rfl) (by simp) (AllReadyH.cons rfl (fun K hK => ?_) (AllReadyH.cons rfl (fun K hK => ?_) AllReadyH.nil))
        · skip
          refine step_callW (some 31) (by kernel_rfl) (by kernel_rfl) 32 _ _ rfl #[.agg #[.bool v.r, .int .i64 v.n]] (by kernel_rfl) (toVl _ v) ?_
          rintro e Z2 ⟨rfl, b9⟩
          unfold vlV
          replace OH91 := hide (OH91.out.below b9)
          replace HW := hide (HW.out.trans (b9.mono HW.out.size))
          clear b9
          refine ⟨_, rfl, ?_⟩
          refine hK.out _ _ (HCL.out _ HW.out) (fun hHeld => ?_)
          clear hK K
          simp only [Act.put, List.setIfInBounds_toArray, List.set_cons_zero, List.set_cons_succ]
          refine wpAnyH_ready (rs := [6, 10]) (by kernel_rfl) (by simp) (AllReadyH.cons rfl (fun K hK => ?_) (AllReadyH.cons rfl (fun K hK => ?_) AllReadyH.nil))
          · skip
            refine step_callW (some 32) (by kernel_rfl) (by kernel_rfl) 31 _ _ rfl #[.agg #[.slice p91_1 m.o.length q91_1, .slice p91_2 m.l.length q91_2], .int .i64 q, .int .i64 p, .agg #[.bool v.r, .int .i64 v.n]] (by kernel_rfl) (writeS _ m _ _ q p v (mmD_own OH91.out).1 (mmD_own OH91.out).2 HGm.out) ?_
            rintro e Z3 ⟨n93_1, n93_2, rfl, o9, b9⟩
            rw [HV0.out] at o9 ⊢
            rw [HV1.out]
            obtain ⟨p93_1, q93_1, f93_1, _⟩ := (mmD_own o9).1.shape
            subst f93_1
            obtain ⟨p93_2, q93_2, f93_2, _⟩ := (mmD_own o9).2.shape
            subst f93_2
            unfold mmV
            have HO9 := hide o9
            have lz9 := HW.out.size
            have lz8 := b9.size
            clear o9
            clear OH91
            replace HW := hide (HW.out.trans (b9.mono HW.out.size))
            clear b9
            refine ⟨_, rfl, ?_⟩
            refine hK.out _ _ (HCL.out _ HW.out) (fun hHeld => ?_)
            clear hK K
            simp only [Act.put, List.setIfInBounds_toArray, List.set_cons_zero, List.set_cons_succ]
            refine wpAnyH_take (i := 7) (v := ?_) rfl (by kernel_rfl) (by kernel_rfl) (by kernel_rfl) (fun _ _ _ h => h) (Or.inl ⟨by rfl, ?_⟩) (by assumption) ?_
            rotate_left
            · intro w' hSw
              try dsimp only at hSw
              go_simp; try rfl
            simp only [List.getElem_toArray, List.getElem_cons_succ, List.getElem_cons_zero, Act.put, List.setIfInBounds_toArray, List.set_cons_zero, List.set_cons_succ]
            refine wpAnyH_take (i := 8) (v := ?_) rfl (by kernel_rfl) (by kernel_rfl) (by kernel_rfl) (fun _ _ _ h => h) (Or.inl ⟨by rfl, ?_⟩) (by assumption) ?_
            rotate_left
            · intro w' hSw
              try dsimp only at hSw
              go_simp; try rfl
            simp only [List.getElem_toArray, List.getElem_cons_succ, List.getElem_cons_zero, Act.put, List.setIfInBounds_toArray, List.set_cons_zero, List.set_cons_succ]
            refine wpAnyH_take (i := 9) (v := ?_) rfl (by kernel_rfl) (by kernel_rfl) (by kernel_rfl) (fun _ _ _ h => h) (Or.inl ⟨by rfl, ?_⟩) (by assumption) ?_
            rotate_left
            · intro w' hSw
              try dsimp only at hSw
              go_simp; try rfl
            simp only [List.getElem_toArray, List.getElem_cons_succ, List.getElem_cons_zero, Act.put, List.setIfInBounds_toArray, List.set_cons_zero, List.set_cons_succ]
            refine wpAnyH_ready (rs := [10]) (by kernel_rfl) (by simp) (AllReadyH.cons rfl (fun K hK => ?_) AllReadyH.nil)
            refine step_runX (some 10) (by kernel_rfl) (by kernel_rfl) (v := .pointer (some ⟨Z3.heap.size, 0, none⟩)) (w' := Z3.alloc (.cells #[.slice none 0 0, .slice none 0 0] 39)) (by go_simp; try rfl) ?_
            have HN := hide (HW.out.alloc HW.out.size (.cells #[.slice none 0 0, .slice none 0 0] 39))
            refine hK.out _ _ (HCL.out _ HN.out) (fun hHeld => ?_)
            clear hK K
            simp only [Act.put, List.setIfInBounds_toArray, List.set_cons_zero, List.set_cons_succ]
            have ka9 := HW.out.size
            have GA : Hid ((Z3.alloc (.cells #[.slice none 0 0, .slice none 0 0] 39)).heap[Z3.heap.size]? = some (.cells #[.slice none 0 0, .slice none 0 0] 39 (0, 0))) := hide (heap_alloc_new Z3 (.cells #[.slice none 0 0, .slice none 0 0] 39))
            have kz9 : Z3.heap.size < (Z3.alloc (.cells #[.slice none 0 0, .slice none 0 0] 39)).heap.size := by simp
            replace HO9 := hide (HO9.out.below ((Below.refl Z3.heap.size Z3).alloc (Nat.le_refl _) (.cells #[.slice none 0 0, .slice none 0 0] 39)))
            obtain ⟨g9, hg9⟩ : ∃ g, Z3.heap.size = g := ⟨_, rfl⟩
            rw [hg9] at GA ka9 kz9 ⊢
            have kg9 : Z3.heap.size ≤ g9 := Nat.le_of_eq hg9
            clear HW hg9
            have HW := HN
            clear HN
            generalize Z3.alloc (.cells #[.slice none 0 0, .slice none 0 0] 39) = Z4 at *
            refine wpAnyH_ready (rs := [11]) (by kernel_rfl) (by simp) (AllReadyH.cons rfl (fun K hK => ?_) AllReadyH.nil)
            refine step_storeX (by kernel_rfl) (by kernel_rfl) 39 _ _ rfl g9 #[.slice p93_1 V0.o.length q93_1, .slice p93_2 V0.l.length q93_2] (by kernel_rfl) (by kernel_rfl) _ _ GA.out hi9 (by rfl) (by simp [Value.oneCell']) ?_
            have HM := hide (below_setRow HW.out ka9 #[.slice p93_1 V0.o.length q93_1, .slice p93_2 V0.l.length q93_2])
            refine hK.out _ _ (HCL.out _ HM.out) (fun hHeld => ?_)
            clear hK K
            try simp only [Act.put, List.setIfInBounds_toArray, List.set_cons_zero, List.set_cons_succ]
            have GB := hide (setRow_heap Z4 g9 _ #[.slice p93_1 V0.o.length q93_1, .slice p93_2 V0.l.length q93_2] _ _ GA.out)
            have OR := hide (OwnDL.setRowA HO9.out g9 #[.slice p93_1 V0.o.length q93_1, .slice p93_2 V0.l.length q93_2] (by omega))
            have zz9 : Z4.heap.size ≤ (Z4.setRow g9 #[.slice p93_1 V0.o.length q93_1, .slice p93_2 V0.l.length q93_2]).heap.size := by simp
            clear HO9
            clear HW GA
            generalize Z4.setRow g9 #[.slice p93_1 V0.o.length q93_1, .slice p93_2 V0.l.length q93_2] = Y5 at *
            refine wpAnyH_take (i := 12) (v := ?_) rfl (by kernel_rfl) (by kernel_rfl) (by kernel_rfl) (fun _ _ _ h => h) (Or.inl ⟨by rfl, ?_⟩) (by assumption) ?_
            rotate_left
            · intro w' hSw
              try dsimp only at hSw
              go_simp; try rfl
            simp only [List.getElem_toArray, List.getElem_cons_succ, List.getElem_cons_zero, Act.put, List.setIfInBounds_toArray, List.set_cons_zero, List.set_cons_succ]
            refine wpAnyH_done (by kernel_rfl) ?_ _
            go_wp2_with fail
            go_meet
            exact ⟨g9, _, _, _, _, _, _, rfl, rfl, GB, OR, by omega, by omega, by omega, by omega, by omega, by omega, HM⟩
          · skip
            refine step_runX (some 10) (by kernel_rfl) (by kernel_rfl) (v := .pointer (some ⟨Z2.heap.size, 0, none⟩)) (w' := Z2.alloc (.cells #[.slice none 0 0, .slice none 0 0] 39)) (by go_simp; try rfl) ?_
            have HN := hide (HW.out.alloc HW.out.size (.cells #[.slice none 0 0, .slice none 0 0] 39))
            refine hK.out _ _ (HCL.out _ HN.out) (fun hHeld => ?_)
            clear hK K
            simp only [Act.put, List.setIfInBounds_toArray, List.set_cons_zero, List.set_cons_succ]
            have ka9 := HW.out.size
            have GA : Hid ((Z2.alloc (.cells #[.slice none 0 0, .slice none 0 0] 39)).heap[Z2.heap.size]? = some (.cells #[.slice none 0 0, .slice none 0 0] 39 (0, 0))) := hide (heap_alloc_new Z2 (.cells #[.slice none 0 0, .slice none 0 0] 39))
            have kz9 : Z2.heap.size < (Z2.alloc (.cells #[.slice none 0 0, .slice none 0 0] 39)).heap.size := by simp
            replace OH91 := hide (OH91.out.below ((Below.refl Z2.heap.size Z2).alloc (Nat.le_refl _) (.cells #[.slice none 0 0, .slice none 0 0] 39)))
            obtain ⟨g9, hg9⟩ : ∃ g, Z2.heap.size = g := ⟨_, rfl⟩
            rw [hg9] at GA ka9 kz9 ⊢
            have kg9 : Z2.heap.size ≤ g9 := Nat.le_of_eq hg9
            clear HW hg9
            have HW := HN
            clear HN
            generalize Z2.alloc (.cells #[.slice none 0 0, .slice none 0 0] 39) = Z6 at *
            refine wpAnyH_ready (rs := [6]) (by kernel_rfl) (by simp) (AllReadyH.cons rfl (fun K hK => ?_) AllReadyH.nil)
            refine step_callW (some 32) (by kernel_rfl) (by kernel_rfl) 31 _ _ rfl #[.agg #[.slice p91_1 m.o.length q91_1, .slice p91_2 m.l.length q91_2], .int .i64 q, .int .i64 p, .agg #[.bool v.r, .int .i64 v.n]] (by kernel_rfl) (writeS _ m _ _ q p v (mmD_own OH91.out).1 (mmD_own OH91.out).2 HGm.out) ?_
            rintro e Z7 ⟨n97_1, n97_2, rfl, o9, b9⟩
            rw [HV0.out] at o9 ⊢
            rw [HV1.out]
            obtain ⟨p97_1, q97_1, f97_1, _⟩ := (mmD_own o9).1.shape
            subst f97_1
            obtain ⟨p97_2, q97_2, f97_2, _⟩ := (mmD_own o9).2.shape
            subst f97_2
            unfold mmV
            have HO9 := hide o9
            have lz9 := HW.out.size
            have lz8 := b9.size
            clear o9
            clear OH91
            replace GA := hide ((b9.block g9 (Array.getElem?_eq_some_iff.1 GA.out).1).trans GA.out)
            replace HW := hide (HW.out.trans (b9.mono HW.out.size))
            clear b9
            refine ⟨_, rfl, ?_⟩
            refine hK.out _ _ (HCL.out _ HW.out) (fun hHeld => ?_)
            clear hK K
            simp only [Act.put, List.setIfInBounds_toArray, List.set_cons_zero, List.set_cons_succ]
            refine wpAnyH_take (i := 7) (v := ?_) rfl (by kernel_rfl) (by kernel_rfl) (by kernel_rfl) (fun _ _ _ h => h) (Or.inl ⟨by rfl, ?_⟩) (by assumption) ?_
            rotate_left
            · intro w' hSw
              try dsimp only at hSw
              go_simp; try rfl
            simp only [List.getElem_toArray, List.getElem_cons_succ, List.getElem_cons_zero, Act.put, List.setIfInBounds_toArray, List.set_cons_zero, List.set_cons_succ]
            refine wpAnyH_take (i := 8) (v := ?_) rfl (by kernel_rfl) (by kernel_rfl) (by kernel_rfl) (fun _ _ _ h => h) (Or.inl ⟨by rfl, ?_⟩) (by assumption) ?_
            rotate_left
            · intro w' hSw
              try dsimp only at hSw
              go_simp; try rfl
            simp only [List.getElem_toArray, List.getElem_cons_succ, List.getElem_cons_zero, Act.put, List.setIfInBounds_toArray, List.set_cons_zero, List.set_cons_succ]
            refine wpAnyH_take (i := 9) (v := ?_) rfl (by kernel_rfl) (by kernel_rfl) (by kernel_rfl) (fun _ _ _ h => h) (Or.inl ⟨by rfl, ?_⟩) (by assumption) ?_
            rotate_left
            · intro w' hSw
              try dsimp only at hSw
              go_simp; try rfl
            simp only [List.getElem_toArray, List.getElem_cons_succ, List.getElem_cons_zero, Act.put, List.setIfInBounds_toArray, List.set_cons_zero, List.set_cons_succ]
            refine wpAnyH_ready (rs := [11]) (by kernel_rfl) (by simp) (AllReadyH.cons rfl (fun K hK => ?_) AllReadyH.nil)
            refine step_storeX (by kernel_rfl) (by kernel_rfl) 39 _ _ rfl g9 #[.slice p97_1 V0.o.length q97_1, .slice p97_2 V0.l.length q97_2] (by kernel_rfl) (by kernel_rfl) _ _ GA.out hi9 (by rfl) (by simp [Value.oneCell']) ?_
            have HM := hide (below_setRow HW.out ka9 #[.slice p97_1 V0.o.length q97_1, .slice p97_2 V0.l.length q97_2])
            refine hK.out _ _ (HCL.out _ HM.out) (fun hHeld => ?_)
            clear hK K
            try simp only [Act.put, List.setIfInBounds_toArray, List.set_cons_zero, List.set_cons_succ]
            have GB := hide (setRow_heap Z7 g9 _ #[.slice p97_1 V0.o.length q97_1, .slice p97_2 V0.l.length q97_2] _ _ GA.out)
            have OR := hide (OwnDL.setRowA HO9.out g9 #[.slice p97_1 V0.o.length q97_1, .slice p97_2 V0.l.length q97_2] (by omega))
            have zz9 : Z7.heap.size ≤ (Z7.setRow g9 #[.slice p97_1 V0.o.length q97_1, .slice p97_2 V0.l.length q97_2]).heap.size := by simp
            clear HO9
            clear HW GA
            generalize Z7.setRow g9 #[.slice p97_1 V0.o.length q97_1, .slice p97_2 V0.l.length q97_2] = Y8 at *
            refine wpAnyH_take (i := 12) (v := ?_) rfl (by kernel_rfl) (by kernel_rfl) (by kernel_rfl) (fun _ _ _ h => h) (Or.inl ⟨by rfl, ?_⟩) (by assumption) ?_
            rotate_left
            · intro w' hSw
              try dsimp only at hSw
              go_simp; try rfl
            simp only [List.getElem_toArray, List.getElem_cons_succ, List.getElem_cons_zero, Act.put, List.setIfInBounds_toArray, List.set_cons_zero, List.set_cons_succ]
            refine wpAnyH_done (by kernel_rfl) ?_ _
            go_wp2_with fail
            go_meet
            exact ⟨g9, _, _, _, _, _, _, rfl, rfl, GB, OR, by omega, by omega, by omega, by omega, by omega, by omega, HM⟩
        · skip
          refine step_runX (some 10) (by kernel_rfl) (by kernel_rfl) (v := .pointer (some ⟨Z1.heap.size, 0, none⟩)) (w' := Z1.alloc (.cells #[.slice none 0 0, .slice none 0 0] 39)) (by go_simp; try rfl) ?_
          have HN := hide (HW.out.alloc HW.out.size (.cells #[.slice none 0 0, .slice none 0 0] 39))
          refine hK.out _ _ (HCL.out _ HN.out) (fun hHeld => ?_)
          clear hK K
          simp only [Act.put, List.setIfInBounds_toArray, List.set_cons_zero, List.set_cons_succ]
          have ka9 := HW.out.size
          have GA : Hid ((Z1.alloc (.cells #[.slice none 0 0, .slice none 0 0] 39)).heap[Z1.heap.size]? = some (.cells #[.slice none 0 0, .slice none 0 0] 39 (0, 0))) := hide (heap_alloc_new Z1 (.cells #[.slice none 0 0, .slice none 0 0] 39))
          have kz9 : Z1.heap.size < (Z1.alloc (.cells #[.slice none 0 0, .slice none 0 0] 39)).heap.size := by simp
          replace OH91 := hide (OH91.out.below ((Below.refl Z1.heap.size Z1).alloc (Nat.le_refl _) (.cells #[.slice none 0 0, .slice none 0 0] 39)))
          obtain ⟨g9, hg9⟩ : ∃ g, Z1.heap.size = g := ⟨_, rfl⟩
          rw [hg9] at GA ka9 kz9 ⊢
          have kg9 : Z1.heap.size ≤ g9 := Nat.le_of_eq hg9
          clear HW hg9
          have HW := HN
          clear HN
          generalize Z1.alloc (.cells #[.slice none 0 0, .slice none 0 0] 39) = Z9 at *
          refine wpAnyH_ready (rs := [5]) (by kernel_rfl) (by simp) (AllReadyH.cons rfl (fun K hK => ?_) AllReadyH.nil)
          refine step_callW (some 31) (by kernel_rfl) (by kernel_rfl) 32 _ _ rfl #[.agg #[.bool v.r, .int .i64 v.n]] (by kernel_rfl) (toVl _ v) ?_
          rintro e Z10 ⟨rfl, b9⟩
          unfold vlV
          replace OH91 := hide (OH91.out.below b9)
          replace GA := hide ((b9.block g9 (Array.getElem?_eq_some_iff.1 GA.out).1).trans GA.out)
          replace kz9 := Nat.lt_of_lt_of_le kz9 b9.size
          replace HW := hide (HW.out.trans (b9.mono HW.out.size))
          clear b9
          refine ⟨_, rfl, ?_⟩
          refine hK.out _ _ (HCL.out _ HW.out) (fun hHeld => ?_)
          clear hK K
          simp only [Act.put, List.setIfInBounds_toArray, List.set_cons_zero, List.set_cons_succ]
          refine wpAnyH_ready (rs := [6]) (by kernel_rfl) (by simp) (AllReadyH.cons rfl (fun K hK => ?_) AllReadyH.nil)
          refine step_callW (some 32) (by kernel_rfl) (by kernel_rfl) 31 _ _ rfl #[.agg #[.slice p91_1 m.o.length q91_1, .slice p91_2 m.l.length q91_2], .int .i64 q, .int .i64 p, .agg #[.bool v.r, .int .i64 v.n]] (by kernel_rfl) (writeS _ m _ _ q p v (mmD_own OH91.out).1 (mmD_own OH91.out).2 HGm.out) ?_
          rintro e Z11 ⟨n911_1, n911_2, rfl, o9, b9⟩
          rw [HV0.out] at o9 ⊢
          rw [HV1.out]
          obtain ⟨p911_1, q911_1, f911_1, _⟩ := (mmD_own o9).1.shape
          subst f911_1
          obtain ⟨p911_2, q911_2, f911_2, _⟩ := (mmD_own o9).2.shape
          subst f911_2
          unfold mmV
          have HO9 := hide o9
          have lz9 := HW.out.size
          have lz8 := b9.size
          clear o9
          clear OH91
          replace GA := hide ((b9.block g9 (Array.getElem?_eq_some_iff.1 GA.out).1).trans GA.out)
          replace HW := hide (HW.out.trans (b9.mono HW.out.size))
          clear b9
          refine ⟨_, rfl, ?_⟩
          refine hK.out _ _ (HCL.out _ HW.out) (fun hHeld => ?_)
          clear hK K
          simp only [Act.put, List.setIfInBounds_toArray, List.set_cons_zero, List.set_cons_succ]
          refine wpAnyH_take (i := 7) (v := ?_) rfl (by kernel_rfl) (by kernel_rfl) (by kernel_rfl) (fun _ _ _ h => h) (Or.inl ⟨by rfl, ?_⟩) (by assumption) ?_
          rotate_left
          · intro w' hSw
            try dsimp only at hSw
            go_simp; try rfl
          simp only [List.getElem_toArray, List.getElem_cons_succ, List.getElem_cons_zero, Act.put, List.setIfInBounds_toArray, List.set_cons_zero, List.set_cons_succ]
          refine wpAnyH_take (i := 8) (v := ?_) rfl (by kernel_rfl) (by kernel_rfl) (by kernel_rfl) (fun _ _ _ h => h) (Or.inl ⟨by rfl, ?_⟩) (by assumption) ?_
          rotate_left
          · intro w' hSw
            try dsimp only at hSw
            go_simp; try rfl
          simp only [List.getElem_toArray, List.getElem_cons_succ, List.getElem_cons_zero, Act.put, List.setIfInBounds_toArray, List.set_cons_zero, List.set_cons_succ]
          refine wpAnyH_take (i := 9) (v := ?_) rfl (by kernel_rfl) (by kernel_rfl) (by kernel_rfl) (fun _ _ _ h => h) (Or.inl ⟨by rfl, ?_⟩) (by assumption) ?_
          rotate_left
          · intro w' hSw
            try dsimp only at hSw
            go_simp; try rfl
          simp only [List.getElem_toArray, List.getElem_cons_succ, List.getElem_cons_zero, Act.put, List.setIfInBounds_toArray, List.set_cons_zero, List.set_cons_succ]
          refine wpAnyH_ready (rs := [11]) (by kernel_rfl) (by simp) (AllReadyH.cons rfl (fun K hK => ?_) AllReadyH.nil)
          refine step_storeX (by kernel_rfl) (by kernel_rfl) 39 _ _ rfl g9 #[.slice p911_1 V0.o.length q911_1, .slice p911_2 V0.l.length q911_2] (by kernel_rfl) (by kernel_rfl) _ _ GA.out hi9 (by rfl) (by simp [Value.oneCell']) ?_
          have HM := hide (below_setRow HW.out ka9 #[.slice p911_1 V0.o.length q911_1, .slice p911_2 V0.l.length q911_2])
          refine hK.out _ _ (HCL.out _ HM.out) (fun hHeld => ?_)
          clear hK K
          try simp only [Act.put, List.setIfInBounds_toArray, List.set_cons_zero, List.set_cons_succ]
          have GB := hide (setRow_heap Z11 g9 _ #[.slice p911_1 V0.o.length q911_1, .slice p911_2 V0.l.length q911_2] _ _ GA.out)
          have OR := hide (OwnDL.setRowA HO9.out g9 #[.slice p911_1 V0.o.length q911_1, .slice p911_2 V0.l.length q911_2] (by omega))
          have zz9 : Z11.heap.size ≤ (Z11.setRow g9 #[.slice p911_1 V0.o.length q911_1, .slice p911_2 V0.l.length q911_2]).heap.size := by simp
          clear HO9
          clear HW GA
          generalize Z11.setRow g9 #[.slice p911_1 V0.o.length q911_1, .slice p911_2 V0.l.length q911_2] = Y12 at *
          refine wpAnyH_take (i := 12) (v := ?_) rfl (by kernel_rfl) (by kernel_rfl) (by kernel_rfl) (fun _ _ _ h => h) (Or.inl ⟨by rfl, ?_⟩) (by assumption) ?_
          rotate_left
          · intro w' hSw
            try dsimp only at hSw
            go_simp; try rfl
          simp only [List.getElem_toArray, List.getElem_cons_succ, List.getElem_cons_zero, Act.put, List.setIfInBounds_toArray, List.set_cons_zero, List.set_cons_succ]
          refine wpAnyH_done (by kernel_rfl) ?_ _
          go_wp2_with fail
          go_meet
          exact ⟨g9, _, _, _, _, _, _, rfl, rfl, GB, OR, by omega, by omega, by omega, by omega, by omega, by omega, HM⟩
      · skip
        refine step_runX (some 10) (by kernel_rfl) (by kernel_rfl) (v := .pointer (some ⟨Z0.heap.size, 0, none⟩)) (w' := Z0.alloc (.cells #[.slice none 0 0, .slice none 0 0] 39)) (by go_simp; try rfl) ?_
        have HN := hide (HW.out.alloc HW.out.size (.cells #[.slice none 0 0, .slice none 0 0] 39))
        refine hK.out _ _ (HCL.out _ HN.out) (fun hHeld => ?_)
        clear hK K
        simp only [Act.put, List.setIfInBounds_toArray, List.set_cons_zero, List.set_cons_succ]
        have ka9 := HW.out.size
        have GA : Hid ((Z0.alloc (.cells #[.slice none 0 0, .slice none 0 0] 39)).heap[Z0.heap.size]? = some (.cells #[.slice none 0 0, .slice none 0 0] 39 (0, 0))) := hide (heap_alloc_new Z0 (.cells #[.slice none 0 0, .slice none 0 0] 39))
        have kz9 : Z0.heap.size < (Z0.alloc (.cells #[.slice none 0 0, .slice none 0 0] 39)).heap.size := by simp
        obtain ⟨g9, hg9⟩ : ∃ g, Z0.heap.size = g := ⟨_, rfl⟩
        rw [hg9] at GA ka9 kz9 ⊢
        have kg9 : Z0.heap.size ≤ g9 := Nat.le_of_eq hg9
        clear HW hg9
        have HW := HN
        clear HN
        generalize Z0.alloc (.cells #[.slice none 0 0, .slice none 0 0] 39) = Z13 at *
        refine wpAnyH_ready (rs := [1]) (by kernel_rfl) (by simp) (AllReadyH.cons rfl (fun K hK => ?_) AllReadyH.nil)
        refine step_callW (some 27) (by kernel_rfl) (by kernel_rfl) 12 _ _ rfl #[.agg #[.slice am1 m.o.length cm1, .slice am2 m.l.length cm2]] (by kernel_rfl) (toMm _ m _ _ (Pm1.out.at (HB.out.trans (HW.out.mono HB.out.size))) (Pm2.out.at (HB.out.trans (HW.out.mono HB.out.size))) HGm.out) ?_
        rintro e Z14 ⟨n914_1, n914_2, rfl, o9, b9⟩
        obtain ⟨p914_1, q914_1, f914_1, _⟩ := (mmD_own o9).1.shape
        subst f914_1
        obtain ⟨p914_2, q914_2, f914_2, _⟩ := (mmD_own o9).2.shape
        subst f914_2
        have OH914 := hide o9
        clear o9
        unfold mmV
        replace GA := hide ((b9.block g9 (Array.getElem?_eq_some_iff.1 GA.out).1).trans GA.out)
        replace kz9 := Nat.lt_of_lt_of_le kz9 b9.size
        replace HW := hide (HW.out.trans (b9.mono HW.out.size))
        clear b9
        refine ⟨_, rfl, ?_⟩
        refine hK.out _ _ (HCL.out _ HW.out) (fun hHeld => ?_)
        clear hK K
        simp only [Act.put, List.setIfInBounds_toArray, List.set_cons_zero, List.set_cons_succ]
        refine wpAnyH_ready (rs := [5]) (by kernel_rfl) (by simp) (AllReadyH.cons rfl (fun K hK => ?_) AllReadyH.nil)
        refine step_callW (some 31) (by kernel_rfl) (by kernel_rfl) 32 _ _ rfl #[.agg #[.bool v.r, .int .i64 v.n]] (by kernel_rfl) (toVl _ v) ?_
        rintro e Z15 ⟨rfl, b9⟩
        unfold vlV
        replace OH914 := hide (OH914.out.below b9)
        replace GA := hide ((b9.block g9 (Array.getElem?_eq_some_iff.1 GA.out).1).trans GA.out)
        replace kz9 := Nat.lt_of_lt_of_le kz9 b9.size
        replace HW := hide (HW.out.trans (b9.mono HW.out.size))
        clear b9
        refine ⟨_, rfl, ?_⟩
        refine hK.out _ _ (HCL.out _ HW.out) (fun hHeld => ?_)
        clear hK K
        simp only [Act.put, List.setIfInBounds_toArray, List.set_cons_zero, List.set_cons_succ]
        refine wpAnyH_ready (rs := [6]) (by kernel_rfl) (by simp) (AllReadyH.cons rfl (fun K hK => ?_) AllReadyH.nil)
        refine step_callW (some 32) (by kernel_rfl) (by kernel_rfl) 31 _ _ rfl #[.agg #[.slice p914_1 m.o.length q914_1, .slice p914_2 m.l.length q914_2], .int .i64 q, .int .i64 p, .agg #[.bool v.r, .int .i64 v.n]] (by kernel_rfl) (writeS _ m _ _ q p v (mmD_own OH914.out).1 (mmD_own OH914.out).2 HGm.out) ?_
        rintro e Z16 ⟨n916_1, n916_2, rfl, o9, b9⟩
        rw [HV0.out] at o9 ⊢
        rw [HV1.out]
        obtain ⟨p916_1, q916_1, f916_1, _⟩ := (mmD_own o9).1.shape
        subst f916_1
        obtain ⟨p916_2, q916_2, f916_2, _⟩ := (mmD_own o9).2.shape
        subst f916_2
        unfold mmV
        have HO9 := hide o9
        have lz9 := HW.out.size
        have lz8 := b9.size
        clear o9
        clear OH914
        replace GA := hide ((b9.block g9 (Array.getElem?_eq_some_iff.1 GA.out).1).trans GA.out)
        replace HW := hide (HW.out.trans (b9.mono HW.out.size))
        clear b9
        refine ⟨_, rfl, ?_⟩
        refine hK.out _ _ (HCL.out _ HW.out) (fun hHeld => ?_)
        clear hK K
        simp only [Act.put, List.setIfInBounds_toArray, List.set_cons_zero, List.set_cons_succ]
        refine wpAnyH_take (i := 7) (v := ?_) rfl (by kernel_rfl) (by kernel_rfl) (by kernel_rfl) (fun _ _ _ h => h) (Or.inl ⟨by rfl, ?_⟩) (by assumption) ?_
        rotate_left
        · intro w' hSw
          try dsimp only at hSw
          go_simp; try rfl
        simp only [List.getElem_toArray, List.getElem_cons_succ, List.getElem_cons_zero, Act.put, List.setIfInBounds_toArray, List.set_cons_zero, List.set_cons_succ]
        refine wpAnyH_take (i := 8) (v := ?_) rfl (by kernel_rfl) (by kernel_rfl) (by kernel_rfl) (fun _ _ _ h => h) (Or.inl ⟨by rfl, ?_⟩) (by assumption) ?_
        rotate_left
        · intro w' hSw
          try dsimp only at hSw
          go_simp; try rfl
        simp only [List.getElem_toArray, List.getElem_cons_succ, List.getElem_cons_zero, Act.put, List.setIfInBounds_toArray, List.set_cons_zero, List.set_cons_succ]
        refine wpAnyH_take (i := 9) (v := ?_) rfl (by kernel_rfl) (by kernel_rfl) (by kernel_rfl) (fun _ _ _ h => h) (Or.inl ⟨by rfl, ?_⟩) (by assumption) ?_
        rotate_left
        · intro w' hSw
          try dsimp only at hSw
          go_simp; try rfl
        simp only [List.getElem_toArray, List.getElem_cons_succ, List.getElem_cons_zero, Act.put, List.setIfInBounds_toArray, List.set_cons_zero, List.set_cons_succ]
        refine wpAnyH_ready (rs := [11]) (by kernel_rfl) (by simp) (AllReadyH.cons rfl (fun K hK => ?_) AllReadyH.nil)
        refine step_storeX (by kernel_rfl) (by kernel_rfl) 39 _ _ rfl g9 #[.slice p916_1 V0.o.length q916_1, .slice p916_2 V0.l.length q916_2] (by kernel_rfl) (by kernel_rfl) _ _ GA.out hi9 (by rfl) (by simp [Value.oneCell']) ?_
        have HM := hide (below_setRow HW.out ka9 #[.slice p916_1 V0.o.length q916_1, .slice p916_2 V0.l.length q916_2])
        refine hK.out _ _ (HCL.out _ HM.out) (fun hHeld => ?_)
        clear hK K
        try simp only [Act.put, List.setIfInBounds_toArray, List.set_cons_zero, List.set_cons_succ]
        have GB := hide (setRow_heap Z16 g9 _ #[.slice p916_1 V0.o.length q916_1, .slice p916_2 V0.l.length q916_2] _ _ GA.out)
        have OR := hide (OwnDL.setRowA HO9.out g9 #[.slice p916_1 V0.o.length q916_1, .slice p916_2 V0.l.length q916_2] (by omega))
        have zz9 : Z16.heap.size ≤ (Z16.setRow g9 #[.slice p916_1 V0.o.length q916_1, .slice p916_2 V0.l.length q916_2]).heap.size := by simp
        clear HO9
        clear HW GA
        generalize Z16.setRow g9 #[.slice p916_1 V0.o.length q916_1, .slice p916_2 V0.l.length q916_2] = Y17 at *
        refine wpAnyH_take (i := 12) (v := ?_) rfl (by kernel_rfl) (by kernel_rfl) (by kernel_rfl) (fun _ _ _ h => h) (Or.inl ⟨by rfl, ?_⟩) (by assumption) ?_
        rotate_left
        · intro w' hSw
          try dsimp only at hSw
          go_simp; try rfl
        simp only [List.getElem_toArray, List.getElem_cons_succ, List.getElem_cons_zero, Act.put, List.setIfInBounds_toArray, List.set_cons_zero, List.set_cons_succ]
        refine wpAnyH_done (by kernel_rfl) ?_ _
        go_wp2_with fail
        go_meet
        exact ⟨g9, _, _, _, _, _, _, rfl, rfl, GB, OR, by omega, by omega, by omega, by omega, by omega, by omega, HM⟩
    case rest =>
    obtain ⟨G10, a10_1, k10_1, a10_2, k10_2, l10, h10, rfl, rfl, X10, OX10, zl10, zm10, zh10, zg10, zb10, zc10, HQ9⟩ := hcut
    have b9 := HQ9.out
    clear HQ9 HCL HD
    replace E0 := hide ((b9.block _ (Array.getElem?_eq_some_iff.1 E0.out).1).trans E0.out)
    replace E1 := hide ((b9.block _ (Array.getElem?_eq_some_iff.1 E1.out).1).trans E1.out)
    have z2 := b9.size
    replace HB := hide (HB.out.trans (b9.mono HB.out.size))
    clear b9
    generalize wc = w2 at *
    have y0_0 := (box_of E0.out).1 0 _ rfl
    have y0_1 := (box_of E0.out).1 1 _ rfl
    go_wp2_with fail
    clear y0_0 y0_1
    refine (toMm _ m _ _ (Pm1.out.at HB.out) (Pm2.out.at HB.out) HGm.out).mono ?_
    rintro e w3 ⟨n3_1, n3_2, rfl, o9, b9⟩
    obtain ⟨p3_1, q3_1, f3_1, _⟩ := (mmD_own o9).1.shape
    subst f3_1
    obtain ⟨p3_2, q3_2, f3_2, _⟩ := (mmD_own o9).2.shape
    subst f3_2
    have O3 := hide o9
    clear o9
    replace E0 := hide ((b9.block _ (Array.getElem?_eq_some_iff.1 E0.out).1).trans E0.out)
    replace E1 := hide ((b9.block _ (Array.getElem?_eq_some_iff.1 E1.out).1).trans E1.out)
    replace X10 := hide ((b9.block _ (Array.getElem?_eq_some_iff.1 X10.out).1).trans X10.out)
    replace OX10 := hide (OX10.out.below b9)
    have z3 := b9.size
    replace HB := hide (HB.out.trans (b9.mono HB.out.size))
    clear b9
    unfold mmV
    have bD := (Below.refl w3.heap.size w3).alloc (Nat.le_refl _) (.cells #[.slice p3_1 m.o.length q3_1, .slice p3_2 m.l.length q3_2] 39)
    have X12 := hide (heap_alloc_new w3 (.cells #[.slice p3_1 m.o.length q3_1, .slice p3_2 m.l.length q3_2] 39))
    have z4 : w3.heap.size < (w3.alloc (.cells #[.slice p3_1 m.o.length q3_1, .slice p3_2 m.l.length q3_2] 39)).heap.size := by simp
    replace E0 := hide ((bD.block _ (Array.getElem?_eq_some_iff.1 E0.out).1).trans E0.out)
    replace E1 := hide ((bD.block _ (Array.getElem?_eq_some_iff.1 E1.out).1).trans E1.out)
    replace X10 := hide ((bD.block _ (Array.getElem?_eq_some_iff.1 X10.out).1).trans X10.out)
    replace OX10 := hide (OX10.out.below bD)
    replace O3 := hide (O3.out.below bD)
    have z5 := bD.size
    replace HB := hide (HB.out.trans (bD.mono HB.out.size))
    clear bD
    go_upto_region 7 with fail
    generalize w3.alloc (.cells #[.slice p3_1 m.o.length q3_1, .slice p3_2 m.l.length q3_2] 39) = w4 at *
    have HCL : Hid (∀ w', Below w4.heap.size w4 w' → w'.cell? ⟨w3.heap.size, 0, none⟩ = some (.slice p3_1 m.o.length q3_1) ∧ w'.cell? ⟨w3.heap.size, 1, none⟩ = some (.slice p3_2 m.l.length q3_2) ∧ w'.cell? ⟨w.heap.size + 1, 0, none⟩ = some (.bool v.r) ∧ w'.cell? ⟨w.heap.size + 1, 1, none⟩ = some (.int .i64 v.n)) := hide (fun w' hb => ⟨(box_of ((hb.block _ (Array.getElem?_eq_some_iff.1 X12.out).1).trans X12.out)).1 0 _ rfl, (box_of ((hb.block _ (Array.getElem?_eq_some_iff.1 X12.out).1).trans X12.out)).1 1 _ rfl, (box_of ((hb.block _ (Array.getElem?_eq_some_iff.1 E1.out).1).trans E1.out)).1 0 _ rfl, (box_of ((hb.block _ (Array.getElem?_eq_some_iff.1 E1.out).1).trans E1.out)).1 1 _ rfl⟩)
    have HD := hide (Below.refl w4.heap.size w4).drew
    go_cut [13, 14] from 37 to 45 (fun s13 s14 wq => ∃ g13 : Nat, ∃ (a13_1 : Option Addr) (k13_1 : Nat), ∃ (a13_2 : Option Addr) (k13_2 : Nat), ∃ l13 h13 : Nat, s13 = .pointer (some ⟨g13, 0, none⟩) ∧ s14 = .bool V1 ∧ Hid (wq.heap[g13]? = some (.cells #[.slice a13_1 V0.o.length k13_1, .slice a13_2 V0.l.length k13_2] 39 (0, 0))) ∧ Hid (OwnDL wq l13 h13 (mmD V0) [.slice a13_1 V0.o.length k13_1, .slice a13_2 V0.l.length k13_2]) ∧ w4.heap.size ≤ l13 ∧ l13 ≤ h13 ∧ h13 ≤ wq.heap.size ∧ (g13 < l13 ∨ h13 ≤ g13) ∧ w4.heap.size ≤ g13 ∧ g13 < wq.heap.size ∧ Hid (Below w4.heap.size w4 wq))
    case first =>
      have hi9 : ((Try.prog.info? 39).map (·.size)) = some 2 := by kernel_rfl
      refine wp_region_held_drew (S := fun w' => w'.cell? ⟨w3.heap.size, 0, none⟩ = some (.slice p3_1 m.o.length q3_1) ∧ w'.cell? ⟨w3.heap.size, 1, none⟩ = some (.slice p3_2 m.l.length q3_2) ∧ w'.cell? ⟨w.heap.size + 1, 0, none⟩ = some (.bool v.r) ∧ w'.cell? ⟨w.heap.size + 1, 1, none⟩ = some (.int .i64 v.n)) (by kernel_rfl) (HCL.out _ HD.out) (fun hHeld => ?_)
      have HW := HD
      clear HD
      generalize w4.drew = Z0 at *
      refine wpAnyH_take (i := 0) (v := .agg #[.slice p3_1 m.o.length q3_1, .slice p3_2 m.l.length q3_2]) rfl (by kernel_rfl) (by kernel_rfl) (by kernel_rfl) (fun _ _ _ h => h) (Or.inl ⟨by rfl, ?_⟩) (by assumption) ?_
      · intro w' hSw
        try dsimp only at hSw
        go_simp; try rfl
      simp only [List.getElem_toArray, List.getElem_cons_zero, Act.put, List.setIfInBounds_toArray, List.set_cons_zero, List.set_cons_succ]
      refine wpAnyH_take (i := 1) (v := ?_) rfl (by kernel_rfl) (by kernel_rfl) (by kernel_rfl) (fun _ _ _ h => h) (Or.inl ⟨by rfl, ?_⟩) (by assumption) ?_
      rotate_left
      · intro w' hSw
        try dsimp only at hSw
        go_simp; try rfl
      simp only [List.getElem_toArray, List.getElem_cons_succ, List.getElem_cons_zero, Act.put, List.setIfInBounds_toArray, List.set_cons_zero, List.set_cons_succ]
      refine wpAnyH_take (i := 2) (v := ?_) rfl (by kernel_rfl) (by kernel_rfl) (by kernel_rfl) (fun _ _ _ h => h) (Or.inl ⟨by rfl, ?_⟩) (by assumption) ?_
      rotate_left
      · intro w' hSw
        try dsimp only at hSw
        go_simp; try rfl
      simp only [List.getElem_toArray, List.getElem_cons_succ, List.getElem_cons_zero, Act.put, List.setIfInBounds_toArray, List.set_cons_zero, List.set_cons_succ]
      refine wpAnyH_take (i := 3) (v := .agg #[.bool v.r, .int .i64 v.n]) rfl (by kernel_rfl) (by kernel_rfl) (by kernel_rfl) (fun _ _ _ h => h) (Or.inl ⟨by rfl, ?_⟩) (by assumption) ?_
      · intro w' hSw
        try dsimp only at hSw
        go_simp; try rfl
      simp only [List.getElem_toArray, List.getElem_cons_succ, List.getElem_cons_zero, Act.put, List.setIfInBounds_toArray, List.set_cons_zero, List.set_cons_succ]
      refine wpAnyH_ready (rs := [4, 9]) (by kernel_rfl) (by simp) (AllReadyH.cons rfl (fun K hK => ?_) (AllReadyH.cons rfl (fun K hK => ?_) AllReadyH.nil))
      · skip
        refine step_callW (some 42) (by kernel_rfl) (by kernel_rfl) 32 _ _ rfl #[.agg #[.bool v.r, .int .i64 v.n]] (by kernel_rfl) (toVl _ v) ?_
        rintro e Z1 ⟨rfl, b9⟩
        unfold vlV
        replace HW := hide (HW.out.trans (b9.mono HW.out.size))
        clear b9
        refine ⟨_, rfl, ?_⟩
        refine hK.out _ _ (HCL.out _ HW.out) (fun hHeld => ?_)
        clear hK K
        simp only [Act.put, List.setIfInBounds_toArray, List.set_cons_zero, List.set_cons_succ]
        refine wpAnyH_ready (rs := [5, 9]) (by kernel_rfl) (by simp) (AllReadyH.cons rfl (fun K hK => ?_) (AllReadyH.cons rfl (fun K hK => ?_) AllReadyH.nil))
        · skip
          refine step_callW (some 43) (by kernel_rfl) (by kernel_rfl) 33 _ _ rfl #[.agg #[.slice p3_1 m.o.length q3_1, .slice p3_2 m.l.length q3_2], .int .i64 q, .int .i64 p, .agg #[.bool v.r, .int .i64 v.n]] (by kernel_rfl) (writeI _ m _ _ q p v (mmD_own (O3.out.below HW.out)).1 (mmD_own (O3.out.below HW.out)).2 HGm.out) ?_
          rintro e Z2 ⟨n92_1, n92_2, rfl, o9, b9⟩
          rw [HV0.out] at o9 ⊢
          rw [HV1.out]
          obtain ⟨p92_1, q92_1, f92_1, _⟩ := (mmD_own o9).1.shape
          subst f92_1
          obtain ⟨p92_2, q92_2, f92_2, _⟩ := (mmD_own o9).2.shape
          subst f92_2
          unfold mmV
          have HO9 := hide o9
          have lz9 := HW.out.size
          have lz8 := b9.size
          clear o9
          replace HW := hide (HW.out.trans (b9.mono HW.out.size))
          clear b9
          refine ⟨_, rfl, ?_⟩
          refine hK.out _ _ (HCL.out _ HW.out) (fun hHeld => ?_)
          clear hK K
          simp only [Act.put, List.setIfInBounds_toArray, List.set_cons_zero, List.set_cons_succ]
          refine wpAnyH_take (i := 6) (v := ?_) rfl (by kernel_rfl) (by kernel_rfl) (by kernel_rfl) (fun _ _ _ h => h) (Or.inl ⟨by rfl, ?_⟩) (by assumption) ?_
          rotate_left
          · intro w' hSw
            try dsimp only at hSw
            go_simp; try rfl
          simp only [List.getElem_toArray, List.getElem_cons_succ, List.getElem_cons_zero, Act.put, List.setIfInBounds_toArray, List.set_cons_zero, List.set_cons_succ]
          refine wpAnyH_take (i := 7) (v := ?_) rfl (by kernel_rfl) (by kernel_rfl) (by kernel_rfl) (fun _ _ _ h => h) (Or.inl ⟨by rfl, ?_⟩) (by assumption) ?_
          rotate_left
          · intro w' hSw
            try dsimp only at hSw
            go_simp; try rfl
          simp only [List.getElem_toArray, List.getElem_cons_succ, List.getElem_cons_zero, Act.put, List.setIfInBounds_toArray, List.set_cons_zero, List.set_cons_succ]
          refine wpAnyH_take (i := 8) (v := ?_) rfl (by kernel_rfl) (by kernel_rfl) (by kernel_rfl) (fun _ _ _ h => h) (Or.inl ⟨by rfl, ?_⟩) (by assumption) ?_
          rotate_left
          · intro w' hSw
            try dsimp only at hSw
            go_simp; try rfl
          simp only [List.getElem_toArray, List.getElem_cons_succ, List.getElem_cons_zero, Act.put, List.setIfInBounds_toArray, List.set_cons_zero, List.set_cons_succ]
          refine wpAnyH_ready (rs := [9]) (by kernel_rfl) (by simp) (AllReadyH.cons rfl (fun K hK => ?_) AllReadyH.nil)
          refine step_runX (some 13) (by kernel_rfl) (by kernel_rfl) (v := .pointer (some ⟨Z2.heap.size, 0, none⟩)) (w' := Z2.alloc (.cells #[.slice none 0 0, .slice none 0 0] 39)) (by go_simp; try rfl) ?_
          have HN := hide (HW.out.alloc HW.out.size (.cells #[.slice none 0 0, .slice none 0 0] 39))
          refine hK.out _ _ (HCL.out _ HN.out) (fun hHeld => ?_)
          clear hK K
          simp only [Act.put, List.setIfInBounds_toArray, List.set_cons_zero, List.set_cons_succ]
          have ka9 := HW.out.size
          have GA : Hid ((Z2.alloc (.cells #[.slice none 0 0, .slice none 0 0] 39)).heap[Z2.heap.size]? = some (.cells #[.slice none 0 0, .slice none 0 0] 39 (0, 0))) := hide (heap_alloc_new Z2 (.cells #[.slice none 0 0, .slice none 0 0] 39))
          have kz9 : Z2.heap.size < (Z2.alloc (.cells #[.slice none 0 0, .slice none 0 0] 39)).heap.size := by simp
          replace HO9 := hide (HO9.out.below ((Below.refl Z2.heap.size Z2).alloc (Nat.le_refl _) (.cells #[.slice none 0 0, .slice none 0 0] 39)))
          obtain ⟨g9, hg9⟩ : ∃ g, Z2.heap.size = g := ⟨_, rfl⟩
          rw [hg9] at GA ka9 kz9 ⊢
          have kg9 : Z2.heap.size ≤ g9 := Nat.le_of_eq hg9
          clear HW hg9
          have HW := HN
          clear HN
          generalize Z2.alloc (.cells #[.slice none 0 0, .slice none 0 0] 39) = Z3 at *
          refine wpAnyH_ready (rs := [10]) (by kernel_rfl) (by simp) (AllReadyH.cons rfl (fun K hK => ?_) AllReadyH.nil)
          refine step_storeX (by kernel_rfl) (by kernel_rfl) 39 _ _ rfl g9 #[.slice p92_1 V0.o.length q92_1, .slice p92_2 V0.l.length q92_2] (by kernel_rfl) (by kernel_rfl) _ _ GA.out hi9 (by rfl) (by simp [Value.oneCell']) ?_
          have HM := hide (below_setRow HW.out ka9 #[.slice p92_1 V0.o.length q92_1, .slice p92_2 V0.l.length q92_2])
          refine hK.out _ _ (HCL.out _ HM.out) (fun hHeld => ?_)
          clear hK K
          try simp only [Act.put, List.setIfInBounds_toArray, List.set_cons_zero, List.set_cons_succ]
          have GB := hide (setRow_heap Z3 g9 _ #[.slice p92_1 V0.o.length q92_1, .slice p92_2 V0.l.length q92_2] _ _ GA.out)
          have OR := hide (OwnDL.setRowA HO9.out g9 #[.slice p92_1 V0.o.length q92_1, .slice p92_2 V0.l.length q92_2] (by omega))
          have zz9 : Z3.heap.size ≤ (Z3.setRow g9 #[.slice p92_1 V0.o.length q92_1, .slice p92_2 V0.l.length q92_2]).heap.size := by simp
          clear HO9
          clear HW GA
          generalize Z3.setRow g9 #[.slice p92_1 V0.o.length q92_1, .slice p92_2 V0.l.length q92_2] = Y4 at *
          refine wpAnyH_take (i := 11) (v := ?_) rfl (by kernel_rfl) (by kernel_rfl) (by kernel_rfl) (fun _ _ _ h => h) (Or.inl ⟨by rfl, ?_⟩) (by assumption) ?_
          rotate_left
          · intro w' hSw
            try dsimp only at hSw
            go_simp; try rfl
          simp only [List.getElem_toArray, List.getElem_cons_succ, List.getElem_cons_zero, Act.put, List.setIfInBounds_toArray, List.set_cons_zero, List.set_cons_succ]
          refine wpAnyH_done (by kernel_rfl) ?_ _
          go_wp2_with fail
          go_meet
          exact ⟨g9, _, _, _, _, _, _, rfl, rfl, GB, OR, by omega, by omega, by omega, by omega, by omega, by omega, HM⟩
        · skip
          refine step_runX (some 13) (by kernel_rfl) (by kernel_rfl) (v := .pointer (some ⟨Z1.heap.size, 0, none⟩)) (w' := Z1.alloc (.cells #[.slice none 0 0, .slice none 0 0] 39)) (by go_simp; try rfl) ?_
          have HN := hide (HW.out.alloc HW.out.size (.cells #[.slice none 0 0, .slice none 0 0] 39))
          refine hK.out _ _ (HCL.out _ HN.out) (fun hHeld => ?_)
          clear hK K
          simp only [Act.put, List.setIfInBounds_toArray, List.set_cons_zero, List.set_cons_succ]
          have ka9 := HW.out.size
          have GA : Hid ((Z1.alloc (.cells #[.slice none 0 0, .slice none 0 0] 39)).heap[Z1.heap.size]? = some (.cells #[.slice none 0 0, .slice none 0 0] 39 (0, 0))) := hide (heap_alloc_new Z1 (.cells #[.slice none 0 0, .slice none 0 0] 39))
          have kz9 : Z1.heap.size < (Z1.alloc (.cells #[.slice none 0 0, .slice none 0 0] 39)).heap.size := by simp
          obtain ⟨g9, hg9⟩ : ∃ g, Z1.heap.size = g := ⟨_, rfl⟩
          rw [hg9] at GA ka9 kz9 ⊢
          have kg9 : Z1.heap.size ≤ g9 := Nat.le_of_eq hg9
          clear HW hg9
          have HW := HN
          clear HN
          generalize Z1.alloc (.cells #[.slice none 0 0, .slice none 0 0] 39) = Z5 at *
          refine wpAnyH_ready (rs := [5]) (by kernel_rfl) (by simp) (AllReadyH.cons rfl (fun K hK => ?_) AllReadyH.nil)
          refine step_callW (some 43) (by kernel_rfl) (by kernel_rfl) 33 _ _ rfl #[.agg #[.slice p3_1 m.o.length q3_1, .slice p3_2 m.l.length q3_2], .int .i64 q, .int .i64 p, .agg #[.bool v.r, .int .i64 v.n]] (by kernel_rfl) (writeI _ m _ _ q p v (mmD_own (O3.out.below HW.out)).1 (mmD_own (O3.out.below HW.out)).2 HGm.out) ?_
          rintro e Z6 ⟨n96_1, n96_2, rfl, o9, b9⟩
          rw [HV0.out] at o9 ⊢
          rw [HV1.out]
          obtain ⟨p96_1, q96_1, f96_1, _⟩ := (mmD_own o9).1.shape
          subst f96_1
          obtain ⟨p96_2, q96_2, f96_2, _⟩ := (mmD_own o9).2.shape
          subst f96_2
          unfold mmV
          have HO9 := hide o9
          have lz9 := HW.out.size
          have lz8 := b9.size
          clear o9
          replace GA := hide ((b9.block g9 (Array.getElem?_eq_some_iff.1 GA.out).1).trans GA.out)
          replace HW := hide (HW.out.trans (b9.mono HW.out.size))
          clear b9
          refine ⟨_, rfl, ?_⟩
          refine hK.out _ _ (HCL.out _ HW.out) (fun hHeld => ?_)
          clear hK K
          simp only [Act.put, List.setIfInBounds_toArray, List.set_cons_zero, List.set_cons_succ]
          refine wpAnyH_take (i := 6) (v := ?_) rfl (by kernel_rfl) (by kernel_rfl) (by kernel_rfl) (fun _ _ _ h => h) (Or.inl ⟨by rfl, ?_⟩) (by assumption) ?_
          rotate_left
          · intro w' hSw
            try dsimp only at hSw
            go_simp; try rfl
          simp only [List.getElem_toArray, List.getElem_cons_succ, List.getElem_cons_zero, Act.put, List.setIfInBounds_toArray, List.set_cons_zero, List.set_cons_succ]
          refine wpAnyH_take (i := 7) (v := ?_) rfl (by kernel_rfl) (by kernel_rfl) (by kernel_rfl) (fun _ _ _ h => h) (Or.inl ⟨by rfl, ?_⟩) (by assumption) ?_
          rotate_left
          · intro w' hSw
            try dsimp only at hSw
            go_simp; try rfl
          simp only [List.getElem_toArray, List.getElem_cons_succ, List.getElem_cons_zero, Act.put, List.setIfInBounds_toArray, List.set_cons_zero, List.set_cons_succ]
          refine wpAnyH_take (i := 8) (v := ?_) rfl (by kernel_rfl) (by kernel_rfl) (by kernel_rfl) (fun _ _ _ h => h) (Or.inl ⟨by rfl, ?_⟩) (by assumption) ?_
          rotate_left
          · intro w' hSw
            try dsimp only at hSw
            go_simp; try rfl
          simp only [List.getElem_toArray, List.getElem_cons_succ, List.getElem_cons_zero, Act.put, List.setIfInBounds_toArray, List.set_cons_zero, List.set_cons_succ]
          refine wpAnyH_ready (rs := [10]) (by kernel_rfl) (by simp) (AllReadyH.cons rfl (fun K hK => ?_) AllReadyH.nil)
          refine step_storeX (by kernel_rfl) (by kernel_rfl) 39 _ _ rfl g9 #[.slice p96_1 V0.o.length q96_1, .slice p96_2 V0.l.length q96_2] (by kernel_rfl) (by kernel_rfl) _ _ GA.out hi9 (by rfl) (by simp [Value.oneCell']) ?_
          have HM := hide (below_setRow HW.out ka9 #[.slice p96_1 V0.o.length q96_1, .slice p96_2 V0.l.length q96_2])
          refine hK.out _ _ (HCL.out _ HM.out) (fun hHeld => ?_)
          clear hK K
          try simp only [Act.put, List.setIfInBounds_toArray, List.set_cons_zero, List.set_cons_succ]
          have GB := hide (setRow_heap Z6 g9 _ #[.slice p96_1 V0.o.length q96_1, .slice p96_2 V0.l.length q96_2] _ _ GA.out)
          have OR := hide (OwnDL.setRowA HO9.out g9 #[.slice p96_1 V0.o.length q96_1, .slice p96_2 V0.l.length q96_2] (by omega))
          have zz9 : Z6.heap.size ≤ (Z6.setRow g9 #[.slice p96_1 V0.o.length q96_1, .slice p96_2 V0.l.length q96_2]).heap.size := by simp
          clear HO9
          clear HW GA
          generalize Z6.setRow g9 #[.slice p96_1 V0.o.length q96_1, .slice p96_2 V0.l.length q96_2] = Y7 at *
          refine wpAnyH_take (i := 11) (v := ?_) rfl (by kernel_rfl) (by kernel_rfl) (by kernel_rfl) (fun _ _ _ h => h) (Or.inl ⟨by rfl, ?_⟩) (by assumption) ?_
          rotate_left
          · intro w' hSw
            try dsimp only at hSw
            go_simp; try rfl
          simp only [List.getElem_toArray, List.getElem_cons_succ, List.getElem_cons_zero, Act.put, List.setIfInBounds_toArray, List.set_cons_zero, List.set_cons_succ]
          refine wpAnyH_done (by kernel_rfl) ?_ _
          go_wp2_with fail
          go_meet
          exact ⟨g9, _, _, _, _, _, _, rfl, rfl, GB, OR, by omega, by omega, by omega, by omega, by omega, by omega, HM⟩
      · skip
        refine step_runX (some 13) (by kernel_rfl) (by kernel_rfl) (v := .pointer (some ⟨Z0.heap.size, 0, none⟩)) (w' := Z0.alloc (.cells #[.slice none 0 0, .slice none 0 0] 39)) (by go_simp; try rfl) ?_
        have HN := hide (HW.out.alloc HW.out.size (.cells #[.slice none 0 0, .slice none 0 0] 39))
        refine hK.out _ _ (HCL.out _ HN.out) (fun hHeld => ?_)
        clear hK K
        simp only [Act.put, List.setIfInBounds_toArray, List.set_cons_zero, List.set_cons_succ]
        have ka9 := HW.out.size
        have GA : Hid ((Z0.alloc (.cells #[.slice none 0 0, .slice none 0 0] 39)).heap[Z0.heap.size]? = some (.cells #[.slice none 0 0, .slice none 0 0] 39 (0, 0))) := hide (heap_alloc_new Z0 (.cells #[.slice none 0 0, .slice none 0 0] 39))
        have kz9 : Z0.heap.size < (Z0.alloc (.cells #[.slice none 0 0, .slice none 0 0] 39)).heap.size := by simp
        obtain ⟨g9, hg9⟩ : ∃ g, Z0.heap.size = g := ⟨_, rfl⟩
        rw [hg9] at GA ka9 kz9 ⊢
        have kg9 : Z0.heap.size ≤ g9 := Nat.le_of_eq hg9
        clear HW hg9
        have HW := HN
        clear HN
        generalize Z0.alloc (.cells #[.slice none 0 0, .slice none 0 0] 39) = Z8 at *
        refine wpAnyH_ready (rs := [4]) (by kernel_rfl) (by simp) (AllReadyH.cons rfl (fun K hK => ?_) AllReadyH.nil)
        refine step_callW (some 42) (by kernel_rfl) (by kernel_rfl) 32 _ _ rfl #[.agg #[.bool v.r, .int .i64 v.n]] (by kernel_rfl) (toVl _ v) ?_
        rintro e Z9 ⟨rfl, b9⟩
        unfold vlV
        replace GA := hide ((b9.block g9 (Array.getElem?_eq_some_iff.1 GA.out).1).trans GA.out)
        replace kz9 := Nat.lt_of_lt_of_le kz9 b9.size
        replace HW := hide (HW.out.trans (b9.mono HW.out.size))
        clear b9
        refine ⟨_, rfl, ?_⟩
        refine hK.out _ _ (HCL.out _ HW.out) (fun hHeld => ?_)
        clear hK K
        simp only [Act.put, List.setIfInBounds_toArray, List.set_cons_zero, List.set_cons_succ]
        refine wpAnyH_ready (rs := [5]) (by kernel_rfl) (by simp) (AllReadyH.cons rfl (fun K hK => ?_) AllReadyH.nil)
        refine step_callW (some 43) (by kernel_rfl) (by kernel_rfl) 33 _ _ rfl #[.agg #[.slice p3_1 m.o.length q3_1, .slice p3_2 m.l.length q3_2], .int .i64 q, .int .i64 p, .agg #[.bool v.r, .int .i64 v.n]] (by kernel_rfl) (writeI _ m _ _ q p v (mmD_own (O3.out.below HW.out)).1 (mmD_own (O3.out.below HW.out)).2 HGm.out) ?_
        rintro e Z10 ⟨n910_1, n910_2, rfl, o9, b9⟩
        rw [HV0.out] at o9 ⊢
        rw [HV1.out]
        obtain ⟨p910_1, q910_1, f910_1, _⟩ := (mmD_own o9).1.shape
        subst f910_1
        obtain ⟨p910_2, q910_2, f910_2, _⟩ := (mmD_own o9).2.shape
        subst f910_2
        unfold mmV
        have HO9 := hide o9
        have lz9 := HW.out.size
        have lz8 := b9.size
        clear o9
        replace GA := hide ((b9.block g9 (Array.getElem?_eq_some_iff.1 GA.out).1).trans GA.out)
        replace HW := hide (HW.out.trans (b9.mono HW.out.size))
        clear b9
        refine ⟨_, rfl, ?_⟩
        refine hK.out _ _ (HCL.out _ HW.out) (fun hHeld => ?_)
        clear hK K
        simp only [Act.put, List.setIfInBounds_toArray, List.set_cons_zero, List.set_cons_succ]
        refine wpAnyH_take (i := 6) (v := ?_) rfl (by kernel_rfl) (by kernel_rfl) (by kernel_rfl) (fun _ _ _ h => h) (Or.inl ⟨by rfl, ?_⟩) (by assumption) ?_
        rotate_left
        · intro w' hSw
          try dsimp only at hSw
          go_simp; try rfl
        simp only [List.getElem_toArray, List.getElem_cons_succ, List.getElem_cons_zero, Act.put, List.setIfInBounds_toArray, List.set_cons_zero, List.set_cons_succ]
        refine wpAnyH_take (i := 7) (v := ?_) rfl (by kernel_rfl) (by kernel_rfl) (by kernel_rfl) (fun _ _ _ h => h) (Or.inl ⟨by rfl, ?_⟩) (by assumption) ?_
        rotate_left
        · intro w' hSw
          try dsimp only at hSw
          go_simp; try rfl
        simp only [List.getElem_toArray, List.getElem_cons_succ, List.getElem_cons_zero, Act.put, List.setIfInBounds_toArray, List.set_cons_zero, List.set_cons_succ]
        refine wpAnyH_take (i := 8) (v := ?_) rfl (by kernel_rfl) (by kernel_rfl) (by kernel_rfl) (fun _ _ _ h => h) (Or.inl ⟨by rfl, ?_⟩) (by assumption) ?_
        rotate_left
        · intro w' hSw
          try dsimp only at hSw
          go_simp; try rfl
        simp only [List.getElem_toArray, List.getElem_cons_succ, List.getElem_cons_zero, Act.put, List.setIfInBounds_toArray, List.set_cons_zero, List.set_cons_succ]
        refine wpAnyH_ready (rs := [10]) (by kernel_rfl) (by simp) (AllReadyH.cons rfl (fun K hK => ?_) AllReadyH.nil)
        refine step_storeX (by kernel_rfl) (by kernel_rfl) 39 _ _ rfl g9 #[.slice p910_1 V0.o.length q910_1, .slice p910_2 V0.l.length q910_2] (by kernel_rfl) (by kernel_rfl) _ _ GA.out hi9 (by rfl) (by simp [Value.oneCell']) ?_
        have HM := hide (below_setRow HW.out ka9 #[.slice p910_1 V0.o.length q910_1, .slice p910_2 V0.l.length q910_2])
        refine hK.out _ _ (HCL.out _ HM.out) (fun hHeld => ?_)
        clear hK K
        try simp only [Act.put, List.setIfInBounds_toArray, List.set_cons_zero, List.set_cons_succ]
        have GB := hide (setRow_heap Z10 g9 _ #[.slice p910_1 V0.o.length q910_1, .slice p910_2 V0.l.length q910_2] _ _ GA.out)
        have OR := hide (OwnDL.setRowA HO9.out g9 #[.slice p910_1 V0.o.length q910_1, .slice p910_2 V0.l.length q910_2] (by omega))
        have zz9 : Z10.heap.size ≤ (Z10.setRow g9 #[.slice p910_1 V0.o.length q910_1, .slice p910_2 V0.l.length q910_2]).heap.size := by simp
        clear HO9
        clear HW GA
        generalize Z10.setRow g9 #[.slice p910_1 V0.o.length q910_1, .slice p910_2 V0.l.length q910_2] = Y11 at *
        refine wpAnyH_take (i := 11) (v := ?_) rfl (by kernel_rfl) (by kernel_rfl) (by kernel_rfl) (fun _ _ _ h => h) (Or.inl ⟨by rfl, ?_⟩) (by assumption) ?_
        rotate_left
        · intro w' hSw
          try dsimp only at hSw
          go_simp; try rfl
        simp only [List.getElem_toArray, List.getElem_cons_succ, List.getElem_cons_zero, Act.put, List.setIfInBounds_toArray, List.set_cons_zero, List.set_cons_succ]
        refine wpAnyH_done (by kernel_rfl) ?_ _
        go_wp2_with fail
        go_meet
        exact ⟨g9, _, _, _, _, _, _, rfl, rfl, GB, OR, by omega, by omega, by omega, by omega, by omega, by omega, HM⟩
    case rest =>
    obtain ⟨G13, a13_1, k13_1, a13_2, k13_2, l13, h13, rfl, rfl, X13, OX13, zl13, zm13, zh13, zg13, zb13, zc13, HQ9⟩ := hcut
    have b9 := HQ9.out
    clear HQ9 HCL HD
    replace E0 := hide ((b9.block _ (Array.getElem?_eq_some_iff.1 E0.out).1).trans E0.out)
    replace E1 := hide ((b9.block _ (Array.getElem?_eq_some_iff.1 E1.out).1).trans E1.out)
    replace X10 := hide ((b9.block _ (Array.getElem?_eq_some_iff.1 X10.out).1).trans X10.out)
    replace X12 := hide ((b9.block _ (Array.getElem?_eq_some_iff.1 X12.out).1).trans X12.out)
    replace OX10 := hide (OX10.out.below b9)
    replace O3 := hide (O3.out.below b9)
    have z6 := b9.size
    replace HB := hide (HB.out.trans (b9.mono HB.out.size))
    clear b9
    generalize wc = w5 at *
    have y0_0 := (box_of X13.out).1 0 _ rfl
    have y0_1 := (box_of X13.out).1 1 _ rfl
    have y1_0 := (box_of X10.out).1 0 _ rfl
    have y1_1 := (box_of X10.out).1 1 _ rfl
    go_wp2_with fail
    clear y0_0 y0_1 y1_0 y1_1
    refine (eqMm _ V0 _ _ _ _ (mmD_own OX13.out).1 (mmD_own OX13.out).2 (mmD_own OX10.out).1 (mmD_own OX10.out).2 HGV0.out).mono ?_
    rintro e w6 ⟨rfl, b9⟩
    replace E0 := hide ((b9.block _ (Array.getElem?_eq_some_iff.1 E0.out).1).trans E0.out)
    replace E1 := hide ((b9.block _ (Array.getElem?_eq_some_iff.1 E1.out).1).trans E1.out)
    replace X10 := hide ((b9.block _ (Array.getElem?_eq_some_iff.1 X10.out).1).trans X10.out)
    replace X12 := hide ((b9.block _ (Array.getElem?_eq_some_iff.1 X12.out).1).trans X12.out)
    replace X13 := hide ((b9.block _ (Array.getElem?_eq_some_iff.1 X13.out).1).trans X13.out)
    replace OX10 := hide (OX10.out.below b9)
    replace O3 := hide (O3.out.below b9)
    replace OX13 := hide (OX13.out.below b9)
    have z7 := b9.size
    replace HB := hide (HB.out.trans (b9.mono HB.out.size))
    clear b9
    go_upto_region 10 with fail
    have HCL : Hid (∀ w', Below w6.heap.size w6 w' → w'.cell? ⟨w3.heap.size, 0, none⟩ = some (.slice p3_1 m.o.length q3_1) ∧ w'.cell? ⟨w3.heap.size, 1, none⟩ = some (.slice p3_2 m.l.length q3_2) ∧ w'.cell? ⟨w.heap.size, 0, none⟩ = some (.slice am1 m.o.length cm1) ∧ w'.cell? ⟨w.heap.size, 1, none⟩ = some (.slice am2 m.l.length cm2)) := hide (fun w' hb => ⟨(box_of ((hb.block _ (Array.getElem?_eq_some_iff.1 X12.out).1).trans X12.out)).1 0 _ rfl, (box_of ((hb.block _ (Array.getElem?_eq_some_iff.1 X12.out).1).trans X12.out)).1 1 _ rfl, (box_of ((hb.block _ (Array.getElem?_eq_some_iff.1 E0.out).1).trans E0.out)).1 0 _ rfl, (box_of ((hb.block _ (Array.getElem?_eq_some_iff.1 E0.out).1).trans E0.out)).1 1 _ rfl⟩)
    have HD := hide (Below.refl w6.heap.size w6).drew
    go_cut [59] from 55 to 59 (fun s wq => s = .bool false ∧ Hid (Below w6.heap.size w6 wq))
    case first =>
      refine wp_region_held_drew (S := fun w' => w'.cell? ⟨w3.heap.size, 0, none⟩ = some (.slice p3_1 m.o.length q3_1) ∧ w'.cell? ⟨w3.heap.size, 1, none⟩ = some (.slice p3_2 m.l.length q3_2) ∧ w'.cell? ⟨w.heap.size, 0, none⟩ = some (.slice am1 m.o.length cm1) ∧ w'.cell? ⟨w.heap.size, 1, none⟩ = some (.slice am2 m.l.length cm2)) (by kernel_rfl) (HCL.out _ HD.out) (fun hHeld => ?_)
      have HW := HD
      clear HD
      generalize w6.drew = Z0 at *
      refine wpAnyH_take (i := 0) (v := .agg #[.slice p3_1 m.o.length q3_1, .slice p3_2 m.l.length q3_2]) rfl (by kernel_rfl) (by kernel_rfl) (by kernel_rfl) (fun _ _ _ h => h) (Or.inl ⟨by rfl, ?_⟩) (by assumption) ?_
      · intro w' hSw
        try dsimp only at hSw
        go_simp; try rfl
      simp only [List.getElem_toArray, List.getElem_cons_zero, Act.put, List.setIfInBounds_toArray, List.set_cons_zero, List.set_cons_succ]
      refine wpAnyH_take (i := 1) (v := .agg #[.slice am1 m.o.length cm1, .slice am2 m.l.length cm2]) rfl (by kernel_rfl) (by kernel_rfl) (by kernel_rfl) (fun _ _ _ h => h) (Or.inl ⟨by rfl, ?_⟩) (by assumption) ?_
      · intro w' hSw
        try dsimp only at hSw
        go_simp; try rfl
      simp only [List.getElem_toArray, List.getElem_cons_succ, List.getElem_cons_zero, Act.put, List.setIfInBounds_toArray, List.set_cons_zero, List.set_cons_succ]
      refine wpAnyH_ready (rs := [2]) (by kernel_rfl) (by simp) (AllReadyH.cons rfl (fun K hK => ?_) AllReadyH.nil)
      refine step_callW (some 57) (by kernel_rfl) (by kernel_rfl) 12 _ _ rfl #[.agg #[.slice am1 m.o.length cm1, .slice am2 m.l.length cm2]] (by kernel_rfl) (toMm _ m _ _ (Pm1.out.at (HB.out.trans (HW.out.mono HB.out.size))) (Pm2.out.at (HB.out.trans (HW.out.mono HB.out.size))) HGm.out) ?_
      rintro e Z1 ⟨n91_1, n91_2, rfl, o9, b9⟩
      obtain ⟨p91_1, q91_1, f91_1, _⟩ := (mmD_own o9).1.shape
      subst f91_1
      obtain ⟨p91_2, q91_2, f91_2, _⟩ := (mmD_own o9).2.shape
      subst f91_2
      have OH91 := hide o9
      clear o9
      unfold mmV
      replace HW := hide (HW.out.trans (b9.mono HW.out.size))
      clear b9
      refine ⟨_, rfl, ?_⟩
      refine hK.out _ _ (HCL.out _ HW.out) (fun hHeld => ?_)
      clear hK K
      simp only [Act.put, List.setIfInBounds_toArray, List.set_cons_zero, List.set_cons_succ]
      refine wpAnyH_ready (rs := [3]) (by kernel_rfl) (by simp) (AllReadyH.cons rfl (fun K hK => ?_) AllReadyH.nil)
      refine step_callW (some 58) (by kernel_rfl) (by kernel_rfl) 15 _ _ rfl #[.agg #[.slice p3_1 m.o.length q3_1, .slice p3_2 m.l.length q3_2], .agg #[.slice p91_1 m.o.length q91_1, .slice p91_2 m.l.length q91_2]] (by kernel_rfl) (eqMm _ m _ _ _ _ (mmD_own (O3.out.below HW.out)).1 (mmD_own (O3.out.below HW.out)).2 (mmD_own OH91.out).1 (mmD_own OH91.out).2 HGm.out) ?_
      rintro e Z2 ⟨rfl, b9⟩
      replace OH91 := hide (OH91.out.below b9)
      replace HW := hide (HW.out.trans (b9.mono HW.out.size))
      clear b9
      refine ⟨_, rfl, ?_⟩
      refine hK.out _ _ (HCL.out _ HW.out) (fun hHeld => ?_)
      clear hK K
      simp only [Act.put, List.setIfInBounds_toArray, List.set_cons_zero, List.set_cons_succ]
      refine wpAnyH_take (i := 4) (v := ?_) rfl (by kernel_rfl) (by kernel_rfl) (by kernel_rfl) (fun _ _ _ h => h) (Or.inl ⟨by rfl, ?_⟩) (by assumption) ?_
      rotate_left
      · intro w' hSw
        try dsimp only at hSw
        go_simp; try rfl
      simp only [List.getElem_toArray, List.getElem_cons_succ, List.getElem_cons_zero, Act.put, List.setIfInBounds_toArray, List.set_cons_zero, List.set_cons_succ]
      refine wpAnyH_done (by kernel_rfl) ?_ _
      go_wp2_with fail
      go_meet
      exact ⟨rfl, HW⟩
    case rest =>
    obtain ⟨rfl, HQ9⟩ := hcut
    have b9 := HQ9.out
    clear HQ9 HCL HD
    replace E0 := hide ((b9.block _ (Array.getElem?_eq_some_iff.1 E0.out).1).trans E0.out)
    replace E1 := hide ((b9.block _ (Array.getElem?_eq_some_iff.1 E1.out).1).trans E1.out)
    replace X10 := hide ((b9.block _ (Array.getElem?_eq_some_iff.1 X10.out).1).trans X10.out)
    replace X12 := hide ((b9.block _ (Array.getElem?_eq_some_iff.1 X12.out).1).trans X12.out)
    replace X13 := hide ((b9.block _ (Array.getElem?_eq_some_iff.1 X13.out).1).trans X13.out)
    replace OX10 := hide (OX10.out.below b9)
    replace O3 := hide (O3.out.below b9)
    replace OX13 := hide (OX13.out.below b9)
    have z8 := b9.size
    replace HB := hide (HB.out.trans (b9.mono HB.out.size))
    clear b9
    generalize wc = w7 at *
    have y0_0 := (box_of X12.out).1 0 _ rfl
    have y0_1 := (box_of X12.out).1 1 _ rfl
    go_wp2_with fail
    clear y0_0 y0_1
    have hct8 := mmCto_le m
    refine (mkMmI _ (w2.heap.size) (w3.heap.size) 1 _ (by first | rfl | omega) m _ _ O3.out (by omega) (by omega)).mono ?_
    rintro e w8 ⟨rfl, o9, c9⟩
    replace O3 := hide o9
    clear o9
    replace E0 := hide ((c9.block _ (Array.getElem?_eq_some_iff.1 E0.out).1 (by omega)).trans E0.out)
    replace E1 := hide ((c9.block _ (Array.getElem?_eq_some_iff.1 E1.out).1 (by omega)).trans E1.out)
    replace X10 := hide ((c9.block _ (Array.getElem?_eq_some_iff.1 X10.out).1 (by omega)).trans X10.out)
    replace X12 := hide ((c9.block _ (Array.getElem?_eq_some_iff.1 X12.out).1 (by omega)).trans X12.out)
    replace X13 := hide ((c9.block _ (Array.getElem?_eq_some_iff.1 X13.out).1 (by omega)).trans X13.out)
    replace OX10 := hide (OX10.out.apart c9 (by omega))
    replace OX13 := hide (OX13.out.apart c9 (by omega))
    have z9 := c9.size
    replace HB := hide (HB.out.trans (c9.below (by omega) HB.out.size))
    clear c9
    obtain ⟨K8, hk8⟩ : ∃ k, 1 + mmCto m = k := ⟨_, rfl⟩
    rw [hk8]
    have hkp8 : 0 < K8 := by omega
    have hkb8 : K8 ≤ 8388608 + 1 := by omega
    have hkn8 : ¬ ((K8 : Nat) : Int) < 0 := by omega
    clear hk8 hct8
    clear O3
    have y0_0 := (box_of X13.out).1 0 _ rfl
    have y0_1 := (box_of X13.out).1 1 _ rfl
    have y1_0 := (box_of X10.out).1 0 _ rfl
    have y1_1 := (box_of X10.out).1 1 _ rfl
    go_wp2_with fail
    clear y0_0 y0_1 y1_0 y1_1
    refine (eqMm _ V0 _ _ _ _ (mmD_own OX13.out).1 (mmD_own OX13.out).2 (mmD_own OX10.out).1 (mmD_own OX10.out).2 HGV0.out).mono ?_
    rintro e w9 ⟨rfl, b9⟩
    replace E0 := hide ((b9.block _ (Array.getElem?_eq_some_iff.1 E0.out).1).trans E0.out)
    replace E1 := hide ((b9.block _ (Array.getElem?_eq_some_iff.1 E1.out).1).trans E1.out)
    replace X10 := hide ((b9.block _ (Array.getElem?_eq_some_iff.1 X10.out).1).trans X10.out)
    replace X12 := hide ((b9.block _ (Array.getElem?_eq_some_iff.1 X12.out).1).trans X12.out)
    replace X13 := hide ((b9.block _ (Array.getElem?_eq_some_iff.1 X13.out).1).trans X13.out)
    replace OX10 := hide (OX10.out.below b9)
    replace OX13 := hide (OX13.out.below b9)
    have z10 := b9.size
    replace HB := hide (HB.out.trans (b9.mono HB.out.size))
    clear b9
    have y0_0 := (box_of X13.out).1 0 _ rfl
    have y0_1 := (box_of X13.out).1 1 _ rfl
    go_wp2_with fail
    clear y0_0 y0_1
    refine (mkMmI _ (l13) (h13) 1 _ (by first | rfl | omega) V0 _ _ OX13.out (by omega) (by omega)).mono ?_
    rintro e w10 ⟨rfl, o9, c9⟩
    replace OX13 := hide o9
    clear o9
    replace E0 := hide ((c9.block _ (Array.getElem?_eq_some_iff.1 E0.out).1 (by omega)).trans E0.out)
    replace E1 := hide ((c9.block _ (Array.getElem?_eq_some_iff.1 E1.out).1 (by omega)).trans E1.out)
    replace X10 := hide ((c9.block _ (Array.getElem?_eq_some_iff.1 X10.out).1 (by omega)).trans X10.out)
    replace X12 := hide ((c9.block _ (Array.getElem?_eq_some_iff.1 X12.out).1 (by omega)).trans X12.out)
    replace X13 := hide ((c9.block _ (Array.getElem?_eq_some_iff.1 X13.out).1 (by omega)).trans X13.out)
    replace OX10 := hide (OX10.out.apart c9 (by omega))
    have z11 := c9.size
    replace HB := hide (HB.out.trans (c9.below (by omega) HB.out.size))
    clear c9
    obtain ⟨K10, hk10⟩ : ∃ k, 1 + mmCto V0 = k := ⟨_, rfl⟩
    rw [hk10]
    have hkp10 : 0 < K10 := by omega
    have hkb10 : K10 ≤ 90000000 + 1 := by omega
    have hkn10 : ¬ ((K10 : Nat) : Int) < 0 := by omega
    have HMV0 := hide hk10
    have hmmV0 : (((K10 : Nat) : Int) != ((K10 : Nat) : Int)) = false := by simp
    clear hk10
    have y0_0 := (box_of X13.out).1 0 _ rfl
    have y0_1 := (box_of X13.out).1 1 _ rfl
    go_wp2_with fail
    clear y0_0 y0_1
    refine (heldMmO _ 1 _ (by first | rfl | omega) V0 _ _ (OX13.out.rd (Nat.le_refl _)) (by omega) (by omega)).mono ?_
    rintro e w11 ⟨rfl, b9⟩
    rw [HMV0.out]
    replace E0 := hide ((b9.block _ (Array.getElem?_eq_some_iff.1 E0.out).1).trans E0.out)
    replace E1 := hide ((b9.block _ (Array.getElem?_eq_some_iff.1 E1.out).1).trans E1.out)
    replace X10 := hide ((b9.block _ (Array.getElem?_eq_some_iff.1 X10.out).1).trans X10.out)
    replace X12 := hide ((b9.block _ (Array.getElem?_eq_some_iff.1 X12.out).1).trans X12.out)
    replace X13 := hide ((b9.block _ (Array.getElem?_eq_some_iff.1 X13.out).1).trans X13.out)
    replace OX10 := hide (OX10.out.below b9)
    replace OX13 := hide (OX13.out.below b9)
    have z12 := b9.size
    replace HB := hide (HB.out.trans (b9.mono HB.out.size))
    clear b9
    go_upto_region 24 with fail
    have HCL : Hid (∀ w', Below w11.heap.size w11 w' → w'.cell? ⟨w.heap.size, 0, none⟩ = some (.slice am1 m.o.length cm1) ∧ w'.cell? ⟨w.heap.size, 1, none⟩ = some (.slice am2 m.l.length cm2) ∧ w'.cell? ⟨w.heap.size + 1, 0, none⟩ = some (.bool v.r) ∧ w'.cell? ⟨w.heap.size + 1, 1, none⟩ = some (.int .i64 v.n)) := hide (fun w' hb => ⟨(box_of ((hb.block _ (Array.getElem?_eq_some_iff.1 E0.out).1).trans E0.out)).1 0 _ rfl, (box_of ((hb.block _ (Array.getElem?_eq_some_iff.1 E0.out).1).trans E0.out)).1 1 _ rfl, (box_of ((hb.block _ (Array.getElem?_eq_some_iff.1 E1.out).1).trans E1.out)).1 0 _ rfl, (box_of ((hb.block _ (Array.getElem?_eq_some_iff.1 E1.out).1).trans E1.out)).1 1 _ rfl⟩)
    have HD := hide (Below.refl w11.heap.size w11).drew
    go_cut [18, 19] from 87 to 96 (fun s18 s19 wq => ∃ g18 : Nat, ∃ (a18_1 : Option Addr) (k18_1 : Nat), ∃ (a18_2 : Option Addr) (k18_2 : Nat), ∃ l18 h18 : Nat, s18 = .pointer (some ⟨g18, 0, none⟩) ∧ s19 = .bool V1 ∧ Hid (wq.heap[g18]? = some (.cells #[.slice a18_1 V0.o.length k18_1, .slice a18_2 V0.l.length k18_2] 39 (0, 0))) ∧ Hid (OwnDL wq l18 h18 (mmD V0) [.slice a18_1 V0.o.length k18_1, .slice a18_2 V0.l.length k18_2]) ∧ w11.heap.size ≤ l18 ∧ l18 ≤ h18 ∧ h18 ≤ wq.heap.size ∧ (g18 < l18 ∨ h18 ≤ g18) ∧ w11.heap.size ≤ g18 ∧ g18 < wq.heap.size ∧ Hid (Below w11.heap.size w11 wq))
    case first =>
      have hi9 : ((Try.prog.info? 39).map (·.size)) = some 2 := by kernel_rfl
      refine wp_region_held_drew (S := fun w' => w'.cell? ⟨w.heap.size, 0, none⟩ = some (.slice am1 m.o.length cm1) ∧ w'.cell? ⟨w.heap.size, 1, none⟩ = some (.slice am2 m.l.length cm2) ∧ w'.cell? ⟨w.heap.size + 1, 0, none⟩ = some (.bool v.r) ∧ w'.cell? ⟨w.heap.size + 1, 1, none⟩ = some (.int .i64 v.n)) (by kernel_rfl) (HCL.out _ HD.out) (fun hHeld => ?_)
      have HW := HD
      clear HD
      generalize w11.drew = Z0 at *
      refine wpAnyH_take (i := 0) (v := .agg #[.slice am1 m.o.length cm1, .slice am2 m.l.length cm2]) rfl (by kernel_rfl) (by kernel_rfl) (by kernel_rfl) (fun _ _ _ h => h) (Or.inl ⟨by rfl, ?_⟩) (by assumption) ?_
      · intro w' hSw
        try dsimp only at hSw
        go_simp; try rfl
      simp only [List.getElem_toArray, List.getElem_cons_zero, Act.put, List.setIfInBounds_toArray, List.set_cons_zero, List.set_cons_succ]
      refine wpAnyH_take (i := 2) (v := ?_) rfl (by kernel_rfl) (by kernel_rfl) (by kernel_rfl) (fun _ _ _ h => h) (Or.inl ⟨by rfl, ?_⟩) (by assumption) ?_
      rotate_left
      · intro w' hSw
        try dsimp only at hSw
        go_simp; try rfl
      simp only [List.getElem_toArray, List.getElem_cons_succ, List.getElem_cons_zero, Act.put, List.setIfInBounds_toArray, List.set_cons_zero, List.set_cons_succ]
      refine wpAnyH_take (i := 3) (v := ?_) rfl (by kernel_rfl) (by kernel_rfl) (by kernel_rfl) (fun _ _ _ h => h) (Or.inl ⟨by rfl, ?_⟩) (by assumption) ?_
      rotate_left
      · intro w' hSw
        try dsimp only at hSw
        go_simp; try rfl
      simp only [List.getElem_toArray, List.getElem_cons_succ, List.getElem_cons_zero, Act.put, List.setIfInBounds_toArray, List.set_cons_zero, List.set_cons_succ]
      refine wpAnyH_take (i := 4) (v := .agg #[.bool v.r, .int .i64 v.n]) rfl (by kernel_rfl) (by kernel_rfl) (by kernel_rfl) (fun _ _ _ h => h) (Or.inl ⟨by rfl, ?_⟩) (by assumption) ?_
      · intro w' hSw
        try dsimp only at hSw
        go_simp; try rfl
      simp only [List.getElem_toArray, List.getElem_cons_succ, List.getElem_cons_zero, Act.put, List.setIfInBounds_toArray, List.set_cons_zero, List.set_cons_succ]
      refine wpAnyH_ready (rs := [1, 10]) (by kernel_rfl) (by simp) (AllReadyH.cons rfl (fun K hK => ?_) (AllReadyH.cons rfl (fun K hK => ?_) AllReadyH.nil))
      · skip
        refine step_callW (some 89) (by kernel_rfl) (by kernel_rfl) 12 _ _ rfl #[.agg #[.slice am1 m.o.length cm1, .slice am2 m.l.length cm2]] (by kernel_rfl) (toMm _ m _ _ (Pm1.out.at (HB.out.trans (HW.out.mono HB.out.size))) (Pm2.out.at (HB.out.trans (HW.out.mono HB.out.size))) HGm.out) ?_
        rintro e Z1 ⟨n91_1, n91_2, rfl, o9, b9⟩
        obtain ⟨p91_1, q91_1, f91_1, _⟩ := (mmD_own o9).1.shape
        subst f91_1
        obtain ⟨p91_2, q91_2, f91_2, _⟩ := (mmD_own o9).2.shape
        subst f91_2
        have OH91 := hide o9
        clear o9
        unfold mmV
        replace HW := hide (HW.out.trans (b9.mono HW.out.size))
        clear b9
        refine ⟨_, rfl, ?_⟩
        refine hK.out _ _ (HCL.out _ HW.out) (fun hHeld => ?_)
        clear hK K
        simp only [Act.put, List.setIfInBounds_toArray, List.set_cons_zero, List.set_cons_succ]
        refine wpAnyH_ready (rs := [5, 10]) (by kernel_rfl) (by simp) (AllReadyH.cons rfl (fun K hK => ?_) (AllReadyH.cons rfl (fun K hK => ?_) AllReadyH.nil))
        · skip
          refine step_callW (some 93) (by kernel_rfl) (by kernel_rfl) 32 _ _ rfl #[.agg #[.bool v.r, .int .i64 v.n]] (by kernel_rfl) (toVl _ v) ?_
          rintro e Z2 ⟨rfl, b9⟩
          unfold vlV
          replace OH91 := hide (OH91.out.below b9)
          replace HW := hide (HW.out.trans (b9.mono HW.out.size))
          clear b9
          refine ⟨_, rfl, ?_⟩
          refine hK.out _ _ (HCL.out _ HW.out) (fun hHeld => ?_)
          clear hK K
          simp only [Act.put, List.setIfInBounds_toArray, List.set_cons_zero, List.set_cons_succ]
          refine wpAnyH_ready (rs := [6, 10]) (by kernel_rfl) (by simp) (AllReadyH.cons rfl (fun K hK => ?_) (AllReadyH.cons rfl (fun K hK => ?_) AllReadyH.nil))
          · skip
            refine step_callW (some 94) (by kernel_rfl) (by kernel_rfl) 33 _ _ rfl #[.agg #[.slice p91_1 m.o.length q91_1, .slice p91_2 m.l.length q91_2], .int .i64 q, .int .i64 p, .agg #[.bool v.r, .int .i64 v.n]] (by kernel_rfl) (writeI _ m _ _ q p v (mmD_own OH91.out).1 (mmD_own OH91.out).2 HGm.out) ?_
            rintro e Z3 ⟨n93_1, n93_2, rfl, o9, b9⟩
            rw [HV0.out] at o9 ⊢
            rw [HV1.out]
            obtain ⟨p93_1, q93_1, f93_1, _⟩ := (mmD_own o9).1.shape
            subst f93_1
            obtain ⟨p93_2, q93_2, f93_2, _⟩ := (mmD_own o9).2.shape
            subst f93_2
            unfold mmV
            have HO9 := hide o9
            have lz9 := HW.out.size
            have lz8 := b9.size
            clear o9
            clear OH91
            replace HW := hide (HW.out.trans (b9.mono HW.out.size))
            clear b9
            refine ⟨_, rfl, ?_⟩
            refine hK.out _ _ (HCL.out _ HW.out) (fun hHeld => ?_)
            clear hK K
            simp only [Act.put, List.setIfInBounds_toArray, List.set_cons_zero, List.set_cons_succ]
            refine wpAnyH_take (i := 7) (v := ?_) rfl (by kernel_rfl) (by kernel_rfl) (by kernel_rfl) (fun _ _ _ h => h) (Or.inl ⟨by rfl, ?_⟩) (by assumption) ?_
            rotate_left
            · intro w' hSw
              try dsimp only at hSw
              go_simp; try rfl
            simp only [List.getElem_toArray, List.getElem_cons_succ, List.getElem_cons_zero, Act.put, List.setIfInBounds_toArray, List.set_cons_zero, List.set_cons_succ]
            refine wpAnyH_take (i := 8) (v := ?_) rfl (by kernel_rfl) (by kernel_rfl) (by kernel_rfl) (fun _ _ _ h => h) (Or.inl ⟨by rfl, ?_⟩) (by assumption) ?_
            rotate_left
            · intro w' hSw
              try dsimp only at hSw
              go_simp; try rfl
            simp only [List.getElem_toArray, List.getElem_cons_succ, List.getElem_cons_zero, Act.put, List.setIfInBounds_toArray, List.set_cons_zero, List.set_cons_succ]
            refine wpAnyH_take (i := 9) (v := ?_) rfl (by kernel_rfl) (by kernel_rfl) (by kernel_rfl) (fun _ _ _ h => h) (Or.inl ⟨by rfl, ?_⟩) (by assumption) ?_
            rotate_left
            · intro w' hSw
              try dsimp only at hSw
              go_simp; try rfl
            simp only [List.getElem_toArray, List.getElem_cons_succ, List.getElem_cons_zero, Act.put, List.setIfInBounds_toArray, List.set_cons_zero, List.set_cons_succ]
            refine wpAnyH_ready (rs := [10]) (by kernel_rfl) (by simp) (AllReadyH.cons rfl (fun K hK => ?_) AllReadyH.nil)
            refine step_runX (some 18) (by kernel_rfl) (by kernel_rfl) (v := .pointer (some ⟨Z3.heap.size, 0, none⟩)) (w' := Z3.alloc (.cells #[.slice none 0 0, .slice none 0 0] 39)) (by go_simp; try rfl) ?_
            have HN := hide (HW.out.alloc HW.out.size (.cells #[.slice none 0 0, .slice none 0 0] 39))
            refine hK.out _ _ (HCL.out _ HN.out) (fun hHeld => ?_)
            clear hK K
            simp only [Act.put, List.setIfInBounds_toArray, List.set_cons_zero, List.set_cons_succ]
            have ka9 := HW.out.size
            have GA : Hid ((Z3.alloc (.cells #[.slice none 0 0, .slice none 0 0] 39)).heap[Z3.heap.size]? = some (.cells #[.slice none 0 0, .slice none 0 0] 39 (0, 0))) := hide (heap_alloc_new Z3 (.cells #[.slice none 0 0, .slice none 0 0] 39))
            have kz9 : Z3.heap.size < (Z3.alloc (.cells #[.slice none 0 0, .slice none 0 0] 39)).heap.size := by simp
            replace HO9 := hide (HO9.out.below ((Below.refl Z3.heap.size Z3).alloc (Nat.le_refl _) (.cells #[.slice none 0 0, .slice none 0 0] 39)))
            obtain ⟨g9, hg9⟩ : ∃ g, Z3.heap.size = g := ⟨_, rfl⟩
            rw [hg9] at GA ka9 kz9 ⊢
            have kg9 : Z3.heap.size ≤ g9 := Nat.le_of_eq hg9
            clear HW hg9
            have HW := HN
            clear HN
            generalize Z3.alloc (.cells #[.slice none 0 0, .slice none 0 0] 39) = Z4 at *
            refine wpAnyH_ready (rs := [11]) (by kernel_rfl) (by simp) (AllReadyH.cons rfl (fun K hK => ?_) AllReadyH.nil)
            refine step_storeX (by kernel_rfl) (by kernel_rfl) 39 _ _ rfl g9 #[.slice p93_1 V0.o.length q93_1, .slice p93_2 V0.l.length q93_2] (by kernel_rfl) (by kernel_rfl) _ _ GA.out hi9 (by rfl) (by simp [Value.oneCell']) ?_
            have HM := hide (below_setRow HW.out ka9 #[.slice p93_1 V0.o.length q93_1, .slice p93_2 V0.l.length q93_2])
            refine hK.out _ _ (HCL.out _ HM.out) (fun hHeld => ?_)
            clear hK K
            try simp only [Act.put, List.setIfInBounds_toArray, List.set_cons_zero, List.set_cons_succ]
            have GB := hide (setRow_heap Z4 g9 _ #[.slice p93_1 V0.o.length q93_1, .slice p93_2 V0.l.length q93_2] _ _ GA.out)
            have OR := hide (OwnDL.setRowA HO9.out g9 #[.slice p93_1 V0.o.length q93_1, .slice p93_2 V0.l.length q93_2] (by omega))
            have zz9 : Z4.heap.size ≤ (Z4.setRow g9 #[.slice p93_1 V0.o.length q93_1, .slice p93_2 V0.l.length q93_2]).heap.size := by simp
            clear HO9
            clear HW GA
            generalize Z4.setRow g9 #[.slice p93_1 V0.o.length q93_1, .slice p93_2 V0.l.length q93_2] = Y5 at *
            refine wpAnyH_take (i := 12) (v := ?_) rfl (by kernel_rfl) (by kernel_rfl) (by kernel_rfl) (fun _ _ _ h => h) (Or.inl ⟨by rfl, ?_⟩) (by assumption) ?_
            rotate_left
            · intro w' hSw
              try dsimp only at hSw
              go_simp; try rfl
            simp only [List.getElem_toArray, List.getElem_cons_succ, List.getElem_cons_zero, Act.put, List.setIfInBounds_toArray, List.set_cons_zero, List.set_cons_succ]
            refine wpAnyH_done (by kernel_rfl) ?_ _
            go_wp2_with fail
            go_meet
            exact ⟨g9, _, _, _, _, _, _, rfl, rfl, GB, OR, by omega, by omega, by omega, by omega, by omega, by omega, HM⟩
          · skip
            refine step_runX (some 18) (by kernel_rfl) (by kernel_rfl) (v := .pointer (some ⟨Z2.heap.size, 0, none⟩)) (w' := Z2.alloc (.cells #[.slice none 0 0, .slice none 0 0] 39)) (by go_simp; try rfl) ?_
            have HN := hide (HW.out.alloc HW.out.size (.cells #[.slice none 0 0, .slice none 0 0] 39))
            refine hK.out _ _ (HCL.out _ HN.out) (fun hHeld => ?_)
            clear hK K
            simp only [Act.put, List.setIfInBounds_toArray, List.set_cons_zero, List.set_cons_succ]
            have ka9 := HW.out.size
            have GA : Hid ((Z2.alloc (.cells #[.slice none 0 0, .slice none 0 0] 39)).heap[Z2.heap.size]? = some (.cells #[.slice none 0 0, .slice none 0 0] 39 (0, 0))) := hide (heap_alloc_new Z2 (.cells #[.slice none 0 0, .slice none 0 0] 39))
            have kz9 : Z2.heap.size < (Z2.alloc (.cells #[.slice none 0 0, .slice none 0 0] 39)).heap.size := by simp
            replace OH91 := hide (OH91.out.below ((Below.refl Z2.heap.size Z2).alloc (Nat.le_refl _) (.cells #[.slice none 0 0, .slice none 0 0] 39)))
            obtain ⟨g9, hg9⟩ : ∃ g, Z2.heap.size = g := ⟨_, rfl⟩
            rw [hg9] at GA ka9 kz9 ⊢
            have kg9 : Z2.heap.size ≤ g9 := Nat.le_of_eq hg9
            clear HW hg9
            have HW := HN
            clear HN
            generalize Z2.alloc (.cells #[.slice none 0 0, .slice none 0 0] 39) = Z6 at *
            refine wpAnyH_ready (rs := [6]) (by kernel_rfl) (by simp) (AllReadyH.cons rfl (fun K hK => ?_) AllReadyH.nil)
            refine step_callW (some 94) (by kernel_rfl) (by kernel_rfl) 33 _ _ rfl #[.agg #[.slice p91_1 m.o.length q91_1, .slice p91_2 m.l.length q91_2], .int .i64 q, .int .i64 p, .agg #[.bool v.r, .int .i64 v.n]] (by kernel_rfl) (writeI _ m _ _ q p v (mmD_own OH91.out).1 (mmD_own OH91.out).2 HGm.out) ?_
            rintro e Z7 ⟨n97_1, n97_2, rfl, o9, b9⟩
            rw [HV0.out] at o9 ⊢
            rw [HV1.out]
            obtain ⟨p97_1, q97_1, f97_1, _⟩ := (mmD_own o9).1.shape
            subst f97_1
            obtain ⟨p97_2, q97_2, f97_2, _⟩ := (mmD_own o9).2.shape
            subst f97_2
            unfold mmV
            have HO9 := hide o9
            have lz9 := HW.out.size
            have lz8 := b9.size
            clear o9
            clear OH91
            replace GA := hide ((b9.block g9 (Array.getElem?_eq_some_iff.1 GA.out).1).trans GA.out)
            replace HW := hide (HW.out.trans (b9.mono HW.out.size))
            clear b9
            refine ⟨_, rfl, ?_⟩
            refine hK.out _ _ (HCL.out _ HW.out) (fun hHeld => ?_)
            clear hK K
            simp only [Act.put, List.setIfInBounds_toArray, List.set_cons_zero, List.set_cons_succ]
            refine wpAnyH_take (i := 7) (v := ?_) rfl (by kernel_rfl) (by kernel_rfl) (by kernel_rfl) (fun _ _ _ h => h) (Or.inl ⟨by rfl, ?_⟩) (by assumption) ?_
            rotate_left
            · intro w' hSw
              try dsimp only at hSw
              go_simp; try rfl
            simp only [List.getElem_toArray, List.getElem_cons_succ, List.getElem_cons_zero, Act.put, List.setIfInBounds_toArray, List.set_cons_zero, List.set_cons_succ]
            refine wpAnyH_take (i := 8) (v := ?_) rfl (by kernel_rfl) (by kernel_rfl) (by kernel_rfl) (fun _ _ _ h => h) (Or.inl ⟨by rfl, ?_⟩) (by assumption) ?_
            rotate_left
            · intro w' hSw
              try dsimp only at hSw
              go_simp; try rfl
            simp only [List.getElem_toArray, List.getElem_cons_succ, List.getElem_cons_zero, Act.put, List.setIfInBounds_toArray, List.set_cons_zero, List.set_cons_succ]
            refine wpAnyH_take (i := 9) (v := ?_) rfl (by kernel_rfl) (by kernel_rfl) (by kernel_rfl) (fun _ _ _ h => h) (Or.inl ⟨by rfl, ?_⟩) (by assumption) ?_
            rotate_left
            · intro w' hSw
              try dsimp only at hSw
              go_simp; try rfl
            simp only [List.getElem_toArray, List.getElem_cons_succ, List.getElem_cons_zero, Act.put, List.setIfInBounds_toArray, List.set_cons_zero, List.set_cons_succ]
            refine wpAnyH_ready (rs := [11]) (by kernel_rfl) (by simp) (AllReadyH.cons rfl (fun K hK => ?_) AllReadyH.nil)
            refine step_storeX (by kernel_rfl) (by kernel_rfl) 39 _ _ rfl g9 #[.slice p97_1 V0.o.length q97_1, .slice p97_2 V0.l.length q97_2] (by kernel_rfl) (by kernel_rfl) _ _ GA.out hi9 (by rfl) (by simp [Value.oneCell']) ?_
            have HM := hide (below_setRow HW.out ka9 #[.slice p97_1 V0.o.length q97_1, .slice p97_2 V0.l.length q97_2])
            refine hK.out _ _ (HCL.out _ HM.out) (fun hHeld => ?_)
            clear hK K
            try simp only [Act.put, List.setIfInBounds_toArray, List.set_cons_zero, List.set_cons_succ]
            have GB := hide (setRow_heap Z7 g9 _ #[.slice p97_1 V0.o.length q97_1, .slice p97_2 V0.l.length q97_2] _ _ GA.out)
            have OR := hide (OwnDL.setRowA HO9.out g9 #[.slice p97_1 V0.o.length q97_1, .slice p97_2 V0.l.length q97_2] (by omega))
            have zz9 : Z7.heap.size ≤ (Z7.setRow g9 #[.slice p97_1 V0.o.length q97_1, .slice p97_2 V0.l.length q97_2]).heap.size := by simp
            clear HO9
            clear HW GA
            generalize Z7.setRow g9 #[.slice p97_1 V0.o.length q97_1, .slice p97_2 V0.l.length q97_2] = Y8 at *
            refine wpAnyH_take (i := 12) (v := ?_) rfl (by kernel_rfl) (by kernel_rfl) (by kernel_rfl) (fun _ _ _ h => h) (Or.inl ⟨by rfl, ?_⟩) (by assumption) ?_
            rotate_left
            · intro w' hSw
              try dsimp only at hSw
              go_simp; try rfl
            simp only [List.getElem_toArray, List.getElem_cons_succ, List.getElem_cons_zero, Act.put, List.setIfInBounds_toArray, List.set_cons_zero, List.set_cons_succ]
            refine wpAnyH_done (by kernel_rfl) ?_ _
            go_wp2_with fail
            go_meet
            exact ⟨g9, _, _, _, _, _, _, rfl, rfl, GB, OR, by omega, by omega, by omega, by omega, by omega, by omega, HM⟩
        · skip
          refine step_runX (some 18) (by kernel_rfl) (by kernel_rfl) (v := .pointer (some ⟨Z1.heap.size, 0, none⟩)) (w' := Z1.alloc (.cells #[.slice none 0 0, .slice none 0 0] 39)) (by go_simp; try rfl) ?_
          have HN := hide (HW.out.alloc HW.out.size (.cells #[.slice none 0 0, .slice none 0 0] 39))
          refine hK.out _ _ (HCL.out _ HN.out) (fun hHeld => ?_)
          clear hK K
          simp only [Act.put, List.setIfInBounds_toArray, List.set_cons_zero, List.set_cons_succ]
          have ka9 := HW.out.size
          have GA : Hid ((Z1.alloc (.cells #[.slice none 0 0, .slice none 0 0] 39)).heap[Z1.heap.size]? = some (.cells #[.slice none 0 0, .slice none 0 0] 39 (0, 0))) := hide (heap_alloc_new Z1 (.cells #[.slice none 0 0, .slice none 0 0] 39))
          have kz9 : Z1.heap.size < (Z1.alloc (.cells #[.slice none 0 0, .slice none 0 0] 39)).heap.size := by simp
          replace OH91 := hide (OH91.out.below ((Below.refl Z1.heap.size Z1).alloc (Nat.le_refl _) (.cells #[.slice none 0 0, .slice none 0 0] 39)))
          obtain ⟨g9, hg9⟩ : ∃ g, Z1.heap.size = g := ⟨_, rfl⟩
          rw [hg9] at GA ka9 kz9 ⊢
          have kg9 : Z1.heap.size ≤ g9 := Nat.le_of_eq hg9
          clear HW hg9
          have HW := HN
          clear HN
          generalize Z1.alloc (.cells #[.slice none 0 0, .slice none 0 0] 39) = Z9 at *
          refine wpAnyH_ready (rs := [5]) (by kernel_rfl) (by simp) (AllReadyH.cons rfl (fun K hK => ?_) AllReadyH.nil)
          refine step_callW (some 93) (by kernel_rfl) (by kernel_rfl) 32 _ _ rfl #[.agg #[.bool v.r, .int .i64 v.n]] (by kernel_rfl) (toVl _ v) ?_
          rintro e Z10 ⟨rfl, b9⟩
          unfold vlV
          replace OH91 := hide (OH91.out.below b9)
          replace GA := hide ((b9.block g9 (Array.getElem?_eq_some_iff.1 GA.out).1).trans GA.out)
          replace kz9 := Nat.lt_of_lt_of_le kz9 b9.size
          replace HW := hide (HW.out.trans (b9.mono HW.out.size))
          clear b9
          refine ⟨_, rfl, ?_⟩
          refine hK.out _ _ (HCL.out _ HW.out) (fun hHeld => ?_)
          clear hK K
          simp only [Act.put, List.setIfInBounds_toArray, List.set_cons_zero, List.set_cons_succ]
          refine wpAnyH_ready (rs := [6]) (by kernel_rfl) (by simp) (AllReadyH.cons rfl (fun K hK => ?_) AllReadyH.nil)
          refine step_callW (some 94) (by kernel_rfl) (by kernel_rfl) 33 _ _ rfl #[.agg #[.slice p91_1 m.o.length q91_1, .slice p91_2 m.l.length q91_2], .int .i64 q, .int .i64 p, .agg #[.bool v.r, .int .i64 v.n]] (by kernel_rfl) (writeI _ m _ _ q p v (mmD_own OH91.out).1 (mmD_own OH91.out).2 HGm.out) ?_
          rintro e Z11 ⟨n911_1, n911_2, rfl, o9, b9⟩
          rw [HV0.out] at o9 ⊢
          rw [HV1.out]
          obtain ⟨p911_1, q911_1, f911_1, _⟩ := (mmD_own o9).1.shape
          subst f911_1
          obtain ⟨p911_2, q911_2, f911_2, _⟩ := (mmD_own o9).2.shape
          subst f911_2
          unfold mmV
          have HO9 := hide o9
          have lz9 := HW.out.size
          have lz8 := b9.size
          clear o9
          clear OH91
          replace GA := hide ((b9.block g9 (Array.getElem?_eq_some_iff.1 GA.out).1).trans GA.out)
          replace HW := hide (HW.out.trans (b9.mono HW.out.size))
          clear b9
          refine ⟨_, rfl, ?_⟩
          refine hK.out _ _ (HCL.out _ HW.out) (fun hHeld => ?_)
          clear hK K
          simp only [Act.put, List.setIfInBounds_toArray, List.set_cons_zero, List.set_cons_succ]
          refine wpAnyH_take (i := 7) (v := ?_) rfl (by kernel_rfl) (by kernel_rfl) (by kernel_rfl) (fun _ _ _ h => h) (Or.inl ⟨by rfl, ?_⟩) (by assumption) ?_
          rotate_left
          · intro w' hSw
            try dsimp only at hSw
            go_simp; try rfl
          simp only [List.getElem_toArray, List.getElem_cons_succ, List.getElem_cons_zero, Act.put, List.setIfInBounds_toArray, List.set_cons_zero, List.set_cons_succ]
          refine wpAnyH_take (i := 8) (v := ?_) rfl (by kernel_rfl) (by kernel_rfl) (by kernel_rfl) (fun _ _ _ h => h) (Or.inl ⟨by rfl, ?_⟩) (by assumption) ?_
          rotate_left
          · intro w' hSw
            try dsimp only at hSw
            go_simp; try rfl
          simp only [List.getElem_toArray, List.getElem_cons_succ, List.getElem_cons_zero, Act.put, List.setIfInBounds_toArray, List.set_cons_zero, List.set_cons_succ]
          refine wpAnyH_take (i := 9) (v := ?_) rfl (by kernel_rfl) (by kernel_rfl) (by kernel_rfl) (fun _ _ _ h => h) (Or.inl ⟨by rfl, ?_⟩) (by assumption) ?_
          rotate_left
          · intro w' hSw
            try dsimp only at hSw
            go_simp; try rfl
          simp only [List.getElem_toArray, List.getElem_cons_succ, List.getElem_cons_zero, Act.put, List.setIfInBounds_toArray, List.set_cons_zero, List.set_cons_succ]
          refine wpAnyH_ready (rs := [11]) (by kernel_rfl) (by simp) (AllReadyH.cons rfl (fun K hK => ?_) AllReadyH.nil)
          refine step_storeX (by kernel_rfl) (by kernel_rfl) 39 _ _ rfl g9 #[.slice p911_1 V0.o.length q911_1, .slice p911_2 V0.l.length q911_2] (by kernel_rfl) (by kernel_rfl) _ _ GA.out hi9 (by rfl) (by simp [Value.oneCell']) ?_
          have HM := hide (below_setRow HW.out ka9 #[.slice p911_1 V0.o.length q911_1, .slice p911_2 V0.l.length q911_2])
          refine hK.out _ _ (HCL.out _ HM.out) (fun hHeld => ?_)
          clear hK K
          try simp only [Act.put, List.setIfInBounds_toArray, List.set_cons_zero, List.set_cons_succ]
          have GB := hide (setRow_heap Z11 g9 _ #[.slice p911_1 V0.o.length q911_1, .slice p911_2 V0.l.length q911_2] _ _ GA.out)
          have OR := hide (OwnDL.setRowA HO9.out g9 #[.slice p911_1 V0.o.length q911_1, .slice p911_2 V0.l.length q911_2] (by omega))
          have zz9 : Z11.heap.size ≤ (Z11.setRow g9 #[.slice p911_1 V0.o.length q911_1, .slice p911_2 V0.l.length q911_2]).heap.size := by simp
          clear HO9
          clear HW GA
          generalize Z11.setRow g9 #[.slice p911_1 V0.o.length q911_1, .slice p911_2 V0.l.length q911_2] = Y12 at *
          refine wpAnyH_take (i := 12) (v := ?_) rfl (by kernel_rfl) (by kernel_rfl) (by kernel_rfl) (fun _ _ _ h => h) (Or.inl ⟨by rfl, ?_⟩) (by assumption) ?_
          rotate_left
          · intro w' hSw
            try dsimp only at hSw
            go_simp; try rfl
          simp only [List.getElem_toArray, List.getElem_cons_succ, List.getElem_cons_zero, Act.put, List.setIfInBounds_toArray, List.set_cons_zero, List.set_cons_succ]
          refine wpAnyH_done (by kernel_rfl) ?_ _
          go_wp2_with fail
          go_meet
          exact ⟨g9, _, _, _, _, _, _, rfl, rfl, GB, OR, by omega, by omega, by omega, by omega, by omega, by omega, HM⟩
      · skip
        refine step_runX (some 18) (by kernel_rfl) (by kernel_rfl) (v := .pointer (some ⟨Z0.heap.size, 0, none⟩)) (w' := Z0.alloc (.cells #[.slice none 0 0, .slice none 0 0] 39)) (by go_simp; try rfl) ?_
        have HN := hide (HW.out.alloc HW.out.size (.cells #[.slice none 0 0, .slice none 0 0] 39))
        refine hK.out _ _ (HCL.out _ HN.out) (fun hHeld => ?_)
        clear hK K
        simp only [Act.put, List.setIfInBounds_toArray, List.set_cons_zero, List.set_cons_succ]
        have ka9 := HW.out.size
        have GA : Hid ((Z0.alloc (.cells #[.slice none 0 0, .slice none 0 0] 39)).heap[Z0.heap.size]? = some (.cells #[.slice none 0 0, .slice none 0 0] 39 (0, 0))) := hide (heap_alloc_new Z0 (.cells #[.slice none 0 0, .slice none 0 0] 39))
        have kz9 : Z0.heap.size < (Z0.alloc (.cells #[.slice none 0 0, .slice none 0 0] 39)).heap.size := by simp
        obtain ⟨g9, hg9⟩ : ∃ g, Z0.heap.size = g := ⟨_, rfl⟩
        rw [hg9] at GA ka9 kz9 ⊢
        have kg9 : Z0.heap.size ≤ g9 := Nat.le_of_eq hg9
        clear HW hg9
        have HW := HN
        clear HN
        generalize Z0.alloc (.cells #[.slice none 0 0, .slice none 0 0] 39) = Z13 at *
        refine wpAnyH_ready (rs := [1]) (by kernel_rfl) (by simp) (AllReadyH.cons rfl (fun K hK => ?_) AllReadyH.nil)
        refine step_callW (some 89) (by kernel_rfl) (by kernel_rfl) 12 _ _ rfl #[.agg #[.slice am1 m.o.length cm1, .slice am2 m.l.length cm2]] (by kernel_rfl) (toMm _ m _ _ (Pm1.out.at (HB.out.trans (HW.out.mono HB.out.size))) (Pm2.out.at (HB.out.trans (HW.out.mono HB.out.size))) HGm.out) ?_
        rintro e Z14 ⟨n914_1, n914_2, rfl, o9, b9⟩
        obtain ⟨p914_1, q914_1, f914_1, _⟩ := (mmD_own o9).1.shape
        subst f914_1
        obtain ⟨p914_2, q914_2, f914_2, _⟩ := (mmD_own o9).2.shape
        subst f914_2
        have OH914 := hide o9
        clear o9
        unfold mmV
        replace GA := hide ((b9.block g9 (Array.getElem?_eq_some_iff.1 GA.out).1).trans GA.out)
        replace kz9 := Nat.lt_of_lt_of_le kz9 b9.size
        replace HW := hide (HW.out.trans (b9.mono HW.out.size))
        clear b9
        refine ⟨_, rfl, ?_⟩
        refine hK.out _ _ (HCL.out _ HW.out) (fun hHeld => ?_)
        clear hK K
        simp only [Act.put, List.setIfInBounds_toArray, List.set_cons_zero, List.set_cons_succ]
        refine wpAnyH_ready (rs := [5]) (by kernel_rfl) (by simp) (AllReadyH.cons rfl (fun K hK => ?_) AllReadyH.nil)
        refine step_callW (some 93) (by kernel_rfl) (by kernel_rfl) 32 _ _ rfl #[.agg #[.bool v.r, .int .i64 v.n]] (by kernel_rfl) (toVl _ v) ?_
        rintro e Z15 ⟨rfl, b9⟩
        unfold vlV
        replace OH914 := hide (OH914.out.below b9)
        replace GA := hide ((b9.block g9 (Array.getElem?_eq_some_iff.1 GA.out).1).trans GA.out)
        replace kz9 := Nat.lt_of_lt_of_le kz9 b9.size
        replace HW := hide (HW.out.trans (b9.mono HW.out.size))
        clear b9
        refine ⟨_, rfl, ?_⟩
        refine hK.out _ _ (HCL.out _ HW.out) (fun hHeld => ?_)
        clear hK K
        simp only [Act.put, List.setIfInBounds_toArray, List.set_cons_zero, List.set_cons_succ]
        refine wpAnyH_ready (rs := [6]) (by kernel_rfl) (by simp) (AllReadyH.cons rfl (fun K hK => ?_) AllReadyH.nil)
        refine step_callW (some 94) (by kernel_rfl) (by kernel_rfl) 33 _ _ rfl #[.agg #[.slice p914_1 m.o.length q914_1, .slice p914_2 m.l.length q914_2], .int .i64 q, .int .i64 p, .agg #[.bool v.r, .int .i64 v.n]] (by kernel_rfl) (writeI _ m _ _ q p v (mmD_own OH914.out).1 (mmD_own OH914.out).2 HGm.out) ?_
        rintro e Z16 ⟨n916_1, n916_2, rfl, o9, b9⟩
        rw [HV0.out] at o9 ⊢
        rw [HV1.out]
        obtain ⟨p916_1, q916_1, f916_1, _⟩ := (mmD_own o9).1.shape
        subst f916_1
        obtain ⟨p916_2, q916_2, f916_2, _⟩ := (mmD_own o9).2.shape
        subst f916_2
        unfold mmV
        have HO9 := hide o9
        have lz9 := HW.out.size
        have lz8 := b9.size
        clear o9
        clear OH914
        replace GA := hide ((b9.block g9 (Array.getElem?_eq_some_iff.1 GA.out).1).trans GA.out)
        replace HW := hide (HW.out.trans (b9.mono HW.out.size))
        clear b9
        refine ⟨_, rfl, ?_⟩
        refine hK.out _ _ (HCL.out _ HW.out) (fun hHeld => ?_)
        clear hK K
        simp only [Act.put, List.setIfInBounds_toArray, List.set_cons_zero, List.set_cons_succ]
        refine wpAnyH_take (i := 7) (v := ?_) rfl (by kernel_rfl) (by kernel_rfl) (by kernel_rfl) (fun _ _ _ h => h) (Or.inl ⟨by rfl, ?_⟩) (by assumption) ?_
        rotate_left
        · intro w' hSw
          try dsimp only at hSw
          go_simp; try rfl
        simp only [List.getElem_toArray, List.getElem_cons_succ, List.getElem_cons_zero, Act.put, List.setIfInBounds_toArray, List.set_cons_zero, List.set_cons_succ]
        refine wpAnyH_take (i := 8) (v := ?_) rfl (by kernel_rfl) (by kernel_rfl) (by kernel_rfl) (fun _ _ _ h => h) (Or.inl ⟨by rfl, ?_⟩) (by assumption) ?_
        rotate_left
        · intro w' hSw
          try dsimp only at hSw
          go_simp; try rfl
        simp only [List.getElem_toArray, List.getElem_cons_succ, List.getElem_cons_zero, Act.put, List.setIfInBounds_toArray, List.set_cons_zero, List.set_cons_succ]
        refine wpAnyH_take (i := 9) (v := ?_) rfl (by kernel_rfl) (by kernel_rfl) (by kernel_rfl) (fun _ _ _ h => h) (Or.inl ⟨by rfl, ?_⟩) (by assumption) ?_
        rotate_left
        · intro w' hSw
          try dsimp only at hSw
          go_simp; try rfl
        simp only [List.getElem_toArray, List.getElem_cons_succ, List.getElem_cons_zero, Act.put, List.setIfInBounds_toArray, List.set_cons_zero, List.set_cons_succ]
        refine wpAnyH_ready (rs := [11]) (by kernel_rfl) (by simp) (AllReadyH.cons rfl (fun K hK => ?_) AllReadyH.nil)
        refine step_storeX (by kernel_rfl) (by kernel_rfl) 39 _ _ rfl g9 #[.slice p916_1 V0.o.length q916_1, .slice p916_2 V0.l.length q916_2] (by kernel_rfl) (by kernel_rfl) _ _ GA.out hi9 (by rfl) (by simp [Value.oneCell']) ?_
        have HM := hide (below_setRow HW.out ka9 #[.slice p916_1 V0.o.length q916_1, .slice p916_2 V0.l.length q916_2])
        refine hK.out _ _ (HCL.out _ HM.out) (fun hHeld => ?_)
        clear hK K
        try simp only [Act.put, List.setIfInBounds_toArray, List.set_cons_zero, List.set_cons_succ]
        have GB := hide (setRow_heap Z16 g9 _ #[.slice p916_1 V0.o.length q916_1, .slice p916_2 V0.l.length q916_2] _ _ GA.out)
        have OR := hide (OwnDL.setRowA HO9.out g9 #[.slice p916_1 V0.o.length q916_1, .slice p916_2 V0.l.length q916_2] (by omega))
        have zz9 : Z16.heap.size ≤ (Z16.setRow g9 #[.slice p916_1 V0.o.length q916_1, .slice p916_2 V0.l.length q916_2]).heap.size := by simp
        clear HO9
        clear HW GA
        generalize Z16.setRow g9 #[.slice p916_1 V0.o.length q916_1, .slice p916_2 V0.l.length q916_2] = Y17 at *
        refine wpAnyH_take (i := 12) (v := ?_) rfl (by kernel_rfl) (by kernel_rfl) (by kernel_rfl) (fun _ _ _ h => h) (Or.inl ⟨by rfl, ?_⟩) (by assumption) ?_
        rotate_left
        · intro w' hSw
          try dsimp only at hSw
          go_simp; try rfl
        simp only [List.getElem_toArray, List.getElem_cons_succ, List.getElem_cons_zero, Act.put, List.setIfInBounds_toArray, List.set_cons_zero, List.set_cons_succ]
        refine wpAnyH_done (by kernel_rfl) ?_ _
        go_wp2_with fail
        go_meet
        exact ⟨g9, _, _, _, _, _, _, rfl, rfl, GB, OR, by omega, by omega, by omega, by omega, by omega, by omega, HM⟩
    case rest =>
    obtain ⟨G18, a18_1, k18_1, a18_2, k18_2, l18, h18, rfl, rfl, X18, OX18, zl18, zm18, zh18, zg18, zb18, zc18, HQ9⟩ := hcut
    have b9 := HQ9.out
    clear HQ9 HCL HD
    replace E0 := hide ((b9.block _ (Array.getElem?_eq_some_iff.1 E0.out).1).trans E0.out)
    replace E1 := hide ((b9.block _ (Array.getElem?_eq_some_iff.1 E1.out).1).trans E1.out)
    replace X10 := hide ((b9.block _ (Array.getElem?_eq_some_iff.1 X10.out).1).trans X10.out)
    replace X12 := hide ((b9.block _ (Array.getElem?_eq_some_iff.1 X12.out).1).trans X12.out)
    replace X13 := hide ((b9.block _ (Array.getElem?_eq_some_iff.1 X13.out).1).trans X13.out)
    replace OX10 := hide (OX10.out.below b9)
    replace OX13 := hide (OX13.out.below b9)
    have z13 := b9.size
    replace HB := hide (HB.out.trans (b9.mono HB.out.size))
    clear b9
    generalize wc = w12 at *
    have y0_0 := (box_of X18.out).1 0 _ rfl
    have y0_1 := (box_of X18.out).1 1 _ rfl
    have y1_0 := (box_of X10.out).1 0 _ rfl
    have y1_1 := (box_of X10.out).1 1 _ rfl
    go_wp2_with fail
    clear y0_0 y0_1 y1_0 y1_1
    refine (eqMm _ V0 _ _ _ _ (mmD_own OX18.out).1 (mmD_own OX18.out).2 (mmD_own OX10.out).1 (mmD_own OX10.out).2 HGV0.out).mono ?_
    rintro e w13 ⟨rfl, b9⟩
    replace E0 := hide ((b9.block _ (Array.getElem?_eq_some_iff.1 E0.out).1).trans E0.out)
    replace E1 := hide ((b9.block _ (Array.getElem?_eq_some_iff.1 E1.out).1).trans E1.out)
    replace X10 := hide ((b9.block _ (Array.getElem?_eq_some_iff.1 X10.out).1).trans X10.out)
    replace X12 := hide ((b9.block _ (Array.getElem?_eq_some_iff.1 X12.out).1).trans X12.out)
    replace X13 := hide ((b9.block _ (Array.getElem?_eq_some_iff.1 X13.out).1).trans X13.out)
    replace X18 := hide ((b9.block _ (Array.getElem?_eq_some_iff.1 X18.out).1).trans X18.out)
    replace OX10 := hide (OX10.out.below b9)
    replace OX13 := hide (OX13.out.below b9)
    replace OX18 := hide (OX18.out.below b9)
    have z14 := b9.size
    replace HB := hide (HB.out.trans (b9.mono HB.out.size))
    clear b9
    have y0_0 := (box_of X13.out).1 0 _ rfl
    have y0_1 := (box_of X13.out).1 1 _ rfl
    go_wp2_with fail
    clear y0_0 y0_1
    refine (heldMmO _ 1 _ (by first | rfl | omega) V0 _ _ (OX13.out.rd (Nat.le_refl _)) (by omega) (by omega)).mono ?_
    rintro e w14 ⟨rfl, b9⟩
    rw [HMV0.out]
    replace E0 := hide ((b9.block _ (Array.getElem?_eq_some_iff.1 E0.out).1).trans E0.out)
    replace E1 := hide ((b9.block _ (Array.getElem?_eq_some_iff.1 E1.out).1).trans E1.out)
    replace X10 := hide ((b9.block _ (Array.getElem?_eq_some_iff.1 X10.out).1).trans X10.out)
    replace X12 := hide ((b9.block _ (Array.getElem?_eq_some_iff.1 X12.out).1).trans X12.out)
    replace X13 := hide ((b9.block _ (Array.getElem?_eq_some_iff.1 X13.out).1).trans X13.out)
    replace X18 := hide ((b9.block _ (Array.getElem?_eq_some_iff.1 X18.out).1).trans X18.out)
    replace OX10 := hide (OX10.out.below b9)
    replace OX13 := hide (OX13.out.below b9)
    replace OX18 := hide (OX18.out.below b9)
    have z15 := b9.size
    replace HB := hide (HB.out.trans (b9.mono HB.out.size))
    clear b9
    go_wp2
    go_ret
    exact ⟨rfl, HB.out⟩

set_option maxRecDepth 100000 in
theorem lifted (os : Os) (started : os.Started) (H : Type) (enc : TypeId × Value → H) :
    ReturnsInHanded {} Try.checked os 7 .any (Rows.fnExactWriteSpec.pre6 enc Try.prog Try.f7 Rows.fnExactWriteRow.domain false) (Rows.fnExactWriteSpec.post enc Try.prog Try.f7 false true false false) := by
  refine returnsInHanded_of_change (C := Try.checked) own started (by kernel_rfl) Try.func7
    (ChangeSpec.witness6 (enc := enc) (C := Try.checked) false ⟨#[], #[.agg #[.slice none 0 0, .slice none 0 0], .int .i64 0, .int .i64 0, .agg #[.bool false, .int .i64 0]], []⟩ 8 (by kernel_rfl) (by kernel_rfl) (by kernel_rfl) (by kernel_rfl)) ?_
  intro W base args ds gs before hval0 hW hcnd _
  have hval : ∀ (j : Nat) t v, Try.f7.params[j]? = some t → args[j]? = some v → Value.okWide Try.prog W .any base t v := hval0
  have hW' := hW
  obtain ⟨p, q, hA0, hV, rfl, hfz, hnd⟩ := hW
  have hA : DataW.TrodAll enc Try.prog W 0 (fun _ => true) true Try.f7.params.toList args.toList ds p := hA0
  rw [Try.params7] at hA hval
  obtain ⟨v0, vs0, d0, ds0, p0, q0, hargs, rfl, rfl, h0, r0⟩ := trodAll_cons hA
  obtain ⟨v1, vs1, d1, ds1, p1, q1, rfl, rfl, rfl, h1, r1⟩ := trodAll_cons r0
  obtain ⟨v2, vs2, d2, ds2, p2, q2, rfl, rfl, rfl, h2, r2⟩ := trodAll_cons r1
  obtain ⟨v3, vs3, d3, ds3, p3, q3, rfl, rfl, rfl, h3, r3⟩ := trodAll_cons r2
  obtain ⟨rfl, rfl, rfl⟩ := trodAll_nil r3
  obtain rfl : args = #[v0, v1, v2, v3] := by cases args; simp_all
  obtain ⟨rfl, rfl⟩ := trodVars_none hV
  have k0 := h0
  have lt0 : ∀ x ∈ p0, x.block < W.heap.size := by obtain ⟨m, hm⟩ := k0; exact DataW.trod_lt m _ _ _ hm
  have w0 := openMm (hval 0 28 v0 rfl rfl) h0
  obtain ⟨a1, rfl, rfl, rfl, w1⟩ := open_int Try.underlying3 (hval 1 3 v1 rfl rfl) h1
  obtain ⟨a2, rfl, rfl, rfl, w2⟩ := open_int Try.underlying3 (hval 2 3 v2 rfl rfl) h2
  have k3 := h3
  have lt3 : ∀ x ∈ p3, x.block < W.heap.size := by obtain ⟨m, hm⟩ := k3; exact DataW.trod_lt m _ _ _ hm
  have w3 := openVl (hval 3 64 v3 rfl rfl) h3
  clear hA0 hval0
  refine (walk v0 a1 a2 v3 W w0 (bounds_i64 w1) (bounds_i64 w2) w3).mono fun e W' ⟨he, bel⟩ => ?_
  subst he
  exact ⟨_, rfl, _, _, _, [], _, [], hW', trodAll_mk1 (shut_bool Try.underlying4 _), (trodAll_cons_mk (Below.trod laidOut (by kernel_rfl) (of_decide_eq_true (by kernel_rfl)) k0 bel lt0) (trodAll_cons_mk (shut_int Try.underlying3 w1) (trodAll_cons_mk (shut_int Try.underlying3 w2) (trodAll_cons_mk (Below.trod laidOut (by kernel_rfl) (of_decide_eq_true (by kernel_rfl)) k3 bel lt3) trodAll_mk0)))), rfl, bel.frame _, fun h => by cases h⟩

theorem over : Rows.fnExactWriteRow.holds Try.pinned (OpenSpec.ofChange Rows.fnExactWriteSpec) :=
  OpenClaim.holds_of_wide 7 Try.f7 rfl rfl rfl rfl rfl rfl rfl ⟨rfl, rfl, rfl, rfl, rfl⟩ rfl rfl rfl rfl rfl (by kernel_rfl) Try.func7 (by kernel_rfl)
    (of_decide_eq_true (by kernel_rfl)) (by unfold Func.isWrapper; first | (rw [if_pos (by decide +kernel)]; kernel_rfl) | (rw [if_neg (by decide +kernel)]; exact ⟨rfl, rfl⟩))
    (fun os started H enc _ => lifted os started H enc)

end Go.Proofs.Ythlaihkpffddcaa.fnExactWrite
namespace Go.Proofs.Ythlaihkpffddcaa
theorem fnExactWrite_holds : Rows.FnExactWriteSaid := fnExactWrite.over
#print axioms fnExactWrite_holds
end Go.Proofs.Ythlaihkpffddcaa
