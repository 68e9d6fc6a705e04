/-
  Proved: at every argument the program's Make answers as its model does, writes into no argument, and its answer owns its memory (the law FnExactMake returns true), without any condition.
-/
import Derived.Test.YtelpdlhgjepgbaaGreatRows
import Derived.Test.YtelpdlhgjepgbaaGreatJ14
import Derived.Test.YtelpdlhgjepgbaaGreatJ17
import Derived.Test.YtelpdlhgjepgbaaGreatJ19
import Derived.Test.YtelpdlhgjepgbaaGreatJ20
import Derived.Test.YtelpdlhgjepgbaaGreatKMakS
import Derived.Test.YtelpdlhgjepgbaaGreatKMakI
import Derived.Test.YtelpdlhgjepgbaaGreatJ22
import Derived.Deep.CutRange
import Derived.Deep.RegionWith
import Derived.Deep.RegionHeld
import Derived.BigRegion
import Derived.WalkKit
import Derived.ProofKit
import Derived.OpenShut
import Derived.ShutString
import Derived.ChangeOld
import Derived.Below
namespace Go.Proofs.YtelpdlhgjepgbaaGreat.fnExactMake
open Go.ChangeShapes Go.WideShapes Go.ChangeAt Go.RowKit
open Go.ChangeMaps (open_string shut_string)
set_option linter.unusedVariables false

theorem own : ownKnob Tryz.prog.godebug = none := by kernel_rfl
theorem laidOut : laidOutB Tryz.prog = true := by kernel_rfl
set_option maxRecDepth 100000 in
set_option maxHeartbeats 8000000 in
theorem walk (v0 : Value) (v1 : Value) (q : Int) (c : Int) (w : World) (h0 : IsPg w v0) (h1 : IsMm w v1) (_hq : -9223372036854775808 ≤ q ∧ q ≤ 9223372036854775807) (_hc : -9223372036854775808 ≤ c ∧ c ≤ 9223372036854775807) :
    Calls Tryz.prog 3 #[v0, v1, .int .i64 q, .int .i64 c] w fun e w' => e = .returned (.bool true) ∧ Below w.heap.size w w' := by
  obtain ⟨x, ux1, rfl, gx1, rx⟩ := h0
  obtain ⟨ax1, cx1, ex1, _⟩ := gx1.shape
  subst ex1
  have Px1 := hide gx1
  have Rx := hide rx
  clear rx gx1
  obtain ⟨m, um1, um2, rfl, gm1, gm2, rm⟩ := h1
  obtain ⟨am1, cm1, em1, _⟩ := gm1.shape
  obtain ⟨am2, cm2, em2, _⟩ := gm2.shape
  subst em1 em2
  have Pm1 := hide gm1
  have Pm2 := hide gm2
  have Rm := hide rm
  clear rm gm1 gm2
  have bA := (((Below.refl w.heap.size w).alloc (Nat.le_refl _) (.cells #[.slice ax1 x.k.length cx1] 24)).alloc (by simp) (.cells #[.slice am1 m.o.length cm1, .slice am2 m.l.length cm2] 28))
  have G0 := heap_alloc_new w (.cells #[.slice ax1 x.k.length cx1] 24)
  have G1 := heap_alloc_new (w.alloc (.cells #[.slice ax1 x.k.length cx1] 24)) (.cells #[.slice am1 m.o.length cm1, .slice am2 m.l.length cm2] 28)
  simp only [World.size_alloc] at G1
  have E0 := hide ((Below.heap_alloc _ (.cells #[.slice am1 m.o.length cm1, .slice am2 m.l.length cm2] 28) _ (by simp)).trans (G0))
  have E1 := hide (G1)
  have HB := hide bA
  clear bA G0 G1
  obtain ⟨V0, hV0⟩ : ∃ V, makeX x m q c = V := ⟨_, rfl⟩
  have HV0 := hide hV0
  clear hV0
  obtain ⟨V1, hV1⟩ : ∃ V, okM x m q c = V := ⟨_, rfl⟩
  have HV1 := hide hV1
  clear hV1
  have hne1 : (V1 != V1) = false := by simp
  unfold pgV mmV
  go_enter Tryz.func3, Tryz.ntmps3
  go_wp2_with fail
  generalize ((w.alloc (.cells #[.slice ax1 x.k.length cx1] 24)).alloc (.cells #[.slice am1 m.o.length cm1, .slice am2 m.l.length cm2] 28)) = W at *
  refine (szPg _ x _ _ (Px1.out.at HB.out) (by omega) (by omega) Rx.out).mono ?_
  rintro e w1 ⟨rfl, b9⟩
  replace E0 := hide ((b9.block _ (Array.getElem?_eq_some_iff.1 E0.out).1).trans E0.out)
  replace E1 := hide ((b9.block _ (Array.getElem?_eq_some_iff.1 E1.out).1).trans E1.out)
  have z1 := b9.size
  replace HB := hide (HB.out.trans (b9.mono HB.out.size))
  clear b9
  by_cases hmx : (1048576 : Int) < (pgW x : Int)
  · rw [szR_neg hmx]
    go_wp2
    go_ret
    exact ⟨rfl, HB.out⟩
  · skip
    rw [szR_pos hmx]
    have hwx : pgW x ≤ 1048576 := by omega
    have HGx := hide (pgG_of Rx.out (by omega))
    have hnx : ¬ (1048576 : Int) - (pgW x : Int) < 0 := by omega
    have hqx : (1048576 : Int) - (pgW x : Int) ≤ 1048576 := by omega
    have hTx : (1048576 : Int) - (pgW x : Int) + ((pgW x : Int) : Int) ≤ 1048576 := by omega
    generalize (1048576 : Int) - (pgW x : Int) = mx at *
    clear hmx
    have y0_0 := (box_of E1.out).1 0 _ rfl
    have y0_1 := (box_of E1.out).1 1 _ rfl
    go_wp2_with fail
    clear y0_0 y0_1
    refine (szMm _ m _ _ _ (Pm1.out.at HB.out) (Pm2.out.at HB.out) (by omega) (by omega) Rm.out).mono ?_
    rintro e w2 ⟨rfl, b9⟩
    replace E0 := hide ((b9.block _ (Array.getElem?_eq_some_iff.1 E0.out).1).trans E0.out)
    replace E1 := hide ((b9.block _ (Array.getElem?_eq_some_iff.1 E1.out).1).trans E1.out)
    have z2 := b9.size
    replace HB := hide (HB.out.trans (b9.mono HB.out.size))
    clear b9
    by_cases hmm : (mx : Int) < (mmW m : Int)
    · rw [szR_neg hmm]
      go_wp2
      go_ret
      exact ⟨rfl, HB.out⟩
    · skip
      rw [szR_pos hmm]
      have hwm : mmW m ≤ 1048576 := by omega
      have HGm := hide (mmG_of Rm.out (by omega))
      have hnm : ¬ (mx : Int) - (mmW m : Int) < 0 := by omega
      have hqm : (mx : Int) - (mmW m : Int) ≤ 1048576 := by omega
      have hTm : (mx : Int) - (mmW m : Int) + ((mmW m : Int) + (pgW x : Int) : Int) ≤ 1048576 := by omega
      generalize (mx : Int) - (mmW m : Int) = mm at *
      clear hmm
      have HGV0 := hide (HV0.out ▸ makeX_ok HGx.out.k HGm.out _hc _hq (by omega))
      have hcV0 : mmCto V0 ≤ 90000000 := by
        have h1 := mmCto_le V0
        have h2 := makeX_w x m q c
        rw [HV0.out] at h2
        omega
      have hz0 : w.heap.size + 2 ≤ w2.heap.size := by
        have hh := (Array.getElem?_eq_some_iff.1 E1.out).1
        omega
      go_upto_region 8 with fail
      have HCL : Hid (∀ w', Below w2.heap.size w2 w' → w'.cell? ⟨w.heap.size, 0, none⟩ = some (.slice ax1 x.k.length cx1) ∧ w'.cell? ⟨w.heap.size + 1, 0, none⟩ = some (.slice am1 m.o.length cm1) ∧ w'.cell? ⟨w.heap.size + 1, 1, none⟩ = some (.slice am2 m.l.length cm2)) := hide (fun w' hb => ⟨(box_of ((hb.block _ (Array.getElem?_eq_some_iff.1 E0.out).1).trans E0.out)).1 0 _ rfl, (box_of ((hb.block _ (Array.getElem?_eq_some_iff.1 E1.out).1).trans E1.out)).1 0 _ rfl, (box_of ((hb.block _ (Array.getElem?_eq_some_iff.1 E1.out).1).trans E1.out)).1 1 _ rfl⟩)
      have HD := hide (Below.refl w2.heap.size w2).drew
      go_cut [10, 11] from 31 to 40 (fun s10 s11 wq => ∃ g10 : Nat, ∃ (a10_1 : Option Addr) (k10_1 : Nat), ∃ (a10_2 : Option Addr) (k10_2 : Nat), ∃ l10 h10 : Nat, s10 = .pointer (some ⟨g10, 0, none⟩) ∧ s11 = .bool V1 ∧ Hid (wq.heap[g10]? = some (.cells #[.slice a10_1 V0.o.length k10_1, .slice a10_2 V0.l.length k10_2] 34 (0, 0))) ∧ Hid (OwnDL wq l10 h10 (mmD V0) [.slice a10_1 V0.o.length k10_1, .slice a10_2 V0.l.length k10_2]) ∧ w2.heap.size ≤ l10 ∧ l10 ≤ h10 ∧ h10 ≤ wq.heap.size ∧ (g10 < l10 ∨ h10 ≤ g10) ∧ w2.heap.size ≤ g10 ∧ g10 < wq.heap.size ∧ Hid (Below w2.heap.size w2 wq))
      case first =>
        have hi9 : ((Tryz.prog.info? 34).map (·.size)) = some 2 := by kernel_rfl
        refine wp_region_held_drew (S := fun w' => w'.cell? ⟨w.heap.size, 0, none⟩ = some (.slice ax1 x.k.length cx1) ∧ w'.cell? ⟨w.heap.size + 1, 0, none⟩ = some (.slice am1 m.o.length cm1) ∧ w'.cell? ⟨w.heap.size + 1, 1, none⟩ = some (.slice am2 m.l.length cm2)) (by kernel_rfl) (HCL.out _ HD.out) (fun hHeld => ?_)
        have HW := HD
        clear HD
        generalize w2.drew = Z0 at *
        refine wpAnyH_take (i := 0) (v := .agg #[.slice ax1 x.k.length cx1]) rfl (by kernel_rfl) (by kernel_rfl) (by kernel_rfl) (fun _ _ _ h => h) (Or.inl ⟨by rfl, ?_⟩) (by assumption) ?_
        · intro w' hSw
          try dsimp only at hSw
          go_simp; try rfl
        simp only [List.getElem_toArray, List.getElem_cons_zero, Act.put, List.setIfInBounds_toArray, List.set_cons_zero, List.set_cons_succ]
        refine wpAnyH_take (i := 2) (v := .agg #[.slice am1 m.o.length cm1, .slice am2 m.l.length cm2]) rfl (by kernel_rfl) (by kernel_rfl) (by kernel_rfl) (fun _ _ _ h => h) (Or.inl ⟨by rfl, ?_⟩) (by assumption) ?_
        · intro w' hSw
          try dsimp only at hSw
          go_simp; try rfl
        simp only [List.getElem_toArray, List.getElem_cons_succ, List.getElem_cons_zero, Act.put, List.setIfInBounds_toArray, List.set_cons_zero, List.set_cons_succ]
        refine wpAnyH_take (i := 4) (v := ?_) rfl (by kernel_rfl) (by kernel_rfl) (by kernel_rfl) (fun _ _ _ h => h) (Or.inl ⟨by rfl, ?_⟩) (by assumption) ?_
        rotate_left
        · intro w' hSw
          try dsimp only at hSw
          go_simp; try rfl
        simp only [List.getElem_toArray, List.getElem_cons_succ, List.getElem_cons_zero, Act.put, List.setIfInBounds_toArray, List.set_cons_zero, List.set_cons_succ]
        refine wpAnyH_take (i := 5) (v := ?_) rfl (by kernel_rfl) (by kernel_rfl) (by kernel_rfl) (fun _ _ _ h => h) (Or.inl ⟨by rfl, ?_⟩) (by assumption) ?_
        rotate_left
        · intro w' hSw
          try dsimp only at hSw
          go_simp; try rfl
        simp only [List.getElem_toArray, List.getElem_cons_succ, List.getElem_cons_zero, Act.put, List.setIfInBounds_toArray, List.set_cons_zero, List.set_cons_succ]
        refine wpAnyH_ready (rs := [1, 10]) (by kernel_rfl) (by simp) (AllReadyH.cons rfl (fun K hK => ?_) (AllReadyH.cons rfl (fun K hK => ?_) AllReadyH.nil))
        · skip
          refine step_callW (some 33) (by kernel_rfl) (by kernel_rfl) 7 _ _ rfl #[.agg #[.slice ax1 x.k.length cx1]] (by kernel_rfl) (toPg _ x _ (Px1.out.at (HB.out.trans (HW.out.mono HB.out.size))) HGx.out) ?_
          rintro e Z1 ⟨n91_1, rfl, o9, b9⟩
          obtain ⟨p91_1, q91_1, f91_1, _⟩ := (pgD_own o9).shape
          subst f91_1
          have OH91 := hide o9
          clear o9
          unfold pgV
          replace HW := hide (HW.out.trans (b9.mono HW.out.size))
          clear b9
          refine ⟨_, rfl, ?_⟩
          refine hK.out _ _ (HCL.out _ HW.out) (fun hHeld => ?_)
          clear hK K
          simp only [Act.put, List.setIfInBounds_toArray, List.set_cons_zero, List.set_cons_succ]
          refine wpAnyH_ready (rs := [3, 10]) (by kernel_rfl) (by simp) (AllReadyH.cons rfl (fun K hK => ?_) (AllReadyH.cons rfl (fun K hK => ?_) AllReadyH.nil))
          · skip
            refine step_callW (some 35) (by kernel_rfl) (by kernel_rfl) 8 _ _ rfl #[.agg #[.slice am1 m.o.length cm1, .slice am2 m.l.length cm2]] (by kernel_rfl) (toMm _ m _ _ (Pm1.out.at (HB.out.trans (HW.out.mono HB.out.size))) (Pm2.out.at (HB.out.trans (HW.out.mono HB.out.size))) HGm.out) ?_
            rintro e Z2 ⟨n92_1, n92_2, rfl, o9, b9⟩
            obtain ⟨p92_1, q92_1, f92_1, _⟩ := (mmD_own o9).1.shape
            subst f92_1
            obtain ⟨p92_2, q92_2, f92_2, _⟩ := (mmD_own o9).2.shape
            subst f92_2
            have OH92 := hide o9
            clear o9
            unfold mmV
            replace OH91 := hide (OH91.out.below b9)
            replace HW := hide (HW.out.trans (b9.mono HW.out.size))
            clear b9
            refine ⟨_, rfl, ?_⟩
            refine hK.out _ _ (HCL.out _ HW.out) (fun hHeld => ?_)
            clear hK K
            simp only [Act.put, List.setIfInBounds_toArray, List.set_cons_zero, List.set_cons_succ]
            refine wpAnyH_ready (rs := [6, 10]) (by kernel_rfl) (by simp) (AllReadyH.cons rfl (fun K hK => ?_) (AllReadyH.cons rfl (fun K hK => ?_) AllReadyH.nil))
            · skip
              refine step_callW (some 38) (by kernel_rfl) (by kernel_rfl) 6 _ _ rfl #[.agg #[.slice p91_1 x.k.length q91_1], .agg #[.slice p92_1 m.o.length q92_1, .slice p92_2 m.l.length q92_2], .int .i64 q, .int .i64 c] (by kernel_rfl) (makeS _ x m _ _ _ q c (pgD_own OH91.out) (mmD_own OH92.out).1 (mmD_own OH92.out).2 HGx.out.k HGm.out) ?_
              rintro e Z3 ⟨n93_1, n93_2, rfl, o9, b9⟩
              rw [HV0.out] at o9 ⊢
              rw [HV1.out]
              obtain ⟨p93_1, q93_1, f93_1, _⟩ := (mmD_own o9).1.shape
              subst f93_1
              obtain ⟨p93_2, q93_2, f93_2, _⟩ := (mmD_own o9).2.shape
              subst f93_2
              unfold mmV
              have HO9 := hide o9
              have lz9 := HW.out.size
              have lz8 := b9.size
              clear o9
              clear OH91
              clear OH92
              replace HW := hide (HW.out.trans (b9.mono HW.out.size))
              clear b9
              refine ⟨_, rfl, ?_⟩
              refine hK.out _ _ (HCL.out _ HW.out) (fun hHeld => ?_)
              clear hK K
              simp only [Act.put, List.setIfInBounds_toArray, List.set_cons_zero, List.set_cons_succ]
              refine wpAnyH_take (i := 7) (v := ?_) rfl (by kernel_rfl) (by kernel_rfl) (by kernel_rfl) (fun _ _ _ h => h) (Or.inl ⟨by rfl, ?_⟩) (by assumption) ?_
              rotate_left
              · intro w' hSw
                try dsimp only at hSw
                go_simp; try rfl
              simp only [List.getElem_toArray, List.getElem_cons_succ, List.getElem_cons_zero, Act.put, List.setIfInBounds_toArray, List.set_cons_zero, List.set_cons_succ]
              refine wpAnyH_take (i := 8) (v := ?_) rfl (by kernel_rfl) (by kernel_rfl) (by kernel_rfl) (fun _ _ _ h => h) (Or.inl ⟨by rfl, ?_⟩) (by assumption) ?_
              rotate_left
              · intro w' hSw
                try dsimp only at hSw
                go_simp; try rfl
              simp only [List.getElem_toArray, List.getElem_cons_succ, List.getElem_cons_zero, Act.put, List.setIfInBounds_toArray, List.set_cons_zero, List.set_cons_succ]
              refine wpAnyH_take (i := 9) (v := ?_) rfl (by kernel_rfl) (by kernel_rfl) (by kernel_rfl) (fun _ _ _ h => h) (Or.inl ⟨by rfl, ?_⟩) (by assumption) ?_
              rotate_left
              · intro w' hSw
                try dsimp only at hSw
                go_simp; try rfl
              simp only [List.getElem_toArray, List.getElem_cons_succ, List.getElem_cons_zero, Act.put, List.setIfInBounds_toArray, List.set_cons_zero, List.set_cons_succ]
              refine wpAnyH_ready (rs := [10]) (by kernel_rfl) (by simp) (AllReadyH.cons rfl (fun K hK => ?_) AllReadyH.nil)
              refine step_runX (some 10) (by kernel_rfl) (by kernel_rfl) (v := .pointer (some ⟨Z3.heap.size, 0, none⟩)) (w' := Z3.alloc (.cells #[.slice none 0 0, .slice none 0 0] 34)) (by go_simp; try rfl) ?_
              have HN := hide (HW.out.alloc HW.out.size (.cells #[.slice none 0 0, .slice none 0 0] 34))
              refine hK.out _ _ (HCL.out _ HN.out) (fun hHeld => ?_)
              clear hK K
              simp only [Act.put, List.setIfInBounds_toArray, List.set_cons_zero, List.set_cons_succ]
              have ka9 := HW.out.size
              have GA : Hid ((Z3.alloc (.cells #[.slice none 0 0, .slice none 0 0] 34)).heap[Z3.heap.size]? = some (.cells #[.slice none 0 0, .slice none 0 0] 34 (0, 0))) := hide (heap_alloc_new Z3 (.cells #[.slice none 0 0, .slice none 0 0] 34))
              have kz9 : Z3.heap.size < (Z3.alloc (.cells #[.slice none 0 0, .slice none 0 0] 34)).heap.size := by simp
              replace HO9 := hide (HO9.out.below ((Below.refl Z3.heap.size Z3).alloc (Nat.le_refl _) (.cells #[.slice none 0 0, .slice none 0 0] 34)))
              obtain ⟨g9, hg9⟩ : ∃ g, Z3.heap.size = g := ⟨_, rfl⟩
              rw [hg9] at GA ka9 kz9 ⊢
              have kg9 : Z3.heap.size ≤ g9 := Nat.le_of_eq hg9
              clear HW hg9
              have HW := HN
              clear HN
              generalize Z3.alloc (.cells #[.slice none 0 0, .slice none 0 0] 34) = Z4 at *
              refine wpAnyH_ready (rs := [11]) (by kernel_rfl) (by simp) (AllReadyH.cons rfl (fun K hK => ?_) AllReadyH.nil)
              refine step_storeX (by kernel_rfl) (by kernel_rfl) 34 _ _ rfl g9 #[.slice p93_1 V0.o.length q93_1, .slice p93_2 V0.l.length q93_2] (by kernel_rfl) (by kernel_rfl) _ _ GA.out hi9 (by rfl) (by simp [Value.oneCell']) ?_
              have HM := hide (below_setRow HW.out ka9 #[.slice p93_1 V0.o.length q93_1, .slice p93_2 V0.l.length q93_2])
              refine hK.out _ _ (HCL.out _ HM.out) (fun hHeld => ?_)
              clear hK K
              try simp only [Act.put, List.setIfInBounds_toArray, List.set_cons_zero, List.set_cons_succ]
              have GB := hide (setRow_heap Z4 g9 _ #[.slice p93_1 V0.o.length q93_1, .slice p93_2 V0.l.length q93_2] _ _ GA.out)
              have OR := hide (OwnDL.setRowA HO9.out g9 #[.slice p93_1 V0.o.length q93_1, .slice p93_2 V0.l.length q93_2] (by omega))
              have zz9 : Z4.heap.size ≤ (Z4.setRow g9 #[.slice p93_1 V0.o.length q93_1, .slice p93_2 V0.l.length q93_2]).heap.size := by simp
              clear HO9
              clear HW GA
              generalize Z4.setRow g9 #[.slice p93_1 V0.o.length q93_1, .slice p93_2 V0.l.length q93_2] = Y5 at *
              refine wpAnyH_take (i := 12) (v := ?_) rfl (by kernel_rfl) (by kernel_rfl) (by kernel_rfl) (fun _ _ _ h => h) (Or.inl ⟨by rfl, ?_⟩) (by assumption) ?_
              rotate_left
              · intro w' hSw
                try dsimp only at hSw
                go_simp; try rfl
              simp only [List.getElem_toArray, List.getElem_cons_succ, List.getElem_cons_zero, Act.put, List.setIfInBounds_toArray, List.set_cons_zero, List.set_cons_succ]
              refine wpAnyH_done (by kernel_rfl) ?_ _
              go_wp2_with fail
              go_meet
              exact ⟨g9, _, _, _, _, _, _, rfl, rfl, GB, OR, by omega, by omega, by omega, by omega, by omega, by omega, HM⟩
            · skip
              refine step_runX (some 10) (by kernel_rfl) (by kernel_rfl) (v := .pointer (some ⟨Z2.heap.size, 0, none⟩)) (w' := Z2.alloc (.cells #[.slice none 0 0, .slice none 0 0] 34)) (by go_simp; try rfl) ?_
              have HN := hide (HW.out.alloc HW.out.size (.cells #[.slice none 0 0, .slice none 0 0] 34))
              refine hK.out _ _ (HCL.out _ HN.out) (fun hHeld => ?_)
              clear hK K
              simp only [Act.put, List.setIfInBounds_toArray, List.set_cons_zero, List.set_cons_succ]
              have ka9 := HW.out.size
              have GA : Hid ((Z2.alloc (.cells #[.slice none 0 0, .slice none 0 0] 34)).heap[Z2.heap.size]? = some (.cells #[.slice none 0 0, .slice none 0 0] 34 (0, 0))) := hide (heap_alloc_new Z2 (.cells #[.slice none 0 0, .slice none 0 0] 34))
              have kz9 : Z2.heap.size < (Z2.alloc (.cells #[.slice none 0 0, .slice none 0 0] 34)).heap.size := by simp
              replace OH91 := hide (OH91.out.below ((Below.refl Z2.heap.size Z2).alloc (Nat.le_refl _) (.cells #[.slice none 0 0, .slice none 0 0] 34)))
              replace OH92 := hide (OH92.out.below ((Below.refl Z2.heap.size Z2).alloc (Nat.le_refl _) (.cells #[.slice none 0 0, .slice none 0 0] 34)))
              obtain ⟨g9, hg9⟩ : ∃ g, Z2.heap.size = g := ⟨_, rfl⟩
              rw [hg9] at GA ka9 kz9 ⊢
              have kg9 : Z2.heap.size ≤ g9 := Nat.le_of_eq hg9
              clear HW hg9
              have HW := HN
              clear HN
              generalize Z2.alloc (.cells #[.slice none 0 0, .slice none 0 0] 34) = Z6 at *
              refine wpAnyH_ready (rs := [6]) (by kernel_rfl) (by simp) (AllReadyH.cons rfl (fun K hK => ?_) AllReadyH.nil)
              refine step_callW (some 38) (by kernel_rfl) (by kernel_rfl) 6 _ _ rfl #[.agg #[.slice p91_1 x.k.length q91_1], .agg #[.slice p92_1 m.o.length q92_1, .slice p92_2 m.l.length q92_2], .int .i64 q, .int .i64 c] (by kernel_rfl) (makeS _ x m _ _ _ q c (pgD_own OH91.out) (mmD_own OH92.out).1 (mmD_own OH92.out).2 HGx.out.k HGm.out) ?_
              rintro e Z7 ⟨n97_1, n97_2, rfl, o9, b9⟩
              rw [HV0.out] at o9 ⊢
              rw [HV1.out]
              obtain ⟨p97_1, q97_1, f97_1, _⟩ := (mmD_own o9).1.shape
              subst f97_1
              obtain ⟨p97_2, q97_2, f97_2, _⟩ := (mmD_own o9).2.shape
              subst f97_2
              unfold mmV
              have HO9 := hide o9
              have lz9 := HW.out.size
              have lz8 := b9.size
              clear o9
              clear OH91
              clear OH92
              replace GA := hide ((b9.block g9 (Array.getElem?_eq_some_iff.1 GA.out).1).trans GA.out)
              replace HW := hide (HW.out.trans (b9.mono HW.out.size))
              clear b9
              refine ⟨_, rfl, ?_⟩
              refine hK.out _ _ (HCL.out _ HW.out) (fun hHeld => ?_)
              clear hK K
              simp only [Act.put, List.setIfInBounds_toArray, List.set_cons_zero, List.set_cons_succ]
              refine wpAnyH_take (i := 7) (v := ?_) rfl (by kernel_rfl) (by kernel_rfl) (by kernel_rfl) (fun _ _ _ h => h) (Or.inl ⟨by rfl, ?_⟩) (by assumption) ?_
              rotate_left
              · intro w' hSw
                try dsimp only at hSw
                go_simp; try rfl
              simp only [List.getElem_toArray, List.getElem_cons_succ, List.getElem_cons_zero, Act.put, List.setIfInBounds_toArray, List.set_cons_zero, List.set_cons_succ]
              refine wpAnyH_take (i := 8) (v := ?_) rfl (by kernel_rfl) (by kernel_rfl) (by kernel_rfl) (fun _ _ _ h => h) (Or.inl ⟨by rfl, ?_⟩) (by assumption) ?_
              rotate_left
              · intro w' hSw
                try dsimp only at hSw
                go_simp; try rfl
              simp only [List.getElem_toArray, List.getElem_cons_succ, List.getElem_cons_zero, Act.put, List.setIfInBounds_toArray, List.set_cons_zero, List.set_cons_succ]
              refine wpAnyH_take (i := 9) (v := ?_) rfl (by kernel_rfl) (by kernel_rfl) (by kernel_rfl) (fun _ _ _ h => h) (Or.inl ⟨by rfl, ?_⟩) (by assumption) ?_
              rotate_left
              · intro w' hSw
                try dsimp only at hSw
                go_simp; try rfl
              simp only [List.getElem_toArray, List.getElem_cons_succ, List.getElem_cons_zero, Act.put, List.setIfInBounds_toArray, List.set_cons_zero, List.set_cons_succ]
              refine wpAnyH_ready (rs := [11]) (by kernel_rfl) (by simp) (AllReadyH.cons rfl (fun K hK => ?_) AllReadyH.nil)
              refine step_storeX (by kernel_rfl) (by kernel_rfl) 34 _ _ rfl g9 #[.slice p97_1 V0.o.length q97_1, .slice p97_2 V0.l.length q97_2] (by kernel_rfl) (by kernel_rfl) _ _ GA.out hi9 (by rfl) (by simp [Value.oneCell']) ?_
              have HM := hide (below_setRow HW.out ka9 #[.slice p97_1 V0.o.length q97_1, .slice p97_2 V0.l.length q97_2])
              refine hK.out _ _ (HCL.out _ HM.out) (fun hHeld => ?_)
              clear hK K
              try simp only [Act.put, List.setIfInBounds_toArray, List.set_cons_zero, List.set_cons_succ]
              have GB := hide (setRow_heap Z7 g9 _ #[.slice p97_1 V0.o.length q97_1, .slice p97_2 V0.l.length q97_2] _ _ GA.out)
              have OR := hide (OwnDL.setRowA HO9.out g9 #[.slice p97_1 V0.o.length q97_1, .slice p97_2 V0.l.length q97_2] (by omega))
              have zz9 : Z7.heap.size ≤ (Z7.setRow g9 #[.slice p97_1 V0.o.length q97_1, .slice p97_2 V0.l.length q97_2]).heap.size := by simp
              clear HO9
              clear HW GA
              generalize Z7.setRow g9 #[.slice p97_1 V0.o.length q97_1, .slice p97_2 V0.l.length q97_2] = Y8 at *
              refine wpAnyH_take (i := 12) (v := ?_) rfl (by kernel_rfl) (by kernel_rfl) (by kernel_rfl) (fun _ _ _ h => h) (Or.inl ⟨by rfl, ?_⟩) (by assumption) ?_
              rotate_left
              · intro w' hSw
                try dsimp only at hSw
                go_simp; try rfl
              simp only [List.getElem_toArray, List.getElem_cons_succ, List.getElem_cons_zero, Act.put, List.setIfInBounds_toArray, List.set_cons_zero, List.set_cons_succ]
              refine wpAnyH_done (by kernel_rfl) ?_ _
              go_wp2_with fail
              go_meet
              exact ⟨g9, _, _, _, _, _, _, rfl, rfl, GB, OR, by omega, by omega, by omega, by omega, by omega, by omega, HM⟩
          · skip
            refine step_runX (some 10) (by kernel_rfl) (by kernel_rfl) (v := .pointer (some ⟨Z1.heap.size, 0, none⟩)) (w' := Z1.alloc (.cells #[.slice none 0 0, .slice none 0 0] 34)) (by go_simp; try rfl) ?_
            have HN := hide (HW.out.alloc HW.out.size (.cells #[.slice none 0 0, .slice none 0 0] 34))
            refine hK.out _ _ (HCL.out _ HN.out) (fun hHeld => ?_)
            clear hK K
            simp only [Act.put, List.setIfInBounds_toArray, List.set_cons_zero, List.set_cons_succ]
            have ka9 := HW.out.size
            have GA : Hid ((Z1.alloc (.cells #[.slice none 0 0, .slice none 0 0] 34)).heap[Z1.heap.size]? = some (.cells #[.slice none 0 0, .slice none 0 0] 34 (0, 0))) := hide (heap_alloc_new Z1 (.cells #[.slice none 0 0, .slice none 0 0] 34))
            have kz9 : Z1.heap.size < (Z1.alloc (.cells #[.slice none 0 0, .slice none 0 0] 34)).heap.size := by simp
            replace OH91 := hide (OH91.out.below ((Below.refl Z1.heap.size Z1).alloc (Nat.le_refl _) (.cells #[.slice none 0 0, .slice none 0 0] 34)))
            obtain ⟨g9, hg9⟩ : ∃ g, Z1.heap.size = g := ⟨_, rfl⟩
            rw [hg9] at GA ka9 kz9 ⊢
            have kg9 : Z1.heap.size ≤ g9 := Nat.le_of_eq hg9
            clear HW hg9
            have HW := HN
            clear HN
            generalize Z1.alloc (.cells #[.slice none 0 0, .slice none 0 0] 34) = Z9 at *
            refine wpAnyH_ready (rs := [3]) (by kernel_rfl) (by simp) (AllReadyH.cons rfl (fun K hK => ?_) AllReadyH.nil)
            refine step_callW (some 35) (by kernel_rfl) (by kernel_rfl) 8 _ _ rfl #[.agg #[.slice am1 m.o.length cm1, .slice am2 m.l.length cm2]] (by kernel_rfl) (toMm _ m _ _ (Pm1.out.at (HB.out.trans (HW.out.mono HB.out.size))) (Pm2.out.at (HB.out.trans (HW.out.mono HB.out.size))) HGm.out) ?_
            rintro e Z10 ⟨n910_1, n910_2, rfl, o9, b9⟩
            obtain ⟨p910_1, q910_1, f910_1, _⟩ := (mmD_own o9).1.shape
            subst f910_1
            obtain ⟨p910_2, q910_2, f910_2, _⟩ := (mmD_own o9).2.shape
            subst f910_2
            have OH910 := hide o9
            clear o9
            unfold mmV
            replace OH91 := hide (OH91.out.below b9)
            replace GA := hide ((b9.block g9 (Array.getElem?_eq_some_iff.1 GA.out).1).trans GA.out)
            replace kz9 := Nat.lt_of_lt_of_le kz9 b9.size
            replace HW := hide (HW.out.trans (b9.mono HW.out.size))
            clear b9
            refine ⟨_, rfl, ?_⟩
            refine hK.out _ _ (HCL.out _ HW.out) (fun hHeld => ?_)
            clear hK K
            simp only [Act.put, List.setIfInBounds_toArray, List.set_cons_zero, List.set_cons_succ]
            refine wpAnyH_ready (rs := [6]) (by kernel_rfl) (by simp) (AllReadyH.cons rfl (fun K hK => ?_) AllReadyH.nil)
            refine step_callW (some 38) (by kernel_rfl) (by kernel_rfl) 6 _ _ rfl #[.agg #[.slice p91_1 x.k.length q91_1], .agg #[.slice p910_1 m.o.length q910_1, .slice p910_2 m.l.length q910_2], .int .i64 q, .int .i64 c] (by kernel_rfl) (makeS _ x m _ _ _ q c (pgD_own OH91.out) (mmD_own OH910.out).1 (mmD_own OH910.out).2 HGx.out.k HGm.out) ?_
            rintro e Z11 ⟨n911_1, n911_2, rfl, o9, b9⟩
            rw [HV0.out] at o9 ⊢
            rw [HV1.out]
            obtain ⟨p911_1, q911_1, f911_1, _⟩ := (mmD_own o9).1.shape
            subst f911_1
            obtain ⟨p911_2, q911_2, f911_2, _⟩ := (mmD_own o9).2.shape
            subst f911_2
            unfold mmV
            have HO9 := hide o9
            have lz9 := HW.out.size
            have lz8 := b9.size
            clear o9
            clear OH91
            clear OH910
            replace GA := hide ((b9.block g9 (Array.getElem?_eq_some_iff.1 GA.out).1).trans GA.out)
            replace HW := hide (HW.out.trans (b9.mono HW.out.size))
            clear b9
            refine ⟨_, rfl, ?_⟩
            refine hK.out _ _ (HCL.out _ HW.out) (fun hHeld => ?_)
            clear hK K
            simp only [Act.put, List.setIfInBounds_toArray, List.set_cons_zero, List.set_cons_succ]
            refine wpAnyH_take (i := 7) (v := ?_) rfl (by kernel_rfl) (by kernel_rfl) (by kernel_rfl) (fun _ _ _ h => h) (Or.inl ⟨by rfl, ?_⟩) (by assumption) ?_
            rotate_left
            · intro w' hSw
              try dsimp only at hSw
              go_simp; try rfl
            simp only [List.getElem_toArray, List.getElem_cons_succ, List.getElem_cons_zero, Act.put, List.setIfInBounds_toArray, List.set_cons_zero, List.set_cons_succ]
            refine wpAnyH_take (i := 8) (v := ?_) rfl (by kernel_rfl) (by kernel_rfl) (by kernel_rfl) (fun _ _ _ h => h) (Or.inl ⟨by rfl, ?_⟩) (by assumption) ?_
            rotate_left
            · intro w' hSw
              try dsimp only at hSw
              go_simp; try rfl
            simp only [List.getElem_toArray, List.getElem_cons_succ, List.getElem_cons_zero, Act.put, List.setIfInBounds_toArray, List.set_cons_zero, List.set_cons_succ]
            refine wpAnyH_take (i := 9) (v := ?_) rfl (by kernel_rfl) (by kernel_rfl) (by kernel_rfl) (fun _ _ _ h => h) (Or.inl ⟨by rfl, ?_⟩) (by assumption) ?_
            rotate_left
            · intro w' hSw
              try dsimp only at hSw
              go_simp; try rfl
            simp only [List.getElem_toArray, List.getElem_cons_succ, List.getElem_cons_zero, Act.put, List.setIfInBounds_toArray, List.set_cons_zero, List.set_cons_succ]
            refine wpAnyH_ready (rs := [11]) (by kernel_rfl) (by simp) (AllReadyH.cons rfl (fun K hK => ?_) AllReadyH.nil)
            refine step_storeX (by kernel_rfl) (by kernel_rfl) 34 _ _ rfl g9 #[.slice p911_1 V0.o.length q911_1, .slice p911_2 V0.l.length q911_2] (by kernel_rfl) (by kernel_rfl) _ _ GA.out hi9 (by rfl) (by simp [Value.oneCell']) ?_
            have HM := hide (below_setRow HW.out ka9 #[.slice p911_1 V0.o.length q911_1, .slice p911_2 V0.l.length q911_2])
            refine hK.out _ _ (HCL.out _ HM.out) (fun hHeld => ?_)
            clear hK K
            try simp only [Act.put, List.setIfInBounds_toArray, List.set_cons_zero, List.set_cons_succ]
            have GB := hide (setRow_heap Z11 g9 _ #[.slice p911_1 V0.o.length q911_1, .slice p911_2 V0.l.length q911_2] _ _ GA.out)
            have OR := hide (OwnDL.setRowA HO9.out g9 #[.slice p911_1 V0.o.length q911_1, .slice p911_2 V0.l.length q911_2] (by omega))
            have zz9 : Z11.heap.size ≤ (Z11.setRow g9 #[.slice p911_1 V0.o.length q911_1, .slice p911_2 V0.l.length q911_2]).heap.size := by simp
            clear HO9
            clear HW GA
            generalize Z11.setRow g9 #[.slice p911_1 V0.o.length q911_1, .slice p911_2 V0.l.length q911_2] = Y12 at *
            refine wpAnyH_take (i := 12) (v := ?_) rfl (by kernel_rfl) (by kernel_rfl) (by kernel_rfl) (fun _ _ _ h => h) (Or.inl ⟨by rfl, ?_⟩) (by assumption) ?_
            rotate_left
            · intro w' hSw
              try dsimp only at hSw
              go_simp; try rfl
            simp only [List.getElem_toArray, List.getElem_cons_succ, List.getElem_cons_zero, Act.put, List.setIfInBounds_toArray, List.set_cons_zero, List.set_cons_succ]
            refine wpAnyH_done (by kernel_rfl) ?_ _
            go_wp2_with fail
            go_meet
            exact ⟨g9, _, _, _, _, _, _, rfl, rfl, GB, OR, by omega, by omega, by omega, by omega, by omega, by omega, HM⟩
        · skip
          refine step_runX (some 10) (by kernel_rfl) (by kernel_rfl) (v := .pointer (some ⟨Z0.heap.size, 0, none⟩)) (w' := Z0.alloc (.cells #[.slice none 0 0, .slice none 0 0] 34)) (by go_simp; try rfl) ?_
          have HN := hide (HW.out.alloc HW.out.size (.cells #[.slice none 0 0, .slice none 0 0] 34))
          refine hK.out _ _ (HCL.out _ HN.out) (fun hHeld => ?_)
          clear hK K
          simp only [Act.put, List.setIfInBounds_toArray, List.set_cons_zero, List.set_cons_succ]
          have ka9 := HW.out.size
          have GA : Hid ((Z0.alloc (.cells #[.slice none 0 0, .slice none 0 0] 34)).heap[Z0.heap.size]? = some (.cells #[.slice none 0 0, .slice none 0 0] 34 (0, 0))) := hide (heap_alloc_new Z0 (.cells #[.slice none 0 0, .slice none 0 0] 34))
          have kz9 : Z0.heap.size < (Z0.alloc (.cells #[.slice none 0 0, .slice none 0 0] 34)).heap.size := by simp
          obtain ⟨g9, hg9⟩ : ∃ g, Z0.heap.size = g := ⟨_, rfl⟩
          rw [hg9] at GA ka9 kz9 ⊢
          have kg9 : Z0.heap.size ≤ g9 := Nat.le_of_eq hg9
          clear HW hg9
          have HW := HN
          clear HN
          generalize Z0.alloc (.cells #[.slice none 0 0, .slice none 0 0] 34) = Z13 at *
          refine wpAnyH_ready (rs := [1]) (by kernel_rfl) (by simp) (AllReadyH.cons rfl (fun K hK => ?_) AllReadyH.nil)
          refine step_callW (some 33) (by kernel_rfl) (by kernel_rfl) 7 _ _ rfl #[.agg #[.slice ax1 x.k.length cx1]] (by kernel_rfl) (toPg _ x _ (Px1.out.at (HB.out.trans (HW.out.mono HB.out.size))) HGx.out) ?_
          rintro e Z14 ⟨n914_1, rfl, o9, b9⟩
          obtain ⟨p914_1, q914_1, f914_1, _⟩ := (pgD_own o9).shape
          subst f914_1
          have OH914 := hide o9
          clear o9
          unfold pgV
          replace GA := hide ((b9.block g9 (Array.getElem?_eq_some_iff.1 GA.out).1).trans GA.out)
          replace kz9 := Nat.lt_of_lt_of_le kz9 b9.size
          replace HW := hide (HW.out.trans (b9.mono HW.out.size))
          clear b9
          refine ⟨_, rfl, ?_⟩
          refine hK.out _ _ (HCL.out _ HW.out) (fun hHeld => ?_)
          clear hK K
          simp only [Act.put, List.setIfInBounds_toArray, List.set_cons_zero, List.set_cons_succ]
          refine wpAnyH_ready (rs := [3]) (by kernel_rfl) (by simp) (AllReadyH.cons rfl (fun K hK => ?_) AllReadyH.nil)
          refine step_callW (some 35) (by kernel_rfl) (by kernel_rfl) 8 _ _ rfl #[.agg #[.slice am1 m.o.length cm1, .slice am2 m.l.length cm2]] (by kernel_rfl) (toMm _ m _ _ (Pm1.out.at (HB.out.trans (HW.out.mono HB.out.size))) (Pm2.out.at (HB.out.trans (HW.out.mono HB.out.size))) HGm.out) ?_
          rintro e Z15 ⟨n915_1, n915_2, rfl, o9, b9⟩
          obtain ⟨p915_1, q915_1, f915_1, _⟩ := (mmD_own o9).1.shape
          subst f915_1
          obtain ⟨p915_2, q915_2, f915_2, _⟩ := (mmD_own o9).2.shape
          subst f915_2
          have OH915 := hide o9
          clear o9
          unfold mmV
          replace OH914 := hide (OH914.out.below b9)
          replace GA := hide ((b9.block g9 (Array.getElem?_eq_some_iff.1 GA.out).1).trans GA.out)
          replace kz9 := Nat.lt_of_lt_of_le kz9 b9.size
          replace HW := hide (HW.out.trans (b9.mono HW.out.size))
          clear b9
          refine ⟨_, rfl, ?_⟩
          refine hK.out _ _ (HCL.out _ HW.out) (fun hHeld => ?_)
          clear hK K
          simp only [Act.put, List.setIfInBounds_toArray, List.set_cons_zero, List.set_cons_succ]
          refine wpAnyH_ready (rs := [6]) (by kernel_rfl) (by simp) (AllReadyH.cons rfl (fun K hK => ?_) AllReadyH.nil)
          refine step_callW (some 38) (by kernel_rfl) (by kernel_rfl) 6 _ _ rfl #[.agg #[.slice p914_1 x.k.length q914_1], .agg #[.slice p915_1 m.o.length q915_1, .slice p915_2 m.l.length q915_2], .int .i64 q, .int .i64 c] (by kernel_rfl) (makeS _ x m _ _ _ q c (pgD_own OH914.out) (mmD_own OH915.out).1 (mmD_own OH915.out).2 HGx.out.k HGm.out) ?_
          rintro e Z16 ⟨n916_1, n916_2, rfl, o9, b9⟩
          rw [HV0.out] at o9 ⊢
          rw [HV1.out]
          obtain ⟨p916_1, q916_1, f916_1, _⟩ := (mmD_own o9).1.shape
          subst f916_1
          obtain ⟨p916_2, q916_2, f916_2, _⟩ := (mmD_own o9).2.shape
          subst f916_2
          unfold mmV
          have HO9 := hide o9
          have lz9 := HW.out.size
          have lz8 := b9.size
          clear o9
          clear OH914
          clear OH915
          replace GA := hide ((b9.block g9 (Array.getElem?_eq_some_iff.1 GA.out).1).trans GA.out)
          replace HW := hide (HW.out.trans (b9.mono HW.out.size))
          clear b9
          refine ⟨_, rfl, ?_⟩
          refine hK.out _ _ (HCL.out _ HW.out) (fun hHeld => ?_)
          clear hK K
          simp only [Act.put, List.setIfInBounds_toArray, List.set_cons_zero, List.set_cons_succ]
          refine wpAnyH_take (i := 7) (v := ?_) rfl (by kernel_rfl) (by kernel_rfl) (by kernel_rfl) (fun _ _ _ h => h) (Or.inl ⟨by rfl, ?_⟩) (by assumption) ?_
          rotate_left
          · intro w' hSw
            try dsimp only at hSw
            go_simp; try rfl
          simp only [List.getElem_toArray, List.getElem_cons_succ, List.getElem_cons_zero, Act.put, List.setIfInBounds_toArray, List.set_cons_zero, List.set_cons_succ]
          refine wpAnyH_take (i := 8) (v := ?_) rfl (by kernel_rfl) (by kernel_rfl) (by kernel_rfl) (fun _ _ _ h => h) (Or.inl ⟨by rfl, ?_⟩) (by assumption) ?_
          rotate_left
          · intro w' hSw
            try dsimp only at hSw
            go_simp; try rfl
          simp only [List.getElem_toArray, List.getElem_cons_succ, List.getElem_cons_zero, Act.put, List.setIfInBounds_toArray, List.set_cons_zero, List.set_cons_succ]
          refine wpAnyH_take (i := 9) (v := ?_) rfl (by kernel_rfl) (by kernel_rfl) (by kernel_rfl) (fun _ _ _ h => h) (Or.inl ⟨by rfl, ?_⟩) (by assumption) ?_
          rotate_left
          · intro w' hSw
            try dsimp only at hSw
            go_simp; try rfl
          simp only [List.getElem_toArray, List.getElem_cons_succ, List.getElem_cons_zero, Act.put, List.setIfInBounds_toArray, List.set_cons_zero, List.set_cons_succ]
          refine wpAnyH_ready (rs := [11]) (by kernel_rfl) (by simp) (AllReadyH.cons rfl (fun K hK => ?_) AllReadyH.nil)
          refine step_storeX (by kernel_rfl) (by kernel_rfl) 34 _ _ rfl g9 #[.slice p916_1 V0.o.length q916_1, .slice p916_2 V0.l.length q916_2] (by kernel_rfl) (by kernel_rfl) _ _ GA.out hi9 (by rfl) (by simp [Value.oneCell']) ?_
          have HM := hide (below_setRow HW.out ka9 #[.slice p916_1 V0.o.length q916_1, .slice p916_2 V0.l.length q916_2])
          refine hK.out _ _ (HCL.out _ HM.out) (fun hHeld => ?_)
          clear hK K
          try simp only [Act.put, List.setIfInBounds_toArray, List.set_cons_zero, List.set_cons_succ]
          have GB := hide (setRow_heap Z16 g9 _ #[.slice p916_1 V0.o.length q916_1, .slice p916_2 V0.l.length q916_2] _ _ GA.out)
          have OR := hide (OwnDL.setRowA HO9.out g9 #[.slice p916_1 V0.o.length q916_1, .slice p916_2 V0.l.length q916_2] (by omega))
          have zz9 : Z16.heap.size ≤ (Z16.setRow g9 #[.slice p916_1 V0.o.length q916_1, .slice p916_2 V0.l.length q916_2]).heap.size := by simp
          clear HO9
          clear HW GA
          generalize Z16.setRow g9 #[.slice p916_1 V0.o.length q916_1, .slice p916_2 V0.l.length q916_2] = Y17 at *
          refine wpAnyH_take (i := 12) (v := ?_) rfl (by kernel_rfl) (by kernel_rfl) (by kernel_rfl) (fun _ _ _ h => h) (Or.inl ⟨by rfl, ?_⟩) (by assumption) ?_
          rotate_left
          · intro w' hSw
            try dsimp only at hSw
            go_simp; try rfl
          simp only [List.getElem_toArray, List.getElem_cons_succ, List.getElem_cons_zero, Act.put, List.setIfInBounds_toArray, List.set_cons_zero, List.set_cons_succ]
          refine wpAnyH_done (by kernel_rfl) ?_ _
          go_wp2_with fail
          go_meet
          exact ⟨g9, _, _, _, _, _, _, rfl, rfl, GB, OR, by omega, by omega, by omega, by omega, by omega, by omega, HM⟩
      case rest =>
      obtain ⟨G10, a10_1, k10_1, a10_2, k10_2, l10, h10, rfl, rfl, X10, OX10, zl10, zm10, zh10, zg10, zb10, zc10, HQ9⟩ := hcut
      have b9 := HQ9.out
      clear HQ9 HCL HD
      replace E0 := hide ((b9.block _ (Array.getElem?_eq_some_iff.1 E0.out).1).trans E0.out)
      replace E1 := hide ((b9.block _ (Array.getElem?_eq_some_iff.1 E1.out).1).trans E1.out)
      have z3 := b9.size
      replace HB := hide (HB.out.trans (b9.mono HB.out.size))
      clear b9
      generalize wc = w3 at *
      have y0_0 := (box_of E0.out).1 0 _ rfl
      go_wp2_with fail
      clear y0_0
      refine (toPg _ x _ (Px1.out.at HB.out) HGx.out).mono ?_
      rintro e w4 ⟨n4_1, rfl, o9, b9⟩
      obtain ⟨p4_1, q4_1, f4_1, _⟩ := (pgD_own o9).shape
      subst f4_1
      have O4 := hide o9
      clear o9
      replace E0 := hide ((b9.block _ (Array.getElem?_eq_some_iff.1 E0.out).1).trans E0.out)
      replace E1 := hide ((b9.block _ (Array.getElem?_eq_some_iff.1 E1.out).1).trans E1.out)
      replace X10 := hide ((b9.block _ (Array.getElem?_eq_some_iff.1 X10.out).1).trans X10.out)
      replace OX10 := hide (OX10.out.below b9)
      have z4 := b9.size
      replace HB := hide (HB.out.trans (b9.mono HB.out.size))
      clear b9
      unfold pgV
      have bD := (Below.refl w4.heap.size w4).alloc (Nat.le_refl _) (.cells #[.slice p4_1 x.k.length q4_1] 39)
      have X12 := hide (heap_alloc_new w4 (.cells #[.slice p4_1 x.k.length q4_1] 39))
      have z5 : w4.heap.size < (w4.alloc (.cells #[.slice p4_1 x.k.length q4_1] 39)).heap.size := by simp
      replace E0 := hide ((bD.block _ (Array.getElem?_eq_some_iff.1 E0.out).1).trans E0.out)
      replace E1 := hide ((bD.block _ (Array.getElem?_eq_some_iff.1 E1.out).1).trans E1.out)
      replace X10 := hide ((bD.block _ (Array.getElem?_eq_some_iff.1 X10.out).1).trans X10.out)
      replace OX10 := hide (OX10.out.below bD)
      replace O4 := hide (O4.out.below bD)
      have z6 := bD.size
      replace HB := hide (HB.out.trans (bD.mono HB.out.size))
      clear bD
      have y0_0 := (box_of E1.out).1 0 _ rfl
      have y0_1 := (box_of E1.out).1 1 _ rfl
      go_wp2_with fail
      clear y0_0 y0_1
      generalize w4.alloc (.cells #[.slice p4_1 x.k.length q4_1] 39) = w5 at *
      refine (toMm _ m _ _ (Pm1.out.at HB.out) (Pm2.out.at HB.out) HGm.out).mono ?_
      rintro e w6 ⟨n6_1, n6_2, rfl, o9, b9⟩
      obtain ⟨p6_1, q6_1, f6_1, _⟩ := (mmD_own o9).1.shape
      subst f6_1
      obtain ⟨p6_2, q6_2, f6_2, _⟩ := (mmD_own o9).2.shape
      subst f6_2
      have O6 := hide o9
      clear o9
      replace E0 := hide ((b9.block _ (Array.getElem?_eq_some_iff.1 E0.out).1).trans E0.out)
      replace E1 := hide ((b9.block _ (Array.getElem?_eq_some_iff.1 E1.out).1).trans E1.out)
      replace X10 := hide ((b9.block _ (Array.getElem?_eq_some_iff.1 X10.out).1).trans X10.out)
      replace X12 := hide ((b9.block _ (Array.getElem?_eq_some_iff.1 X12.out).1).trans X12.out)
      replace OX10 := hide (OX10.out.below b9)
      replace O4 := hide (O4.out.below b9)
      have z7 := b9.size
      replace HB := hide (HB.out.trans (b9.mono HB.out.size))
      clear b9
      unfold mmV
      have bD := (Below.refl w6.heap.size w6).alloc (Nat.le_refl _) (.cells #[.slice p6_1 m.o.length q6_1, .slice p6_2 m.l.length q6_2] 34)
      have X13 := hide (heap_alloc_new w6 (.cells #[.slice p6_1 m.o.length q6_1, .slice p6_2 m.l.length q6_2] 34))
      have z8 : w6.heap.size < (w6.alloc (.cells #[.slice p6_1 m.o.length q6_1, .slice p6_2 m.l.length q6_2] 34)).heap.size := by simp
      replace E0 := hide ((bD.block _ (Array.getElem?_eq_some_iff.1 E0.out).1).trans E0.out)
      replace E1 := hide ((bD.block _ (Array.getElem?_eq_some_iff.1 E1.out).1).trans E1.out)
      replace X10 := hide ((bD.block _ (Array.getElem?_eq_some_iff.1 X10.out).1).trans X10.out)
      replace X12 := hide ((bD.block _ (Array.getElem?_eq_some_iff.1 X12.out).1).trans X12.out)
      replace OX10 := hide (OX10.out.below bD)
      replace O4 := hide (O4.out.below bD)
      replace O6 := hide (O6.out.below bD)
      have z9 := bD.size
      replace HB := hide (HB.out.trans (bD.mono HB.out.size))
      clear bD
      have y0_0 := (box_of X12.out).1 0 _ rfl
      have y1_0 := (box_of X13.out).1 0 _ rfl
      have y1_1 := (box_of X13.out).1 1 _ rfl
      go_wp2_with fail
      clear y0_0 y1_0 y1_1
      generalize w6.alloc (.cells #[.slice p6_1 m.o.length q6_1, .slice p6_2 m.l.length q6_2] 34) = w7 at *
      refine (makeI _ x m _ _ _ q c (pgD_own O4.out) (mmD_own O6.out).1 (mmD_own O6.out).2 HGx.out.k HGm.out).mono ?_
      rintro e w8 ⟨n8_1, n8_2, rfl, o9, b9⟩
      rw [HV0.out] at o9 ⊢
      rw [HV1.out]
      obtain ⟨p8_1, q8_1, f8_1, _⟩ := (mmD_own o9).1.shape
      subst f8_1
      obtain ⟨p8_2, q8_2, f8_2, _⟩ := (mmD_own o9).2.shape
      subst f8_2
      unfold mmV
      have O8 := hide o9
      clear o9
      replace E0 := hide ((b9.block _ (Array.getElem?_eq_some_iff.1 E0.out).1).trans E0.out)
      replace E1 := hide ((b9.block _ (Array.getElem?_eq_some_iff.1 E1.out).1).trans E1.out)
      replace X10 := hide ((b9.block _ (Array.getElem?_eq_some_iff.1 X10.out).1).trans X10.out)
      replace X12 := hide ((b9.block _ (Array.getElem?_eq_some_iff.1 X12.out).1).trans X12.out)
      replace X13 := hide ((b9.block _ (Array.getElem?_eq_some_iff.1 X13.out).1).trans X13.out)
      replace OX10 := hide (OX10.out.below b9)
      replace O4 := hide (O4.out.below b9)
      replace O6 := hide (O6.out.below b9)
      have z10 := b9.size
      replace HB := hide (HB.out.trans (b9.mono HB.out.size))
      clear b9
      have bD := (Below.refl w8.heap.size w8).alloc (Nat.le_refl _) (.cells #[.slice p8_1 V0.o.length q8_1, .slice p8_2 V0.l.length q8_2] 34)
      have X14 := hide (heap_alloc_new w8 (.cells #[.slice p8_1 V0.o.length q8_1, .slice p8_2 V0.l.length q8_2] 34))
      have z11 : w8.heap.size < (w8.alloc (.cells #[.slice p8_1 V0.o.length q8_1, .slice p8_2 V0.l.length q8_2] 34)).heap.size := by simp
      replace E0 := hide ((bD.block _ (Array.getElem?_eq_some_iff.1 E0.out).1).trans E0.out)
      replace E1 := hide ((bD.block _ (Array.getElem?_eq_some_iff.1 E1.out).1).trans E1.out)
      replace X10 := hide ((bD.block _ (Array.getElem?_eq_some_iff.1 X10.out).1).trans X10.out)
      replace X12 := hide ((bD.block _ (Array.getElem?_eq_some_iff.1 X12.out).1).trans X12.out)
      replace X13 := hide ((bD.block _ (Array.getElem?_eq_some_iff.1 X13.out).1).trans X13.out)
      replace OX10 := hide (OX10.out.below bD)
      replace O4 := hide (O4.out.below bD)
      replace O6 := hide (O6.out.below bD)
      replace O8 := hide (O8.out.below bD)
      have z12 := bD.size
      replace HB := hide (HB.out.trans (bD.mono HB.out.size))
      clear bD
      have y0_0 := (box_of X14.out).1 0 _ rfl
      have y0_1 := (box_of X14.out).1 1 _ rfl
      have y1_0 := (box_of X10.out).1 0 _ rfl
      have y1_1 := (box_of X10.out).1 1 _ rfl
      go_wp2_with fail
      clear y0_0 y0_1 y1_0 y1_1
      generalize w8.alloc (.cells #[.slice p8_1 V0.o.length q8_1, .slice p8_2 V0.l.length q8_2] 34) = w9 at *
      refine (eqMm _ V0 _ _ _ _ (mmD_own O8.out).1 (mmD_own O8.out).2 (mmD_own OX10.out).1 (mmD_own OX10.out).2 HGV0.out).mono ?_
      rintro e w10 ⟨rfl, b9⟩
      replace E0 := hide ((b9.block _ (Array.getElem?_eq_some_iff.1 E0.out).1).trans E0.out)
      replace E1 := hide ((b9.block _ (Array.getElem?_eq_some_iff.1 E1.out).1).trans E1.out)
      replace X10 := hide ((b9.block _ (Array.getElem?_eq_some_iff.1 X10.out).1).trans X10.out)
      replace X12 := hide ((b9.block _ (Array.getElem?_eq_some_iff.1 X12.out).1).trans X12.out)
      replace X13 := hide ((b9.block _ (Array.getElem?_eq_some_iff.1 X13.out).1).trans X13.out)
      replace X14 := hide ((b9.block _ (Array.getElem?_eq_some_iff.1 X14.out).1).trans X14.out)
      replace OX10 := hide (OX10.out.below b9)
      replace O4 := hide (O4.out.below b9)
      replace O6 := hide (O6.out.below b9)
      replace O8 := hide (O8.out.below b9)
      have z13 := b9.size
      replace HB := hide (HB.out.trans (b9.mono HB.out.size))
      clear b9
      go_upto_region 14 with fail
      have HCL : Hid (∀ w', Below w10.heap.size w10 w' → w'.cell? ⟨w4.heap.size, 0, none⟩ = some (.slice p4_1 x.k.length q4_1) ∧ w'.cell? ⟨w.heap.size, 0, none⟩ = some (.slice ax1 x.k.length cx1)) := hide (fun w' hb => ⟨(box_of ((hb.block _ (Array.getElem?_eq_some_iff.1 X12.out).1).trans X12.out)).1 0 _ rfl, (box_of ((hb.block _ (Array.getElem?_eq_some_iff.1 E0.out).1).trans E0.out)).1 0 _ rfl⟩)
      have HD := hide (Below.refl w10.heap.size w10).drew
      go_cut [66] from 62 to 66 (fun s wq => s = .bool false ∧ Hid (Below w10.heap.size w10 wq))
      case first =>
        refine wp_region_held_drew (S := fun w' => w'.cell? ⟨w4.heap.size, 0, none⟩ = some (.slice p4_1 x.k.length q4_1) ∧ w'.cell? ⟨w.heap.size, 0, none⟩ = some (.slice ax1 x.k.length cx1)) (by kernel_rfl) (HCL.out _ HD.out) (fun hHeld => ?_)
        have HW := HD
        clear HD
        generalize w10.drew = Z0 at *
        refine wpAnyH_take (i := 0) (v := .agg #[.slice p4_1 x.k.length q4_1]) rfl (by kernel_rfl) (by kernel_rfl) (by kernel_rfl) (fun _ _ _ h => h) (Or.inl ⟨by rfl, ?_⟩) (by assumption) ?_
        · intro w' hSw
          try dsimp only at hSw
          go_simp; try rfl
        simp only [List.getElem_toArray, List.getElem_cons_zero, Act.put, List.setIfInBounds_toArray, List.set_cons_zero, List.set_cons_succ]
        refine wpAnyH_take (i := 1) (v := .agg #[.slice ax1 x.k.length cx1]) rfl (by kernel_rfl) (by kernel_rfl) (by kernel_rfl) (fun _ _ _ h => h) (Or.inl ⟨by rfl, ?_⟩) (by assumption) ?_
        · intro w' hSw
          try dsimp only at hSw
          go_simp; try rfl
        simp only [List.getElem_toArray, List.getElem_cons_succ, List.getElem_cons_zero, Act.put, List.setIfInBounds_toArray, List.set_cons_zero, List.set_cons_succ]
        refine wpAnyH_ready (rs := [2]) (by kernel_rfl) (by simp) (AllReadyH.cons rfl (fun K hK => ?_) AllReadyH.nil)
        refine step_callW (some 64) (by kernel_rfl) (by kernel_rfl) 7 _ _ rfl #[.agg #[.slice ax1 x.k.length cx1]] (by kernel_rfl) (toPg _ x _ (Px1.out.at (HB.out.trans (HW.out.mono HB.out.size))) HGx.out) ?_
        rintro e Z1 ⟨n91_1, rfl, o9, b9⟩
        obtain ⟨p91_1, q91_1, f91_1, _⟩ := (pgD_own o9).shape
        subst f91_1
        have OH91 := hide o9
        clear o9
        unfold pgV
        replace HW := hide (HW.out.trans (b9.mono HW.out.size))
        clear b9
        refine ⟨_, rfl, ?_⟩
        refine hK.out _ _ (HCL.out _ HW.out) (fun hHeld => ?_)
        clear hK K
        simp only [Act.put, List.setIfInBounds_toArray, List.set_cons_zero, List.set_cons_succ]
        refine wpAnyH_ready (rs := [3]) (by kernel_rfl) (by simp) (AllReadyH.cons rfl (fun K hK => ?_) AllReadyH.nil)
        refine step_callW (some 65) (by kernel_rfl) (by kernel_rfl) 11 _ _ rfl #[.agg #[.slice p4_1 x.k.length q4_1], .agg #[.slice p91_1 x.k.length q91_1]] (by kernel_rfl) (eqPg _ x _ _ (pgD_own (O4.out.below HW.out)) (pgD_own OH91.out) HGx.out) ?_
        rintro e Z2 ⟨rfl, b9⟩
        replace OH91 := hide (OH91.out.below b9)
        replace HW := hide (HW.out.trans (b9.mono HW.out.size))
        clear b9
        refine ⟨_, rfl, ?_⟩
        refine hK.out _ _ (HCL.out _ HW.out) (fun hHeld => ?_)
        clear hK K
        simp only [Act.put, List.setIfInBounds_toArray, List.set_cons_zero, List.set_cons_succ]
        refine wpAnyH_take (i := 4) (v := ?_) rfl (by kernel_rfl) (by kernel_rfl) (by kernel_rfl) (fun _ _ _ h => h) (Or.inl ⟨by rfl, ?_⟩) (by assumption) ?_
        rotate_left
        · intro w' hSw
          try dsimp only at hSw
          go_simp; try rfl
        simp only [List.getElem_toArray, List.getElem_cons_succ, List.getElem_cons_zero, Act.put, List.setIfInBounds_toArray, List.set_cons_zero, List.set_cons_succ]
        refine wpAnyH_done (by kernel_rfl) ?_ _
        go_wp2_with fail
        go_meet
        exact ⟨rfl, HW⟩
      case rest =>
      obtain ⟨rfl, HQ9⟩ := hcut
      have b9 := HQ9.out
      clear HQ9 HCL HD
      replace E0 := hide ((b9.block _ (Array.getElem?_eq_some_iff.1 E0.out).1).trans E0.out)
      replace E1 := hide ((b9.block _ (Array.getElem?_eq_some_iff.1 E1.out).1).trans E1.out)
      replace X10 := hide ((b9.block _ (Array.getElem?_eq_some_iff.1 X10.out).1).trans X10.out)
      replace X12 := hide ((b9.block _ (Array.getElem?_eq_some_iff.1 X12.out).1).trans X12.out)
      replace X13 := hide ((b9.block _ (Array.getElem?_eq_some_iff.1 X13.out).1).trans X13.out)
      replace X14 := hide ((b9.block _ (Array.getElem?_eq_some_iff.1 X14.out).1).trans X14.out)
      replace OX10 := hide (OX10.out.below b9)
      replace O4 := hide (O4.out.below b9)
      replace O6 := hide (O6.out.below b9)
      replace O8 := hide (O8.out.below b9)
      have z14 := b9.size
      replace HB := hide (HB.out.trans (b9.mono HB.out.size))
      clear b9
      generalize wc = w11 at *
      go_upto_region 16 with fail
      have HCL : Hid (∀ w', Below w11.heap.size w11 w' → w'.cell? ⟨w6.heap.size, 0, none⟩ = some (.slice p6_1 m.o.length q6_1) ∧ w'.cell? ⟨w6.heap.size, 1, none⟩ = some (.slice p6_2 m.l.length q6_2) ∧ w'.cell? ⟨w.heap.size + 1, 0, none⟩ = some (.slice am1 m.o.length cm1) ∧ w'.cell? ⟨w.heap.size + 1, 1, none⟩ = some (.slice am2 m.l.length cm2)) := hide (fun w' hb => ⟨(box_of ((hb.block _ (Array.getElem?_eq_some_iff.1 X13.out).1).trans X13.out)).1 0 _ rfl, (box_of ((hb.block _ (Array.getElem?_eq_some_iff.1 X13.out).1).trans X13.out)).1 1 _ rfl, (box_of ((hb.block _ (Array.getElem?_eq_some_iff.1 E1.out).1).trans E1.out)).1 0 _ rfl, (box_of ((hb.block _ (Array.getElem?_eq_some_iff.1 E1.out).1).trans E1.out)).1 1 _ rfl⟩)
      have HD := hide (Below.refl w11.heap.size w11).drew
      go_cut [71] from 67 to 71 (fun s wq => s = .bool false ∧ Hid (Below w11.heap.size w11 wq))
      case first =>
        refine wp_region_held_drew (S := fun w' => w'.cell? ⟨w6.heap.size, 0, none⟩ = some (.slice p6_1 m.o.length q6_1) ∧ w'.cell? ⟨w6.heap.size, 1, none⟩ = some (.slice p6_2 m.l.length q6_2) ∧ w'.cell? ⟨w.heap.size + 1, 0, none⟩ = some (.slice am1 m.o.length cm1) ∧ w'.cell? ⟨w.heap.size + 1, 1, none⟩ = some (.slice am2 m.l.length cm2)) (by kernel_rfl) (HCL.out _ HD.out) (fun hHeld => ?_)
        have HW := HD
        clear HD
        generalize w11.drew = Z0 at *
        refine wpAnyH_take (i := 0) (v := .agg #[.slice p6_1 m.o.length q6_1, .slice p6_2 m.l.length q6_2]) rfl (by kernel_rfl) (by kernel_rfl) (by kernel_rfl) (fun _ _ _ h => h) (Or.inl ⟨by rfl, ?_⟩) (by assumption) ?_
        · intro w' hSw
          try dsimp only at hSw
          go_simp; try rfl
        simp only [List.getElem_toArray, List.getElem_cons_zero, Act.put, List.setIfInBounds_toArray, List.set_cons_zero, List.set_cons_succ]
        refine wpAnyH_take (i := 1) (v := .agg #[.slice am1 m.o.length cm1, .slice am2 m.l.length cm2]) rfl (by kernel_rfl) (by kernel_rfl) (by kernel_rfl) (fun _ _ _ h => h) (Or.inl ⟨by rfl, ?_⟩) (by assumption) ?_
        · intro w' hSw
          try dsimp only at hSw
          go_simp; try rfl
        simp only [List.getElem_toArray, List.getElem_cons_succ, List.getElem_cons_zero, Act.put, List.setIfInBounds_toArray, List.set_cons_zero, List.set_cons_succ]
        refine wpAnyH_ready (rs := [2]) (by kernel_rfl) (by simp) (AllReadyH.cons rfl (fun K hK => ?_) AllReadyH.nil)
        refine step_callW (some 69) (by kernel_rfl) (by kernel_rfl) 8 _ _ rfl #[.agg #[.slice am1 m.o.length cm1, .slice am2 m.l.length cm2]] (by kernel_rfl) (toMm _ m _ _ (Pm1.out.at (HB.out.trans (HW.out.mono HB.out.size))) (Pm2.out.at (HB.out.trans (HW.out.mono HB.out.size))) HGm.out) ?_
        rintro e Z1 ⟨n91_1, n91_2, rfl, o9, b9⟩
        obtain ⟨p91_1, q91_1, f91_1, _⟩ := (mmD_own o9).1.shape
        subst f91_1
        obtain ⟨p91_2, q91_2, f91_2, _⟩ := (mmD_own o9).2.shape
        subst f91_2
        have OH91 := hide o9
        clear o9
        unfold mmV
        replace HW := hide (HW.out.trans (b9.mono HW.out.size))
        clear b9
        refine ⟨_, rfl, ?_⟩
        refine hK.out _ _ (HCL.out _ HW.out) (fun hHeld => ?_)
        clear hK K
        simp only [Act.put, List.setIfInBounds_toArray, List.set_cons_zero, List.set_cons_succ]
        refine wpAnyH_ready (rs := [3]) (by kernel_rfl) (by simp) (AllReadyH.cons rfl (fun K hK => ?_) AllReadyH.nil)
        refine step_callW (some 70) (by kernel_rfl) (by kernel_rfl) 10 _ _ rfl #[.agg #[.slice p6_1 m.o.length q6_1, .slice p6_2 m.l.length q6_2], .agg #[.slice p91_1 m.o.length q91_1, .slice p91_2 m.l.length q91_2]] (by kernel_rfl) (eqMm _ m _ _ _ _ (mmD_own (O6.out.below HW.out)).1 (mmD_own (O6.out.below HW.out)).2 (mmD_own OH91.out).1 (mmD_own OH91.out).2 HGm.out) ?_
        rintro e Z2 ⟨rfl, b9⟩
        replace OH91 := hide (OH91.out.below b9)
        replace HW := hide (HW.out.trans (b9.mono HW.out.size))
        clear b9
        refine ⟨_, rfl, ?_⟩
        refine hK.out _ _ (HCL.out _ HW.out) (fun hHeld => ?_)
        clear hK K
        simp only [Act.put, List.setIfInBounds_toArray, List.set_cons_zero, List.set_cons_succ]
        refine wpAnyH_take (i := 4) (v := ?_) rfl (by kernel_rfl) (by kernel_rfl) (by kernel_rfl) (fun _ _ _ h => h) (Or.inl ⟨by rfl, ?_⟩) (by assumption) ?_
        rotate_left
        · intro w' hSw
          try dsimp only at hSw
          go_simp; try rfl
        simp only [List.getElem_toArray, List.getElem_cons_succ, List.getElem_cons_zero, Act.put, List.setIfInBounds_toArray, List.set_cons_zero, List.set_cons_succ]
        refine wpAnyH_done (by kernel_rfl) ?_ _
        go_wp2_with fail
        go_meet
        exact ⟨rfl, HW⟩
      case rest =>
      obtain ⟨rfl, HQ9⟩ := hcut
      have b9 := HQ9.out
      clear HQ9 HCL HD
      replace E0 := hide ((b9.block _ (Array.getElem?_eq_some_iff.1 E0.out).1).trans E0.out)
      replace E1 := hide ((b9.block _ (Array.getElem?_eq_some_iff.1 E1.out).1).trans E1.out)
      replace X10 := hide ((b9.block _ (Array.getElem?_eq_some_iff.1 X10.out).1).trans X10.out)
      replace X12 := hide ((b9.block _ (Array.getElem?_eq_some_iff.1 X12.out).1).trans X12.out)
      replace X13 := hide ((b9.block _ (Array.getElem?_eq_some_iff.1 X13.out).1).trans X13.out)
      replace X14 := hide ((b9.block _ (Array.getElem?_eq_some_iff.1 X14.out).1).trans X14.out)
      replace OX10 := hide (OX10.out.below b9)
      replace O4 := hide (O4.out.below b9)
      replace O6 := hide (O6.out.below b9)
      replace O8 := hide (O8.out.below b9)
      have z15 := b9.size
      replace HB := hide (HB.out.trans (b9.mono HB.out.size))
      clear b9
      generalize wc = w12 at *
      have y0_0 := (box_of X12.out).1 0 _ rfl
      go_wp2_with fail
      clear y0_0
      have hct13 := pgCto_le x
      refine (mkPgI _ (w3.heap.size) (w4.heap.size) 1 _ (by first | rfl | omega) x _ O4.out (by omega) (by omega)).mono ?_
      rintro e w13 ⟨rfl, o9, c9⟩
      replace O4 := hide o9
      clear o9
      replace E0 := hide ((c9.block _ (Array.getElem?_eq_some_iff.1 E0.out).1 (by omega)).trans E0.out)
      replace E1 := hide ((c9.block _ (Array.getElem?_eq_some_iff.1 E1.out).1 (by omega)).trans E1.out)
      replace X10 := hide ((c9.block _ (Array.getElem?_eq_some_iff.1 X10.out).1 (by omega)).trans X10.out)
      replace X12 := hide ((c9.block _ (Array.getElem?_eq_some_iff.1 X12.out).1 (by omega)).trans X12.out)
      replace X13 := hide ((c9.block _ (Array.getElem?_eq_some_iff.1 X13.out).1 (by omega)).trans X13.out)
      replace X14 := hide ((c9.block _ (Array.getElem?_eq_some_iff.1 X14.out).1 (by omega)).trans X14.out)
      replace OX10 := hide (OX10.out.apart c9 (by omega))
      replace O6 := hide (O6.out.apart c9 (by omega))
      replace O8 := hide (O8.out.apart c9 (by omega))
      have z16 := c9.size
      replace HB := hide (HB.out.trans (c9.below (by omega) HB.out.size))
      clear c9
      obtain ⟨K13, hk13⟩ : ∃ k, 1 + pgCto x = k := ⟨_, rfl⟩
      rw [hk13]
      have hkp13 : 0 < K13 := by omega
      have hkb13 : K13 ≤ 8388608 + 1 := by omega
      have hkn13 : ¬ ((K13 : Nat) : Int) < 0 := by omega
      clear hk13 hct13
      clear O4
      have y0_0 := (box_of X13.out).1 0 _ rfl
      have y0_1 := (box_of X13.out).1 1 _ rfl
      go_wp2_with fail
      clear y0_0 y0_1
      have hct14 := mmCto_le m
      refine (mkMmI _ (w5.heap.size) (w6.heap.size) K13 _ (by first | rfl | omega) m _ _ O6.out (by omega) (by omega)).mono ?_
      rintro e w14 ⟨rfl, o9, c9⟩
      replace O6 := hide o9
      clear o9
      replace E0 := hide ((c9.block _ (Array.getElem?_eq_some_iff.1 E0.out).1 (by omega)).trans E0.out)
      replace E1 := hide ((c9.block _ (Array.getElem?_eq_some_iff.1 E1.out).1 (by omega)).trans E1.out)
      replace X10 := hide ((c9.block _ (Array.getElem?_eq_some_iff.1 X10.out).1 (by omega)).trans X10.out)
      replace X12 := hide ((c9.block _ (Array.getElem?_eq_some_iff.1 X12.out).1 (by omega)).trans X12.out)
      replace X13 := hide ((c9.block _ (Array.getElem?_eq_some_iff.1 X13.out).1 (by omega)).trans X13.out)
      replace X14 := hide ((c9.block _ (Array.getElem?_eq_some_iff.1 X14.out).1 (by omega)).trans X14.out)
      replace OX10 := hide (OX10.out.apart c9 (by omega))
      replace O8 := hide (O8.out.apart c9 (by omega))
      have z17 := c9.size
      replace HB := hide (HB.out.trans (c9.below (by omega) HB.out.size))
      clear c9
      obtain ⟨K14, hk14⟩ : ∃ k, K13 + mmCto m = k := ⟨_, rfl⟩
      rw [hk14]
      have hkp14 : 0 < K14 := by omega
      have hkb14 : K14 ≤ 8388608 + K13 := by omega
      have hkn14 : ¬ ((K14 : Nat) : Int) < 0 := by omega
      clear hk14 hct14
      clear O6
      have y0_0 := (box_of X14.out).1 0 _ rfl
      have y0_1 := (box_of X14.out).1 1 _ rfl
      have y1_0 := (box_of X10.out).1 0 _ rfl
      have y1_1 := (box_of X10.out).1 1 _ rfl
      go_wp2_with fail
      clear y0_0 y0_1 y1_0 y1_1
      refine (eqMm _ V0 _ _ _ _ (mmD_own O8.out).1 (mmD_own O8.out).2 (mmD_own OX10.out).1 (mmD_own OX10.out).2 HGV0.out).mono ?_
      rintro e w15 ⟨rfl, b9⟩
      replace E0 := hide ((b9.block _ (Array.getElem?_eq_some_iff.1 E0.out).1).trans E0.out)
      replace E1 := hide ((b9.block _ (Array.getElem?_eq_some_iff.1 E1.out).1).trans E1.out)
      replace X10 := hide ((b9.block _ (Array.getElem?_eq_some_iff.1 X10.out).1).trans X10.out)
      replace X12 := hide ((b9.block _ (Array.getElem?_eq_some_iff.1 X12.out).1).trans X12.out)
      replace X13 := hide ((b9.block _ (Array.getElem?_eq_some_iff.1 X13.out).1).trans X13.out)
      replace X14 := hide ((b9.block _ (Array.getElem?_eq_some_iff.1 X14.out).1).trans X14.out)
      replace OX10 := hide (OX10.out.below b9)
      replace O8 := hide (O8.out.below b9)
      have z18 := b9.size
      replace HB := hide (HB.out.trans (b9.mono HB.out.size))
      clear b9
      have y0_0 := (box_of X14.out).1 0 _ rfl
      have y0_1 := (box_of X14.out).1 1 _ rfl
      go_wp2_with fail
      clear y0_0 y0_1
      refine (mkMmI _ (w7.heap.size) (w8.heap.size) 1 _ (by first | rfl | omega) V0 _ _ O8.out (by omega) (by omega)).mono ?_
      rintro e w16 ⟨rfl, o9, c9⟩
      replace O8 := hide o9
      clear o9
      replace E0 := hide ((c9.block _ (Array.getElem?_eq_some_iff.1 E0.out).1 (by omega)).trans E0.out)
      replace E1 := hide ((c9.block _ (Array.getElem?_eq_some_iff.1 E1.out).1 (by omega)).trans E1.out)
      replace X10 := hide ((c9.block _ (Array.getElem?_eq_some_iff.1 X10.out).1 (by omega)).trans X10.out)
      replace X12 := hide ((c9.block _ (Array.getElem?_eq_some_iff.1 X12.out).1 (by omega)).trans X12.out)
      replace X13 := hide ((c9.block _ (Array.getElem?_eq_some_iff.1 X13.out).1 (by omega)).trans X13.out)
      replace X14 := hide ((c9.block _ (Array.getElem?_eq_some_iff.1 X14.out).1 (by omega)).trans X14.out)
      replace OX10 := hide (OX10.out.apart c9 (by omega))
      have z19 := c9.size
      replace HB := hide (HB.out.trans (c9.below (by omega) HB.out.size))
      clear c9
      obtain ⟨K16, hk16⟩ : ∃ k, 1 + mmCto V0 = k := ⟨_, rfl⟩
      rw [hk16]
      have hkp16 : 0 < K16 := by omega
      have hkb16 : K16 ≤ 90000000 + 1 := by omega
      have hkn16 : ¬ ((K16 : Nat) : Int) < 0 := by omega
      have HMV0 := hide hk16
      have hmmV0 : (((K16 : Nat) : Int) != ((K16 : Nat) : Int)) = false := by simp
      clear hk16
      have y0_0 := (box_of X14.out).1 0 _ rfl
      have y0_1 := (box_of X14.out).1 1 _ rfl
      go_wp2_with fail
      clear y0_0 y0_1
      refine (heldMmO _ 1 _ (by first | rfl | omega) V0 _ _ (O8.out.rd (Nat.le_refl _)) (by omega) (by omega)).mono ?_
      rintro e w17 ⟨rfl, b9⟩
      rw [HMV0.out]
      replace E0 := hide ((b9.block _ (Array.getElem?_eq_some_iff.1 E0.out).1).trans E0.out)
      replace E1 := hide ((b9.block _ (Array.getElem?_eq_some_iff.1 E1.out).1).trans E1.out)
      replace X10 := hide ((b9.block _ (Array.getElem?_eq_some_iff.1 X10.out).1).trans X10.out)
      replace X12 := hide ((b9.block _ (Array.getElem?_eq_some_iff.1 X12.out).1).trans X12.out)
      replace X13 := hide ((b9.block _ (Array.getElem?_eq_some_iff.1 X13.out).1).trans X13.out)
      replace X14 := hide ((b9.block _ (Array.getElem?_eq_some_iff.1 X14.out).1).trans X14.out)
      replace OX10 := hide (OX10.out.below b9)
      replace O8 := hide (O8.out.below b9)
      have z20 := b9.size
      replace HB := hide (HB.out.trans (b9.mono HB.out.size))
      clear b9
      go_upto_region 31 with fail
      have HCL : Hid (∀ w', Below w17.heap.size w17 w' → w'.cell? ⟨w.heap.size, 0, none⟩ = some (.slice ax1 x.k.length cx1) ∧ w'.cell? ⟨w.heap.size + 1, 0, none⟩ = some (.slice am1 m.o.length cm1) ∧ w'.cell? ⟨w.heap.size + 1, 1, none⟩ = some (.slice am2 m.l.length cm2)) := hide (fun w' hb => ⟨(box_of ((hb.block _ (Array.getElem?_eq_some_iff.1 E0.out).1).trans E0.out)).1 0 _ rfl, (box_of ((hb.block _ (Array.getElem?_eq_some_iff.1 E1.out).1).trans E1.out)).1 0 _ rfl, (box_of ((hb.block _ (Array.getElem?_eq_some_iff.1 E1.out).1).trans E1.out)).1 1 _ rfl⟩)
      have HD := hide (Below.refl w17.heap.size w17).drew
      go_cut [19, 20] from 102 to 111 (fun s19 s20 wq => ∃ g19 : Nat, ∃ (a19_1 : Option Addr) (k19_1 : Nat), ∃ (a19_2 : Option Addr) (k19_2 : Nat), ∃ l19 h19 : Nat, s19 = .pointer (some ⟨g19, 0, none⟩) ∧ s20 = .bool V1 ∧ Hid (wq.heap[g19]? = some (.cells #[.slice a19_1 V0.o.length k19_1, .slice a19_2 V0.l.length k19_2] 34 (0, 0))) ∧ Hid (OwnDL wq l19 h19 (mmD V0) [.slice a19_1 V0.o.length k19_1, .slice a19_2 V0.l.length k19_2]) ∧ w17.heap.size ≤ l19 ∧ l19 ≤ h19 ∧ h19 ≤ wq.heap.size ∧ (g19 < l19 ∨ h19 ≤ g19) ∧ w17.heap.size ≤ g19 ∧ g19 < wq.heap.size ∧ Hid (Below w17.heap.size w17 wq))
      case first =>
        have hi9 : ((Tryz.prog.info? 34).map (·.size)) = some 2 := by kernel_rfl
        refine wp_region_held_drew (S := fun w' => w'.cell? ⟨w.heap.size, 0, none⟩ = some (.slice ax1 x.k.length cx1) ∧ w'.cell? ⟨w.heap.size + 1, 0, none⟩ = some (.slice am1 m.o.length cm1) ∧ w'.cell? ⟨w.heap.size + 1, 1, none⟩ = some (.slice am2 m.l.length cm2)) (by kernel_rfl) (HCL.out _ HD.out) (fun hHeld => ?_)
        have HW := HD
        clear HD
        generalize w17.drew = Z0 at *
        refine wpAnyH_take (i := 0) (v := .agg #[.slice ax1 x.k.length cx1]) rfl (by kernel_rfl) (by kernel_rfl) (by kernel_rfl) (fun _ _ _ h => h) (Or.inl ⟨by rfl, ?_⟩) (by assumption) ?_
        · intro w' hSw
          try dsimp only at hSw
          go_simp; try rfl
        simp only [List.getElem_toArray, List.getElem_cons_zero, Act.put, List.setIfInBounds_toArray, List.set_cons_zero, List.set_cons_succ]
        refine wpAnyH_take (i := 2) (v := .agg #[.slice am1 m.o.length cm1, .slice am2 m.l.length cm2]) rfl (by kernel_rfl) (by kernel_rfl) (by kernel_rfl) (fun _ _ _ h => h) (Or.inl ⟨by rfl, ?_⟩) (by assumption) ?_
        · intro w' hSw
          try dsimp only at hSw
          go_simp; try rfl
        simp only [List.getElem_toArray, List.getElem_cons_succ, List.getElem_cons_zero, Act.put, List.setIfInBounds_toArray, List.set_cons_zero, List.set_cons_succ]
        refine wpAnyH_take (i := 4) (v := ?_) rfl (by kernel_rfl) (by kernel_rfl) (by kernel_rfl) (fun _ _ _ h => h) (Or.inl ⟨by rfl, ?_⟩) (by assumption) ?_
        rotate_left
        · intro w' hSw
          try dsimp only at hSw
          go_simp; try rfl
        simp only [List.getElem_toArray, List.getElem_cons_succ, List.getElem_cons_zero, Act.put, List.setIfInBounds_toArray, List.set_cons_zero, List.set_cons_succ]
        refine wpAnyH_take (i := 5) (v := ?_) rfl (by kernel_rfl) (by kernel_rfl) (by kernel_rfl) (fun _ _ _ h => h) (Or.inl ⟨by rfl, ?_⟩) (by assumption) ?_
        rotate_left
        · intro w' hSw
          try dsimp only at hSw
          go_simp; try rfl
        simp only [List.getElem_toArray, List.getElem_cons_succ, List.getElem_cons_zero, Act.put, List.setIfInBounds_toArray, List.set_cons_zero, List.set_cons_succ]
        refine wpAnyH_ready (rs := [1, 10]) (by kernel_rfl) (by simp) (AllReadyH.cons rfl (fun K hK => ?_) (AllReadyH.cons rfl (fun K hK => ?_) AllReadyH.nil))
        · skip
          refine step_callW (some 104) (by kernel_rfl) (by kernel_rfl) 7 _ _ rfl #[.agg #[.slice ax1 x.k.length cx1]] (by kernel_rfl) (toPg _ x _ (Px1.out.at (HB.out.trans (HW.out.mono HB.out.size))) HGx.out) ?_
          rintro e Z1 ⟨n91_1, rfl, o9, b9⟩
          obtain ⟨p91_1, q91_1, f91_1, _⟩ := (pgD_own o9).shape
          subst f91_1
          have OH91 := hide o9
          clear o9
          unfold pgV
          replace HW := hide (HW.out.trans (b9.mono HW.out.size))
          clear b9
          refine ⟨_, rfl, ?_⟩
          refine hK.out _ _ (HCL.out _ HW.out) (fun hHeld => ?_)
          clear hK K
          simp only [Act.put, List.setIfInBounds_toArray, List.set_cons_zero, List.set_cons_succ]
          refine wpAnyH_ready (rs := [3, 10]) (by kernel_rfl) (by simp) (AllReadyH.cons rfl (fun K hK => ?_) (AllReadyH.cons rfl (fun K hK => ?_) AllReadyH.nil))
          · skip
            refine step_callW (some 106) (by kernel_rfl) (by kernel_rfl) 8 _ _ rfl #[.agg #[.slice am1 m.o.length cm1, .slice am2 m.l.length cm2]] (by kernel_rfl) (toMm _ m _ _ (Pm1.out.at (HB.out.trans (HW.out.mono HB.out.size))) (Pm2.out.at (HB.out.trans (HW.out.mono HB.out.size))) HGm.out) ?_
            rintro e Z2 ⟨n92_1, n92_2, rfl, o9, b9⟩
            obtain ⟨p92_1, q92_1, f92_1, _⟩ := (mmD_own o9).1.shape
            subst f92_1
            obtain ⟨p92_2, q92_2, f92_2, _⟩ := (mmD_own o9).2.shape
            subst f92_2
            have OH92 := hide o9
            clear o9
            unfold mmV
            replace OH91 := hide (OH91.out.below b9)
            replace HW := hide (HW.out.trans (b9.mono HW.out.size))
            clear b9
            refine ⟨_, rfl, ?_⟩
            refine hK.out _ _ (HCL.out _ HW.out) (fun hHeld => ?_)
            clear hK K
            simp only [Act.put, List.setIfInBounds_toArray, List.set_cons_zero, List.set_cons_succ]
            refine wpAnyH_ready (rs := [6, 10]) (by kernel_rfl) (by simp) (AllReadyH.cons rfl (fun K hK => ?_) (AllReadyH.cons rfl (fun K hK => ?_) AllReadyH.nil))
            · skip
              refine step_callW (some 109) (by kernel_rfl) (by kernel_rfl) 9 _ _ rfl #[.agg #[.slice p91_1 x.k.length q91_1], .agg #[.slice p92_1 m.o.length q92_1, .slice p92_2 m.l.length q92_2], .int .i64 q, .int .i64 c] (by kernel_rfl) (makeI _ x m _ _ _ q c (pgD_own OH91.out) (mmD_own OH92.out).1 (mmD_own OH92.out).2 HGx.out.k HGm.out) ?_
              rintro e Z3 ⟨n93_1, n93_2, rfl, o9, b9⟩
              rw [HV0.out] at o9 ⊢
              rw [HV1.out]
              obtain ⟨p93_1, q93_1, f93_1, _⟩ := (mmD_own o9).1.shape
              subst f93_1
              obtain ⟨p93_2, q93_2, f93_2, _⟩ := (mmD_own o9).2.shape
              subst f93_2
              unfold mmV
              have HO9 := hide o9
              have lz9 := HW.out.size
              have lz8 := b9.size
              clear o9
              clear OH91
              clear OH92
              replace HW := hide (HW.out.trans (b9.mono HW.out.size))
              clear b9
              refine ⟨_, rfl, ?_⟩
              refine hK.out _ _ (HCL.out _ HW.out) (fun hHeld => ?_)
              clear hK K
              simp only [Act.put, List.setIfInBounds_toArray, List.set_cons_zero, List.set_cons_succ]
              refine wpAnyH_take (i := 7) (v := ?_) rfl (by kernel_rfl) (by kernel_rfl) (by kernel_rfl) (fun _ _ _ h => h) (Or.inl ⟨by rfl, ?_⟩) (by assumption) ?_
              rotate_left
              · intro w' hSw
                try dsimp only at hSw
                go_simp; try rfl
              simp only [List.getElem_toArray, List.getElem_cons_succ, List.getElem_cons_zero, Act.put, List.setIfInBounds_toArray, List.set_cons_zero, List.set_cons_succ]
              refine wpAnyH_take (i := 8) (v := ?_) rfl (by kernel_rfl) (by kernel_rfl) (by kernel_rfl) (fun _ _ _ h => h) (Or.inl ⟨by rfl, ?_⟩) (by assumption) ?_
              rotate_left
              · intro w' hSw
                try dsimp only at hSw
                go_simp; try rfl
              simp only [List.getElem_toArray, List.getElem_cons_succ, List.getElem_cons_zero, Act.put, List.setIfInBounds_toArray, List.set_cons_zero, List.set_cons_succ]
              refine wpAnyH_take (i := 9) (v := ?_) rfl (by kernel_rfl) (by kernel_rfl) (by kernel_rfl) (fun _ _ _ h => h) (Or.inl ⟨by rfl, ?_⟩) (by assumption) ?_
              rotate_left
              · intro w' hSw
                try dsimp only at hSw
                go_simp; try rfl
              simp only [List.getElem_toArray, List.getElem_cons_succ, List.getElem_cons_zero, Act.put, List.setIfInBounds_toArray, List.set_cons_zero, List.set_cons_succ]
              refine wpAnyH_ready (rs := [10]) (by kernel_rfl) (by simp) (AllReadyH.cons rfl (fun K hK => ?_) AllReadyH.nil)
              refine step_runX (some 19) (by kernel_rfl) (by kernel_rfl) (v := .pointer (some ⟨Z3.heap.size, 0, none⟩)) (w' := Z3.alloc (.cells #[.slice none 0 0, .slice none 0 0] 34)) (by go_simp; try rfl) ?_
              have HN := hide (HW.out.alloc HW.out.size (.cells #[.slice none 0 0, .slice none 0 0] 34))
              refine hK.out _ _ (HCL.out _ HN.out) (fun hHeld => ?_)
              clear hK K
              simp only [Act.put, List.setIfInBounds_toArray, List.set_cons_zero, List.set_cons_succ]
              have ka9 := HW.out.size
              have GA : Hid ((Z3.alloc (.cells #[.slice none 0 0, .slice none 0 0] 34)).heap[Z3.heap.size]? = some (.cells #[.slice none 0 0, .slice none 0 0] 34 (0, 0))) := hide (heap_alloc_new Z3 (.cells #[.slice none 0 0, .slice none 0 0] 34))
              have kz9 : Z3.heap.size < (Z3.alloc (.cells #[.slice none 0 0, .slice none 0 0] 34)).heap.size := by simp
              replace HO9 := hide (HO9.out.below ((Below.refl Z3.heap.size Z3).alloc (Nat.le_refl _) (.cells #[.slice none 0 0, .slice none 0 0] 34)))
              obtain ⟨g9, hg9⟩ : ∃ g, Z3.heap.size = g := ⟨_, rfl⟩
              rw [hg9] at GA ka9 kz9 ⊢
              have kg9 : Z3.heap.size ≤ g9 := Nat.le_of_eq hg9
              clear HW hg9
              have HW := HN
              clear HN
              generalize Z3.alloc (.cells #[.slice none 0 0, .slice none 0 0] 34) = Z4 at *
              refine wpAnyH_ready (rs := [11]) (by kernel_rfl) (by simp) (AllReadyH.cons rfl (fun K hK => ?_) AllReadyH.nil)
              refine step_storeX (by kernel_rfl) (by kernel_rfl) 34 _ _ rfl g9 #[.slice p93_1 V0.o.length q93_1, .slice p93_2 V0.l.length q93_2] (by kernel_rfl) (by kernel_rfl) _ _ GA.out hi9 (by rfl) (by simp [Value.oneCell']) ?_
              have HM := hide (below_setRow HW.out ka9 #[.slice p93_1 V0.o.length q93_1, .slice p93_2 V0.l.length q93_2])
              refine hK.out _ _ (HCL.out _ HM.out) (fun hHeld => ?_)
              clear hK K
              try simp only [Act.put, List.setIfInBounds_toArray, List.set_cons_zero, List.set_cons_succ]
              have GB := hide (setRow_heap Z4 g9 _ #[.slice p93_1 V0.o.length q93_1, .slice p93_2 V0.l.length q93_2] _ _ GA.out)
              have OR := hide (OwnDL.setRowA HO9.out g9 #[.slice p93_1 V0.o.length q93_1, .slice p93_2 V0.l.length q93_2] (by omega))
              have zz9 : Z4.heap.size ≤ (Z4.setRow g9 #[.slice p93_1 V0.o.length q93_1, .slice p93_2 V0.l.length q93_2]).heap.size := by simp
              clear HO9
              clear HW GA
              generalize Z4.setRow g9 #[.slice p93_1 V0.o.length q93_1, .slice p93_2 V0.l.length q93_2] = Y5 at *
              refine wpAnyH_take (i := 12) (v := ?_) rfl (by kernel_rfl) (by kernel_rfl) (by kernel_rfl) (fun _ _ _ h => h) (Or.inl ⟨by rfl, ?_⟩) (by assumption) ?_
              rotate_left
              · intro w' hSw
                try dsimp only at hSw
                go_simp; try rfl
              simp only [List.getElem_toArray, List.getElem_cons_succ, List.getElem_cons_zero, Act.put, List.setIfInBounds_toArray, List.set_cons_zero, List.set_cons_succ]
              refine wpAnyH_done (by kernel_rfl) ?_ _
              go_wp2_with fail
              go_meet
              exact ⟨g9, _, _, _, _, _, _, rfl, rfl, GB, OR, by omega, by omega, by omega, by omega, by omega, by omega, HM⟩
            · skip
              refine step_runX (some 19) (by kernel_rfl) (by kernel_rfl) (v := .pointer (some ⟨Z2.heap.size, 0, none⟩)) (w' := Z2.alloc (.cells #[.slice none 0 0, .slice none 0 0] 34)) (by go_simp; try rfl) ?_
              have HN := hide (HW.out.alloc HW.out.size (.cells #[.slice none 0 0, .slice none 0 0] 34))
              refine hK.out _ _ (HCL.out _ HN.out) (fun hHeld => ?_)
              clear hK K
              simp only [Act.put, List.setIfInBounds_toArray, List.set_cons_zero, List.set_cons_succ]
              have ka9 := HW.out.size
              have GA : Hid ((Z2.alloc (.cells #[.slice none 0 0, .slice none 0 0] 34)).heap[Z2.heap.size]? = some (.cells #[.slice none 0 0, .slice none 0 0] 34 (0, 0))) := hide (heap_alloc_new Z2 (.cells #[.slice none 0 0, .slice none 0 0] 34))
              have kz9 : Z2.heap.size < (Z2.alloc (.cells #[.slice none 0 0, .slice none 0 0] 34)).heap.size := by simp
              replace OH91 := hide (OH91.out.below ((Below.refl Z2.heap.size Z2).alloc (Nat.le_refl _) (.cells #[.slice none 0 0, .slice none 0 0] 34)))
              replace OH92 := hide (OH92.out.below ((Below.refl Z2.heap.size Z2).alloc (Nat.le_refl _) (.cells #[.slice none 0 0, .slice none 0 0] 34)))
              obtain ⟨g9, hg9⟩ : ∃ g, Z2.heap.size = g := ⟨_, rfl⟩
              rw [hg9] at GA ka9 kz9 ⊢
              have kg9 : Z2.heap.size ≤ g9 := Nat.le_of_eq hg9
              clear HW hg9
              have HW := HN
              clear HN
              generalize Z2.alloc (.cells #[.slice none 0 0, .slice none 0 0] 34) = Z6 at *
              refine wpAnyH_ready (rs := [6]) (by kernel_rfl) (by simp) (AllReadyH.cons rfl (fun K hK => ?_) AllReadyH.nil)
              refine step_callW (some 109) (by kernel_rfl) (by kernel_rfl) 9 _ _ rfl #[.agg #[.slice p91_1 x.k.length q91_1], .agg #[.slice p92_1 m.o.length q92_1, .slice p92_2 m.l.length q92_2], .int .i64 q, .int .i64 c] (by kernel_rfl) (makeI _ x m _ _ _ q c (pgD_own OH91.out) (mmD_own OH92.out).1 (mmD_own OH92.out).2 HGx.out.k HGm.out) ?_
              rintro e Z7 ⟨n97_1, n97_2, rfl, o9, b9⟩
              rw [HV0.out] at o9 ⊢
              rw [HV1.out]
              obtain ⟨p97_1, q97_1, f97_1, _⟩ := (mmD_own o9).1.shape
              subst f97_1
              obtain ⟨p97_2, q97_2, f97_2, _⟩ := (mmD_own o9).2.shape
              subst f97_2
              unfold mmV
              have HO9 := hide o9
              have lz9 := HW.out.size
              have lz8 := b9.size
              clear o9
              clear OH91
              clear OH92
              replace GA := hide ((b9.block g9 (Array.getElem?_eq_some_iff.1 GA.out).1).trans GA.out)
              replace HW := hide (HW.out.trans (b9.mono HW.out.size))
              clear b9
              refine ⟨_, rfl, ?_⟩
              refine hK.out _ _ (HCL.out _ HW.out) (fun hHeld => ?_)
              clear hK K
              simp only [Act.put, List.setIfInBounds_toArray, List.set_cons_zero, List.set_cons_succ]
              refine wpAnyH_take (i := 7) (v := ?_) rfl (by kernel_rfl) (by kernel_rfl) (by kernel_rfl) (fun _ _ _ h => h) (Or.inl ⟨by rfl, ?_⟩) (by assumption) ?_
              rotate_left
              · intro w' hSw
                try dsimp only at hSw
                go_simp; try rfl
              simp only [List.getElem_toArray, List.getElem_cons_succ, List.getElem_cons_zero, Act.put, List.setIfInBounds_toArray, List.set_cons_zero, List.set_cons_succ]
              refine wpAnyH_take (i := 8) (v := ?_) rfl (by kernel_rfl) (by kernel_rfl) (by kernel_rfl) (fun _ _ _ h => h) (Or.inl ⟨by rfl, ?_⟩) (by assumption) ?_
              rotate_left
              · intro w' hSw
                try dsimp only at hSw
                go_simp; try rfl
              simp only [List.getElem_toArray, List.getElem_cons_succ, List.getElem_cons_zero, Act.put, List.setIfInBounds_toArray, List.set_cons_zero, List.set_cons_succ]
              refine wpAnyH_take (i := 9) (v := ?_) rfl (by kernel_rfl) (by kernel_rfl) (by kernel_rfl) (fun _ _ _ h => h) (Or.inl ⟨by rfl, ?_⟩) (by assumption) ?_
              rotate_left
              · intro w' hSw
                try dsimp only at hSw
                go_simp; try rfl
              simp only [List.getElem_toArray, List.getElem_cons_succ, List.getElem_cons_zero, Act.put, List.setIfInBounds_toArray, List.set_cons_zero, List.set_cons_succ]
              refine wpAnyH_ready (rs := [11]) (by kernel_rfl) (by simp) (AllReadyH.cons rfl (fun K hK => ?_) AllReadyH.nil)
              refine step_storeX (by kernel_rfl) (by kernel_rfl) 34 _ _ rfl g9 #[.slice p97_1 V0.o.length q97_1, .slice p97_2 V0.l.length q97_2] (by kernel_rfl) (by kernel_rfl) _ _ GA.out hi9 (by rfl) (by simp [Value.oneCell']) ?_
              have HM := hide (below_setRow HW.out ka9 #[.slice p97_1 V0.o.length q97_1, .slice p97_2 V0.l.length q97_2])
              refine hK.out _ _ (HCL.out _ HM.out) (fun hHeld => ?_)
              clear hK K
              try simp only [Act.put, List.setIfInBounds_toArray, List.set_cons_zero, List.set_cons_succ]
              have GB := hide (setRow_heap Z7 g9 _ #[.slice p97_1 V0.o.length q97_1, .slice p97_2 V0.l.length q97_2] _ _ GA.out)
              have OR := hide (OwnDL.setRowA HO9.out g9 #[.slice p97_1 V0.o.length q97_1, .slice p97_2 V0.l.length q97_2] (by omega))
              have zz9 : Z7.heap.size ≤ (Z7.setRow g9 #[.slice p97_1 V0.o.length q97_1, .slice p97_2 V0.l.length q97_2]).heap.size := by simp
              clear HO9
              clear HW GA
              generalize Z7.setRow g9 #[.slice p97_1 V0.o.length q97_1, .slice p97_2 V0.l.length q97_2] = Y8 at *
              refine wpAnyH_take (i := 12) (v := ?_) rfl (by kernel_rfl) (by kernel_rfl) (by kernel_rfl) (fun _ _ _ h => h) (Or.inl ⟨by rfl, ?_⟩) (by assumption) ?_
              rotate_left
              · intro w' hSw
                try dsimp only at hSw
                go_simp; try rfl
              simp only [List.getElem_toArray, List.getElem_cons_succ, List.getElem_cons_zero, Act.put, List.setIfInBounds_toArray, List.set_cons_zero, List.set_cons_succ]
              refine wpAnyH_done (by kernel_rfl) ?_ _
              go_wp2_with fail
              go_meet
              exact ⟨g9, _, _, _, _, _, _, rfl, rfl, GB, OR, by omega, by omega, by omega, by omega, by omega, by omega, HM⟩
          · skip
            refine step_runX (some 19) (by kernel_rfl) (by kernel_rfl) (v := .pointer (some ⟨Z1.heap.size, 0, none⟩)) (w' := Z1.alloc (.cells #[.slice none 0 0, .slice none 0 0] 34)) (by go_simp; try rfl) ?_
            have HN := hide (HW.out.alloc HW.out.size (.cells #[.slice none 0 0, .slice none 0 0] 34))
            refine hK.out _ _ (HCL.out _ HN.out) (fun hHeld => ?_)
            clear hK K
            simp only [Act.put, List.setIfInBounds_toArray, List.set_cons_zero, List.set_cons_succ]
            have ka9 := HW.out.size
            have GA : Hid ((Z1.alloc (.cells #[.slice none 0 0, .slice none 0 0] 34)).heap[Z1.heap.size]? = some (.cells #[.slice none 0 0, .slice none 0 0] 34 (0, 0))) := hide (heap_alloc_new Z1 (.cells #[.slice none 0 0, .slice none 0 0] 34))
            have kz9 : Z1.heap.size < (Z1.alloc (.cells #[.slice none 0 0, .slice none 0 0] 34)).heap.size := by simp
            replace OH91 := hide (OH91.out.below ((Below.refl Z1.heap.size Z1).alloc (Nat.le_refl _) (.cells #[.slice none 0 0, .slice none 0 0] 34)))
            obtain ⟨g9, hg9⟩ : ∃ g, Z1.heap.size = g := ⟨_, rfl⟩
            rw [hg9] at GA ka9 kz9 ⊢
            have kg9 : Z1.heap.size ≤ g9 := Nat.le_of_eq hg9
            clear HW hg9
            have HW := HN
            clear HN
            generalize Z1.alloc (.cells #[.slice none 0 0, .slice none 0 0] 34) = Z9 at *
            refine wpAnyH_ready (rs := [3]) (by kernel_rfl) (by simp) (AllReadyH.cons rfl (fun K hK => ?_) AllReadyH.nil)
            refine step_callW (some 106) (by kernel_rfl) (by kernel_rfl) 8 _ _ rfl #[.agg #[.slice am1 m.o.length cm1, .slice am2 m.l.length cm2]] (by kernel_rfl) (toMm _ m _ _ (Pm1.out.at (HB.out.trans (HW.out.mono HB.out.size))) (Pm2.out.at (HB.out.trans (HW.out.mono HB.out.size))) HGm.out) ?_
            rintro e Z10 ⟨n910_1, n910_2, rfl, o9, b9⟩
            obtain ⟨p910_1, q910_1, f910_1, _⟩ := (mmD_own o9).1.shape
            subst f910_1
            obtain ⟨p910_2, q910_2, f910_2, _⟩ := (mmD_own o9).2.shape
            subst f910_2
            have OH910 := hide o9
            clear o9
            unfold mmV
            replace OH91 := hide (OH91.out.below b9)
            replace GA := hide ((b9.block g9 (Array.getElem?_eq_some_iff.1 GA.out).1).trans GA.out)
            replace kz9 := Nat.lt_of_lt_of_le kz9 b9.size
            replace HW := hide (HW.out.trans (b9.mono HW.out.size))
            clear b9
            refine ⟨_, rfl, ?_⟩
            refine hK.out _ _ (HCL.out _ HW.out) (fun hHeld => ?_)
            clear hK K
            simp only [Act.put, List.setIfInBounds_toArray, List.set_cons_zero, List.set_cons_succ]
            refine wpAnyH_ready (rs := [6]) (by kernel_rfl) (by simp) (AllReadyH.cons rfl (fun K hK => ?_) AllReadyH.nil)
            refine step_callW (some 109) (by kernel_rfl) (by kernel_rfl) 9 _ _ rfl #[.agg #[.slice p91_1 x.k.length q91_1], .agg #[.slice p910_1 m.o.length q910_1, .slice p910_2 m.l.length q910_2], .int .i64 q, .int .i64 c] (by kernel_rfl) (makeI _ x m _ _ _ q c (pgD_own OH91.out) (mmD_own OH910.out).1 (mmD_own OH910.out).2 HGx.out.k HGm.out) ?_
            rintro e Z11 ⟨n911_1, n911_2, rfl, o9, b9⟩
            rw [HV0.out] at o9 ⊢
            rw [HV1.out]
            obtain ⟨p911_1, q911_1, f911_1, _⟩ := (mmD_own o9).1.shape
            subst f911_1
            obtain ⟨p911_2, q911_2, f911_2, _⟩ := (mmD_own o9).2.shape
            subst f911_2
            unfold mmV
            have HO9 := hide o9
            have lz9 := HW.out.size
            have lz8 := b9.size
            clear o9
            clear OH91
            clear OH910
            replace GA := hide ((b9.block g9 (Array.getElem?_eq_some_iff.1 GA.out).1).trans GA.out)
            replace HW := hide (HW.out.trans (b9.mono HW.out.size))
            clear b9
            refine ⟨_, rfl, ?_⟩
            refine hK.out _ _ (HCL.out _ HW.out) (fun hHeld => ?_)
            clear hK K
            simp only [Act.put, List.setIfInBounds_toArray, List.set_cons_zero, List.set_cons_succ]
            refine wpAnyH_take (i := 7) (v := ?_) rfl (by kernel_rfl) (by kernel_rfl) (by kernel_rfl) (fun _ _ _ h => h) (Or.inl ⟨by rfl, ?_⟩) (by assumption) ?_
            rotate_left
            · intro w' hSw
              try dsimp only at hSw
              go_simp; try rfl
            simp only [List.getElem_toArray, List.getElem_cons_succ, List.getElem_cons_zero, Act.put, List.setIfInBounds_toArray, List.set_cons_zero, List.set_cons_succ]
            refine wpAnyH_take (i := 8) (v := ?_) rfl (by kernel_rfl) (by kernel_rfl) (by kernel_rfl) (fun _ _ _ h => h) (Or.inl ⟨by rfl, ?_⟩) (by assumption) ?_
            rotate_left
            · intro w' hSw
              try dsimp only at hSw
              go_simp; try rfl
            simp only [List.getElem_toArray, List.getElem_cons_succ, List.getElem_cons_zero, Act.put, List.setIfInBounds_toArray, List.set_cons_zero, List.set_cons_succ]
            refine wpAnyH_take (i := 9) (v := ?_) rfl (by kernel_rfl) (by kernel_rfl) (by kernel_rfl) (fun _ _ _ h => h) (Or.inl ⟨by rfl, ?_⟩) (by assumption) ?_
            rotate_left
            · intro w' hSw
              try dsimp only at hSw
              go_simp; try rfl
            simp only [List.getElem_toArray, List.getElem_cons_succ, List.getElem_cons_zero, Act.put, List.setIfInBounds_toArray, List.set_cons_zero, List.set_cons_succ]
            refine wpAnyH_ready (rs := [11]) (by kernel_rfl) (by simp) (AllReadyH.cons rfl (fun K hK => ?_) AllReadyH.nil)
            refine step_storeX (by kernel_rfl) (by kernel_rfl) 34 _ _ rfl g9 #[.slice p911_1 V0.o.length q911_1, .slice p911_2 V0.l.length q911_2] (by kernel_rfl) (by kernel_rfl) _ _ GA.out hi9 (by rfl) (by simp [Value.oneCell']) ?_
            have HM := hide (below_setRow HW.out ka9 #[.slice p911_1 V0.o.length q911_1, .slice p911_2 V0.l.length q911_2])
            refine hK.out _ _ (HCL.out _ HM.out) (fun hHeld => ?_)
            clear hK K
            try simp only [Act.put, List.setIfInBounds_toArray, List.set_cons_zero, List.set_cons_succ]
            have GB := hide (setRow_heap Z11 g9 _ #[.slice p911_1 V0.o.length q911_1, .slice p911_2 V0.l.length q911_2] _ _ GA.out)
            have OR := hide (OwnDL.setRowA HO9.out g9 #[.slice p911_1 V0.o.length q911_1, .slice p911_2 V0.l.length q911_2] (by omega))
            have zz9 : Z11.heap.size ≤ (Z11.setRow g9 #[.slice p911_1 V0.o.length q911_1, .slice p911_2 V0.l.length q911_2]).heap.size := by simp
            clear HO9
            clear HW GA
            generalize Z11.setRow g9 #[.slice p911_1 V0.o.length q911_1, .slice p911_2 V0.l.length q911_2] = Y12 at *
            refine wpAnyH_take (i := 12) (v := ?_) rfl (by kernel_rfl) (by kernel_rfl) (by kernel_rfl) (fun _ _ _ h => h) (Or.inl ⟨by rfl, ?_⟩) (by assumption) ?_
            rotate_left
            · intro w' hSw
              try dsimp only at hSw
              go_simp; try rfl
            simp only [List.getElem_toArray, List.getElem_cons_succ, List.getElem_cons_zero, Act.put, List.setIfInBounds_toArray, List.set_cons_zero, List.set_cons_succ]
            refine wpAnyH_done (by kernel_rfl) ?_ _
            go_wp2_with fail
            go_meet
            exact ⟨g9, _, _, _, _, _, _, rfl, rfl, GB, OR, by omega, by omega, by omega, by omega, by omega, by omega, HM⟩
        · skip
          refine step_runX (some 19) (by kernel_rfl) (by kernel_rfl) (v := .pointer (some ⟨Z0.heap.size, 0, none⟩)) (w' := Z0.alloc (.cells #[.slice none 0 0, .slice none 0 0] 34)) (by go_simp; try rfl) ?_
          have HN := hide (HW.out.alloc HW.out.size (.cells #[.slice none 0 0, .slice none 0 0] 34))
          refine hK.out _ _ (HCL.out _ HN.out) (fun hHeld => ?_)
          clear hK K
          simp only [Act.put, List.setIfInBounds_toArray, List.set_cons_zero, List.set_cons_succ]
          have ka9 := HW.out.size
          have GA : Hid ((Z0.alloc (.cells #[.slice none 0 0, .slice none 0 0] 34)).heap[Z0.heap.size]? = some (.cells #[.slice none 0 0, .slice none 0 0] 34 (0, 0))) := hide (heap_alloc_new Z0 (.cells #[.slice none 0 0, .slice none 0 0] 34))
          have kz9 : Z0.heap.size < (Z0.alloc (.cells #[.slice none 0 0, .slice none 0 0] 34)).heap.size := by simp
          obtain ⟨g9, hg9⟩ : ∃ g, Z0.heap.size = g := ⟨_, rfl⟩
          rw [hg9] at GA ka9 kz9 ⊢
          have kg9 : Z0.heap.size ≤ g9 := Nat.le_of_eq hg9
          clear HW hg9
          have HW := HN
          clear HN
          generalize Z0.alloc (.cells #[.slice none 0 0, .slice none 0 0] 34) = Z13 at *
          refine wpAnyH_ready (rs := [1]) (by kernel_rfl) (by simp) (AllReadyH.cons rfl (fun K hK => ?_) AllReadyH.nil)
          refine step_callW (some 104) (by kernel_rfl) (by kernel_rfl) 7 _ _ rfl #[.agg #[.slice ax1 x.k.length cx1]] (by kernel_rfl) (toPg _ x _ (Px1.out.at (HB.out.trans (HW.out.mono HB.out.size))) HGx.out) ?_
          rintro e Z14 ⟨n914_1, rfl, o9, b9⟩
          obtain ⟨p914_1, q914_1, f914_1, _⟩ := (pgD_own o9).shape
          subst f914_1
          have OH914 := hide o9
          clear o9
          unfold pgV
          replace GA := hide ((b9.block g9 (Array.getElem?_eq_some_iff.1 GA.out).1).trans GA.out)
          replace kz9 := Nat.lt_of_lt_of_le kz9 b9.size
          replace HW := hide (HW.out.trans (b9.mono HW.out.size))
          clear b9
          refine ⟨_, rfl, ?_⟩
          refine hK.out _ _ (HCL.out _ HW.out) (fun hHeld => ?_)
          clear hK K
          simp only [Act.put, List.setIfInBounds_toArray, List.set_cons_zero, List.set_cons_succ]
          refine wpAnyH_ready (rs := [3]) (by kernel_rfl) (by simp) (AllReadyH.cons rfl (fun K hK => ?_) AllReadyH.nil)
          refine step_callW (some 106) (by kernel_rfl) (by kernel_rfl) 8 _ _ rfl #[.agg #[.slice am1 m.o.length cm1, .slice am2 m.l.length cm2]] (by kernel_rfl) (toMm _ m _ _ (Pm1.out.at (HB.out.trans (HW.out.mono HB.out.size))) (Pm2.out.at (HB.out.trans (HW.out.mono HB.out.size))) HGm.out) ?_
          rintro e Z15 ⟨n915_1, n915_2, rfl, o9, b9⟩
          obtain ⟨p915_1, q915_1, f915_1, _⟩ := (mmD_own o9).1.shape
          subst f915_1
          obtain ⟨p915_2, q915_2, f915_2, _⟩ := (mmD_own o9).2.shape
          subst f915_2
          have OH915 := hide o9
          clear o9
          unfold mmV
          replace OH914 := hide (OH914.out.below b9)
          replace GA := hide ((b9.block g9 (Array.getElem?_eq_some_iff.1 GA.out).1).trans GA.out)
          replace kz9 := Nat.lt_of_lt_of_le kz9 b9.size
          replace HW := hide (HW.out.trans (b9.mono HW.out.size))
          clear b9
          refine ⟨_, rfl, ?_⟩
          refine hK.out _ _ (HCL.out _ HW.out) (fun hHeld => ?_)
          clear hK K
          simp only [Act.put, List.setIfInBounds_toArray, List.set_cons_zero, List.set_cons_succ]
          refine wpAnyH_ready (rs := [6]) (by kernel_rfl) (by simp) (AllReadyH.cons rfl (fun K hK => ?_) AllReadyH.nil)
          refine step_callW (some 109) (by kernel_rfl) (by kernel_rfl) 9 _ _ rfl #[.agg #[.slice p914_1 x.k.length q914_1], .agg #[.slice p915_1 m.o.length q915_1, .slice p915_2 m.l.length q915_2], .int .i64 q, .int .i64 c] (by kernel_rfl) (makeI _ x m _ _ _ q c (pgD_own OH914.out) (mmD_own OH915.out).1 (mmD_own OH915.out).2 HGx.out.k HGm.out) ?_
          rintro e Z16 ⟨n916_1, n916_2, rfl, o9, b9⟩
          rw [HV0.out] at o9 ⊢
          rw [HV1.out]
          obtain ⟨p916_1, q916_1, f916_1, _⟩ := (mmD_own o9).1.shape
          subst f916_1
          obtain ⟨p916_2, q916_2, f916_2, _⟩ := (mmD_own o9).2.shape
          subst f916_2
          unfold mmV
          have HO9 := hide o9
          have lz9 := HW.out.size
          have lz8 := b9.size
          clear o9
          clear OH914
          clear OH915
          replace GA := hide ((b9.block g9 (Array.getElem?_eq_some_iff.1 GA.out).1).trans GA.out)
          replace HW := hide (HW.out.trans (b9.mono HW.out.size))
          clear b9
          refine ⟨_, rfl, ?_⟩
          refine hK.out _ _ (HCL.out _ HW.out) (fun hHeld => ?_)
          clear hK K
          simp only [Act.put, List.setIfInBounds_toArray, List.set_cons_zero, List.set_cons_succ]
          refine wpAnyH_take (i := 7) (v := ?_) rfl (by kernel_rfl) (by kernel_rfl) (by kernel_rfl) (fun _ _ _ h => h) (Or.inl ⟨by rfl, ?_⟩) (by assumption) ?_
          rotate_left
          · intro w' hSw
            try dsimp only at hSw
            go_simp; try rfl
          simp only [List.getElem_toArray, List.getElem_cons_succ, List.getElem_cons_zero, Act.put, List.setIfInBounds_toArray, List.set_cons_zero, List.set_cons_succ]
          refine wpAnyH_take (i := 8) (v := ?_) rfl (by kernel_rfl) (by kernel_rfl) (by kernel_rfl) (fun _ _ _ h => h) (Or.inl ⟨by rfl, ?_⟩) (by assumption) ?_
          rotate_left
          · intro w' hSw
            try dsimp only at hSw
            go_simp; try rfl
          simp only [List.getElem_toArray, List.getElem_cons_succ, List.getElem_cons_zero, Act.put, List.setIfInBounds_toArray, List.set_cons_zero, List.set_cons_succ]
          refine wpAnyH_take (i := 9) (v := ?_) rfl (by kernel_rfl) (by kernel_rfl) (by kernel_rfl) (fun _ _ _ h => h) (Or.inl ⟨by rfl, ?_⟩) (by assumption) ?_
          rotate_left
          · intro w' hSw
            try dsimp only at hSw
            go_simp; try rfl
          simp only [List.getElem_toArray, List.getElem_cons_succ, List.getElem_cons_zero, Act.put, List.setIfInBounds_toArray, List.set_cons_zero, List.set_cons_succ]
          refine wpAnyH_ready (rs := [11]) (by kernel_rfl) (by simp) (AllReadyH.cons rfl (fun K hK => ?_) AllReadyH.nil)
          refine step_storeX (by kernel_rfl) (by kernel_rfl) 34 _ _ rfl g9 #[.slice p916_1 V0.o.length q916_1, .slice p916_2 V0.l.length q916_2] (by kernel_rfl) (by kernel_rfl) _ _ GA.out hi9 (by rfl) (by simp [Value.oneCell']) ?_
          have HM := hide (below_setRow HW.out ka9 #[.slice p916_1 V0.o.length q916_1, .slice p916_2 V0.l.length q916_2])
          refine hK.out _ _ (HCL.out _ HM.out) (fun hHeld => ?_)
          clear hK K
          try simp only [Act.put, List.setIfInBounds_toArray, List.set_cons_zero, List.set_cons_succ]
          have GB := hide (setRow_heap Z16 g9 _ #[.slice p916_1 V0.o.length q916_1, .slice p916_2 V0.l.length q916_2] _ _ GA.out)
          have OR := hide (OwnDL.setRowA HO9.out g9 #[.slice p916_1 V0.o.length q916_1, .slice p916_2 V0.l.length q916_2] (by omega))
          have zz9 : Z16.heap.size ≤ (Z16.setRow g9 #[.slice p916_1 V0.o.length q916_1, .slice p916_2 V0.l.length q916_2]).heap.size := by simp
          clear HO9
          clear HW GA
          generalize Z16.setRow g9 #[.slice p916_1 V0.o.length q916_1, .slice p916_2 V0.l.length q916_2] = Y17 at *
          refine wpAnyH_take (i := 12) (v := ?_) rfl (by kernel_rfl) (by kernel_rfl) (by kernel_rfl) (fun _ _ _ h => h) (Or.inl ⟨by rfl, ?_⟩) (by assumption) ?_
          rotate_left
          · intro w' hSw
            try dsimp only at hSw
            go_simp; try rfl
          simp only [List.getElem_toArray, List.getElem_cons_succ, List.getElem_cons_zero, Act.put, List.setIfInBounds_toArray, List.set_cons_zero, List.set_cons_succ]
          refine wpAnyH_done (by kernel_rfl) ?_ _
          go_wp2_with fail
          go_meet
          exact ⟨g9, _, _, _, _, _, _, rfl, rfl, GB, OR, by omega, by omega, by omega, by omega, by omega, by omega, HM⟩
      case rest =>
      obtain ⟨G19, a19_1, k19_1, a19_2, k19_2, l19, h19, rfl, rfl, X19, OX19, zl19, zm19, zh19, zg19, zb19, zc19, HQ9⟩ := hcut
      have b9 := HQ9.out
      clear HQ9 HCL HD
      replace E0 := hide ((b9.block _ (Array.getElem?_eq_some_iff.1 E0.out).1).trans E0.out)
      replace E1 := hide ((b9.block _ (Array.getElem?_eq_some_iff.1 E1.out).1).trans E1.out)
      replace X10 := hide ((b9.block _ (Array.getElem?_eq_some_iff.1 X10.out).1).trans X10.out)
      replace X12 := hide ((b9.block _ (Array.getElem?_eq_some_iff.1 X12.out).1).trans X12.out)
      replace X13 := hide ((b9.block _ (Array.getElem?_eq_some_iff.1 X13.out).1).trans X13.out)
      replace X14 := hide ((b9.block _ (Array.getElem?_eq_some_iff.1 X14.out).1).trans X14.out)
      replace OX10 := hide (OX10.out.below b9)
      replace O8 := hide (O8.out.below b9)
      have z21 := b9.size
      replace HB := hide (HB.out.trans (b9.mono HB.out.size))
      clear b9
      generalize wc = w18 at *
      have y0_0 := (box_of X19.out).1 0 _ rfl
      have y0_1 := (box_of X19.out).1 1 _ rfl
      have y1_0 := (box_of X10.out).1 0 _ rfl
      have y1_1 := (box_of X10.out).1 1 _ rfl
      go_wp2_with fail
      clear y0_0 y0_1 y1_0 y1_1
      refine (eqMm _ V0 _ _ _ _ (mmD_own OX19.out).1 (mmD_own OX19.out).2 (mmD_own OX10.out).1 (mmD_own OX10.out).2 HGV0.out).mono ?_
      rintro e w19 ⟨rfl, b9⟩
      replace E0 := hide ((b9.block _ (Array.getElem?_eq_some_iff.1 E0.out).1).trans E0.out)
      replace E1 := hide ((b9.block _ (Array.getElem?_eq_some_iff.1 E1.out).1).trans E1.out)
      replace X10 := hide ((b9.block _ (Array.getElem?_eq_some_iff.1 X10.out).1).trans X10.out)
      replace X12 := hide ((b9.block _ (Array.getElem?_eq_some_iff.1 X12.out).1).trans X12.out)
      replace X13 := hide ((b9.block _ (Array.getElem?_eq_some_iff.1 X13.out).1).trans X13.out)
      replace X14 := hide ((b9.block _ (Array.getElem?_eq_some_iff.1 X14.out).1).trans X14.out)
      replace X19 := hide ((b9.block _ (Array.getElem?_eq_some_iff.1 X19.out).1).trans X19.out)
      replace OX10 := hide (OX10.out.below b9)
      replace O8 := hide (O8.out.below b9)
      replace OX19 := hide (OX19.out.below b9)
      have z22 := b9.size
      replace HB := hide (HB.out.trans (b9.mono HB.out.size))
      clear b9
      have y0_0 := (box_of X14.out).1 0 _ rfl
      have y0_1 := (box_of X14.out).1 1 _ rfl
      go_wp2_with fail
      clear y0_0 y0_1
      refine (heldMmO _ 1 _ (by first | rfl | omega) V0 _ _ (O8.out.rd (Nat.le_refl _)) (by omega) (by omega)).mono ?_
      rintro e w20 ⟨rfl, b9⟩
      rw [HMV0.out]
      replace E0 := hide ((b9.block _ (Array.getElem?_eq_some_iff.1 E0.out).1).trans E0.out)
      replace E1 := hide ((b9.block _ (Array.getElem?_eq_some_iff.1 E1.out).1).trans E1.out)
      replace X10 := hide ((b9.block _ (Array.getElem?_eq_some_iff.1 X10.out).1).trans X10.out)
      replace X12 := hide ((b9.block _ (Array.getElem?_eq_some_iff.1 X12.out).1).trans X12.out)
      replace X13 := hide ((b9.block _ (Array.getElem?_eq_some_iff.1 X13.out).1).trans X13.out)
      replace X14 := hide ((b9.block _ (Array.getElem?_eq_some_iff.1 X14.out).1).trans X14.out)
      replace X19 := hide ((b9.block _ (Array.getElem?_eq_some_iff.1 X19.out).1).trans X19.out)
      replace OX10 := hide (OX10.out.below b9)
      replace O8 := hide (O8.out.below b9)
      replace OX19 := hide (OX19.out.below b9)
      have z23 := b9.size
      replace HB := hide (HB.out.trans (b9.mono HB.out.size))
      clear b9
      go_wp2
      go_ret
      exact ⟨rfl, HB.out⟩

set_option maxRecDepth 100000 in
theorem lifted (os : Os) (started : os.Started) (H : Type) (enc : TypeId × Value → H) :
    ReturnsInHanded {} Tryz.checked os 3 .any (Rows.fnExactMakeSpec.pre6 enc Tryz.prog Tryz.f3 Rows.fnExactMakeRow.domain false) (Rows.fnExactMakeSpec.post enc Tryz.prog Tryz.f3 false true false false) := by
  refine returnsInHanded_of_change (C := Tryz.checked) own started (by kernel_rfl) Tryz.func3
    (ChangeSpec.witness6 (enc := enc) (C := Tryz.checked) false ⟨#[], #[.agg #[.slice none 0 0], .agg #[.slice none 0 0, .slice none 0 0], .int .i64 0, .int .i64 0], []⟩ 8 (by kernel_rfl) (by kernel_rfl) (by kernel_rfl) (by kernel_rfl)) ?_
  intro W base args ds gs before hval0 hW hcnd _
  have hval : ∀ (j : Nat) t v, Tryz.f3.params[j]? = some t → args[j]? = some v → Value.okWide Tryz.prog W .any base t v := hval0
  have hW' := hW
  obtain ⟨p, q, hA0, hV, rfl, hfz, hnd⟩ := hW
  have hA : DataW.TrodAll enc Tryz.prog W 0 (fun _ => true) true Tryz.f3.params.toList args.toList ds p := hA0
  rw [Tryz.params3] at hA hval
  obtain ⟨v0, vs0, d0, ds0, p0, q0, hargs, rfl, rfl, h0, r0⟩ := trodAll_cons hA
  obtain ⟨v1, vs1, d1, ds1, p1, q1, rfl, rfl, rfl, h1, r1⟩ := trodAll_cons r0
  obtain ⟨v2, vs2, d2, ds2, p2, q2, rfl, rfl, rfl, h2, r2⟩ := trodAll_cons r1
  obtain ⟨v3, vs3, d3, ds3, p3, q3, rfl, rfl, rfl, h3, r3⟩ := trodAll_cons r2
  obtain ⟨rfl, rfl, rfl⟩ := trodAll_nil r3
  obtain rfl : args = #[v0, v1, v2, v3] := by cases args; simp_all
  obtain ⟨rfl, rfl⟩ := trodVars_none hV
  have k0 := h0
  have lt0 : ∀ x ∈ p0, x.block < W.heap.size := by obtain ⟨m, hm⟩ := k0; exact DataW.trod_lt m _ _ _ hm
  have w0 := openPg (hval 0 24 v0 rfl rfl) h0
  have k1 := h1
  have lt1 : ∀ x ∈ p1, x.block < W.heap.size := by obtain ⟨m, hm⟩ := k1; exact DataW.trod_lt m _ _ _ hm
  have w1 := openMm (hval 1 28 v1 rfl rfl) h1
  obtain ⟨a2, rfl, rfl, rfl, w2⟩ := open_int Tryz.underlying3 (hval 2 3 v2 rfl rfl) h2
  obtain ⟨a3, rfl, rfl, rfl, w3⟩ := open_int Tryz.underlying3 (hval 3 3 v3 rfl rfl) h3
  clear hA0 hval0
  refine (walk v0 v1 a2 a3 W w0 w1 (bounds_i64 w2) (bounds_i64 w3)).mono fun e W' ⟨he, bel⟩ => ?_
  subst he
  exact ⟨_, rfl, _, _, _, [], _, [], hW', trodAll_mk1 (shut_bool Tryz.underlying4 _), (trodAll_cons_mk (Below.trod laidOut (by kernel_rfl) (of_decide_eq_true (by kernel_rfl)) k0 bel lt0) (trodAll_cons_mk (Below.trod laidOut (by kernel_rfl) (of_decide_eq_true (by kernel_rfl)) k1 bel lt1) (trodAll_cons_mk (shut_int Tryz.underlying3 w2) (trodAll_cons_mk (shut_int Tryz.underlying3 w3) trodAll_mk0)))), rfl, bel.frame _, fun h => by cases h⟩

theorem over : Rows.fnExactMakeRow.holds Tryz.pinned (OpenSpec.ofChange Rows.fnExactMakeSpec) :=
  OpenClaim.holds_of_wide 3 Tryz.f3 rfl rfl rfl rfl rfl rfl rfl ⟨rfl, rfl, rfl, rfl, rfl⟩ rfl rfl rfl rfl rfl (by kernel_rfl) Tryz.func3 (by kernel_rfl)
    (of_decide_eq_true (by kernel_rfl)) (by unfold Func.isWrapper; first | (rw [if_pos (by decide +kernel)]; kernel_rfl) | (rw [if_neg (by decide +kernel)]; exact ⟨rfl, rfl⟩))
    (fun os started H enc _ => lifted os started H enc)

end Go.Proofs.YtelpdlhgjepgbaaGreat.fnExactMake
namespace Go.Proofs.YtelpdlhgjepgbaaGreat
theorem fnExactMake_holds : Rows.FnExactMakeSaid := fnExactMake.over
#print axioms fnExactMake_holds
end Go.Proofs.YtelpdlhgjepgbaaGreat
