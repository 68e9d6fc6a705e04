/-
  Proved: at every argument the program's Give answers as its model does, writes into no argument, and its answer owns its memory (the law FnExactGive returns true), without any condition.
-/
import Derived.Test.YtgkglebgpbehbaaRows
import Derived.Test.YtgkglebgpbehbaaThR
import Derived.Test.YtgkglebgpbehbaaThRK
import Derived.Test.YtgkglebgpbehbaaGivG
import Derived.Test.YtgkglebgpbehbaaGivT
import Derived.Test.YtgkglebgpbehbaaGivI
import Derived.Test.YtgkglebgpbehbaaStepW
import Derived.Deep.CutRange
import Derived.Deep.RegionWith
import Derived.Deep.RegionHeld
import Derived.BigRegion
import Derived.WalkKit
import Derived.ProofKit
import Derived.OpenShut
import Derived.ShutString
import Derived.ChangeOld
import Derived.Below
namespace Go.Proofs.Ytgkglebgpbehbaa.fnExactGive
open Go.ChangeShapes Go.WideShapes Go.ChangeAt Go.RowKit
open Go.ChangeMaps (open_string shut_string)
set_option linter.unusedVariables false

theorem own : ownKnob Try.prog.godebug = none := by kernel_rfl
theorem laidOut : laidOutB Try.prog = true := by kernel_rfl
set_option maxRecDepth 100000 in
set_option maxHeartbeats 8000000 in
theorem walk (v0 : Value) (v1 : Value) (w : World) (h0 : IsTh w v0) (h1 : IsVl w v1) :
    Calls Try.prog 4 #[v0, v1] w fun e w' => e = .returned (.bool true) ∧ Below w.heap.size w w' := by
  obtain ⟨t, ut1, rfl, gt1, rt⟩ := h0
  obtain ⟨at1, ct1, et1, _⟩ := gt1.shape
  subst et1
  have Pt1 := hide gt1
  have Rt := hide rt
  clear rt gt1
  obtain ⟨v, rfl, rv⟩ := h1
  have Rv := hide rv
  clear rv
  have bA := (((Below.refl w.heap.size w).alloc (Nat.le_refl _) (.cells #[.int .i64 t.i, .slice at1 t.f.length ct1, .int .i64 t.s, .int .i64 t.d] 27)).alloc (by simp) (.cells #[.bool v.r, .int .i64 v.n] 43))
  have G0 := heap_alloc_new w (.cells #[.int .i64 t.i, .slice at1 t.f.length ct1, .int .i64 t.s, .int .i64 t.d] 27)
  have G1 := heap_alloc_new (w.alloc (.cells #[.int .i64 t.i, .slice at1 t.f.length ct1, .int .i64 t.s, .int .i64 t.d] 27)) (.cells #[.bool v.r, .int .i64 v.n] 43)
  simp only [World.size_alloc] at G1
  have E0 := hide ((Below.heap_alloc _ (.cells #[.bool v.r, .int .i64 v.n] 43) _ (by simp)).trans (G0))
  have E1 := hide (G1)
  have HB := hide bA
  clear bA G0 G1
  obtain ⟨V0, hV0⟩ : ∃ V, giveX t v = V := ⟨_, rfl⟩
  have HV0 := hide hV0
  clear hV0
  unfold thV vlV
  go_enter Try.func4, Try.ntmps4
  go_wp2_with fail
  generalize ((w.alloc (.cells #[.int .i64 t.i, .slice at1 t.f.length ct1, .int .i64 t.s, .int .i64 t.d] 27)).alloc (.cells #[.bool v.r, .int .i64 v.n] 43)) = W at *
  refine (szTh _ t _ _ (Pt1.out.at HB.out) (by omega) (by omega) Rt.out).mono ?_
  rintro e w1 ⟨rfl, b9⟩
  replace E0 := hide ((b9.block _ (Array.getElem?_eq_some_iff.1 E0.out).1).trans E0.out)
  replace E1 := hide ((b9.block _ (Array.getElem?_eq_some_iff.1 E1.out).1).trans E1.out)
  have z1 := b9.size
  replace HB := hide (HB.out.trans (b9.mono HB.out.size))
  clear b9
  by_cases hmt : (1048576 : Int) < (thW t : Int)
  · rw [szR_neg hmt]
    go_wp2
    go_ret
    exact ⟨rfl, HB.out⟩
  · skip
    rw [szR_pos hmt]
    have hwt : thW t ≤ 1048576 := by omega
    have HGt := hide (thG_of Rt.out (by omega))
    have hnt : ¬ (1048576 : Int) - (thW t : Int) < 0 := by omega
    have hqt : (1048576 : Int) - (thW t : Int) ≤ 1048576 := by omega
    have hTt : (1048576 : Int) - (thW t : Int) + ((thW t : Int) : Int) ≤ 1048576 := by omega
    generalize (1048576 : Int) - (thW t : Int) = mt at *
    clear hmt
    have HGV0 := hide (HV0.out ▸ giveX_ok HGt.out (vlG_of Rv.out (Nat.zero_le _)))
    have hcV0 : thCto V0 ≤ 90000000 := by
      have h1 := thCto_le V0
      have h2 := giveX_w t v
      rw [HV0.out] at h2
      omega
    have hz0 : w.heap.size + 2 ≤ w1.heap.size := by
      have hh := (Array.getElem?_eq_some_iff.1 E1.out).1
      omega
    go_upto_region 5 with fail
    have HCL : Hid (∀ w', Below w1.heap.size w1 w' → w'.cell? ⟨w.heap.size, 0, none⟩ = some (.int .i64 t.i) ∧ w'.cell? ⟨w.heap.size, 1, none⟩ = some (.slice at1 t.f.length ct1) ∧ w'.cell? ⟨w.heap.size, 2, none⟩ = some (.int .i64 t.s) ∧ w'.cell? ⟨w.heap.size, 3, none⟩ = some (.int .i64 t.d) ∧ w'.cell? ⟨w.heap.size + 1, 0, none⟩ = some (.bool v.r) ∧ w'.cell? ⟨w.heap.size + 1, 1, none⟩ = some (.int .i64 v.n)) := hide (fun w' hb => ⟨(box_of ((hb.block _ (Array.getElem?_eq_some_iff.1 E0.out).1).trans E0.out)).1 0 _ rfl, (box_of ((hb.block _ (Array.getElem?_eq_some_iff.1 E0.out).1).trans E0.out)).1 1 _ rfl, (box_of ((hb.block _ (Array.getElem?_eq_some_iff.1 E0.out).1).trans E0.out)).1 2 _ rfl, (box_of ((hb.block _ (Array.getElem?_eq_some_iff.1 E0.out).1).trans E0.out)).1 3 _ rfl, (box_of ((hb.block _ (Array.getElem?_eq_some_iff.1 E1.out).1).trans E1.out)).1 0 _ rfl, (box_of ((hb.block _ (Array.getElem?_eq_some_iff.1 E1.out).1).trans E1.out)).1 1 _ rfl⟩)
    have HD := hide (Below.refl w1.heap.size w1).drew
    go_cut [6] from 18 to 22 (fun s6 wq => ∃ g6 : Nat, ∃ (a6_1 : Option Addr) (k6_1 : Nat), ∃ l6 h6 : Nat, s6 = .pointer (some ⟨g6, 0, none⟩) ∧ Hid (wq.heap[g6]? = some (.cells #[.int .i64 V0.i, .slice a6_1 V0.f.length k6_1, .int .i64 V0.s, .int .i64 V0.d] 37 (0, 0))) ∧ Hid (OwnDL wq l6 h6 (thD V0) [.int .i64 V0.i, .slice a6_1 V0.f.length k6_1, .int .i64 V0.s, .int .i64 V0.d]) ∧ w1.heap.size ≤ l6 ∧ l6 ≤ h6 ∧ h6 ≤ wq.heap.size ∧ (g6 < l6 ∨ h6 ≤ g6) ∧ w1.heap.size ≤ g6 ∧ g6 < wq.heap.size ∧ Hid (Below w1.heap.size w1 wq))
    case first =>
      have hi9 : ((Try.prog.info? 37).map (·.size)) = some 4 := by kernel_rfl
      refine wp_region_held_drew (S := fun w' => w'.cell? ⟨w.heap.size, 0, none⟩ = some (.int .i64 t.i) ∧ w'.cell? ⟨w.heap.size, 1, none⟩ = some (.slice at1 t.f.length ct1) ∧ w'.cell? ⟨w.heap.size, 2, none⟩ = some (.int .i64 t.s) ∧ w'.cell? ⟨w.heap.size, 3, none⟩ = some (.int .i64 t.d) ∧ w'.cell? ⟨w.heap.size + 1, 0, none⟩ = some (.bool v.r) ∧ w'.cell? ⟨w.heap.size + 1, 1, none⟩ = some (.int .i64 v.n)) (by kernel_rfl) (HCL.out _ HD.out) (fun hHeld => ?_)
      have HW := HD
      clear HD
      generalize w1.drew = Z0 at *
      refine wpAnyH_take (i := 0) (v := .agg #[.int .i64 t.i, .slice at1 t.f.length ct1, .int .i64 t.s, .int .i64 t.d]) rfl (by kernel_rfl) (by kernel_rfl) (by kernel_rfl) (fun _ _ _ h => h) (Or.inl ⟨by rfl, ?_⟩) (by assumption) ?_
      · intro w' hSw
        try dsimp only at hSw
        go_simp; try rfl
      simp only [List.getElem_toArray, List.getElem_cons_zero, Act.put, List.setIfInBounds_toArray, List.set_cons_zero, List.set_cons_succ]
      refine wpAnyH_take (i := 2) (v := .agg #[.bool v.r, .int .i64 v.n]) rfl (by kernel_rfl) (by kernel_rfl) (by kernel_rfl) (fun _ _ _ h => h) (Or.inl ⟨by rfl, ?_⟩) (by assumption) ?_
      · intro w' hSw
        try dsimp only at hSw
        go_simp; try rfl
      simp only [List.getElem_toArray, List.getElem_cons_succ, List.getElem_cons_zero, Act.put, List.setIfInBounds_toArray, List.set_cons_zero, List.set_cons_succ]
      refine wpAnyH_ready (rs := [1, 5]) (by kernel_rfl) (by simp) (AllReadyH.cons rfl (fun K hK => ?_) (AllReadyH.cons rfl (fun K hK => ?_) AllReadyH.nil))
      · skip
        refine step_callW (some 19) (by kernel_rfl) (by kernel_rfl) 9 _ _ rfl #[.agg #[.int .i64 t.i, .slice at1 t.f.length ct1, .int .i64 t.s, .int .i64 t.d]] (by kernel_rfl) (toTh _ t _ (Pt1.out.at (HB.out.trans (HW.out.mono HB.out.size))) HGt.out) ?_
        rintro e Z1 ⟨n91_1, rfl, o9, b9⟩
        obtain ⟨p91_1, q91_1, f91_1, _⟩ := (thD_own o9).shape
        subst f91_1
        have OH91 := hide o9
        clear o9
        unfold thV
        replace HW := hide (HW.out.trans (b9.mono HW.out.size))
        clear b9
        refine ⟨_, rfl, ?_⟩
        refine hK.out _ _ (HCL.out _ HW.out) (fun hHeld => ?_)
        clear hK K
        simp only [Act.put, List.setIfInBounds_toArray, List.set_cons_zero, List.set_cons_succ]
        refine wpAnyH_ready (rs := [3, 5]) (by kernel_rfl) (by simp) (AllReadyH.cons rfl (fun K hK => ?_) (AllReadyH.cons rfl (fun K hK => ?_) AllReadyH.nil))
        · skip
          refine step_callW (some 21) (by kernel_rfl) (by kernel_rfl) 14 _ _ rfl #[.agg #[.bool v.r, .int .i64 v.n]] (by kernel_rfl) (toVl _ v) ?_
          rintro e Z2 ⟨rfl, b9⟩
          unfold vlV
          replace OH91 := hide (OH91.out.below b9)
          replace HW := hide (HW.out.trans (b9.mono HW.out.size))
          clear b9
          refine ⟨_, rfl, ?_⟩
          refine hK.out _ _ (HCL.out _ HW.out) (fun hHeld => ?_)
          clear hK K
          simp only [Act.put, List.setIfInBounds_toArray, List.set_cons_zero, List.set_cons_succ]
          refine wpAnyH_ready (rs := [4, 5]) (by kernel_rfl) (by simp) (AllReadyH.cons rfl (fun K hK => ?_) (AllReadyH.cons rfl (fun K hK => ?_) AllReadyH.nil))
          · skip
            refine step_callW (some 22) (by kernel_rfl) (by kernel_rfl) 13 _ _ rfl #[.agg #[.int .i64 t.i, .slice p91_1 t.f.length q91_1, .int .i64 t.s, .int .i64 t.d], .agg #[.bool v.r, .int .i64 v.n]] (by kernel_rfl) (giveS _ t _ v (thD_own OH91.out) HGt.out) ?_
            rintro e Z3 ⟨n93_1, rfl, o9, b9⟩
            rw [HV0.out] at o9 ⊢
            obtain ⟨p93_1, q93_1, f93_1, _⟩ := (thD_own o9).shape
            subst f93_1
            unfold thV
            have HO9 := hide o9
            have lz9 := HW.out.size
            have lz8 := b9.size
            clear o9
            clear OH91
            replace HW := hide (HW.out.trans (b9.mono HW.out.size))
            clear b9
            refine ⟨_, rfl, ?_⟩
            refine hK.out _ _ (HCL.out _ HW.out) (fun hHeld => ?_)
            clear hK K
            simp only [Act.put, List.setIfInBounds_toArray, List.set_cons_zero, List.set_cons_succ]
            refine wpAnyH_ready (rs := [5]) (by kernel_rfl) (by simp) (AllReadyH.cons rfl (fun K hK => ?_) AllReadyH.nil)
            refine step_runX (some 6) (by kernel_rfl) (by kernel_rfl) (v := .pointer (some ⟨Z3.heap.size, 0, none⟩)) (w' := Z3.alloc (.cells #[.int .i64 0, .slice none 0 0, .int .i64 0, .int .i64 0] 37)) (by go_simp; try rfl) ?_
            have HN := hide (HW.out.alloc HW.out.size (.cells #[.int .i64 0, .slice none 0 0, .int .i64 0, .int .i64 0] 37))
            refine hK.out _ _ (HCL.out _ HN.out) (fun hHeld => ?_)
            clear hK K
            simp only [Act.put, List.setIfInBounds_toArray, List.set_cons_zero, List.set_cons_succ]
            have ka9 := HW.out.size
            have GA : Hid ((Z3.alloc (.cells #[.int .i64 0, .slice none 0 0, .int .i64 0, .int .i64 0] 37)).heap[Z3.heap.size]? = some (.cells #[.int .i64 0, .slice none 0 0, .int .i64 0, .int .i64 0] 37 (0, 0))) := hide (heap_alloc_new Z3 (.cells #[.int .i64 0, .slice none 0 0, .int .i64 0, .int .i64 0] 37))
            have kz9 : Z3.heap.size < (Z3.alloc (.cells #[.int .i64 0, .slice none 0 0, .int .i64 0, .int .i64 0] 37)).heap.size := by simp
            replace HO9 := hide (HO9.out.below ((Below.refl Z3.heap.size Z3).alloc (Nat.le_refl _) (.cells #[.int .i64 0, .slice none 0 0, .int .i64 0, .int .i64 0] 37)))
            obtain ⟨g9, hg9⟩ : ∃ g, Z3.heap.size = g := ⟨_, rfl⟩
            rw [hg9] at GA ka9 kz9 ⊢
            have kg9 : Z3.heap.size ≤ g9 := Nat.le_of_eq hg9
            clear HW hg9
            have HW := HN
            clear HN
            generalize Z3.alloc (.cells #[.int .i64 0, .slice none 0 0, .int .i64 0, .int .i64 0] 37) = Z4 at *
            refine wpAnyH_ready (rs := [6]) (by kernel_rfl) (by simp) (AllReadyH.cons rfl (fun K hK => ?_) AllReadyH.nil)
            refine step_storeX (by kernel_rfl) (by kernel_rfl) 37 _ _ rfl g9 #[.int .i64 V0.i, .slice p93_1 V0.f.length q93_1, .int .i64 V0.s, .int .i64 V0.d] (by kernel_rfl) (by kernel_rfl) _ _ GA.out hi9 (by rfl) (by simp [Value.oneCell']) ?_
            have HM := hide (below_setRow HW.out ka9 #[.int .i64 V0.i, .slice p93_1 V0.f.length q93_1, .int .i64 V0.s, .int .i64 V0.d])
            refine hK.out _ _ (HCL.out _ HM.out) (fun hHeld => ?_)
            clear hK K
            try simp only [Act.put, List.setIfInBounds_toArray, List.set_cons_zero, List.set_cons_succ]
            have GB := hide (setRow_heap Z4 g9 _ #[.int .i64 V0.i, .slice p93_1 V0.f.length q93_1, .int .i64 V0.s, .int .i64 V0.d] _ _ GA.out)
            have OR := hide (OwnDL.setRowA HO9.out g9 #[.int .i64 V0.i, .slice p93_1 V0.f.length q93_1, .int .i64 V0.s, .int .i64 V0.d] (by omega))
            have zz9 : Z4.heap.size ≤ (Z4.setRow g9 #[.int .i64 V0.i, .slice p93_1 V0.f.length q93_1, .int .i64 V0.s, .int .i64 V0.d]).heap.size := by simp
            clear HO9
            clear HW GA
            generalize Z4.setRow g9 #[.int .i64 V0.i, .slice p93_1 V0.f.length q93_1, .int .i64 V0.s, .int .i64 V0.d] = Y5 at *
            refine wpAnyH_done (by kernel_rfl) ?_ _
            go_wp2_with fail
            go_meet
            exact ⟨g9, _, _, _, _, rfl, GB, OR, by omega, by omega, by omega, by omega, by omega, by omega, HM⟩
          · skip
            refine step_runX (some 6) (by kernel_rfl) (by kernel_rfl) (v := .pointer (some ⟨Z2.heap.size, 0, none⟩)) (w' := Z2.alloc (.cells #[.int .i64 0, .slice none 0 0, .int .i64 0, .int .i64 0] 37)) (by go_simp; try rfl) ?_
            have HN := hide (HW.out.alloc HW.out.size (.cells #[.int .i64 0, .slice none 0 0, .int .i64 0, .int .i64 0] 37))
            refine hK.out _ _ (HCL.out _ HN.out) (fun hHeld => ?_)
            clear hK K
            simp only [Act.put, List.setIfInBounds_toArray, List.set_cons_zero, List.set_cons_succ]
            have ka9 := HW.out.size
            have GA : Hid ((Z2.alloc (.cells #[.int .i64 0, .slice none 0 0, .int .i64 0, .int .i64 0] 37)).heap[Z2.heap.size]? = some (.cells #[.int .i64 0, .slice none 0 0, .int .i64 0, .int .i64 0] 37 (0, 0))) := hide (heap_alloc_new Z2 (.cells #[.int .i64 0, .slice none 0 0, .int .i64 0, .int .i64 0] 37))
            have kz9 : Z2.heap.size < (Z2.alloc (.cells #[.int .i64 0, .slice none 0 0, .int .i64 0, .int .i64 0] 37)).heap.size := by simp
            replace OH91 := hide (OH91.out.below ((Below.refl Z2.heap.size Z2).alloc (Nat.le_refl _) (.cells #[.int .i64 0, .slice none 0 0, .int .i64 0, .int .i64 0] 37)))
            obtain ⟨g9, hg9⟩ : ∃ g, Z2.heap.size = g := ⟨_, rfl⟩
            rw [hg9] at GA ka9 kz9 ⊢
            have kg9 : Z2.heap.size ≤ g9 := Nat.le_of_eq hg9
            clear HW hg9
            have HW := HN
            clear HN
            generalize Z2.alloc (.cells #[.int .i64 0, .slice none 0 0, .int .i64 0, .int .i64 0] 37) = Z6 at *
            refine wpAnyH_ready (rs := [4]) (by kernel_rfl) (by simp) (AllReadyH.cons rfl (fun K hK => ?_) AllReadyH.nil)
            refine step_callW (some 22) (by kernel_rfl) (by kernel_rfl) 13 _ _ rfl #[.agg #[.int .i64 t.i, .slice p91_1 t.f.length q91_1, .int .i64 t.s, .int .i64 t.d], .agg #[.bool v.r, .int .i64 v.n]] (by kernel_rfl) (giveS _ t _ v (thD_own OH91.out) HGt.out) ?_
            rintro e Z7 ⟨n97_1, rfl, o9, b9⟩
            rw [HV0.out] at o9 ⊢
            obtain ⟨p97_1, q97_1, f97_1, _⟩ := (thD_own o9).shape
            subst f97_1
            unfold thV
            have HO9 := hide o9
            have lz9 := HW.out.size
            have lz8 := b9.size
            clear o9
            clear OH91
            replace GA := hide ((b9.block g9 (Array.getElem?_eq_some_iff.1 GA.out).1).trans GA.out)
            replace HW := hide (HW.out.trans (b9.mono HW.out.size))
            clear b9
            refine ⟨_, rfl, ?_⟩
            refine hK.out _ _ (HCL.out _ HW.out) (fun hHeld => ?_)
            clear hK K
            simp only [Act.put, List.setIfInBounds_toArray, List.set_cons_zero, List.set_cons_succ]
            refine wpAnyH_ready (rs := [6]) (by kernel_rfl) (by simp) (AllReadyH.cons rfl (fun K hK => ?_) AllReadyH.nil)
            refine step_storeX (by kernel_rfl) (by kernel_rfl) 37 _ _ rfl g9 #[.int .i64 V0.i, .slice p97_1 V0.f.length q97_1, .int .i64 V0.s, .int .i64 V0.d] (by kernel_rfl) (by kernel_rfl) _ _ GA.out hi9 (by rfl) (by simp [Value.oneCell']) ?_
            have HM := hide (below_setRow HW.out ka9 #[.int .i64 V0.i, .slice p97_1 V0.f.length q97_1, .int .i64 V0.s, .int .i64 V0.d])
            refine hK.out _ _ (HCL.out _ HM.out) (fun hHeld => ?_)
            clear hK K
            try simp only [Act.put, List.setIfInBounds_toArray, List.set_cons_zero, List.set_cons_succ]
            have GB := hide (setRow_heap Z7 g9 _ #[.int .i64 V0.i, .slice p97_1 V0.f.length q97_1, .int .i64 V0.s, .int .i64 V0.d] _ _ GA.out)
            have OR := hide (OwnDL.setRowA HO9.out g9 #[.int .i64 V0.i, .slice p97_1 V0.f.length q97_1, .int .i64 V0.s, .int .i64 V0.d] (by omega))
            have zz9 : Z7.heap.size ≤ (Z7.setRow g9 #[.int .i64 V0.i, .slice p97_1 V0.f.length q97_1, .int .i64 V0.s, .int .i64 V0.d]).heap.size := by simp
            clear HO9
            clear HW GA
            generalize Z7.setRow g9 #[.int .i64 V0.i, .slice p97_1 V0.f.length q97_1, .int .i64 V0.s, .int .i64 V0.d] = Y8 at *
            refine wpAnyH_done (by kernel_rfl) ?_ _
            go_wp2_with fail
            go_meet
            exact ⟨g9, _, _, _, _, rfl, GB, OR, by omega, by omega, by omega, by omega, by omega, by omega, HM⟩
        · skip
          refine step_runX (some 6) (by kernel_rfl) (by kernel_rfl) (v := .pointer (some ⟨Z1.heap.size, 0, none⟩)) (w' := Z1.alloc (.cells #[.int .i64 0, .slice none 0 0, .int .i64 0, .int .i64 0] 37)) (by go_simp; try rfl) ?_
          have HN := hide (HW.out.alloc HW.out.size (.cells #[.int .i64 0, .slice none 0 0, .int .i64 0, .int .i64 0] 37))
          refine hK.out _ _ (HCL.out _ HN.out) (fun hHeld => ?_)
          clear hK K
          simp only [Act.put, List.setIfInBounds_toArray, List.set_cons_zero, List.set_cons_succ]
          have ka9 := HW.out.size
          have GA : Hid ((Z1.alloc (.cells #[.int .i64 0, .slice none 0 0, .int .i64 0, .int .i64 0] 37)).heap[Z1.heap.size]? = some (.cells #[.int .i64 0, .slice none 0 0, .int .i64 0, .int .i64 0] 37 (0, 0))) := hide (heap_alloc_new Z1 (.cells #[.int .i64 0, .slice none 0 0, .int .i64 0, .int .i64 0] 37))
          have kz9 : Z1.heap.size < (Z1.alloc (.cells #[.int .i64 0, .slice none 0 0, .int .i64 0, .int .i64 0] 37)).heap.size := by simp
          replace OH91 := hide (OH91.out.below ((Below.refl Z1.heap.size Z1).alloc (Nat.le_refl _) (.cells #[.int .i64 0, .slice none 0 0, .int .i64 0, .int .i64 0] 37)))
          obtain ⟨g9, hg9⟩ : ∃ g, Z1.heap.size = g := ⟨_, rfl⟩
          rw [hg9] at GA ka9 kz9 ⊢
          have kg9 : Z1.heap.size ≤ g9 := Nat.le_of_eq hg9
          clear HW hg9
          have HW := HN
          clear HN
          generalize Z1.alloc (.cells #[.int .i64 0, .slice none 0 0, .int .i64 0, .int .i64 0] 37) = Z9 at *
          refine wpAnyH_ready (rs := [3]) (by kernel_rfl) (by simp) (AllReadyH.cons rfl (fun K hK => ?_) AllReadyH.nil)
          refine step_callW (some 21) (by kernel_rfl) (by kernel_rfl) 14 _ _ rfl #[.agg #[.bool v.r, .int .i64 v.n]] (by kernel_rfl) (toVl _ v) ?_
          rintro e Z10 ⟨rfl, b9⟩
          unfold vlV
          replace OH91 := hide (OH91.out.below b9)
          replace GA := hide ((b9.block g9 (Array.getElem?_eq_some_iff.1 GA.out).1).trans GA.out)
          replace kz9 := Nat.lt_of_lt_of_le kz9 b9.size
          replace HW := hide (HW.out.trans (b9.mono HW.out.size))
          clear b9
          refine ⟨_, rfl, ?_⟩
          refine hK.out _ _ (HCL.out _ HW.out) (fun hHeld => ?_)
          clear hK K
          simp only [Act.put, List.setIfInBounds_toArray, List.set_cons_zero, List.set_cons_succ]
          refine wpAnyH_ready (rs := [4]) (by kernel_rfl) (by simp) (AllReadyH.cons rfl (fun K hK => ?_) AllReadyH.nil)
          refine step_callW (some 22) (by kernel_rfl) (by kernel_rfl) 13 _ _ rfl #[.agg #[.int .i64 t.i, .slice p91_1 t.f.length q91_1, .int .i64 t.s, .int .i64 t.d], .agg #[.bool v.r, .int .i64 v.n]] (by kernel_rfl) (giveS _ t _ v (thD_own OH91.out) HGt.out) ?_
          rintro e Z11 ⟨n911_1, rfl, o9, b9⟩
          rw [HV0.out] at o9 ⊢
          obtain ⟨p911_1, q911_1, f911_1, _⟩ := (thD_own o9).shape
          subst f911_1
          unfold thV
          have HO9 := hide o9
          have lz9 := HW.out.size
          have lz8 := b9.size
          clear o9
          clear OH91
          replace GA := hide ((b9.block g9 (Array.getElem?_eq_some_iff.1 GA.out).1).trans GA.out)
          replace HW := hide (HW.out.trans (b9.mono HW.out.size))
          clear b9
          refine ⟨_, rfl, ?_⟩
          refine hK.out _ _ (HCL.out _ HW.out) (fun hHeld => ?_)
          clear hK K
          simp only [Act.put, List.setIfInBounds_toArray, List.set_cons_zero, List.set_cons_succ]
          refine wpAnyH_ready (rs := [6]) (by kernel_rfl) (by simp) (AllReadyH.cons rfl (fun K hK => ?_) AllReadyH.nil)
          refine step_storeX (by kernel_rfl) (by kernel_rfl) 37 _ _ rfl g9 #[.int .i64 V0.i, .slice p911_1 V0.f.length q911_1, .int .i64 V0.s, .int .i64 V0.d] (by kernel_rfl) (by kernel_rfl) _ _ GA.out hi9 (by rfl) (by simp [Value.oneCell']) ?_
          have HM := hide (below_setRow HW.out ka9 #[.int .i64 V0.i, .slice p911_1 V0.f.length q911_1, .int .i64 V0.s, .int .i64 V0.d])
          refine hK.out _ _ (HCL.out _ HM.out) (fun hHeld => ?_)
          clear hK K
          try simp only [Act.put, List.setIfInBounds_toArray, List.set_cons_zero, List.set_cons_succ]
          have GB := hide (setRow_heap Z11 g9 _ #[.int .i64 V0.i, .slice p911_1 V0.f.length q911_1, .int .i64 V0.s, .int .i64 V0.d] _ _ GA.out)
          have OR := hide (OwnDL.setRowA HO9.out g9 #[.int .i64 V0.i, .slice p911_1 V0.f.length q911_1, .int .i64 V0.s, .int .i64 V0.d] (by omega))
          have zz9 : Z11.heap.size ≤ (Z11.setRow g9 #[.int .i64 V0.i, .slice p911_1 V0.f.length q911_1, .int .i64 V0.s, .int .i64 V0.d]).heap.size := by simp
          clear HO9
          clear HW GA
          generalize Z11.setRow g9 #[.int .i64 V0.i, .slice p911_1 V0.f.length q911_1, .int .i64 V0.s, .int .i64 V0.d] = Y12 at *
          refine wpAnyH_done (by kernel_rfl) ?_ _
          go_wp2_with fail
          go_meet
          exact ⟨g9, _, _, _, _, rfl, GB, OR, by omega, by omega, by omega, by omega, by omega, by omega, HM⟩
      · skip
        refine step_runX (some 6) (by kernel_rfl) (by kernel_rfl) (v := .pointer (some ⟨Z0.heap.size, 0, none⟩)) (w' := Z0.alloc (.cells #[.int .i64 0, .slice none 0 0, .int .i64 0, .int .i64 0] 37)) (by go_simp; try rfl) ?_
        have HN := hide (HW.out.alloc HW.out.size (.cells #[.int .i64 0, .slice none 0 0, .int .i64 0, .int .i64 0] 37))
        refine hK.out _ _ (HCL.out _ HN.out) (fun hHeld => ?_)
        clear hK K
        simp only [Act.put, List.setIfInBounds_toArray, List.set_cons_zero, List.set_cons_succ]
        have ka9 := HW.out.size
        have GA : Hid ((Z0.alloc (.cells #[.int .i64 0, .slice none 0 0, .int .i64 0, .int .i64 0] 37)).heap[Z0.heap.size]? = some (.cells #[.int .i64 0, .slice none 0 0, .int .i64 0, .int .i64 0] 37 (0, 0))) := hide (heap_alloc_new Z0 (.cells #[.int .i64 0, .slice none 0 0, .int .i64 0, .int .i64 0] 37))
        have kz9 : Z0.heap.size < (Z0.alloc (.cells #[.int .i64 0, .slice none 0 0, .int .i64 0, .int .i64 0] 37)).heap.size := by simp
        obtain ⟨g9, hg9⟩ : ∃ g, Z0.heap.size = g := ⟨_, rfl⟩
        rw [hg9] at GA ka9 kz9 ⊢
        have kg9 : Z0.heap.size ≤ g9 := Nat.le_of_eq hg9
        clear HW hg9
        have HW := HN
        clear HN
        generalize Z0.alloc (.cells #[.int .i64 0, .slice none 0 0, .int .i64 0, .int .i64 0] 37) = Z13 at *
        refine wpAnyH_ready (rs := [1]) (by kernel_rfl) (by simp) (AllReadyH.cons rfl (fun K hK => ?_) AllReadyH.nil)
        refine step_callW (some 19) (by kernel_rfl) (by kernel_rfl) 9 _ _ rfl #[.agg #[.int .i64 t.i, .slice at1 t.f.length ct1, .int .i64 t.s, .int .i64 t.d]] (by kernel_rfl) (toTh _ t _ (Pt1.out.at (HB.out.trans (HW.out.mono HB.out.size))) HGt.out) ?_
        rintro e Z14 ⟨n914_1, rfl, o9, b9⟩
        obtain ⟨p914_1, q914_1, f914_1, _⟩ := (thD_own o9).shape
        subst f914_1
        have OH914 := hide o9
        clear o9
        unfold thV
        replace GA := hide ((b9.block g9 (Array.getElem?_eq_some_iff.1 GA.out).1).trans GA.out)
        replace kz9 := Nat.lt_of_lt_of_le kz9 b9.size
        replace HW := hide (HW.out.trans (b9.mono HW.out.size))
        clear b9
        refine ⟨_, rfl, ?_⟩
        refine hK.out _ _ (HCL.out _ HW.out) (fun hHeld => ?_)
        clear hK K
        simp only [Act.put, List.setIfInBounds_toArray, List.set_cons_zero, List.set_cons_succ]
        refine wpAnyH_ready (rs := [3]) (by kernel_rfl) (by simp) (AllReadyH.cons rfl (fun K hK => ?_) AllReadyH.nil)
        refine step_callW (some 21) (by kernel_rfl) (by kernel_rfl) 14 _ _ rfl #[.agg #[.bool v.r, .int .i64 v.n]] (by kernel_rfl) (toVl _ v) ?_
        rintro e Z15 ⟨rfl, b9⟩
        unfold vlV
        replace OH914 := hide (OH914.out.below b9)
        replace GA := hide ((b9.block g9 (Array.getElem?_eq_some_iff.1 GA.out).1).trans GA.out)
        replace kz9 := Nat.lt_of_lt_of_le kz9 b9.size
        replace HW := hide (HW.out.trans (b9.mono HW.out.size))
        clear b9
        refine ⟨_, rfl, ?_⟩
        refine hK.out _ _ (HCL.out _ HW.out) (fun hHeld => ?_)
        clear hK K
        simp only [Act.put, List.setIfInBounds_toArray, List.set_cons_zero, List.set_cons_succ]
        refine wpAnyH_ready (rs := [4]) (by kernel_rfl) (by simp) (AllReadyH.cons rfl (fun K hK => ?_) AllReadyH.nil)
        refine step_callW (some 22) (by kernel_rfl) (by kernel_rfl) 13 _ _ rfl #[.agg #[.int .i64 t.i, .slice p914_1 t.f.length q914_1, .int .i64 t.s, .int .i64 t.d], .agg #[.bool v.r, .int .i64 v.n]] (by kernel_rfl) (giveS _ t _ v (thD_own OH914.out) HGt.out) ?_
        rintro e Z16 ⟨n916_1, rfl, o9, b9⟩
        rw [HV0.out] at o9 ⊢
        obtain ⟨p916_1, q916_1, f916_1, _⟩ := (thD_own o9).shape
        subst f916_1
        unfold thV
        have HO9 := hide o9
        have lz9 := HW.out.size
        have lz8 := b9.size
        clear o9
        clear OH914
        replace GA := hide ((b9.block g9 (Array.getElem?_eq_some_iff.1 GA.out).1).trans GA.out)
        replace HW := hide (HW.out.trans (b9.mono HW.out.size))
        clear b9
        refine ⟨_, rfl, ?_⟩
        refine hK.out _ _ (HCL.out _ HW.out) (fun hHeld => ?_)
        clear hK K
        simp only [Act.put, List.setIfInBounds_toArray, List.set_cons_zero, List.set_cons_succ]
        refine wpAnyH_ready (rs := [6]) (by kernel_rfl) (by simp) (AllReadyH.cons rfl (fun K hK => ?_) AllReadyH.nil)
        refine step_storeX (by kernel_rfl) (by kernel_rfl) 37 _ _ rfl g9 #[.int .i64 V0.i, .slice p916_1 V0.f.length q916_1, .int .i64 V0.s, .int .i64 V0.d] (by kernel_rfl) (by kernel_rfl) _ _ GA.out hi9 (by rfl) (by simp [Value.oneCell']) ?_
        have HM := hide (below_setRow HW.out ka9 #[.int .i64 V0.i, .slice p916_1 V0.f.length q916_1, .int .i64 V0.s, .int .i64 V0.d])
        refine hK.out _ _ (HCL.out _ HM.out) (fun hHeld => ?_)
        clear hK K
        try simp only [Act.put, List.setIfInBounds_toArray, List.set_cons_zero, List.set_cons_succ]
        have GB := hide (setRow_heap Z16 g9 _ #[.int .i64 V0.i, .slice p916_1 V0.f.length q916_1, .int .i64 V0.s, .int .i64 V0.d] _ _ GA.out)
        have OR := hide (OwnDL.setRowA HO9.out g9 #[.int .i64 V0.i, .slice p916_1 V0.f.length q916_1, .int .i64 V0.s, .int .i64 V0.d] (by omega))
        have zz9 : Z16.heap.size ≤ (Z16.setRow g9 #[.int .i64 V0.i, .slice p916_1 V0.f.length q916_1, .int .i64 V0.s, .int .i64 V0.d]).heap.size := by simp
        clear HO9
        clear HW GA
        generalize Z16.setRow g9 #[.int .i64 V0.i, .slice p916_1 V0.f.length q916_1, .int .i64 V0.s, .int .i64 V0.d] = Y17 at *
        refine wpAnyH_done (by kernel_rfl) ?_ _
        go_wp2_with fail
        go_meet
        exact ⟨g9, _, _, _, _, rfl, GB, OR, by omega, by omega, by omega, by omega, by omega, by omega, HM⟩
    case rest =>
    obtain ⟨G6, a6_1, k6_1, l6, h6, rfl, X6, OX6, zl6, zm6, zh6, zg6, zb6, zc6, HQ9⟩ := hcut
    have b9 := HQ9.out
    clear HQ9 HCL HD
    replace E0 := hide ((b9.block _ (Array.getElem?_eq_some_iff.1 E0.out).1).trans E0.out)
    replace E1 := hide ((b9.block _ (Array.getElem?_eq_some_iff.1 E1.out).1).trans E1.out)
    have z2 := b9.size
    replace HB := hide (HB.out.trans (b9.mono HB.out.size))
    clear b9
    generalize wc = w2 at *
    have y0_0 := (box_of E0.out).1 0 _ rfl
    have y0_1 := (box_of E0.out).1 1 _ rfl
    have y0_2 := (box_of E0.out).1 2 _ rfl
    have y0_3 := (box_of E0.out).1 3 _ rfl
    go_wp2_with fail
    clear y0_0 y0_1 y0_2 y0_3
    refine (toTh _ t _ (Pt1.out.at HB.out) HGt.out).mono ?_
    rintro e w3 ⟨n3_1, rfl, o9, b9⟩
    obtain ⟨p3_1, q3_1, f3_1, _⟩ := (thD_own o9).shape
    subst f3_1
    have O3 := hide o9
    clear o9
    replace E0 := hide ((b9.block _ (Array.getElem?_eq_some_iff.1 E0.out).1).trans E0.out)
    replace E1 := hide ((b9.block _ (Array.getElem?_eq_some_iff.1 E1.out).1).trans E1.out)
    replace X6 := hide ((b9.block _ (Array.getElem?_eq_some_iff.1 X6.out).1).trans X6.out)
    replace OX6 := hide (OX6.out.below b9)
    have z3 := b9.size
    replace HB := hide (HB.out.trans (b9.mono HB.out.size))
    clear b9
    unfold thV
    have bD := (Below.refl w3.heap.size w3).alloc (Nat.le_refl _) (.cells #[.int .i64 t.i, .slice p3_1 t.f.length q3_1, .int .i64 t.s, .int .i64 t.d] 37)
    have X7 := hide (heap_alloc_new w3 (.cells #[.int .i64 t.i, .slice p3_1 t.f.length q3_1, .int .i64 t.s, .int .i64 t.d] 37))
    have z4 : w3.heap.size < (w3.alloc (.cells #[.int .i64 t.i, .slice p3_1 t.f.length q3_1, .int .i64 t.s, .int .i64 t.d] 37)).heap.size := by simp
    replace E0 := hide ((bD.block _ (Array.getElem?_eq_some_iff.1 E0.out).1).trans E0.out)
    replace E1 := hide ((bD.block _ (Array.getElem?_eq_some_iff.1 E1.out).1).trans E1.out)
    replace X6 := hide ((bD.block _ (Array.getElem?_eq_some_iff.1 X6.out).1).trans X6.out)
    replace OX6 := hide (OX6.out.below bD)
    replace O3 := hide (O3.out.below bD)
    have z5 := bD.size
    replace HB := hide (HB.out.trans (bD.mono HB.out.size))
    clear bD
    go_upto_region 7 with fail
    generalize w3.alloc (.cells #[.int .i64 t.i, .slice p3_1 t.f.length q3_1, .int .i64 t.s, .int .i64 t.d] 37) = w4 at *
    have HCL : Hid (∀ w', Below w4.heap.size w4 w' → w'.cell? ⟨w3.heap.size, 0, none⟩ = some (.int .i64 t.i) ∧ w'.cell? ⟨w3.heap.size, 1, none⟩ = some (.slice p3_1 t.f.length q3_1) ∧ w'.cell? ⟨w3.heap.size, 2, none⟩ = some (.int .i64 t.s) ∧ w'.cell? ⟨w3.heap.size, 3, none⟩ = some (.int .i64 t.d) ∧ w'.cell? ⟨w.heap.size + 1, 0, none⟩ = some (.bool v.r) ∧ w'.cell? ⟨w.heap.size + 1, 1, none⟩ = some (.int .i64 v.n)) := hide (fun w' hb => ⟨(box_of ((hb.block _ (Array.getElem?_eq_some_iff.1 X7.out).1).trans X7.out)).1 0 _ rfl, (box_of ((hb.block _ (Array.getElem?_eq_some_iff.1 X7.out).1).trans X7.out)).1 1 _ rfl, (box_of ((hb.block _ (Array.getElem?_eq_some_iff.1 X7.out).1).trans X7.out)).1 2 _ rfl, (box_of ((hb.block _ (Array.getElem?_eq_some_iff.1 X7.out).1).trans X7.out)).1 3 _ rfl, (box_of ((hb.block _ (Array.getElem?_eq_some_iff.1 E1.out).1).trans E1.out)).1 0 _ rfl, (box_of ((hb.block _ (Array.getElem?_eq_some_iff.1 E1.out).1).trans E1.out)).1 1 _ rfl⟩)
    have HD := hide (Below.refl w4.heap.size w4).drew
    go_cut [8] from 25 to 28 (fun s8 wq => ∃ g8 : Nat, ∃ (a8_1 : Option Addr) (k8_1 : Nat), ∃ l8 h8 : Nat, s8 = .pointer (some ⟨g8, 0, none⟩) ∧ Hid (wq.heap[g8]? = some (.cells #[.int .i64 V0.i, .slice a8_1 V0.f.length k8_1, .int .i64 V0.s, .int .i64 V0.d] 37 (0, 0))) ∧ Hid (OwnDL wq l8 h8 (thD V0) [.int .i64 V0.i, .slice a8_1 V0.f.length k8_1, .int .i64 V0.s, .int .i64 V0.d]) ∧ w4.heap.size ≤ l8 ∧ l8 ≤ h8 ∧ h8 ≤ wq.heap.size ∧ (g8 < l8 ∨ h8 ≤ g8) ∧ w4.heap.size ≤ g8 ∧ g8 < wq.heap.size ∧ Hid (Below w4.heap.size w4 wq))
    case first =>
      have hi9 : ((Try.prog.info? 37).map (·.size)) = some 4 := by kernel_rfl
      refine wp_region_held_drew (S := fun w' => w'.cell? ⟨w3.heap.size, 0, none⟩ = some (.int .i64 t.i) ∧ w'.cell? ⟨w3.heap.size, 1, none⟩ = some (.slice p3_1 t.f.length q3_1) ∧ w'.cell? ⟨w3.heap.size, 2, none⟩ = some (.int .i64 t.s) ∧ w'.cell? ⟨w3.heap.size, 3, none⟩ = some (.int .i64 t.d) ∧ w'.cell? ⟨w.heap.size + 1, 0, none⟩ = some (.bool v.r) ∧ w'.cell? ⟨w.heap.size + 1, 1, none⟩ = some (.int .i64 v.n)) (by kernel_rfl) (HCL.out _ HD.out) (fun hHeld => ?_)
      have HW := HD
      clear HD
      generalize w4.drew = Z0 at *
      refine wpAnyH_take (i := 0) (v := .agg #[.int .i64 t.i, .slice p3_1 t.f.length q3_1, .int .i64 t.s, .int .i64 t.d]) rfl (by kernel_rfl) (by kernel_rfl) (by kernel_rfl) (fun _ _ _ h => h) (Or.inl ⟨by rfl, ?_⟩) (by assumption) ?_
      · intro w' hSw
        try dsimp only at hSw
        go_simp; try rfl
      simp only [List.getElem_toArray, List.getElem_cons_zero, Act.put, List.setIfInBounds_toArray, List.set_cons_zero, List.set_cons_succ]
      refine wpAnyH_take (i := 1) (v := .agg #[.bool v.r, .int .i64 v.n]) rfl (by kernel_rfl) (by kernel_rfl) (by kernel_rfl) (fun _ _ _ h => h) (Or.inl ⟨by rfl, ?_⟩) (by assumption) ?_
      · intro w' hSw
        try dsimp only at hSw
        go_simp; try rfl
      simp only [List.getElem_toArray, List.getElem_cons_succ, List.getElem_cons_zero, Act.put, List.setIfInBounds_toArray, List.set_cons_zero, List.set_cons_succ]
      refine wpAnyH_ready (rs := [2, 4]) (by kernel_rfl) (by simp) (AllReadyH.cons rfl (fun K hK => ?_) (AllReadyH.cons rfl (fun K hK => ?_) AllReadyH.nil))
      · skip
        refine step_callW (some 27) (by kernel_rfl) (by kernel_rfl) 14 _ _ rfl #[.agg #[.bool v.r, .int .i64 v.n]] (by kernel_rfl) (toVl _ v) ?_
        rintro e Z1 ⟨rfl, b9⟩
        unfold vlV
        replace HW := hide (HW.out.trans (b9.mono HW.out.size))
        clear b9
        refine ⟨_, rfl, ?_⟩
        refine hK.out _ _ (HCL.out _ HW.out) (fun hHeld => ?_)
        clear hK K
        simp only [Act.put, List.setIfInBounds_toArray, List.set_cons_zero, List.set_cons_succ]
        refine wpAnyH_ready (rs := [3, 4]) (by kernel_rfl) (by simp) (AllReadyH.cons rfl (fun K hK => ?_) (AllReadyH.cons rfl (fun K hK => ?_) AllReadyH.nil))
        · skip
          refine step_callW (some 28) (by kernel_rfl) (by kernel_rfl) 15 _ _ rfl #[.agg #[.int .i64 t.i, .slice p3_1 t.f.length q3_1, .int .i64 t.s, .int .i64 t.d], .agg #[.bool v.r, .int .i64 v.n]] (by kernel_rfl) (giveI _ t _ v (thD_own (O3.out.below HW.out)) HGt.out) ?_
          rintro e Z2 ⟨n92_1, rfl, o9, b9⟩
          rw [HV0.out] at o9 ⊢
          obtain ⟨p92_1, q92_1, f92_1, _⟩ := (thD_own o9).shape
          subst f92_1
          unfold thV
          have HO9 := hide o9
          have lz9 := HW.out.size
          have lz8 := b9.size
          clear o9
          replace HW := hide (HW.out.trans (b9.mono HW.out.size))
          clear b9
          refine ⟨_, rfl, ?_⟩
          refine hK.out _ _ (HCL.out _ HW.out) (fun hHeld => ?_)
          clear hK K
          simp only [Act.put, List.setIfInBounds_toArray, List.set_cons_zero, List.set_cons_succ]
          refine wpAnyH_ready (rs := [4]) (by kernel_rfl) (by simp) (AllReadyH.cons rfl (fun K hK => ?_) AllReadyH.nil)
          refine step_runX (some 8) (by kernel_rfl) (by kernel_rfl) (v := .pointer (some ⟨Z2.heap.size, 0, none⟩)) (w' := Z2.alloc (.cells #[.int .i64 0, .slice none 0 0, .int .i64 0, .int .i64 0] 37)) (by go_simp; try rfl) ?_
          have HN := hide (HW.out.alloc HW.out.size (.cells #[.int .i64 0, .slice none 0 0, .int .i64 0, .int .i64 0] 37))
          refine hK.out _ _ (HCL.out _ HN.out) (fun hHeld => ?_)
          clear hK K
          simp only [Act.put, List.setIfInBounds_toArray, List.set_cons_zero, List.set_cons_succ]
          have ka9 := HW.out.size
          have GA : Hid ((Z2.alloc (.cells #[.int .i64 0, .slice none 0 0, .int .i64 0, .int .i64 0] 37)).heap[Z2.heap.size]? = some (.cells #[.int .i64 0, .slice none 0 0, .int .i64 0, .int .i64 0] 37 (0, 0))) := hide (heap_alloc_new Z2 (.cells #[.int .i64 0, .slice none 0 0, .int .i64 0, .int .i64 0] 37))
          have kz9 : Z2.heap.size < (Z2.alloc (.cells #[.int .i64 0, .slice none 0 0, .int .i64 0, .int .i64 0] 37)).heap.size := by simp
          replace HO9 := hide (HO9.out.below ((Below.refl Z2.heap.size Z2).alloc (Nat.le_refl _) (.cells #[.int .i64 0, .slice none 0 0, .int .i64 0, .int .i64 0] 37)))
          obtain ⟨g9, hg9⟩ : ∃ g, Z2.heap.size = g := ⟨_, rfl⟩
          rw [hg9] at GA ka9 kz9 ⊢
          have kg9 : Z2.heap.size ≤ g9 := Nat.le_of_eq hg9
          clear HW hg9
          have HW := HN
          clear HN
          generalize Z2.alloc (.cells #[.int .i64 0, .slice none 0 0, .int .i64 0, .int .i64 0] 37) = Z3 at *
          refine wpAnyH_ready (rs := [5]) (by kernel_rfl) (by simp) (AllReadyH.cons rfl (fun K hK => ?_) AllReadyH.nil)
          refine step_storeX (by kernel_rfl) (by kernel_rfl) 37 _ _ rfl g9 #[.int .i64 V0.i, .slice p92_1 V0.f.length q92_1, .int .i64 V0.s, .int .i64 V0.d] (by kernel_rfl) (by kernel_rfl) _ _ GA.out hi9 (by rfl) (by simp [Value.oneCell']) ?_
          have HM := hide (below_setRow HW.out ka9 #[.int .i64 V0.i, .slice p92_1 V0.f.length q92_1, .int .i64 V0.s, .int .i64 V0.d])
          refine hK.out _ _ (HCL.out _ HM.out) (fun hHeld => ?_)
          clear hK K
          try simp only [Act.put, List.setIfInBounds_toArray, List.set_cons_zero, List.set_cons_succ]
          have GB := hide (setRow_heap Z3 g9 _ #[.int .i64 V0.i, .slice p92_1 V0.f.length q92_1, .int .i64 V0.s, .int .i64 V0.d] _ _ GA.out)
          have OR := hide (OwnDL.setRowA HO9.out g9 #[.int .i64 V0.i, .slice p92_1 V0.f.length q92_1, .int .i64 V0.s, .int .i64 V0.d] (by omega))
          have zz9 : Z3.heap.size ≤ (Z3.setRow g9 #[.int .i64 V0.i, .slice p92_1 V0.f.length q92_1, .int .i64 V0.s, .int .i64 V0.d]).heap.size := by simp
          clear HO9
          clear HW GA
          generalize Z3.setRow g9 #[.int .i64 V0.i, .slice p92_1 V0.f.length q92_1, .int .i64 V0.s, .int .i64 V0.d] = Y4 at *
          refine wpAnyH_done (by kernel_rfl) ?_ _
          go_wp2_with fail
          go_meet
          exact ⟨g9, _, _, _, _, rfl, GB, OR, by omega, by omega, by omega, by omega, by omega, by omega, HM⟩
        · skip
          refine step_runX (some 8) (by kernel_rfl) (by kernel_rfl) (v := .pointer (some ⟨Z1.heap.size, 0, none⟩)) (w' := Z1.alloc (.cells #[.int .i64 0, .slice none 0 0, .int .i64 0, .int .i64 0] 37)) (by go_simp; try rfl) ?_
          have HN := hide (HW.out.alloc HW.out.size (.cells #[.int .i64 0, .slice none 0 0, .int .i64 0, .int .i64 0] 37))
          refine hK.out _ _ (HCL.out _ HN.out) (fun hHeld => ?_)
          clear hK K
          simp only [Act.put, List.setIfInBounds_toArray, List.set_cons_zero, List.set_cons_succ]
          have ka9 := HW.out.size
          have GA : Hid ((Z1.alloc (.cells #[.int .i64 0, .slice none 0 0, .int .i64 0, .int .i64 0] 37)).heap[Z1.heap.size]? = some (.cells #[.int .i64 0, .slice none 0 0, .int .i64 0, .int .i64 0] 37 (0, 0))) := hide (heap_alloc_new Z1 (.cells #[.int .i64 0, .slice none 0 0, .int .i64 0, .int .i64 0] 37))
          have kz9 : Z1.heap.size < (Z1.alloc (.cells #[.int .i64 0, .slice none 0 0, .int .i64 0, .int .i64 0] 37)).heap.size := by simp
          obtain ⟨g9, hg9⟩ : ∃ g, Z1.heap.size = g := ⟨_, rfl⟩
          rw [hg9] at GA ka9 kz9 ⊢
          have kg9 : Z1.heap.size ≤ g9 := Nat.le_of_eq hg9
          clear HW hg9
          have HW := HN
          clear HN
          generalize Z1.alloc (.cells #[.int .i64 0, .slice none 0 0, .int .i64 0, .int .i64 0] 37) = Z5 at *
          refine wpAnyH_ready (rs := [3]) (by kernel_rfl) (by simp) (AllReadyH.cons rfl (fun K hK => ?_) AllReadyH.nil)
          refine step_callW (some 28) (by kernel_rfl) (by kernel_rfl) 15 _ _ rfl #[.agg #[.int .i64 t.i, .slice p3_1 t.f.length q3_1, .int .i64 t.s, .int .i64 t.d], .agg #[.bool v.r, .int .i64 v.n]] (by kernel_rfl) (giveI _ t _ v (thD_own (O3.out.below HW.out)) HGt.out) ?_
          rintro e Z6 ⟨n96_1, rfl, o9, b9⟩
          rw [HV0.out] at o9 ⊢
          obtain ⟨p96_1, q96_1, f96_1, _⟩ := (thD_own o9).shape
          subst f96_1
          unfold thV
          have HO9 := hide o9
          have lz9 := HW.out.size
          have lz8 := b9.size
          clear o9
          replace GA := hide ((b9.block g9 (Array.getElem?_eq_some_iff.1 GA.out).1).trans GA.out)
          replace HW := hide (HW.out.trans (b9.mono HW.out.size))
          clear b9
          refine ⟨_, rfl, ?_⟩
          refine hK.out _ _ (HCL.out _ HW.out) (fun hHeld => ?_)
          clear hK K
          simp only [Act.put, List.setIfInBounds_toArray, List.set_cons_zero, List.set_cons_succ]
          refine wpAnyH_ready (rs := [5]) (by kernel_rfl) (by simp) (AllReadyH.cons rfl (fun K hK => ?_) AllReadyH.nil)
          refine step_storeX (by kernel_rfl) (by kernel_rfl) 37 _ _ rfl g9 #[.int .i64 V0.i, .slice p96_1 V0.f.length q96_1, .int .i64 V0.s, .int .i64 V0.d] (by kernel_rfl) (by kernel_rfl) _ _ GA.out hi9 (by rfl) (by simp [Value.oneCell']) ?_
          have HM := hide (below_setRow HW.out ka9 #[.int .i64 V0.i, .slice p96_1 V0.f.length q96_1, .int .i64 V0.s, .int .i64 V0.d])
          refine hK.out _ _ (HCL.out _ HM.out) (fun hHeld => ?_)
          clear hK K
          try simp only [Act.put, List.setIfInBounds_toArray, List.set_cons_zero, List.set_cons_succ]
          have GB := hide (setRow_heap Z6 g9 _ #[.int .i64 V0.i, .slice p96_1 V0.f.length q96_1, .int .i64 V0.s, .int .i64 V0.d] _ _ GA.out)
          have OR := hide (OwnDL.setRowA HO9.out g9 #[.int .i64 V0.i, .slice p96_1 V0.f.length q96_1, .int .i64 V0.s, .int .i64 V0.d] (by omega))
          have zz9 : Z6.heap.size ≤ (Z6.setRow g9 #[.int .i64 V0.i, .slice p96_1 V0.f.length q96_1, .int .i64 V0.s, .int .i64 V0.d]).heap.size := by simp
          clear HO9
          clear HW GA
          generalize Z6.setRow g9 #[.int .i64 V0.i, .slice p96_1 V0.f.length q96_1, .int .i64 V0.s, .int .i64 V0.d] = Y7 at *
          refine wpAnyH_done (by kernel_rfl) ?_ _
          go_wp2_with fail
          go_meet
          exact ⟨g9, _, _, _, _, rfl, GB, OR, by omega, by omega, by omega, by omega, by omega, by omega, HM⟩
      · skip
        refine step_runX (some 8) (by kernel_rfl) (by kernel_rfl) (v := .pointer (some ⟨Z0.heap.size, 0, none⟩)) (w' := Z0.alloc (.cells #[.int .i64 0, .slice none 0 0, .int .i64 0, .int .i64 0] 37)) (by go_simp; try rfl) ?_
        have HN := hide (HW.out.alloc HW.out.size (.cells #[.int .i64 0, .slice none 0 0, .int .i64 0, .int .i64 0] 37))
        refine hK.out _ _ (HCL.out _ HN.out) (fun hHeld => ?_)
        clear hK K
        simp only [Act.put, List.setIfInBounds_toArray, List.set_cons_zero, List.set_cons_succ]
        have ka9 := HW.out.size
        have GA : Hid ((Z0.alloc (.cells #[.int .i64 0, .slice none 0 0, .int .i64 0, .int .i64 0] 37)).heap[Z0.heap.size]? = some (.cells #[.int .i64 0, .slice none 0 0, .int .i64 0, .int .i64 0] 37 (0, 0))) := hide (heap_alloc_new Z0 (.cells #[.int .i64 0, .slice none 0 0, .int .i64 0, .int .i64 0] 37))
        have kz9 : Z0.heap.size < (Z0.alloc (.cells #[.int .i64 0, .slice none 0 0, .int .i64 0, .int .i64 0] 37)).heap.size := by simp
        obtain ⟨g9, hg9⟩ : ∃ g, Z0.heap.size = g := ⟨_, rfl⟩
        rw [hg9] at GA ka9 kz9 ⊢
        have kg9 : Z0.heap.size ≤ g9 := Nat.le_of_eq hg9
        clear HW hg9
        have HW := HN
        clear HN
        generalize Z0.alloc (.cells #[.int .i64 0, .slice none 0 0, .int .i64 0, .int .i64 0] 37) = Z8 at *
        refine wpAnyH_ready (rs := [2]) (by kernel_rfl) (by simp) (AllReadyH.cons rfl (fun K hK => ?_) AllReadyH.nil)
        refine step_callW (some 27) (by kernel_rfl) (by kernel_rfl) 14 _ _ rfl #[.agg #[.bool v.r, .int .i64 v.n]] (by kernel_rfl) (toVl _ v) ?_
        rintro e Z9 ⟨rfl, b9⟩
        unfold vlV
        replace GA := hide ((b9.block g9 (Array.getElem?_eq_some_iff.1 GA.out).1).trans GA.out)
        replace kz9 := Nat.lt_of_lt_of_le kz9 b9.size
        replace HW := hide (HW.out.trans (b9.mono HW.out.size))
        clear b9
        refine ⟨_, rfl, ?_⟩
        refine hK.out _ _ (HCL.out _ HW.out) (fun hHeld => ?_)
        clear hK K
        simp only [Act.put, List.setIfInBounds_toArray, List.set_cons_zero, List.set_cons_succ]
        refine wpAnyH_ready (rs := [3]) (by kernel_rfl) (by simp) (AllReadyH.cons rfl (fun K hK => ?_) AllReadyH.nil)
        refine step_callW (some 28) (by kernel_rfl) (by kernel_rfl) 15 _ _ rfl #[.agg #[.int .i64 t.i, .slice p3_1 t.f.length q3_1, .int .i64 t.s, .int .i64 t.d], .agg #[.bool v.r, .int .i64 v.n]] (by kernel_rfl) (giveI _ t _ v (thD_own (O3.out.below HW.out)) HGt.out) ?_
        rintro e Z10 ⟨n910_1, rfl, o9, b9⟩
        rw [HV0.out] at o9 ⊢
        obtain ⟨p910_1, q910_1, f910_1, _⟩ := (thD_own o9).shape
        subst f910_1
        unfold thV
        have HO9 := hide o9
        have lz9 := HW.out.size
        have lz8 := b9.size
        clear o9
        replace GA := hide ((b9.block g9 (Array.getElem?_eq_some_iff.1 GA.out).1).trans GA.out)
        replace HW := hide (HW.out.trans (b9.mono HW.out.size))
        clear b9
        refine ⟨_, rfl, ?_⟩
        refine hK.out _ _ (HCL.out _ HW.out) (fun hHeld => ?_)
        clear hK K
        simp only [Act.put, List.setIfInBounds_toArray, List.set_cons_zero, List.set_cons_succ]
        refine wpAnyH_ready (rs := [5]) (by kernel_rfl) (by simp) (AllReadyH.cons rfl (fun K hK => ?_) AllReadyH.nil)
        refine step_storeX (by kernel_rfl) (by kernel_rfl) 37 _ _ rfl g9 #[.int .i64 V0.i, .slice p910_1 V0.f.length q910_1, .int .i64 V0.s, .int .i64 V0.d] (by kernel_rfl) (by kernel_rfl) _ _ GA.out hi9 (by rfl) (by simp [Value.oneCell']) ?_
        have HM := hide (below_setRow HW.out ka9 #[.int .i64 V0.i, .slice p910_1 V0.f.length q910_1, .int .i64 V0.s, .int .i64 V0.d])
        refine hK.out _ _ (HCL.out _ HM.out) (fun hHeld => ?_)
        clear hK K
        try simp only [Act.put, List.setIfInBounds_toArray, List.set_cons_zero, List.set_cons_succ]
        have GB := hide (setRow_heap Z10 g9 _ #[.int .i64 V0.i, .slice p910_1 V0.f.length q910_1, .int .i64 V0.s, .int .i64 V0.d] _ _ GA.out)
        have OR := hide (OwnDL.setRowA HO9.out g9 #[.int .i64 V0.i, .slice p910_1 V0.f.length q910_1, .int .i64 V0.s, .int .i64 V0.d] (by omega))
        have zz9 : Z10.heap.size ≤ (Z10.setRow g9 #[.int .i64 V0.i, .slice p910_1 V0.f.length q910_1, .int .i64 V0.s, .int .i64 V0.d]).heap.size := by simp
        clear HO9
        clear HW GA
        generalize Z10.setRow g9 #[.int .i64 V0.i, .slice p910_1 V0.f.length q910_1, .int .i64 V0.s, .int .i64 V0.d] = Y11 at *
        refine wpAnyH_done (by kernel_rfl) ?_ _
        go_wp2_with fail
        go_meet
        exact ⟨g9, _, _, _, _, rfl, GB, OR, by omega, by omega, by omega, by omega, by omega, by omega, HM⟩
    case rest =>
    obtain ⟨G8, a8_1, k8_1, l8, h8, rfl, X8, OX8, zl8, zm8, zh8, zg8, zb8, zc8, HQ9⟩ := hcut
    have b9 := HQ9.out
    clear HQ9 HCL HD
    replace E0 := hide ((b9.block _ (Array.getElem?_eq_some_iff.1 E0.out).1).trans E0.out)
    replace E1 := hide ((b9.block _ (Array.getElem?_eq_some_iff.1 E1.out).1).trans E1.out)
    replace X6 := hide ((b9.block _ (Array.getElem?_eq_some_iff.1 X6.out).1).trans X6.out)
    replace X7 := hide ((b9.block _ (Array.getElem?_eq_some_iff.1 X7.out).1).trans X7.out)
    replace OX6 := hide (OX6.out.below b9)
    replace O3 := hide (O3.out.below b9)
    have z6 := b9.size
    replace HB := hide (HB.out.trans (b9.mono HB.out.size))
    clear b9
    generalize wc = w5 at *
    have y0_0 := (box_of X8.out).1 0 _ rfl
    have y0_1 := (box_of X8.out).1 1 _ rfl
    have y0_2 := (box_of X8.out).1 2 _ rfl
    have y0_3 := (box_of X8.out).1 3 _ rfl
    have y1_0 := (box_of X6.out).1 0 _ rfl
    have y1_1 := (box_of X6.out).1 1 _ rfl
    have y1_2 := (box_of X6.out).1 2 _ rfl
    have y1_3 := (box_of X6.out).1 3 _ rfl
    go_wp2_with fail
    clear y0_0 y0_1 y0_2 y0_3 y1_0 y1_1 y1_2 y1_3
    refine (eqTh _ V0 _ _ (thD_own OX8.out) (thD_own OX6.out) HGV0.out).mono ?_
    rintro e w6 ⟨rfl, b9⟩
    replace E0 := hide ((b9.block _ (Array.getElem?_eq_some_iff.1 E0.out).1).trans E0.out)
    replace E1 := hide ((b9.block _ (Array.getElem?_eq_some_iff.1 E1.out).1).trans E1.out)
    replace X6 := hide ((b9.block _ (Array.getElem?_eq_some_iff.1 X6.out).1).trans X6.out)
    replace X7 := hide ((b9.block _ (Array.getElem?_eq_some_iff.1 X7.out).1).trans X7.out)
    replace X8 := hide ((b9.block _ (Array.getElem?_eq_some_iff.1 X8.out).1).trans X8.out)
    replace OX6 := hide (OX6.out.below b9)
    replace O3 := hide (O3.out.below b9)
    replace OX8 := hide (OX8.out.below b9)
    have z7 := b9.size
    replace HB := hide (HB.out.trans (b9.mono HB.out.size))
    clear b9
    go_upto_region 10 with fail
    have HCL : Hid (∀ w', Below w6.heap.size w6 w' → w'.cell? ⟨w3.heap.size, 0, none⟩ = some (.int .i64 t.i) ∧ w'.cell? ⟨w3.heap.size, 1, none⟩ = some (.slice p3_1 t.f.length q3_1) ∧ w'.cell? ⟨w3.heap.size, 2, none⟩ = some (.int .i64 t.s) ∧ w'.cell? ⟨w3.heap.size, 3, none⟩ = some (.int .i64 t.d) ∧ w'.cell? ⟨w.heap.size, 0, none⟩ = some (.int .i64 t.i) ∧ w'.cell? ⟨w.heap.size, 1, none⟩ = some (.slice at1 t.f.length ct1) ∧ w'.cell? ⟨w.heap.size, 2, none⟩ = some (.int .i64 t.s) ∧ w'.cell? ⟨w.heap.size, 3, none⟩ = some (.int .i64 t.d)) := hide (fun w' hb => ⟨(box_of ((hb.block _ (Array.getElem?_eq_some_iff.1 X7.out).1).trans X7.out)).1 0 _ rfl, (box_of ((hb.block _ (Array.getElem?_eq_some_iff.1 X7.out).1).trans X7.out)).1 1 _ rfl, (box_of ((hb.block _ (Array.getElem?_eq_some_iff.1 X7.out).1).trans X7.out)).1 2 _ rfl, (box_of ((hb.block _ (Array.getElem?_eq_some_iff.1 X7.out).1).trans X7.out)).1 3 _ rfl, (box_of ((hb.block _ (Array.getElem?_eq_some_iff.1 E0.out).1).trans E0.out)).1 0 _ rfl, (box_of ((hb.block _ (Array.getElem?_eq_some_iff.1 E0.out).1).trans E0.out)).1 1 _ rfl, (box_of ((hb.block _ (Array.getElem?_eq_some_iff.1 E0.out).1).trans E0.out)).1 2 _ rfl, (box_of ((hb.block _ (Array.getElem?_eq_some_iff.1 E0.out).1).trans E0.out)).1 3 _ rfl⟩)
    have HD := hide (Below.refl w6.heap.size w6).drew
    go_cut [37] from 33 to 37 (fun s wq => s = .bool false ∧ Hid (Below w6.heap.size w6 wq))
    case first =>
      refine wp_region_held_drew (S := fun w' => w'.cell? ⟨w3.heap.size, 0, none⟩ = some (.int .i64 t.i) ∧ w'.cell? ⟨w3.heap.size, 1, none⟩ = some (.slice p3_1 t.f.length q3_1) ∧ w'.cell? ⟨w3.heap.size, 2, none⟩ = some (.int .i64 t.s) ∧ w'.cell? ⟨w3.heap.size, 3, none⟩ = some (.int .i64 t.d) ∧ w'.cell? ⟨w.heap.size, 0, none⟩ = some (.int .i64 t.i) ∧ w'.cell? ⟨w.heap.size, 1, none⟩ = some (.slice at1 t.f.length ct1) ∧ w'.cell? ⟨w.heap.size, 2, none⟩ = some (.int .i64 t.s) ∧ w'.cell? ⟨w.heap.size, 3, none⟩ = some (.int .i64 t.d)) (by kernel_rfl) (HCL.out _ HD.out) (fun hHeld => ?_)
      have HW := HD
      clear HD
      generalize w6.drew = Z0 at *
      refine wpAnyH_take (i := 0) (v := .agg #[.int .i64 t.i, .slice p3_1 t.f.length q3_1, .int .i64 t.s, .int .i64 t.d]) rfl (by kernel_rfl) (by kernel_rfl) (by kernel_rfl) (fun _ _ _ h => h) (Or.inl ⟨by rfl, ?_⟩) (by assumption) ?_
      · intro w' hSw
        try dsimp only at hSw
        go_simp; try rfl
      simp only [List.getElem_toArray, List.getElem_cons_zero, Act.put, List.setIfInBounds_toArray, List.set_cons_zero, List.set_cons_succ]
      refine wpAnyH_take (i := 1) (v := .agg #[.int .i64 t.i, .slice at1 t.f.length ct1, .int .i64 t.s, .int .i64 t.d]) rfl (by kernel_rfl) (by kernel_rfl) (by kernel_rfl) (fun _ _ _ h => h) (Or.inl ⟨by rfl, ?_⟩) (by assumption) ?_
      · intro w' hSw
        try dsimp only at hSw
        go_simp; try rfl
      simp only [List.getElem_toArray, List.getElem_cons_succ, List.getElem_cons_zero, Act.put, List.setIfInBounds_toArray, List.set_cons_zero, List.set_cons_succ]
      refine wpAnyH_ready (rs := [2]) (by kernel_rfl) (by simp) (AllReadyH.cons rfl (fun K hK => ?_) AllReadyH.nil)
      refine step_callW (some 35) (by kernel_rfl) (by kernel_rfl) 9 _ _ rfl #[.agg #[.int .i64 t.i, .slice at1 t.f.length ct1, .int .i64 t.s, .int .i64 t.d]] (by kernel_rfl) (toTh _ t _ (Pt1.out.at (HB.out.trans (HW.out.mono HB.out.size))) HGt.out) ?_
      rintro e Z1 ⟨n91_1, rfl, o9, b9⟩
      obtain ⟨p91_1, q91_1, f91_1, _⟩ := (thD_own o9).shape
      subst f91_1
      have OH91 := hide o9
      clear o9
      unfold thV
      replace HW := hide (HW.out.trans (b9.mono HW.out.size))
      clear b9
      refine ⟨_, rfl, ?_⟩
      refine hK.out _ _ (HCL.out _ HW.out) (fun hHeld => ?_)
      clear hK K
      simp only [Act.put, List.setIfInBounds_toArray, List.set_cons_zero, List.set_cons_succ]
      refine wpAnyH_ready (rs := [3]) (by kernel_rfl) (by simp) (AllReadyH.cons rfl (fun K hK => ?_) AllReadyH.nil)
      refine step_callW (some 36) (by kernel_rfl) (by kernel_rfl) 12 _ _ rfl #[.agg #[.int .i64 t.i, .slice p3_1 t.f.length q3_1, .int .i64 t.s, .int .i64 t.d], .agg #[.int .i64 t.i, .slice p91_1 t.f.length q91_1, .int .i64 t.s, .int .i64 t.d]] (by kernel_rfl) (eqTh _ t _ _ (thD_own (O3.out.below HW.out)) (thD_own OH91.out) HGt.out) ?_
      rintro e Z2 ⟨rfl, b9⟩
      replace OH91 := hide (OH91.out.below b9)
      replace HW := hide (HW.out.trans (b9.mono HW.out.size))
      clear b9
      refine ⟨_, rfl, ?_⟩
      refine hK.out _ _ (HCL.out _ HW.out) (fun hHeld => ?_)
      clear hK K
      simp only [Act.put, List.setIfInBounds_toArray, List.set_cons_zero, List.set_cons_succ]
      refine wpAnyH_take (i := 4) (v := ?_) rfl (by kernel_rfl) (by kernel_rfl) (by kernel_rfl) (fun _ _ _ h => h) (Or.inl ⟨by rfl, ?_⟩) (by assumption) ?_
      rotate_left
      · intro w' hSw
        try dsimp only at hSw
        go_simp; try rfl
      simp only [List.getElem_toArray, List.getElem_cons_succ, List.getElem_cons_zero, Act.put, List.setIfInBounds_toArray, List.set_cons_zero, List.set_cons_succ]
      refine wpAnyH_done (by kernel_rfl) ?_ _
      go_wp2_with fail
      go_meet
      exact ⟨rfl, HW⟩
    case rest =>
    obtain ⟨rfl, HQ9⟩ := hcut
    have b9 := HQ9.out
    clear HQ9 HCL HD
    replace E0 := hide ((b9.block _ (Array.getElem?_eq_some_iff.1 E0.out).1).trans E0.out)
    replace E1 := hide ((b9.block _ (Array.getElem?_eq_some_iff.1 E1.out).1).trans E1.out)
    replace X6 := hide ((b9.block _ (Array.getElem?_eq_some_iff.1 X6.out).1).trans X6.out)
    replace X7 := hide ((b9.block _ (Array.getElem?_eq_some_iff.1 X7.out).1).trans X7.out)
    replace X8 := hide ((b9.block _ (Array.getElem?_eq_some_iff.1 X8.out).1).trans X8.out)
    replace OX6 := hide (OX6.out.below b9)
    replace O3 := hide (O3.out.below b9)
    replace OX8 := hide (OX8.out.below b9)
    have z8 := b9.size
    replace HB := hide (HB.out.trans (b9.mono HB.out.size))
    clear b9
    generalize wc = w7 at *
    have y0_0 := (box_of X7.out).1 0 _ rfl
    have y0_1 := (box_of X7.out).1 1 _ rfl
    have y0_2 := (box_of X7.out).1 2 _ rfl
    have y0_3 := (box_of X7.out).1 3 _ rfl
    go_wp2_with fail
    clear y0_0 y0_1 y0_2 y0_3
    have hct8 := thCto_le t
    refine (mkThI _ (w2.heap.size) (w3.heap.size) 1 _ (by first | rfl | omega) t _ O3.out (by omega) (by omega)).mono ?_
    rintro e w8 ⟨rfl, o9, c9⟩
    replace O3 := hide o9
    clear o9
    replace E0 := hide ((c9.block _ (Array.getElem?_eq_some_iff.1 E0.out).1 (by omega)).trans E0.out)
    replace E1 := hide ((c9.block _ (Array.getElem?_eq_some_iff.1 E1.out).1 (by omega)).trans E1.out)
    replace X6 := hide ((c9.block _ (Array.getElem?_eq_some_iff.1 X6.out).1 (by omega)).trans X6.out)
    replace X7 := hide ((c9.block _ (Array.getElem?_eq_some_iff.1 X7.out).1 (by omega)).trans X7.out)
    replace X8 := hide ((c9.block _ (Array.getElem?_eq_some_iff.1 X8.out).1 (by omega)).trans X8.out)
    replace OX6 := hide (OX6.out.apart c9 (by omega))
    replace OX8 := hide (OX8.out.apart c9 (by omega))
    have z9 := c9.size
    replace HB := hide (HB.out.trans (c9.below (by omega) HB.out.size))
    clear c9
    obtain ⟨K8, hk8⟩ : ∃ k, 1 + thCto t = k := ⟨_, rfl⟩
    rw [hk8]
    have hkp8 : 0 < K8 := by omega
    have hkb8 : K8 ≤ 8388608 + 1 := by omega
    have hkn8 : ¬ ((K8 : Nat) : Int) < 0 := by omega
    clear hk8 hct8
    clear O3
    have y0_0 := (box_of X8.out).1 0 _ rfl
    have y0_1 := (box_of X8.out).1 1 _ rfl
    have y0_2 := (box_of X8.out).1 2 _ rfl
    have y0_3 := (box_of X8.out).1 3 _ rfl
    have y1_0 := (box_of X6.out).1 0 _ rfl
    have y1_1 := (box_of X6.out).1 1 _ rfl
    have y1_2 := (box_of X6.out).1 2 _ rfl
    have y1_3 := (box_of X6.out).1 3 _ rfl
    go_wp2_with fail
    clear y0_0 y0_1 y0_2 y0_3 y1_0 y1_1 y1_2 y1_3
    refine (eqTh _ V0 _ _ (thD_own OX8.out) (thD_own OX6.out) HGV0.out).mono ?_
    rintro e w9 ⟨rfl, b9⟩
    replace E0 := hide ((b9.block _ (Array.getElem?_eq_some_iff.1 E0.out).1).trans E0.out)
    replace E1 := hide ((b9.block _ (Array.getElem?_eq_some_iff.1 E1.out).1).trans E1.out)
    replace X6 := hide ((b9.block _ (Array.getElem?_eq_some_iff.1 X6.out).1).trans X6.out)
    replace X7 := hide ((b9.block _ (Array.getElem?_eq_some_iff.1 X7.out).1).trans X7.out)
    replace X8 := hide ((b9.block _ (Array.getElem?_eq_some_iff.1 X8.out).1).trans X8.out)
    replace OX6 := hide (OX6.out.below b9)
    replace OX8 := hide (OX8.out.below b9)
    have z10 := b9.size
    replace HB := hide (HB.out.trans (b9.mono HB.out.size))
    clear b9
    have y0_0 := (box_of X8.out).1 0 _ rfl
    have y0_1 := (box_of X8.out).1 1 _ rfl
    have y0_2 := (box_of X8.out).1 2 _ rfl
    have y0_3 := (box_of X8.out).1 3 _ rfl
    go_wp2_with fail
    clear y0_0 y0_1 y0_2 y0_3
    refine (mkThI _ (l8) (h8) 1 _ (by first | rfl | omega) V0 _ OX8.out (by omega) (by omega)).mono ?_
    rintro e w10 ⟨rfl, o9, c9⟩
    replace OX8 := hide o9
    clear o9
    replace E0 := hide ((c9.block _ (Array.getElem?_eq_some_iff.1 E0.out).1 (by omega)).trans E0.out)
    replace E1 := hide ((c9.block _ (Array.getElem?_eq_some_iff.1 E1.out).1 (by omega)).trans E1.out)
    replace X6 := hide ((c9.block _ (Array.getElem?_eq_some_iff.1 X6.out).1 (by omega)).trans X6.out)
    replace X7 := hide ((c9.block _ (Array.getElem?_eq_some_iff.1 X7.out).1 (by omega)).trans X7.out)
    replace X8 := hide ((c9.block _ (Array.getElem?_eq_some_iff.1 X8.out).1 (by omega)).trans X8.out)
    replace OX6 := hide (OX6.out.apart c9 (by omega))
    have z11 := c9.size
    replace HB := hide (HB.out.trans (c9.below (by omega) HB.out.size))
    clear c9
    obtain ⟨K10, hk10⟩ : ∃ k, 1 + thCto V0 = k := ⟨_, rfl⟩
    rw [hk10]
    have hkp10 : 0 < K10 := by omega
    have hkb10 : K10 ≤ 90000000 + 1 := by omega
    have hkn10 : ¬ ((K10 : Nat) : Int) < 0 := by omega
    have HMV0 := hide hk10
    have hmmV0 : (((K10 : Nat) : Int) != ((K10 : Nat) : Int)) = false := by simp
    clear hk10
    have y0_0 := (box_of X8.out).1 0 _ rfl
    have y0_1 := (box_of X8.out).1 1 _ rfl
    have y0_2 := (box_of X8.out).1 2 _ rfl
    have y0_3 := (box_of X8.out).1 3 _ rfl
    go_wp2_with fail
    clear y0_0 y0_1 y0_2 y0_3
    refine (heldThO _ 1 _ (by first | rfl | omega) V0 _ (OX8.out.rd (Nat.le_refl _)) (by omega) (by omega)).mono ?_
    rintro e w11 ⟨rfl, b9⟩
    rw [HMV0.out]
    replace E0 := hide ((b9.block _ (Array.getElem?_eq_some_iff.1 E0.out).1).trans E0.out)
    replace E1 := hide ((b9.block _ (Array.getElem?_eq_some_iff.1 E1.out).1).trans E1.out)
    replace X6 := hide ((b9.block _ (Array.getElem?_eq_some_iff.1 X6.out).1).trans X6.out)
    replace X7 := hide ((b9.block _ (Array.getElem?_eq_some_iff.1 X7.out).1).trans X7.out)
    replace X8 := hide ((b9.block _ (Array.getElem?_eq_some_iff.1 X8.out).1).trans X8.out)
    replace OX6 := hide (OX6.out.below b9)
    replace OX8 := hide (OX8.out.below b9)
    have z12 := b9.size
    replace HB := hide (HB.out.trans (b9.mono HB.out.size))
    clear b9
    go_upto_region 24 with fail
    have HCL : Hid (∀ w', Below w11.heap.size w11 w' → w'.cell? ⟨w.heap.size, 0, none⟩ = some (.int .i64 t.i) ∧ w'.cell? ⟨w.heap.size, 1, none⟩ = some (.slice at1 t.f.length ct1) ∧ w'.cell? ⟨w.heap.size, 2, none⟩ = some (.int .i64 t.s) ∧ w'.cell? ⟨w.heap.size, 3, none⟩ = some (.int .i64 t.d) ∧ w'.cell? ⟨w.heap.size + 1, 0, none⟩ = some (.bool v.r) ∧ w'.cell? ⟨w.heap.size + 1, 1, none⟩ = some (.int .i64 v.n)) := hide (fun w' hb => ⟨(box_of ((hb.block _ (Array.getElem?_eq_some_iff.1 E0.out).1).trans E0.out)).1 0 _ rfl, (box_of ((hb.block _ (Array.getElem?_eq_some_iff.1 E0.out).1).trans E0.out)).1 1 _ rfl, (box_of ((hb.block _ (Array.getElem?_eq_some_iff.1 E0.out).1).trans E0.out)).1 2 _ rfl, (box_of ((hb.block _ (Array.getElem?_eq_some_iff.1 E0.out).1).trans E0.out)).1 3 _ rfl, (box_of ((hb.block _ (Array.getElem?_eq_some_iff.1 E1.out).1).trans E1.out)).1 0 _ rfl, (box_of ((hb.block _ (Array.getElem?_eq_some_iff.1 E1.out).1).trans E1.out)).1 1 _ rfl⟩)
    have HD := hide (Below.refl w11.heap.size w11).drew
    go_cut [12] from 60 to 64 (fun s12 wq => ∃ g12 : Nat, ∃ (a12_1 : Option Addr) (k12_1 : Nat), ∃ l12 h12 : Nat, s12 = .pointer (some ⟨g12, 0, none⟩) ∧ Hid (wq.heap[g12]? = some (.cells #[.int .i64 V0.i, .slice a12_1 V0.f.length k12_1, .int .i64 V0.s, .int .i64 V0.d] 37 (0, 0))) ∧ Hid (OwnDL wq l12 h12 (thD V0) [.int .i64 V0.i, .slice a12_1 V0.f.length k12_1, .int .i64 V0.s, .int .i64 V0.d]) ∧ w11.heap.size ≤ l12 ∧ l12 ≤ h12 ∧ h12 ≤ wq.heap.size ∧ (g12 < l12 ∨ h12 ≤ g12) ∧ w11.heap.size ≤ g12 ∧ g12 < wq.heap.size ∧ Hid (Below w11.heap.size w11 wq))
    case first =>
      have hi9 : ((Try.prog.info? 37).map (·.size)) = some 4 := by kernel_rfl
      refine wp_region_held_drew (S := fun w' => w'.cell? ⟨w.heap.size, 0, none⟩ = some (.int .i64 t.i) ∧ w'.cell? ⟨w.heap.size, 1, none⟩ = some (.slice at1 t.f.length ct1) ∧ w'.cell? ⟨w.heap.size, 2, none⟩ = some (.int .i64 t.s) ∧ w'.cell? ⟨w.heap.size, 3, none⟩ = some (.int .i64 t.d) ∧ w'.cell? ⟨w.heap.size + 1, 0, none⟩ = some (.bool v.r) ∧ w'.cell? ⟨w.heap.size + 1, 1, none⟩ = some (.int .i64 v.n)) (by kernel_rfl) (HCL.out _ HD.out) (fun hHeld => ?_)
      have HW := HD
      clear HD
      generalize w11.drew = Z0 at *
      refine wpAnyH_take (i := 0) (v := .agg #[.int .i64 t.i, .slice at1 t.f.length ct1, .int .i64 t.s, .int .i64 t.d]) rfl (by kernel_rfl) (by kernel_rfl) (by kernel_rfl) (fun _ _ _ h => h) (Or.inl ⟨by rfl, ?_⟩) (by assumption) ?_
      · intro w' hSw
        try dsimp only at hSw
        go_simp; try rfl
      simp only [List.getElem_toArray, List.getElem_cons_zero, Act.put, List.setIfInBounds_toArray, List.set_cons_zero, List.set_cons_succ]
      refine wpAnyH_take (i := 2) (v := .agg #[.bool v.r, .int .i64 v.n]) rfl (by kernel_rfl) (by kernel_rfl) (by kernel_rfl) (fun _ _ _ h => h) (Or.inl ⟨by rfl, ?_⟩) (by assumption) ?_
      · intro w' hSw
        try dsimp only at hSw
        go_simp; try rfl
      simp only [List.getElem_toArray, List.getElem_cons_succ, List.getElem_cons_zero, Act.put, List.setIfInBounds_toArray, List.set_cons_zero, List.set_cons_succ]
      refine wpAnyH_ready (rs := [1, 5]) (by kernel_rfl) (by simp) (AllReadyH.cons rfl (fun K hK => ?_) (AllReadyH.cons rfl (fun K hK => ?_) AllReadyH.nil))
      · skip
        refine step_callW (some 61) (by kernel_rfl) (by kernel_rfl) 9 _ _ rfl #[.agg #[.int .i64 t.i, .slice at1 t.f.length ct1, .int .i64 t.s, .int .i64 t.d]] (by kernel_rfl) (toTh _ t _ (Pt1.out.at (HB.out.trans (HW.out.mono HB.out.size))) HGt.out) ?_
        rintro e Z1 ⟨n91_1, rfl, o9, b9⟩
        obtain ⟨p91_1, q91_1, f91_1, _⟩ := (thD_own o9).shape
        subst f91_1
        have OH91 := hide o9
        clear o9
        unfold thV
        replace HW := hide (HW.out.trans (b9.mono HW.out.size))
        clear b9
        refine ⟨_, rfl, ?_⟩
        refine hK.out _ _ (HCL.out _ HW.out) (fun hHeld => ?_)
        clear hK K
        simp only [Act.put, List.setIfInBounds_toArray, List.set_cons_zero, List.set_cons_succ]
        refine wpAnyH_ready (rs := [3, 5]) (by kernel_rfl) (by simp) (AllReadyH.cons rfl (fun K hK => ?_) (AllReadyH.cons rfl (fun K hK => ?_) AllReadyH.nil))
        · skip
          refine step_callW (some 63) (by kernel_rfl) (by kernel_rfl) 14 _ _ rfl #[.agg #[.bool v.r, .int .i64 v.n]] (by kernel_rfl) (toVl _ v) ?_
          rintro e Z2 ⟨rfl, b9⟩
          unfold vlV
          replace OH91 := hide (OH91.out.below b9)
          replace HW := hide (HW.out.trans (b9.mono HW.out.size))
          clear b9
          refine ⟨_, rfl, ?_⟩
          refine hK.out _ _ (HCL.out _ HW.out) (fun hHeld => ?_)
          clear hK K
          simp only [Act.put, List.setIfInBounds_toArray, List.set_cons_zero, List.set_cons_succ]
          refine wpAnyH_ready (rs := [4, 5]) (by kernel_rfl) (by simp) (AllReadyH.cons rfl (fun K hK => ?_) (AllReadyH.cons rfl (fun K hK => ?_) AllReadyH.nil))
          · skip
            refine step_callW (some 64) (by kernel_rfl) (by kernel_rfl) 15 _ _ rfl #[.agg #[.int .i64 t.i, .slice p91_1 t.f.length q91_1, .int .i64 t.s, .int .i64 t.d], .agg #[.bool v.r, .int .i64 v.n]] (by kernel_rfl) (giveI _ t _ v (thD_own OH91.out) HGt.out) ?_
            rintro e Z3 ⟨n93_1, rfl, o9, b9⟩
            rw [HV0.out] at o9 ⊢
            obtain ⟨p93_1, q93_1, f93_1, _⟩ := (thD_own o9).shape
            subst f93_1
            unfold thV
            have HO9 := hide o9
            have lz9 := HW.out.size
            have lz8 := b9.size
            clear o9
            clear OH91
            replace HW := hide (HW.out.trans (b9.mono HW.out.size))
            clear b9
            refine ⟨_, rfl, ?_⟩
            refine hK.out _ _ (HCL.out _ HW.out) (fun hHeld => ?_)
            clear hK K
            simp only [Act.put, List.setIfInBounds_toArray, List.set_cons_zero, List.set_cons_succ]
            refine wpAnyH_ready (rs := [5]) (by kernel_rfl) (by simp) (AllReadyH.cons rfl (fun K hK => ?_) AllReadyH.nil)
            refine step_runX (some 12) (by kernel_rfl) (by kernel_rfl) (v := .pointer (some ⟨Z3.heap.size, 0, none⟩)) (w' := Z3.alloc (.cells #[.int .i64 0, .slice none 0 0, .int .i64 0, .int .i64 0] 37)) (by go_simp; try rfl) ?_
            have HN := hide (HW.out.alloc HW.out.size (.cells #[.int .i64 0, .slice none 0 0, .int .i64 0, .int .i64 0] 37))
            refine hK.out _ _ (HCL.out _ HN.out) (fun hHeld => ?_)
            clear hK K
            simp only [Act.put, List.setIfInBounds_toArray, List.set_cons_zero, List.set_cons_succ]
            have ka9 := HW.out.size
            have GA : Hid ((Z3.alloc (.cells #[.int .i64 0, .slice none 0 0, .int .i64 0, .int .i64 0] 37)).heap[Z3.heap.size]? = some (.cells #[.int .i64 0, .slice none 0 0, .int .i64 0, .int .i64 0] 37 (0, 0))) := hide (heap_alloc_new Z3 (.cells #[.int .i64 0, .slice none 0 0, .int .i64 0, .int .i64 0] 37))
            have kz9 : Z3.heap.size < (Z3.alloc (.cells #[.int .i64 0, .slice none 0 0, .int .i64 0, .int .i64 0] 37)).heap.size := by simp
            replace HO9 := hide (HO9.out.below ((Below.refl Z3.heap.size Z3).alloc (Nat.le_refl _) (.cells #[.int .i64 0, .slice none 0 0, .int .i64 0, .int .i64 0] 37)))
            obtain ⟨g9, hg9⟩ : ∃ g, Z3.heap.size = g := ⟨_, rfl⟩
            rw [hg9] at GA ka9 kz9 ⊢
            have kg9 : Z3.heap.size ≤ g9 := Nat.le_of_eq hg9
            clear HW hg9
            have HW := HN
            clear HN
            generalize Z3.alloc (.cells #[.int .i64 0, .slice none 0 0, .int .i64 0, .int .i64 0] 37) = Z4 at *
            refine wpAnyH_ready (rs := [6]) (by kernel_rfl) (by simp) (AllReadyH.cons rfl (fun K hK => ?_) AllReadyH.nil)
            refine step_storeX (by kernel_rfl) (by kernel_rfl) 37 _ _ rfl g9 #[.int .i64 V0.i, .slice p93_1 V0.f.length q93_1, .int .i64 V0.s, .int .i64 V0.d] (by kernel_rfl) (by kernel_rfl) _ _ GA.out hi9 (by rfl) (by simp [Value.oneCell']) ?_
            have HM := hide (below_setRow HW.out ka9 #[.int .i64 V0.i, .slice p93_1 V0.f.length q93_1, .int .i64 V0.s, .int .i64 V0.d])
            refine hK.out _ _ (HCL.out _ HM.out) (fun hHeld => ?_)
            clear hK K
            try simp only [Act.put, List.setIfInBounds_toArray, List.set_cons_zero, List.set_cons_succ]
            have GB := hide (setRow_heap Z4 g9 _ #[.int .i64 V0.i, .slice p93_1 V0.f.length q93_1, .int .i64 V0.s, .int .i64 V0.d] _ _ GA.out)
            have OR := hide (OwnDL.setRowA HO9.out g9 #[.int .i64 V0.i, .slice p93_1 V0.f.length q93_1, .int .i64 V0.s, .int .i64 V0.d] (by omega))
            have zz9 : Z4.heap.size ≤ (Z4.setRow g9 #[.int .i64 V0.i, .slice p93_1 V0.f.length q93_1, .int .i64 V0.s, .int .i64 V0.d]).heap.size := by simp
            clear HO9
            clear HW GA
            generalize Z4.setRow g9 #[.int .i64 V0.i, .slice p93_1 V0.f.length q93_1, .int .i64 V0.s, .int .i64 V0.d] = Y5 at *
            refine wpAnyH_done (by kernel_rfl) ?_ _
            go_wp2_with fail
            go_meet
            exact ⟨g9, _, _, _, _, rfl, GB, OR, by omega, by omega, by omega, by omega, by omega, by omega, HM⟩
          · skip
            refine step_runX (some 12) (by kernel_rfl) (by kernel_rfl) (v := .pointer (some ⟨Z2.heap.size, 0, none⟩)) (w' := Z2.alloc (.cells #[.int .i64 0, .slice none 0 0, .int .i64 0, .int .i64 0] 37)) (by go_simp; try rfl) ?_
            have HN := hide (HW.out.alloc HW.out.size (.cells #[.int .i64 0, .slice none 0 0, .int .i64 0, .int .i64 0] 37))
            refine hK.out _ _ (HCL.out _ HN.out) (fun hHeld => ?_)
            clear hK K
            simp only [Act.put, List.setIfInBounds_toArray, List.set_cons_zero, List.set_cons_succ]
            have ka9 := HW.out.size
            have GA : Hid ((Z2.alloc (.cells #[.int .i64 0, .slice none 0 0, .int .i64 0, .int .i64 0] 37)).heap[Z2.heap.size]? = some (.cells #[.int .i64 0, .slice none 0 0, .int .i64 0, .int .i64 0] 37 (0, 0))) := hide (heap_alloc_new Z2 (.cells #[.int .i64 0, .slice none 0 0, .int .i64 0, .int .i64 0] 37))
            have kz9 : Z2.heap.size < (Z2.alloc (.cells #[.int .i64 0, .slice none 0 0, .int .i64 0, .int .i64 0] 37)).heap.size := by simp
            replace OH91 := hide (OH91.out.below ((Below.refl Z2.heap.size Z2).alloc (Nat.le_refl _) (.cells #[.int .i64 0, .slice none 0 0, .int .i64 0, .int .i64 0] 37)))
            obtain ⟨g9, hg9⟩ : ∃ g, Z2.heap.size = g := ⟨_, rfl⟩
            rw [hg9] at GA ka9 kz9 ⊢
            have kg9 : Z2.heap.size ≤ g9 := Nat.le_of_eq hg9
            clear HW hg9
            have HW := HN
            clear HN
            generalize Z2.alloc (.cells #[.int .i64 0, .slice none 0 0, .int .i64 0, .int .i64 0] 37) = Z6 at *
            refine wpAnyH_ready (rs := [4]) (by kernel_rfl) (by simp) (AllReadyH.cons rfl (fun K hK => ?_) AllReadyH.nil)
            refine step_callW (some 64) (by kernel_rfl) (by kernel_rfl) 15 _ _ rfl #[.agg #[.int .i64 t.i, .slice p91_1 t.f.length q91_1, .int .i64 t.s, .int .i64 t.d], .agg #[.bool v.r, .int .i64 v.n]] (by kernel_rfl) (giveI _ t _ v (thD_own OH91.out) HGt.out) ?_
            rintro e Z7 ⟨n97_1, rfl, o9, b9⟩
            rw [HV0.out] at o9 ⊢
            obtain ⟨p97_1, q97_1, f97_1, _⟩ := (thD_own o9).shape
            subst f97_1
            unfold thV
            have HO9 := hide o9
            have lz9 := HW.out.size
            have lz8 := b9.size
            clear o9
            clear OH91
            replace GA := hide ((b9.block g9 (Array.getElem?_eq_some_iff.1 GA.out).1).trans GA.out)
            replace HW := hide (HW.out.trans (b9.mono HW.out.size))
            clear b9
            refine ⟨_, rfl, ?_⟩
            refine hK.out _ _ (HCL.out _ HW.out) (fun hHeld => ?_)
            clear hK K
            simp only [Act.put, List.setIfInBounds_toArray, List.set_cons_zero, List.set_cons_succ]
            refine wpAnyH_ready (rs := [6]) (by kernel_rfl) (by simp) (AllReadyH.cons rfl (fun K hK => ?_) AllReadyH.nil)
            refine step_storeX (by kernel_rfl) (by kernel_rfl) 37 _ _ rfl g9 #[.int .i64 V0.i, .slice p97_1 V0.f.length q97_1, .int .i64 V0.s, .int .i64 V0.d] (by kernel_rfl) (by kernel_rfl) _ _ GA.out hi9 (by rfl) (by simp [Value.oneCell']) ?_
            have HM := hide (below_setRow HW.out ka9 #[.int .i64 V0.i, .slice p97_1 V0.f.length q97_1, .int .i64 V0.s, .int .i64 V0.d])
            refine hK.out _ _ (HCL.out _ HM.out) (fun hHeld => ?_)
            clear hK K
            try simp only [Act.put, List.setIfInBounds_toArray, List.set_cons_zero, List.set_cons_succ]
            have GB := hide (setRow_heap Z7 g9 _ #[.int .i64 V0.i, .slice p97_1 V0.f.length q97_1, .int .i64 V0.s, .int .i64 V0.d] _ _ GA.out)
            have OR := hide (OwnDL.setRowA HO9.out g9 #[.int .i64 V0.i, .slice p97_1 V0.f.length q97_1, .int .i64 V0.s, .int .i64 V0.d] (by omega))
            have zz9 : Z7.heap.size ≤ (Z7.setRow g9 #[.int .i64 V0.i, .slice p97_1 V0.f.length q97_1, .int .i64 V0.s, .int .i64 V0.d]).heap.size := by simp
            clear HO9
            clear HW GA
            generalize Z7.setRow g9 #[.int .i64 V0.i, .slice p97_1 V0.f.length q97_1, .int .i64 V0.s, .int .i64 V0.d] = Y8 at *
            refine wpAnyH_done (by kernel_rfl) ?_ _
            go_wp2_with fail
            go_meet
            exact ⟨g9, _, _, _, _, rfl, GB, OR, by omega, by omega, by omega, by omega, by omega, by omega, HM⟩
        · skip
          refine step_runX (some 12) (by kernel_rfl) (by kernel_rfl) (v := .pointer (some ⟨Z1.heap.size, 0, none⟩)) (w' := Z1.alloc (.cells #[.int .i64 0, .slice none 0 0, .int .i64 0, .int .i64 0] 37)) (by go_simp; try rfl) ?_
          have HN := hide (HW.out.alloc HW.out.size (.cells #[.int .i64 0, .slice none 0 0, .int .i64 0, .int .i64 0] 37))
          refine hK.out _ _ (HCL.out _ HN.out) (fun hHeld => ?_)
          clear hK K
          simp only [Act.put, List.setIfInBounds_toArray, List.set_cons_zero, List.set_cons_succ]
          have ka9 := HW.out.size
          have GA : Hid ((Z1.alloc (.cells #[.int .i64 0, .slice none 0 0, .int .i64 0, .int .i64 0] 37)).heap[Z1.heap.size]? = some (.cells #[.int .i64 0, .slice none 0 0, .int .i64 0, .int .i64 0] 37 (0, 0))) := hide (heap_alloc_new Z1 (.cells #[.int .i64 0, .slice none 0 0, .int .i64 0, .int .i64 0] 37))
          have kz9 : Z1.heap.size < (Z1.alloc (.cells #[.int .i64 0, .slice none 0 0, .int .i64 0, .int .i64 0] 37)).heap.size := by simp
          replace OH91 := hide (OH91.out.below ((Below.refl Z1.heap.size Z1).alloc (Nat.le_refl _) (.cells #[.int .i64 0, .slice none 0 0, .int .i64 0, .int .i64 0] 37)))
          obtain ⟨g9, hg9⟩ : ∃ g, Z1.heap.size = g := ⟨_, rfl⟩
          rw [hg9] at GA ka9 kz9 ⊢
          have kg9 : Z1.heap.size ≤ g9 := Nat.le_of_eq hg9
          clear HW hg9
          have HW := HN
          clear HN
          generalize Z1.alloc (.cells #[.int .i64 0, .slice none 0 0, .int .i64 0, .int .i64 0] 37) = Z9 at *
          refine wpAnyH_ready (rs := [3]) (by kernel_rfl) (by simp) (AllReadyH.cons rfl (fun K hK => ?_) AllReadyH.nil)
          refine step_callW (some 63) (by kernel_rfl) (by kernel_rfl) 14 _ _ rfl #[.agg #[.bool v.r, .int .i64 v.n]] (by kernel_rfl) (toVl _ v) ?_
          rintro e Z10 ⟨rfl, b9⟩
          unfold vlV
          replace OH91 := hide (OH91.out.below b9)
          replace GA := hide ((b9.block g9 (Array.getElem?_eq_some_iff.1 GA.out).1).trans GA.out)
          replace kz9 := Nat.lt_of_lt_of_le kz9 b9.size
          replace HW := hide (HW.out.trans (b9.mono HW.out.size))
          clear b9
          refine ⟨_, rfl, ?_⟩
          refine hK.out _ _ (HCL.out _ HW.out) (fun hHeld => ?_)
          clear hK K
          simp only [Act.put, List.setIfInBounds_toArray, List.set_cons_zero, List.set_cons_succ]
          refine wpAnyH_ready (rs := [4]) (by kernel_rfl) (by simp) (AllReadyH.cons rfl (fun K hK => ?_) AllReadyH.nil)
          refine step_callW (some 64) (by kernel_rfl) (by kernel_rfl) 15 _ _ rfl #[.agg #[.int .i64 t.i, .slice p91_1 t.f.length q91_1, .int .i64 t.s, .int .i64 t.d], .agg #[.bool v.r, .int .i64 v.n]] (by kernel_rfl) (giveI _ t _ v (thD_own OH91.out) HGt.out) ?_
          rintro e Z11 ⟨n911_1, rfl, o9, b9⟩
          rw [HV0.out] at o9 ⊢
          obtain ⟨p911_1, q911_1, f911_1, _⟩ := (thD_own o9).shape
          subst f911_1
          unfold thV
          have HO9 := hide o9
          have lz9 := HW.out.size
          have lz8 := b9.size
          clear o9
          clear OH91
          replace GA := hide ((b9.block g9 (Array.getElem?_eq_some_iff.1 GA.out).1).trans GA.out)
          replace HW := hide (HW.out.trans (b9.mono HW.out.size))
          clear b9
          refine ⟨_, rfl, ?_⟩
          refine hK.out _ _ (HCL.out _ HW.out) (fun hHeld => ?_)
          clear hK K
          simp only [Act.put, List.setIfInBounds_toArray, List.set_cons_zero, List.set_cons_succ]
          refine wpAnyH_ready (rs := [6]) (by kernel_rfl) (by simp) (AllReadyH.cons rfl (fun K hK => ?_) AllReadyH.nil)
          refine step_storeX (by kernel_rfl) (by kernel_rfl) 37 _ _ rfl g9 #[.int .i64 V0.i, .slice p911_1 V0.f.length q911_1, .int .i64 V0.s, .int .i64 V0.d] (by kernel_rfl) (by kernel_rfl) _ _ GA.out hi9 (by rfl) (by simp [Value.oneCell']) ?_
          have HM := hide (below_setRow HW.out ka9 #[.int .i64 V0.i, .slice p911_1 V0.f.length q911_1, .int .i64 V0.s, .int .i64 V0.d])
          refine hK.out _ _ (HCL.out _ HM.out) (fun hHeld => ?_)
          clear hK K
          try simp only [Act.put, List.setIfInBounds_toArray, List.set_cons_zero, List.set_cons_succ]
          have GB := hide (setRow_heap Z11 g9 _ #[.int .i64 V0.i, .slice p911_1 V0.f.length q911_1, .int .i64 V0.s, .int .i64 V0.d] _ _ GA.out)
          have OR := hide (OwnDL.setRowA HO9.out g9 #[.int .i64 V0.i, .slice p911_1 V0.f.length q911_1, .int .i64 V0.s, .int .i64 V0.d] (by omega))
          have zz9 : Z11.heap.size ≤ (Z11.setRow g9 #[.int .i64 V0.i, .slice p911_1 V0.f.length q911_1, .int .i64 V0.s, .int .i64 V0.d]).heap.size := by simp
          clear HO9
          clear HW GA
          generalize Z11.setRow g9 #[.int .i64 V0.i, .slice p911_1 V0.f.length q911_1, .int .i64 V0.s, .int .i64 V0.d] = Y12 at *
          refine wpAnyH_done (by kernel_rfl) ?_ _
          go_wp2_with fail
          go_meet
          exact ⟨g9, _, _, _, _, rfl, GB, OR, by omega, by omega, by omega, by omega, by omega, by omega, HM⟩
      · skip
        refine step_runX (some 12) (by kernel_rfl) (by kernel_rfl) (v := .pointer (some ⟨Z0.heap.size, 0, none⟩)) (w' := Z0.alloc (.cells #[.int .i64 0, .slice none 0 0, .int .i64 0, .int .i64 0] 37)) (by go_simp; try rfl) ?_
        have HN := hide (HW.out.alloc HW.out.size (.cells #[.int .i64 0, .slice none 0 0, .int .i64 0, .int .i64 0] 37))
        refine hK.out _ _ (HCL.out _ HN.out) (fun hHeld => ?_)
        clear hK K
        simp only [Act.put, List.setIfInBounds_toArray, List.set_cons_zero, List.set_cons_succ]
        have ka9 := HW.out.size
        have GA : Hid ((Z0.alloc (.cells #[.int .i64 0, .slice none 0 0, .int .i64 0, .int .i64 0] 37)).heap[Z0.heap.size]? = some (.cells #[.int .i64 0, .slice none 0 0, .int .i64 0, .int .i64 0] 37 (0, 0))) := hide (heap_alloc_new Z0 (.cells #[.int .i64 0, .slice none 0 0, .int .i64 0, .int .i64 0] 37))
        have kz9 : Z0.heap.size < (Z0.alloc (.cells #[.int .i64 0, .slice none 0 0, .int .i64 0, .int .i64 0] 37)).heap.size := by simp
        obtain ⟨g9, hg9⟩ : ∃ g, Z0.heap.size = g := ⟨_, rfl⟩
        rw [hg9] at GA ka9 kz9 ⊢
        have kg9 : Z0.heap.size ≤ g9 := Nat.le_of_eq hg9
        clear HW hg9
        have HW := HN
        clear HN
        generalize Z0.alloc (.cells #[.int .i64 0, .slice none 0 0, .int .i64 0, .int .i64 0] 37) = Z13 at *
        refine wpAnyH_ready (rs := [1]) (by kernel_rfl) (by simp) (AllReadyH.cons rfl (fun K hK => ?_) AllReadyH.nil)
        refine step_callW (some 61) (by kernel_rfl) (by kernel_rfl) 9 _ _ rfl #[.agg #[.int .i64 t.i, .slice at1 t.f.length ct1, .int .i64 t.s, .int .i64 t.d]] (by kernel_rfl) (toTh _ t _ (Pt1.out.at (HB.out.trans (HW.out.mono HB.out.size))) HGt.out) ?_
        rintro e Z14 ⟨n914_1, rfl, o9, b9⟩
        obtain ⟨p914_1, q914_1, f914_1, _⟩ := (thD_own o9).shape
        subst f914_1
        have OH914 := hide o9
        clear o9
        unfold thV
        replace GA := hide ((b9.block g9 (Array.getElem?_eq_some_iff.1 GA.out).1).trans GA.out)
        replace kz9 := Nat.lt_of_lt_of_le kz9 b9.size
        replace HW := hide (HW.out.trans (b9.mono HW.out.size))
        clear b9
        refine ⟨_, rfl, ?_⟩
        refine hK.out _ _ (HCL.out _ HW.out) (fun hHeld => ?_)
        clear hK K
        simp only [Act.put, List.setIfInBounds_toArray, List.set_cons_zero, List.set_cons_succ]
        refine wpAnyH_ready (rs := [3]) (by kernel_rfl) (by simp) (AllReadyH.cons rfl (fun K hK => ?_) AllReadyH.nil)
        refine step_callW (some 63) (by kernel_rfl) (by kernel_rfl) 14 _ _ rfl #[.agg #[.bool v.r, .int .i64 v.n]] (by kernel_rfl) (toVl _ v) ?_
        rintro e Z15 ⟨rfl, b9⟩
        unfold vlV
        replace OH914 := hide (OH914.out.below b9)
        replace GA := hide ((b9.block g9 (Array.getElem?_eq_some_iff.1 GA.out).1).trans GA.out)
        replace kz9 := Nat.lt_of_lt_of_le kz9 b9.size
        replace HW := hide (HW.out.trans (b9.mono HW.out.size))
        clear b9
        refine ⟨_, rfl, ?_⟩
        refine hK.out _ _ (HCL.out _ HW.out) (fun hHeld => ?_)
        clear hK K
        simp only [Act.put, List.setIfInBounds_toArray, List.set_cons_zero, List.set_cons_succ]
        refine wpAnyH_ready (rs := [4]) (by kernel_rfl) (by simp) (AllReadyH.cons rfl (fun K hK => ?_) AllReadyH.nil)
        refine step_callW (some 64) (by kernel_rfl) (by kernel_rfl) 15 _ _ rfl #[.agg #[.int .i64 t.i, .slice p914_1 t.f.length q914_1, .int .i64 t.s, .int .i64 t.d], .agg #[.bool v.r, .int .i64 v.n]] (by kernel_rfl) (giveI _ t _ v (thD_own OH914.out) HGt.out) ?_
        rintro e Z16 ⟨n916_1, rfl, o9, b9⟩
        rw [HV0.out] at o9 ⊢
        obtain ⟨p916_1, q916_1, f916_1, _⟩ := (thD_own o9).shape
        subst f916_1
        unfold thV
        have HO9 := hide o9
        have lz9 := HW.out.size
        have lz8 := b9.size
        clear o9
        clear OH914
        replace GA := hide ((b9.block g9 (Array.getElem?_eq_some_iff.1 GA.out).1).trans GA.out)
        replace HW := hide (HW.out.trans (b9.mono HW.out.size))
        clear b9
        refine ⟨_, rfl, ?_⟩
        refine hK.out _ _ (HCL.out _ HW.out) (fun hHeld => ?_)
        clear hK K
        simp only [Act.put, List.setIfInBounds_toArray, List.set_cons_zero, List.set_cons_succ]
        refine wpAnyH_ready (rs := [6]) (by kernel_rfl) (by simp) (AllReadyH.cons rfl (fun K hK => ?_) AllReadyH.nil)
        refine step_storeX (by kernel_rfl) (by kernel_rfl) 37 _ _ rfl g9 #[.int .i64 V0.i, .slice p916_1 V0.f.length q916_1, .int .i64 V0.s, .int .i64 V0.d] (by kernel_rfl) (by kernel_rfl) _ _ GA.out hi9 (by rfl) (by simp [Value.oneCell']) ?_
        have HM := hide (below_setRow HW.out ka9 #[.int .i64 V0.i, .slice p916_1 V0.f.length q916_1, .int .i64 V0.s, .int .i64 V0.d])
        refine hK.out _ _ (HCL.out _ HM.out) (fun hHeld => ?_)
        clear hK K
        try simp only [Act.put, List.setIfInBounds_toArray, List.set_cons_zero, List.set_cons_succ]
        have GB := hide (setRow_heap Z16 g9 _ #[.int .i64 V0.i, .slice p916_1 V0.f.length q916_1, .int .i64 V0.s, .int .i64 V0.d] _ _ GA.out)
        have OR := hide (OwnDL.setRowA HO9.out g9 #[.int .i64 V0.i, .slice p916_1 V0.f.length q916_1, .int .i64 V0.s, .int .i64 V0.d] (by omega))
        have zz9 : Z16.heap.size ≤ (Z16.setRow g9 #[.int .i64 V0.i, .slice p916_1 V0.f.length q916_1, .int .i64 V0.s, .int .i64 V0.d]).heap.size := by simp
        clear HO9
        clear HW GA
        generalize Z16.setRow g9 #[.int .i64 V0.i, .slice p916_1 V0.f.length q916_1, .int .i64 V0.s, .int .i64 V0.d] = Y17 at *
        refine wpAnyH_done (by kernel_rfl) ?_ _
        go_wp2_with fail
        go_meet
        exact ⟨g9, _, _, _, _, rfl, GB, OR, by omega, by omega, by omega, by omega, by omega, by omega, HM⟩
    case rest =>
    obtain ⟨G12, a12_1, k12_1, l12, h12, rfl, X12, OX12, zl12, zm12, zh12, zg12, zb12, zc12, HQ9⟩ := hcut
    have b9 := HQ9.out
    clear HQ9 HCL HD
    replace E0 := hide ((b9.block _ (Array.getElem?_eq_some_iff.1 E0.out).1).trans E0.out)
    replace E1 := hide ((b9.block _ (Array.getElem?_eq_some_iff.1 E1.out).1).trans E1.out)
    replace X6 := hide ((b9.block _ (Array.getElem?_eq_some_iff.1 X6.out).1).trans X6.out)
    replace X7 := hide ((b9.block _ (Array.getElem?_eq_some_iff.1 X7.out).1).trans X7.out)
    replace X8 := hide ((b9.block _ (Array.getElem?_eq_some_iff.1 X8.out).1).trans X8.out)
    replace OX6 := hide (OX6.out.below b9)
    replace OX8 := hide (OX8.out.below b9)
    have z13 := b9.size
    replace HB := hide (HB.out.trans (b9.mono HB.out.size))
    clear b9
    generalize wc = w12 at *
    have y0_0 := (box_of X12.out).1 0 _ rfl
    have y0_1 := (box_of X12.out).1 1 _ rfl
    have y0_2 := (box_of X12.out).1 2 _ rfl
    have y0_3 := (box_of X12.out).1 3 _ rfl
    have y1_0 := (box_of X6.out).1 0 _ rfl
    have y1_1 := (box_of X6.out).1 1 _ rfl
    have y1_2 := (box_of X6.out).1 2 _ rfl
    have y1_3 := (box_of X6.out).1 3 _ rfl
    go_wp2_with fail
    clear y0_0 y0_1 y0_2 y0_3 y1_0 y1_1 y1_2 y1_3
    refine (eqTh _ V0 _ _ (thD_own OX12.out) (thD_own OX6.out) HGV0.out).mono ?_
    rintro e w13 ⟨rfl, b9⟩
    replace E0 := hide ((b9.block _ (Array.getElem?_eq_some_iff.1 E0.out).1).trans E0.out)
    replace E1 := hide ((b9.block _ (Array.getElem?_eq_some_iff.1 E1.out).1).trans E1.out)
    replace X6 := hide ((b9.block _ (Array.getElem?_eq_some_iff.1 X6.out).1).trans X6.out)
    replace X7 := hide ((b9.block _ (Array.getElem?_eq_some_iff.1 X7.out).1).trans X7.out)
    replace X8 := hide ((b9.block _ (Array.getElem?_eq_some_iff.1 X8.out).1).trans X8.out)
    replace X12 := hide ((b9.block _ (Array.getElem?_eq_some_iff.1 X12.out).1).trans X12.out)
    replace OX6 := hide (OX6.out.below b9)
    replace OX8 := hide (OX8.out.below b9)
    replace OX12 := hide (OX12.out.below b9)
    have z14 := b9.size
    replace HB := hide (HB.out.trans (b9.mono HB.out.size))
    clear b9
    have y0_0 := (box_of X8.out).1 0 _ rfl
    have y0_1 := (box_of X8.out).1 1 _ rfl
    have y0_2 := (box_of X8.out).1 2 _ rfl
    have y0_3 := (box_of X8.out).1 3 _ rfl
    go_wp2_with fail
    clear y0_0 y0_1 y0_2 y0_3
    refine (heldThO _ 1 _ (by first | rfl | omega) V0 _ (OX8.out.rd (Nat.le_refl _)) (by omega) (by omega)).mono ?_
    rintro e w14 ⟨rfl, b9⟩
    rw [HMV0.out]
    replace E0 := hide ((b9.block _ (Array.getElem?_eq_some_iff.1 E0.out).1).trans E0.out)
    replace E1 := hide ((b9.block _ (Array.getElem?_eq_some_iff.1 E1.out).1).trans E1.out)
    replace X6 := hide ((b9.block _ (Array.getElem?_eq_some_iff.1 X6.out).1).trans X6.out)
    replace X7 := hide ((b9.block _ (Array.getElem?_eq_some_iff.1 X7.out).1).trans X7.out)
    replace X8 := hide ((b9.block _ (Array.getElem?_eq_some_iff.1 X8.out).1).trans X8.out)
    replace X12 := hide ((b9.block _ (Array.getElem?_eq_some_iff.1 X12.out).1).trans X12.out)
    replace OX6 := hide (OX6.out.below b9)
    replace OX8 := hide (OX8.out.below b9)
    replace OX12 := hide (OX12.out.below b9)
    have z15 := b9.size
    replace HB := hide (HB.out.trans (b9.mono HB.out.size))
    clear b9
    go_wp2
    go_ret
    exact ⟨rfl, HB.out⟩

set_option maxRecDepth 100000 in
theorem lifted (os : Os) (started : os.Started) (H : Type) (enc : TypeId × Value → H) :
    ReturnsInHanded {} Try.checked os 4 .any (Rows.fnExactGiveSpec.pre6 enc Try.prog Try.f4 Rows.fnExactGiveRow.domain false) (Rows.fnExactGiveSpec.post enc Try.prog Try.f4 false true false false) := by
  refine returnsInHanded_of_change (C := Try.checked) own started (by kernel_rfl) Try.func4
    (ChangeSpec.witness6 (enc := enc) (C := Try.checked) false ⟨#[], #[.agg #[.int .i64 0, .slice none 0 0, .int .i64 0, .int .i64 0], .agg #[.bool false, .int .i64 0]], []⟩ 8 (by kernel_rfl) (by kernel_rfl) (by kernel_rfl) (by kernel_rfl)) ?_
  intro W base args ds gs before hval0 hW hcnd _
  have hval : ∀ (j : Nat) t v, Try.f4.params[j]? = some t → args[j]? = some v → Value.okWide Try.prog W .any base t v := hval0
  have hW' := hW
  obtain ⟨p, q, hA0, hV, rfl, hfz, hnd⟩ := hW
  have hA : DataW.TrodAll enc Try.prog W 0 (fun _ => true) true Try.f4.params.toList args.toList ds p := hA0
  rw [Try.params4] at hA hval
  obtain ⟨v0, vs0, d0, ds0, p0, q0, hargs, rfl, rfl, h0, r0⟩ := trodAll_cons hA
  obtain ⟨v1, vs1, d1, ds1, p1, q1, rfl, rfl, rfl, h1, r1⟩ := trodAll_cons r0
  obtain ⟨rfl, rfl, rfl⟩ := trodAll_nil r1
  obtain rfl : args = #[v0, v1] := by cases args; simp_all
  obtain ⟨rfl, rfl⟩ := trodVars_none hV
  have k0 := h0
  have lt0 : ∀ x ∈ p0, x.block < W.heap.size := by obtain ⟨m, hm⟩ := k0; exact DataW.trod_lt m _ _ _ hm
  have w0 := openTh (hval 0 27 v0 rfl rfl) h0
  have k1 := h1
  have lt1 : ∀ x ∈ p1, x.block < W.heap.size := by obtain ⟨m, hm⟩ := k1; exact DataW.trod_lt m _ _ _ hm
  have w1 := openVl (hval 1 43 v1 rfl rfl) h1
  clear hA0 hval0
  refine (walk v0 v1 W w0 w1).mono fun e W' ⟨he, bel⟩ => ?_
  subst he
  exact ⟨_, rfl, _, _, _, [], _, [], hW', trodAll_mk1 (shut_bool Try.underlying4 _), (trodAll_cons_mk (Below.trod laidOut (by kernel_rfl) (of_decide_eq_true (by kernel_rfl)) k0 bel lt0) (trodAll_cons_mk (Below.trod laidOut (by kernel_rfl) (of_decide_eq_true (by kernel_rfl)) k1 bel lt1) trodAll_mk0)), rfl, bel.frame _, fun h => by cases h⟩

theorem over : Rows.fnExactGiveRow.holds Try.pinned (OpenSpec.ofChange Rows.fnExactGiveSpec) :=
  OpenClaim.holds_of_wide 4 Try.f4 rfl rfl rfl rfl rfl rfl rfl ⟨rfl, rfl, rfl, rfl, rfl⟩ rfl rfl rfl rfl rfl (by kernel_rfl) Try.func4 (by kernel_rfl)
    (of_decide_eq_true (by kernel_rfl)) (by unfold Func.isWrapper; first | (rw [if_pos (by decide +kernel)]; kernel_rfl) | (rw [if_neg (by decide +kernel)]; exact ⟨rfl, rfl⟩))
    (fun os started H enc _ => lifted os started H enc)

end Go.Proofs.Ytgkglebgpbehbaa.fnExactGive
namespace Go.Proofs.Ytgkglebgpbehbaa
theorem fnExactGive_holds : Rows.FnExactGiveSaid := fnExactGive.over
#print axioms fnExactGive_holds
end Go.Proofs.Ytgkglebgpbehbaa
