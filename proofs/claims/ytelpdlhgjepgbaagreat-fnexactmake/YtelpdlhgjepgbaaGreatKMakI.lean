/-
  One memory in the program: an object is made.
-/
import Derived.Test.YtelpdlhgjepgbaaGreatJ34
import Derived.Test.YtelpdlhgjepgbaaGreatJ36
import Derived.Test.YtelpdlhgjepgbaaGreatJ37
import Derived.Test.YtelpdlhgjepgbaaGreatJ29
namespace Go.Proofs.YtelpdlhgjepgbaaGreat
open Go.RowKit

set_option maxRecDepth 100000 in
set_option maxHeartbeats 4000000 in
theorem objNumI (w : World) (q : Int) : Calls Tryz.prog 46 #[.int .i64 q] w fun e w' => e = .returned (.bool (inB q 1 1000000)) ∧ w' = w := by
  go_enter Tryz.func46, Tryz.ntmps46
  go_wp2_with fail
  refine (inImpl _ _ _ _).mono ?_
  rintro e x2 ⟨rfl, hx2⟩
  rw [hx2]
  clear hx2 x2
  go_wp2
  go_ret
  exact ⟨rfl, rfl⟩
set_option maxRecDepth 100000 in
set_option maxHeartbeats 8000000 in
theorem makesI (w : World) (b hi g : Nat) (x : Pg) (m : Mm) (u v1 v2 : Value) (q c : Int) (hx : Reads w w.heap.size (kins x.k) u) (hEG : w.heap[g]? = some (.cells #[v1, v2] 34 (0, 0))) (hOw : OwnDL w b hi [obs (m.o), lks m.l, .row 34 2 1 [.val (v1), .val v2]] [v1, v2, .slice (some ⟨g, 0, none⟩) 1 1]) (hhi : hi ≤ w.heap.size) (hk : kinsG x.k) (hg : MmG m) :
    Calls Tryz.prog 27 #[.pointer (some ⟨g, 0, none⟩), pgV x u, .int .i64 q, .int .i64 c] w fun e w' => ∃ v1', e = .returned (.bool (okM x m q c)) ∧ w'.heap[g]? = some (.cells #[v1', v2] 34 (0, 0)) ∧ OwnDL w' b w'.heap.size [obs ((makeX x m q c).o), lks m.l, .row 34 2 1 [.val (v1'), .val v2]] [v1', v2, .slice (some ⟨g, 0, none⟩) 1 1] ∧ Below b w w' := by
  have HPr := hide hx
  have HK := hide hk
  have hm := hg.o.1
  have hkl := hk.1
  have HGm := hide hg
  have hgl := (Array.getElem?_eq_some_iff.1 hEG).1
  have hbg0 := ((OwnDL.mid (c1 := [obs m.o, lks m.l]) (v1 := [v1, v2]) hOw rfl).blk g rfl).1
  have HBw := hide (Below.refl b w)
  obtain ⟨va, vc, rfl⟩ := (OwnDL.mid (c1 := []) (v1 := []) hOw rfl).shape
  have HOw := hide hOw
  have EG := hide hEG
  have hr1 := (OwnDL.mid (c1 := []) (v1 := []) hOw rfl).rd (Nat.le_refl _)
  have hr2 := (OwnDL.mid (c1 := [obs m.o]) (v1 := [.slice va m.o.length vc]) hOw rfl).rd (Nat.le_refl _)
  obtain ⟨uf, hO, hR⟩ := ObsAt.of hr1
  obtain ⟨fa, fc, hfu, _⟩ := fuV_ok (q := q) hR
  have HO := hide hO
  have HL := hide hr2
  have HFU := hide hfu
  obtain ⟨a0, c0, e0, _⟩ := hx.shape
  subst e0
  clear hx hOw hEG hr1 hr2 hO hR hfu hg hk
  have bA := ((Below.refl w.heap.size w).alloc (Nat.le_refl _) (.cells #[.slice a0 x.k.length c0] 39))
  have G0 := heap_alloc_new w (.cells #[.slice a0 x.k.length c0] 39)
  have E0 := hide (G0)
  have HB := hide bA
  replace HPr := hide (HPr.out.at bA)
  replace HO := hide (HO.out.at bA)
  replace HL := hide (HL.out.at bA)
  replace EG := hide ((bA.block _ (Array.getElem?_eq_some_iff.1 EG.out).1).trans EG.out)
  replace HBw := hide (HBw.out.trans (bA.mono (by omega)))
  replace HOw := hide (HOw.out.below bA)
  have hsW := bA.size
  clear bA G0
  unfold pgV
  go_enter Tryz.func27, Tryz.ntmps27
  go_upto_region 1 with fail
  generalize (w.alloc (.cells #[.slice a0 x.k.length c0] 39)) = W at *
  have hE0 := (Array.getElem?_eq_some_iff.1 E0.out).1
  have k0 := (box_of EG.out).1 0 _ rfl
  have k1 := (box_of EG.out).1 1 _ rfl
  have q0 := (box_of E0.out).1 0 _ rfl
  go_wp2_with fail
  refine (objectI _ m _ _ q uf HO.out HL.out hm).mono ?_
  rintro e w1 ⟨rfl, b1⟩
  replace E0 := hide ((b1.block _ hE0).trans E0.out)
  replace HPr := hide (HPr.out.at b1)
  replace EG := hide ((b1.block _ (Array.getElem?_eq_some_iff.1 EG.out).1).trans EG.out)
  replace HBw := hide (HBw.out.trans (b1.mono (by omega)))
  replace HOw := hide (HOw.out.below b1)
  have hz1 := b1.size
  clear b1 HO HL k0 k1 q0
  rw [HFU.out]
  unfold obV
  go_upto_region 2 with fail
  have bA := (Below.refl w1.heap.size w1).alloc (Nat.le_refl _) (.cells #[.int .i64 (findX m q).i, .int .i64 (findX m q).c, .slice fa (findX m q).f.length fc] 54)
  replace E0 := hide ((bA.block _ (Array.getElem?_eq_some_iff.1 E0.out).1).trans E0.out)
  replace HPr := hide (HPr.out.at bA)
  replace EG := hide ((bA.block _ (Array.getElem?_eq_some_iff.1 EG.out).1).trans EG.out)
  replace HBw := hide (HBw.out.trans (bA.mono (by omega)))
  replace HOw := hide (HOw.out.below bA)
  have hz2 := bA.size
  clear bA HFU
  generalize w1.alloc (.cells #[.int .i64 (findX m q).i, .int .i64 (findX m q).c, .slice fa (findX m q).f.length fc] 54) = Wz at *
  have q0 := (box_of E0.out).1 0 _ rfl
  cases k1 : foundB m q with
  | true =>
    have hat : ¬ (atM m q < 0) := by
      unfold foundB at k1
      have := of_decide_eq_true k1
      omega
    have hC : okM x m q c = false := by unfold okM; rw [decide_eq_false hat, Bool.and_false, Bool.and_false]
    have HF : Hid (makeX x m q c = m) := hide (by unfold makeX; rw [if_neg (by rw [hC]; simp)])
    have HC := hide hC
    clear hC
    go_wp2
    go_ret
    rw [HF.out, HC.out]
    first | exact ⟨_, rfl, EG.out, HOw.out.up (by omega), HBw.out⟩ | exact ⟨rfl, _, EG.out, HOw.out.up (by omega), HBw.out⟩
  | false =>
    have hat : atM m q < 0 := by
      unfold foundB at k1
      have := of_decide_eq_false k1
      omega
    go_wp2_with fail
    refine (hasImpl _ x _ _ _ c (by omega)).mono ?_
    rintro e w2 ⟨rfl, b1⟩
    replace E0 := hide ((b1.block _ (Array.getElem?_eq_some_iff.1 E0.out).1).trans E0.out)
    replace HPr := hide (HPr.out.at b1)
    replace EG := hide ((b1.block _ (Array.getElem?_eq_some_iff.1 EG.out).1).trans EG.out)
    replace HBw := hide (HBw.out.trans (b1.mono (by omega)))
    replace HOw := hide (HOw.out.below b1)
    have hz3 := b1.size
    clear b1 q0
    cases k2 : inB c 0 ((x.k.length : Int) - 1) with
    | false =>
      have hC : okM x m q c = false := by unfold okM; rw [k2]; rfl
      have HF : Hid (makeX x m q c = m) := hide (by unfold makeX; rw [if_neg (by rw [hC]; simp)])
      have HC := hide hC
      clear hC
      go_wp2
      go_ret
      rw [HF.out, HC.out]
      first | exact ⟨_, rfl, EG.out, HOw.out.up (by omega), HBw.out⟩ | exact ⟨rfl, _, EG.out, HOw.out.up (by omega), HBw.out⟩
    | true =>
      go_wp2_with fail
      refine (objNumI _ _).mono ?_
      rintro e x2 ⟨rfl, hx2⟩
      rw [hx2]
      clear hx2 x2
      cases k3 : inB q 1 1000000 with
      | false =>
        have hC : okM x m q c = false := by unfold okM; rw [k2, k3]; rfl
        have HF : Hid (makeX x m q c = m) := hide (by unfold makeX; rw [if_neg (by rw [hC]; simp)])
        have HC := hide hC
        clear hC
        go_wp2
        go_ret
        rw [HF.out, HC.out]
        first | exact ⟨_, rfl, EG.out, HOw.out.up (by omega), HBw.out⟩ | exact ⟨rfl, _, EG.out, HOw.out.up (by omega), HBw.out⟩
      | true =>
        have hC : okM x m q c = true := by unfold okM; rw [k2, k3, decide_eq_true hat]; rfl
        obtain ⟨F, hF⟩ : ∃ F, freshX x.k c = F := ⟨_, rfl⟩
        have HFr := hide hF
        have HFv : Hid ((makeX x m q c).o = insO ⟨q, c, F⟩ m.o) := hide (by unfold makeX; rw [if_pos hC, hF])
        have HCv := hide hC
        clear hC hF k1 k2 k3 hat
        go_upto_region 4 with fail
        have HCL : Hid (∀ w', Below w2.heap.size w2 w' → w'.cell? ⟨w.heap.size, 0, none⟩ = some (.slice a0 x.k.length c0)) := hide (fun w' hb => (box_of ((hb.block _ (Array.getElem?_eq_some_iff.1 E0.out).1).trans E0.out)).1 0 _ rfl)
        have HW := hide (Below.refl w2.heap.size w2).drew
        refine wp_region_held_drew (S := fun w' => w'.cell? ⟨w.heap.size, 0, none⟩ = some (.slice a0 x.k.length c0)) (by kernel_rfl) (HCL.out _ HW.out) (fun hHeld => ?_)
        have EGz := hide ((HW.out.block _ (Array.getElem?_eq_some_iff.1 EG.out).1).trans EG.out)
        have HBz := hide (HBw.out.trans (HW.out.mono (by omega)))
        have HOo := hide (HOw.out.below HW.out)
        have HPz := hide (HPr.out.at HW.out)
        have hz0 := HW.out.size
        generalize w2.drew = Z0 at *
        refine wpAnyH_take (i := 0) (v := ?_) rfl (by kernel_rfl) (by kernel_rfl) (by kernel_rfl) (fun _ _ _ h => h) (Or.inl ⟨by rfl, ?_⟩) (by assumption) ?_
        rotate_left
        · intro w' hSw
          try dsimp only at hSw
          go_simp; try rfl
        simp only [List.getElem_toArray, List.getElem_cons_zero, Act.put, List.setIfInBounds_toArray, List.set_cons_zero, List.set_cons_succ]
        refine wpAnyH_take (i := 1) (v := ?_) rfl (by kernel_rfl) (by kernel_rfl) (by kernel_rfl) (fun _ _ _ h => h) (Or.inl ⟨by rfl, ?_⟩) (by assumption) ?_
        rotate_left
        · intro w' hSw
          try dsimp only at hSw
          go_simp; try rfl
        simp only [List.getElem_toArray, List.getElem_cons_succ, List.getElem_cons_zero, Act.put, List.setIfInBounds_toArray, List.set_cons_zero, List.set_cons_succ]
        refine wpAnyH_take (i := 2) (v := ?_) rfl (by kernel_rfl) (by kernel_rfl) (by kernel_rfl) (fun _ _ _ h => h) (Or.inl ⟨by rfl, ?_⟩) (by assumption) ?_
        rotate_left
        · intro w' hSw
          try dsimp only at hSw
          go_simp; try rfl
        simp only [List.getElem_toArray, List.getElem_cons_succ, List.getElem_cons_zero, Act.put, List.setIfInBounds_toArray, List.set_cons_zero, List.set_cons_succ]
        refine wpAnyH_take (i := 3) (v := ?_) rfl (by kernel_rfl) (by kernel_rfl) (by kernel_rfl) (fun _ _ _ h => h) (Or.inl ⟨by rfl, ?_⟩) (by assumption) ?_
        rotate_left
        · intro w' hSw
          try dsimp only at hSw
          go_simp; try rfl
        simp only [List.getElem_toArray, List.getElem_cons_succ, List.getElem_cons_zero, Act.put, List.setIfInBounds_toArray, List.set_cons_zero, List.set_cons_succ]
        refine wpAnyH_take (i := 5) (v := ?_) rfl (by kernel_rfl) (by kernel_rfl) (by kernel_rfl) (fun _ _ _ h => h) (Or.inl ⟨by rfl, ?_⟩) (by assumption) ?_
        rotate_left
        · intro w' hSw
          try dsimp only at hSw
          go_simp; try rfl
        simp only [List.getElem_toArray, List.getElem_cons_succ, List.getElem_cons_zero, Act.put, List.setIfInBounds_toArray, List.set_cons_zero, List.set_cons_succ]
        refine wpAnyH_take (i := 6) (v := ?_) rfl (by kernel_rfl) (by kernel_rfl) (by kernel_rfl) (fun _ _ _ h => h) (Or.inl ⟨by rfl, ?_⟩) (by assumption) ?_
        rotate_left
        · intro w' hSw
          try dsimp only at hSw
          go_simp; try rfl
        simp only [List.getElem_toArray, List.getElem_cons_succ, List.getElem_cons_zero, Act.put, List.setIfInBounds_toArray, List.set_cons_zero, List.set_cons_succ]
        refine wpAnyH_take (i := 7) (v := ?_) rfl (by kernel_rfl) (by kernel_rfl) (by kernel_rfl) (fun _ _ _ h => h) (Or.inl ⟨by rfl, ?_⟩) (by assumption) ?_
        rotate_left
        · intro w' hSw
          try dsimp only at hSw
          go_simp; try rfl
        simp only [List.getElem_toArray, List.getElem_cons_succ, List.getElem_cons_zero, Act.put, List.setIfInBounds_toArray, List.set_cons_zero, List.set_cons_succ]
        refine wpAnyH_take (i := 8) (v := ?_) rfl (by kernel_rfl) (by kernel_rfl) (by kernel_rfl) (fun _ _ _ h => h) (Or.inl ⟨by rfl, ?_⟩) (by assumption) ?_
        rotate_left
        · intro w' hSw
          try dsimp only at hSw
          go_simp; try rfl
        simp only [List.getElem_toArray, List.getElem_cons_succ, List.getElem_cons_zero, Act.put, List.setIfInBounds_toArray, List.set_cons_zero, List.set_cons_succ]
        refine wpAnyH_ready (rs := [4, 9]) (by kernel_rfl) (by simp) (AllReadyH.cons rfl (fun K hK => ?_) (AllReadyH.cons rfl (fun K hK => ?_) AllReadyH.nil))
        · skip
          have e9 := (box_of EGz.out).1 0 _ rfl
          refine step_runX (some 35) (by kernel_rfl) (by kernel_rfl) (v := .slice va m.o.length vc) (w' := Z0) (by go_simp; try rfl) ?_
          clear e9
          refine hK.out _ _ (HCL.out _ HW.out) (fun hHeld => ?_)
          clear hK K
          simp only [Act.put, List.setIfInBounds_toArray, List.set_cons_zero, List.set_cons_succ]
          refine wpAnyH_ready (rs := [9]) (by kernel_rfl) (by simp) (AllReadyH.cons rfl (fun K hK => ?_) AllReadyH.nil)
          refine step_callW (some 40) (by kernel_rfl) (by kernel_rfl) 48 _ _ rfl #[.agg #[.slice a0 x.k.length c0], .int .i64 c] (by kernel_rfl) (freshI _ x _ c HPz.out HK.out) ?_
          rintro e Z1 ⟨r1, rfl, o9, b9⟩
          rw [HFr.out] at o9
          obtain ⟨pa, pc, pe⟩ := o9.shape
          subst pe
          have hz1 := b9.size
          replace HW := hide (HW.out.trans (b9.mono HW.out.size))
          replace EGz := hide ((b9.block _ (Array.getElem?_eq_some_iff.1 EGz.out).1).trans EGz.out)
          replace HBz := hide (HBz.out.trans (b9.mono (by omega)))
          replace HOo := hide (HOo.out.below b9)
          clear b9
          have HD : Hid (OwnDL Z1 Z0.heap.size Z1.heap.size (obD ⟨q, c, F⟩) [.int .i64 q, .int .i64 c, .slice pa F.length pc]) := hide (OwnDL.val (OwnDL.val (OwnDL.cons (m := Z1.heap.size) o9 (ownDL_nil _ Z1.heap.size _) (by omega) (Nat.le_refl _))))
          clear o9
          refine ⟨_, rfl, ?_⟩
          refine hK.out _ _ (HCL.out _ HW.out) (fun hHeld => ?_)
          clear hK K
          simp only [Act.put, List.setIfInBounds_toArray, List.set_cons_zero, List.set_cons_succ]
          refine wpAnyH_take (i := 10) (v := ?_) rfl (by kernel_rfl) (by kernel_rfl) (by kernel_rfl) (fun _ _ _ h => h) (Or.inl ⟨by rfl, ?_⟩) (by assumption) ?_
          rotate_left
          · intro w' hSw
            try dsimp only at hSw
            go_simp; try rfl
          simp only [List.getElem_toArray, List.getElem_cons_succ, List.getElem_cons_zero, Act.put, List.setIfInBounds_toArray, List.set_cons_zero, List.set_cons_succ]
          refine wpAnyH_ready (rs := [11]) (by kernel_rfl) (by simp) (AllReadyH.cons rfl (fun K hK => ?_) AllReadyH.nil)
          refine step_callW (some 42) (by kernel_rfl) (by kernel_rfl) 47 _ _ rfl #[.slice va m.o.length vc, .agg #[.int .i64 q, .int .i64 c, .slice pa F.length pc], .func (.func 49) #[] #[]] (by kernel_rfl) (putO Z1 b hi Z0.heap.size [] [lks m.l, .row 34 2 1 [.val (.slice va m.o.length vc), .val v2]] [] [v2, .slice (some ⟨g, 0, none⟩) 1 1] _ m.o ⟨q, c, F⟩ pa pc HOo.out rfl HD.out (by omega) (by omega) (by omega) (by omega)) ?_
          have HNE : Hid (∀ q9, (.slice va m.o.length vc : Value).ownBlock = some q9 → q9 ≠ g) := hide (fun q9 h9 => OwnDL.rowsNe (c1 := [lks m.l]) (v1 := [v2]) HOo.out rfl h9 rfl)
          rintro e Z3 ⟨v', rfl, o3, gr3, hq3⟩
          obtain ⟨ra, rc, re⟩ := (OwnDL.mid (c1 := []) (v1 := []) o3 rfl).shape
          subst re
          have hs3 : Z3.cell? ⟨w.heap.size, 0, none⟩ = some (.slice a0 x.k.length c0) := gr3.cell (HCL.out _ HW.out) (fun e => by have := (hq3 _ e.symm).2; dsimp only at this; omega)
          have hbg := (OwnDL.mid (c1 := [obs (insO ⟨q, c, F⟩ m.o), lks m.l]) (v1 := [.slice ra (insO ⟨q, c, F⟩ m.o).length rc, v2]) o3 rfl).blk g rfl
          obtain ⟨k9, z9, _, o4⟩ := OwnDL.cell (c1 := [obs (insO ⟨q, c, F⟩ m.o), lks m.l]) (v1 := [.slice ra (insO ⟨q, c, F⟩ m.o).length rc, v2]) (i := 0) o3 rfl rfl (.slice ra (insO ⟨q, c, F⟩ m.o).length rc)
          have hg3 := (gr3.block g (Array.getElem?_eq_some_iff.1 EGz.out).1 (fun e => HNE.out g e.symm rfl)).trans EGz.out
          have EG4 := hide (heap_setCell_same Z3 g 0 _ _ (.slice ra (insO ⟨q, c, F⟩ m.o).length rc) hg3)
          have HO4 := hide o4
          have HB4 := hide ((HBz.out.grown gr3 (by omega) (fun q9 h9 => (hq3 q9 h9).1)).setCell (p := ⟨g, 0, none⟩) hbg.1 (.slice ra (insO ⟨q, c, F⟩ m.o).length rc))
          have hz3 := gr3.size
          have HS3 := hide hs3
          have hgA := hbg.1
          clear o3 o4 gr3 hq3 hs3 hg3 HOo HD HPz EGz HBz HNE hbg
          refine ⟨_, rfl, ?_⟩
          refine hK.out _ _ HS3.out (fun hHeld => ?_)
          clear hK K
          simp only [Act.put, List.setIfInBounds_toArray, List.set_cons_zero, List.set_cons_succ]
          refine wpAnyH_take (i := 12) (v := ?_) rfl (by kernel_rfl) (by kernel_rfl) (by kernel_rfl) (fun _ _ _ h => h) (Or.inl ⟨by rfl, ?_⟩) (by assumption) ?_
          rotate_left
          · intro w' hSw
            try dsimp only at hSw
            go_simp; try rfl
          simp only [List.getElem_toArray, List.getElem_cons_succ, List.getElem_cons_zero, Act.put, List.setIfInBounds_toArray, List.set_cons_zero, List.set_cons_succ]
          refine wpAnyH_take (i := 13) (v := ?_) rfl (by kernel_rfl) (by kernel_rfl) (by kernel_rfl) (fun _ _ _ h => h) (Or.inl ⟨by rfl, ?_⟩) (by assumption) ?_
          rotate_left
          · intro w' hSw
            try dsimp only at hSw
            go_simp; try rfl
          simp only [List.getElem_toArray, List.getElem_cons_succ, List.getElem_cons_zero, Act.put, List.setIfInBounds_toArray, List.set_cons_zero, List.set_cons_succ]
          refine wpAnyH_ready (rs := [14]) (by kernel_rfl) (by simp) (AllReadyH.cons rfl (fun K hK => ?_) AllReadyH.nil)
          refine step_store1 (by kernel_rfl) (by kernel_rfl) 31 _ _ rfl g 0 (.slice ra (insO ⟨q, c, F⟩ m.o).length rc) (by kernel_rfl) (by kernel_rfl) rfl _ k9 z9 (by kernel_rfl) ?_
          clear k9 z9
          refine hK.out _ _ ((World.cell?_of_block (w := Z3) (heap_setCell_other Z3 ⟨g, 0, none⟩ w.heap.size _ (by dsimp only; omega))).trans HS3.out) (fun hHeld => ?_)
          clear hK K
          try simp only [Act.put, List.setIfInBounds_toArray, List.set_cons_zero, List.set_cons_succ]
          have hz4 : Z3.heap.size ≤ (Z3.setCell ⟨g, 0, none⟩ (.slice ra (insO ⟨q, c, F⟩ m.o).length rc)).heap.size := by simp
          generalize Z3.setCell ⟨g, 0, none⟩ (.slice ra (insO ⟨q, c, F⟩ m.o).length rc) = Y at *
          refine wpAnyH_done (by kernel_rfl) ?_ _
          go_wp2
          go_ret
          rw [HFv.out, HCv.out]
          first | exact ⟨_, rfl, EG4.out, HO4.out.up (by omega), HB4.out⟩ | exact ⟨rfl, _, EG4.out, HO4.out.up (by omega), HB4.out⟩
        · skip
          refine step_callW (some 40) (by kernel_rfl) (by kernel_rfl) 48 _ _ rfl #[.agg #[.slice a0 x.k.length c0], .int .i64 c] (by kernel_rfl) (freshI _ x _ c HPz.out HK.out) ?_
          rintro e Z1 ⟨r1, rfl, o9, b9⟩
          rw [HFr.out] at o9
          obtain ⟨pa, pc, pe⟩ := o9.shape
          subst pe
          have hz1 := b9.size
          replace HW := hide (HW.out.trans (b9.mono HW.out.size))
          replace EGz := hide ((b9.block _ (Array.getElem?_eq_some_iff.1 EGz.out).1).trans EGz.out)
          replace HBz := hide (HBz.out.trans (b9.mono (by omega)))
          replace HOo := hide (HOo.out.below b9)
          clear b9
          have HD : Hid (OwnDL Z1 Z0.heap.size Z1.heap.size (obD ⟨q, c, F⟩) [.int .i64 q, .int .i64 c, .slice pa F.length pc]) := hide (OwnDL.val (OwnDL.val (OwnDL.cons (m := Z1.heap.size) o9 (ownDL_nil _ Z1.heap.size _) (by omega) (Nat.le_refl _))))
          clear o9
          refine ⟨_, rfl, ?_⟩
          refine hK.out _ _ (HCL.out _ HW.out) (fun hHeld => ?_)
          clear hK K
          simp only [Act.put, List.setIfInBounds_toArray, List.set_cons_zero, List.set_cons_succ]
          refine wpAnyH_take (i := 10) (v := ?_) rfl (by kernel_rfl) (by kernel_rfl) (by kernel_rfl) (fun _ _ _ h => h) (Or.inl ⟨by rfl, ?_⟩) (by assumption) ?_
          rotate_left
          · intro w' hSw
            try dsimp only at hSw
            go_simp; try rfl
          simp only [List.getElem_toArray, List.getElem_cons_succ, List.getElem_cons_zero, Act.put, List.setIfInBounds_toArray, List.set_cons_zero, List.set_cons_succ]
          refine wpAnyH_ready (rs := [4]) (by kernel_rfl) (by simp) (AllReadyH.cons rfl (fun K hK => ?_) AllReadyH.nil)
          have e9 := (box_of EGz.out).1 0 _ rfl
          refine step_runX (some 35) (by kernel_rfl) (by kernel_rfl) (v := .slice va m.o.length vc) (w' := Z1) (by go_simp; try rfl) ?_
          clear e9
          refine hK.out _ _ (HCL.out _ HW.out) (fun hHeld => ?_)
          clear hK K
          simp only [Act.put, List.setIfInBounds_toArray, List.set_cons_zero, List.set_cons_succ]
          refine wpAnyH_ready (rs := [11]) (by kernel_rfl) (by simp) (AllReadyH.cons rfl (fun K hK => ?_) AllReadyH.nil)
          refine step_callW (some 42) (by kernel_rfl) (by kernel_rfl) 47 _ _ rfl #[.slice va m.o.length vc, .agg #[.int .i64 q, .int .i64 c, .slice pa F.length pc], .func (.func 49) #[] #[]] (by kernel_rfl) (putO Z1 b hi Z0.heap.size [] [lks m.l, .row 34 2 1 [.val (.slice va m.o.length vc), .val v2]] [] [v2, .slice (some ⟨g, 0, none⟩) 1 1] _ m.o ⟨q, c, F⟩ pa pc HOo.out rfl HD.out (by omega) (by omega) (by omega) (by omega)) ?_
          have HNE : Hid (∀ q9, (.slice va m.o.length vc : Value).ownBlock = some q9 → q9 ≠ g) := hide (fun q9 h9 => OwnDL.rowsNe (c1 := [lks m.l]) (v1 := [v2]) HOo.out rfl h9 rfl)
          rintro e Z3 ⟨v', rfl, o3, gr3, hq3⟩
          obtain ⟨ra, rc, re⟩ := (OwnDL.mid (c1 := []) (v1 := []) o3 rfl).shape
          subst re
          have hs3 : Z3.cell? ⟨w.heap.size, 0, none⟩ = some (.slice a0 x.k.length c0) := gr3.cell (HCL.out _ HW.out) (fun e => by have := (hq3 _ e.symm).2; dsimp only at this; omega)
          have hbg := (OwnDL.mid (c1 := [obs (insO ⟨q, c, F⟩ m.o), lks m.l]) (v1 := [.slice ra (insO ⟨q, c, F⟩ m.o).length rc, v2]) o3 rfl).blk g rfl
          obtain ⟨k9, z9, _, o4⟩ := OwnDL.cell (c1 := [obs (insO ⟨q, c, F⟩ m.o), lks m.l]) (v1 := [.slice ra (insO ⟨q, c, F⟩ m.o).length rc, v2]) (i := 0) o3 rfl rfl (.slice ra (insO ⟨q, c, F⟩ m.o).length rc)
          have hg3 := (gr3.block g (Array.getElem?_eq_some_iff.1 EGz.out).1 (fun e => HNE.out g e.symm rfl)).trans EGz.out
          have EG4 := hide (heap_setCell_same Z3 g 0 _ _ (.slice ra (insO ⟨q, c, F⟩ m.o).length rc) hg3)
          have HO4 := hide o4
          have HB4 := hide ((HBz.out.grown gr3 (by omega) (fun q9 h9 => (hq3 q9 h9).1)).setCell (p := ⟨g, 0, none⟩) hbg.1 (.slice ra (insO ⟨q, c, F⟩ m.o).length rc))
          have hz3 := gr3.size
          have HS3 := hide hs3
          have hgA := hbg.1
          clear o3 o4 gr3 hq3 hs3 hg3 HOo HD HPz EGz HBz HNE hbg
          refine ⟨_, rfl, ?_⟩
          refine hK.out _ _ HS3.out (fun hHeld => ?_)
          clear hK K
          simp only [Act.put, List.setIfInBounds_toArray, List.set_cons_zero, List.set_cons_succ]
          refine wpAnyH_take (i := 12) (v := ?_) rfl (by kernel_rfl) (by kernel_rfl) (by kernel_rfl) (fun _ _ _ h => h) (Or.inl ⟨by rfl, ?_⟩) (by assumption) ?_
          rotate_left
          · intro w' hSw
            try dsimp only at hSw
            go_simp; try rfl
          simp only [List.getElem_toArray, List.getElem_cons_succ, List.getElem_cons_zero, Act.put, List.setIfInBounds_toArray, List.set_cons_zero, List.set_cons_succ]
          refine wpAnyH_take (i := 13) (v := ?_) rfl (by kernel_rfl) (by kernel_rfl) (by kernel_rfl) (fun _ _ _ h => h) (Or.inl ⟨by rfl, ?_⟩) (by assumption) ?_
          rotate_left
          · intro w' hSw
            try dsimp only at hSw
            go_simp; try rfl
          simp only [List.getElem_toArray, List.getElem_cons_succ, List.getElem_cons_zero, Act.put, List.setIfInBounds_toArray, List.set_cons_zero, List.set_cons_succ]
          refine wpAnyH_ready (rs := [14]) (by kernel_rfl) (by simp) (AllReadyH.cons rfl (fun K hK => ?_) AllReadyH.nil)
          refine step_store1 (by kernel_rfl) (by kernel_rfl) 31 _ _ rfl g 0 (.slice ra (insO ⟨q, c, F⟩ m.o).length rc) (by kernel_rfl) (by kernel_rfl) rfl _ k9 z9 (by kernel_rfl) ?_
          clear k9 z9
          refine hK.out _ _ ((World.cell?_of_block (w := Z3) (heap_setCell_other Z3 ⟨g, 0, none⟩ w.heap.size _ (by dsimp only; omega))).trans HS3.out) (fun hHeld => ?_)
          clear hK K
          try simp only [Act.put, List.setIfInBounds_toArray, List.set_cons_zero, List.set_cons_succ]
          have hz4 : Z3.heap.size ≤ (Z3.setCell ⟨g, 0, none⟩ (.slice ra (insO ⟨q, c, F⟩ m.o).length rc)).heap.size := by simp
          generalize Z3.setCell ⟨g, 0, none⟩ (.slice ra (insO ⟨q, c, F⟩ m.o).length rc) = Y at *
          refine wpAnyH_done (by kernel_rfl) ?_ _
          go_wp2
          go_ret
          rw [HFv.out, HCv.out]
          first | exact ⟨_, rfl, EG4.out, HO4.out.up (by omega), HB4.out⟩ | exact ⟨rfl, _, EG4.out, HO4.out.up (by omega), HB4.out⟩
theorem makeX_l (x : Pg) (m : Mm) (q c : Int) : (makeX x m q c).l = m.l := by
  unfold makeX
  split <;> rfl
set_option maxRecDepth 100000 in
set_option maxHeartbeats 8000000 in
theorem makeI (w : World) (x : Pg) (m : Mm) (u u1 u2 : Value) (q c : Int) (hx : Reads w w.heap.size (kins x.k) u) (h1 : Reads w w.heap.size (obs m.o) u1) (h2 : Reads w w.heap.size (lks m.l) u2) (hk : kinsG x.k) (hg : MmG m) :
    Calls Tryz.prog 9 #[pgV x u, mmV m u1 u2, .int .i64 q, .int .i64 c] w fun e w' => mmP2 w w' (makeX x m q c) (okM x m q c) e := by
  have HPr := hide hx
  have HR := hide h1
  have HL := hide h2
  have HK := hide hk
  have HGm := hide hg
  obtain ⟨a0, c0, e0, _⟩ := hx.shape
  obtain ⟨a1, c1, e1, _⟩ := h1.shape
  obtain ⟨a2, c2, e2, _⟩ := h2.shape
  subst e0 e1 e2
  clear hx h1 h2 hg hk
  obtain ⟨V, hV⟩ : ∃ V, makeX x m q c = V := ⟨_, rfl⟩
  obtain ⟨C, hC⟩ : ∃ C, okM x m q c = C := ⟨_, rfl⟩
  rw [hV, hC]
  have HVV := hide hV
  have HCC := hide hC
  clear hV hC
  have bA := ((((Below.refl w.heap.size w).alloc (Nat.le_refl _) (.cells #[.slice a0 x.k.length c0] 39)).alloc (by simp) (.cells #[.slice a1 m.o.length c1, .slice a2 m.l.length c2] 34)).alloc (by simp <;> omega) (.cells #[.slice none 0 0, .slice none 0 0] 34))
  have G0 := heap_alloc_new w (.cells #[.slice a0 x.k.length c0] 39)
  have G1 := heap_alloc_new (w.alloc (.cells #[.slice a0 x.k.length c0] 39)) (.cells #[.slice a1 m.o.length c1, .slice a2 m.l.length c2] 34)
  have G2 := heap_alloc_new ((w.alloc (.cells #[.slice a0 x.k.length c0] 39)).alloc (.cells #[.slice a1 m.o.length c1, .slice a2 m.l.length c2] 34)) (.cells #[.slice none 0 0, .slice none 0 0] 34)
  simp only [World.size_alloc] at G1 G2
  have E0 := hide ((Below.heap_alloc _ (.cells #[.slice none 0 0, .slice none 0 0] 34) _ (by simp <;> omega)).trans ((Below.heap_alloc _ (.cells #[.slice a1 m.o.length c1, .slice a2 m.l.length c2] 34) _ (by simp)).trans (G0)))
  have E1 := hide ((Below.heap_alloc _ (.cells #[.slice none 0 0, .slice none 0 0] 34) _ (by simp)).trans (G1))
  have E2 := hide (G2)
  have HB := hide bA
  replace HPr := hide (HPr.out.at bA)
  replace HR := hide (HR.out.at bA)
  replace HL := hide (HL.out.at bA)
  clear bA G0 G1 G2
  unfold pgV mmV
  go_enter Tryz.func9, Tryz.ntmps9
  go_upto_region 1 with fail
  generalize (((w.alloc (.cells #[.slice a0 x.k.length c0] 39)).alloc (.cells #[.slice a1 m.o.length c1, .slice a2 m.l.length c2] 34)).alloc (.cells #[.slice none 0 0, .slice none 0 0] 34)) = W at *
  have hW2 := (Array.getElem?_eq_some_iff.1 E2.out).1
  have q0 := (box_of E1.out).1 0 _ rfl
  have q1 := (box_of E1.out).1 1 _ rfl
  go_wp2_with fail
  refine (copyMmI _ m _ _ HR.out HL.out HGm.out).mono ?_
  rintro e Z1 ⟨v1, v2, rfl, o9, b9⟩
  obtain ⟨⟨pa, pc, pe⟩, ⟨qa, qc, qe⟩⟩ := (show (∃ a c, v1 = .slice a m.o.length c) ∧ (∃ a c, v2 = .slice a m.l.length c) from ⟨by obtain ⟨a, c, e, _⟩ := (mmD_own o9).1.shape; exact ⟨a, c, e⟩, by obtain ⟨a, c, e, _⟩ := (mmD_own o9).2.shape; exact ⟨a, c, e⟩⟩)
  subst pe qe
  have HO := hide o9
  have hz1 := b9.size
  replace E0 := hide ((b9.block _ (Array.getElem?_eq_some_iff.1 E0.out).1).trans E0.out)
  replace E2 := hide ((b9.block _ (Array.getElem?_eq_some_iff.1 E2.out).1).trans E2.out)
  replace HPr := hide (HPr.out.at b9)
  have hzB := HB.out.size
  replace HB := hide (HB.out.trans (b9.mono HB.out.size))
  clear b9 o9 q0 q1 HR HL E1
  unfold mmV
  go_upto_region 2 with fail
  have bA := (Below.refl Z1.heap.size Z1).alloc (Nat.le_refl _) (.cells #[.slice pa m.o.length pc, .slice qa m.l.length qc] 34)
  have EO := hide (heap_alloc_new Z1 (.cells #[.slice pa m.o.length pc, .slice qa m.l.length qc] 34))
  replace HO := hide (HO.out.below bA)
  have hz2 := bA.size
  replace E0 := hide ((bA.block _ (Array.getElem?_eq_some_iff.1 E0.out).1).trans E0.out)
  replace E2 := hide ((bA.block _ (Array.getElem?_eq_some_iff.1 E2.out).1).trans E2.out)
  replace HPr := hide (HPr.out.at bA)
  have hzC := HB.out.size
  replace HB := hide (HB.out.trans (bA.mono HB.out.size))
  clear bA
  obtain ⟨g5, hg5⟩ : ∃ g, Z1.heap.size = g := ⟨_, rfl⟩
  rw [hg5] at EO HO hz1 hz2 hzC ⊢
  clear hg5
  generalize Z1.alloc (.cells #[.slice pa m.o.length pc, .slice qa m.l.length qc] 34) = Z2 at *
  have hgs := (Array.getElem?_eq_some_iff.1 EO.out).1
  have HFR : Hid (OwnDL Z2 W.heap.size (g5 + 1) [obs m.o, lks m.l, .row 34 2 1 [.val (.slice pa m.o.length pc), .val (.slice qa m.l.length qc)]] [.slice pa m.o.length pc, .slice qa m.l.length qc, .slice (some ⟨g5, 0, none⟩) 1 1]) := hide (OwnDL.push (m := g5) HO.out (ownD_box (vs := [.slice pa m.o.length pc, .slice qa m.l.length qc]) EO.out (by simp)) (by omega) (by omega))
  have q0 := (box_of E0.out).1 0 _ rfl
  go_wp2_with fail
  refine (makesI _ W.heap.size (g5 + 1) g5 x m _ _ _ q c HPr.out EO.out HFR.out (by omega) HK.out HGm.out).mono ?_
  rintro e Z3 ⟨v1', rfl, e3, o3, b3⟩
  clear q0 E0 HO EO HFR HPr
  obtain ⟨ra, rc, re⟩ := (OwnDL.mid (c1 := []) (v1 := []) o3 rfl).shape
  subst re
  have E3 := hide e3
  have HO3 := hide (OwnDL.left (c1 := [obs (makeX x m q c).o, lks m.l]) (v1 := [.slice ra (makeX x m q c).o.length rc, .slice qa m.l.length qc]) o3 rfl)
  replace E2 := hide ((b3.block _ hW2).trans E2.out)
  have hz3 := b3.size
  replace HB := hide (HB.out.trans (b3.mono hzB))
  have HML := hide (makeX_l x m q c)
  clear e3 o3 b3
  rw [HVV.out] at E3 HO3 HML
  rw [HCC.out]
  have k0 := (box_of E3.out).1 0 _ rfl
  have k1 := (box_of E3.out).1 1 _ rfl
  have l0 := (box_of E2.out).1 0 _ rfl
  have l1 := (box_of E2.out).1 1 _ rfl
  have lz := (box_of E2.out).2
  go_wp2
  refine bodyPost_ret (v := .tuple #[.agg #[.slice ra V.o.length rc, .slice qa m.l.length qc], .bool C]) (results_ct Tryz.results9 _ _ _ rfl (loadMm (putN2 E2.out _ _))) rfl ?_
  refine ⟨_, _, rfl, ?_, (HB.out.setCell (by dsimp only; omega) _).setCell (by dsimp only; omega) _⟩
  unfold mmD
  rw [HML.out]
  refine ((OwnDL.same (b := W.heap.size) HO3.out (fun q hq hq2 _ => ?_)).mono (by omega)).up (by simp only [World.size_setCell]; omega)
  rw [heap_setCell_other _ _ _ _ (by dsimp only; omega), heap_setCell_other _ _ _ _ (by dsimp only; omega)]
end Go.Proofs.YtelpdlhgjepgbaaGreat
