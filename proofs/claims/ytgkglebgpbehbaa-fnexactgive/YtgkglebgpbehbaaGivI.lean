/-
  Threads in the program: a value on the stack of the last frame.
-/
import Derived.Test.YtgkglebgpbehbaaGivC
import Derived.Test.YtgkglebgpbehbaaChgM
namespace Go.Proofs.Ytgkglebgpbehbaa
open Go.RowKit

set_option maxRecDepth 100000 in
set_option maxHeartbeats 8000000 in
theorem putFrI (w : World) (b hi g c : Nat) (ys : List Fr) (y : Fr) (us1 : List Value) (a : Option Addr) (cc : Nat) (v : Vl) (hl4 : us1.length = ys.length * 5 + 4)
    (h1 : OwnDL w b hi (frs (ys ++ [y]) :: []) (.slice (some ⟨g, 0, none⟩) (ys.length + 1) c :: [])) (h2 : OwnDL w b hi (lastC (us1 ++ [.slice a y.s.length cc]) ys y ++ vls y.s :: []) ((.slice (some ⟨g, 0, none⟩) (ys.length + 1) c :: us1) ++ .slice a y.s.length cc :: [])) (_hb : b ≤ w.heap.size) (hh : hi ≤ w.heap.size) :
    Calls Try.prog 32 #[.pointer (some ⟨g, ys.length * 5, none⟩), vlV v] w fun e w' => e = .returned (.tuple #[]) ∧ OwnD w' b w'.heap.size (frs (ys ++ [puts y v])) (.slice (some ⟨g, 0, none⟩) (ys.length + 1) c) ∧ ChgI b hi w w' := by
  obtain ⟨i0, hi', hz0, hz1, hz2⟩ := info_parts Try.infoVl
  have HI := hide (And.intro hi' (And.intro hz0 (And.intro hz1 hz2)))
  clear hi' hz0 hz1 hz2
  have hst := (OwnDL.mid h2 (lastC_len hl4)).blk
  obtain ⟨e1, e2, e3, e4⟩ := lastCell hl4 h2
  have bA := ((Below.refl w.heap.size w).alloc (Nat.le_refl _) (.cells #[.bool v.r, .int .i64 v.n] 45))
  have G0 := heap_alloc_new w (.cells #[.bool v.r, .int .i64 v.n] 45)
  have E0 := hide (G0)
  have HB := hide bA
  have HO := hide (h2.below bA)
  have H1 := hide ((OwnDL.mid (c1 := []) (v1 := []) h1 rfl).below bA)
  replace e1 := (bA.cell (p := ⟨g, ys.length * 5 + 4, none⟩) (by dsimp only; omega)).trans e1
  clear HB
  have HB := hide (ChgI.of (b := b) (hi := hi) bA)
  have hsW := bA.size
  clear bA G0 h1 h2 e2
  unfold vlV
  go_enter Try.func32, Try.ntmps32
  go_upto_region 1 with fail
  generalize (w.alloc (.cells #[.bool v.r, .int .i64 v.n] 45)) = W at *
  by_cases k6 : y.s.length < 6
  · have k6' : (y.s.length : Int) < 6 := by omega
    go_upto_region 2 with fail
    clear e1 H1
    have HCL : Hid (∀ w' : World, w'.heap[w.heap.size]? = some (.cells #[.bool v.r, .int .i64 v.n] 45 (0, 0)) → w'.cell? ⟨w.heap.size, 0, none⟩ = some (.bool v.r) ∧ w'.cell? ⟨w.heap.size, 1, none⟩ = some (.int .i64 v.n)) := hide (fun w' g1 => ⟨(box_of g1).1 0 _ rfl, (box_of g1).1 1 _ rfl⟩)
    refine wp_region_held_drew (S := fun w' => w'.cell? ⟨w.heap.size, 0, none⟩ = some (.bool v.r) ∧ w'.cell? ⟨w.heap.size, 1, none⟩ = some (.int .i64 v.n)) (by kernel_rfl) (HCL.out _ E0.out) (fun hHeld => ?_)
    have HD := hide (Below.refl W.heap.size W).drew
    replace E0 : Hid (W.drew.heap[w.heap.size]? = _) := hide E0.out
    replace HO := hide (HO.out.below HD.out)
    replace HB := hide (HB.out.ofBelow HD.out)
    have hzW : W.heap.size ≤ W.drew.heap.size := HD.out.size
    clear HD
    generalize W.drew = Z0 at *
    refine wpAnyH_take (i := 0) (v := ?_) rfl (by kernel_rfl) (by kernel_rfl) (by kernel_rfl) (fun _ _ _ h => h) (Or.inl ⟨by rfl, ?_⟩) (by assumption) ?_
    rotate_left
    · intro w' hSw
      try dsimp only at hSw
      go_simp; try rfl
    simp only [List.getElem_toArray, List.getElem_cons_zero, Act.put, List.setIfInBounds_toArray, List.set_cons_zero, List.set_cons_succ]
    refine wpAnyH_take (i := 1) (v := ?_) rfl (by kernel_rfl) (by kernel_rfl) (by kernel_rfl) (fun _ _ _ h => h) (Or.inl ⟨by rfl, ?_⟩) (by assumption) ?_
    rotate_left
    · intro w' hSw
      try dsimp only at hSw
      go_simp; try rfl
    simp only [List.getElem_toArray, List.getElem_cons_succ, List.getElem_cons_zero, Act.put, List.setIfInBounds_toArray, List.set_cons_zero, List.set_cons_succ]
    refine wpAnyH_take (i := 2) (v := ?_) rfl (by kernel_rfl) (by kernel_rfl) (by kernel_rfl) (fun _ _ _ h => h) (Or.inl ⟨by rfl, ?_⟩) (by assumption) ?_
    rotate_left
    · intro w' hSw
      try dsimp only at hSw
      go_simp; try rfl
    simp only [List.getElem_toArray, List.getElem_cons_succ, List.getElem_cons_zero, Act.put, List.setIfInBounds_toArray, List.set_cons_zero, List.set_cons_succ]
    refine wpAnyH_take (i := 3) (v := ?_) rfl (by kernel_rfl) (by kernel_rfl) (by kernel_rfl) (fun _ _ _ h => h) (Or.inl ⟨by rfl, ?_⟩) (by assumption) ?_
    rotate_left
    · intro w' hSw
      try dsimp only at hSw
      go_simp; try rfl
    simp only [List.getElem_toArray, List.getElem_cons_succ, List.getElem_cons_zero, Act.put, List.setIfInBounds_toArray, List.set_cons_zero, List.set_cons_succ]
    refine wpAnyH_take (i := 5) (v := ?_) rfl (by kernel_rfl) (by kernel_rfl) (by kernel_rfl) (fun _ _ _ h => h) (Or.inl ⟨by rfl, ?_⟩) (by assumption) ?_
    rotate_left
    · intro w' hSw
      try dsimp only at hSw
      go_simp; try rfl
    simp only [List.getElem_toArray, List.getElem_cons_succ, List.getElem_cons_zero, Act.put, List.setIfInBounds_toArray, List.set_cons_zero, List.set_cons_succ]
    refine wpAnyH_ready (rs := [4, 6]) (by kernel_rfl) (by simp) (AllReadyH.cons rfl (fun K hK => ?_) (AllReadyH.cons rfl (fun K hK => ?_) AllReadyH.nil))
    · skip
      have e9 := (lastCell hl4 HO.out).1
      refine step_runX (some 14) (by kernel_rfl) (by kernel_rfl) (v := .slice a y.s.length cc) (w' := Z0) (by go_simp; try rfl) ?_
      clear e9
      refine hK.out _ _ (HCL.out _ E0.out) (fun hHeld => ?_)
      clear hK K
      simp only [Act.put, List.setIfInBounds_toArray, List.set_cons_zero, List.set_cons_succ]
      refine wpAnyH_ready (rs := [6]) (by kernel_rfl) (by simp) (AllReadyH.cons rfl (fun K hK => ?_) AllReadyH.nil)
      refine step_runX (some 16) (by kernel_rfl) (by kernel_rfl) (v := .slice (some ⟨Z0.heap.size, 0, none⟩) 1 1) (w' := Z0.alloc (.cells #[.bool v.r, .int .i64 v.n] 45)) (by go_simp; try rfl) ?_
      have b9 := (Below.refl Z0.heap.size Z0).alloc (Nat.le_refl _) (.cells #[.bool v.r, .int .i64 v.n] 45)
      have HBx := hide (Box.new Z0 #[.bool v.r, .int .i64 v.n] 45)
      replace E0 := hide ((b9.block _ (Array.getElem?_eq_some_iff.1 E0.out).1).trans E0.out)
      replace HO := hide (HO.out.below b9)
      replace HB := hide (HB.out.ofBelow b9)
      have hzZ := b9.size
      clear b9
      refine hK.out _ _ (HCL.out _ E0.out) (fun hHeld => ?_)
      clear hK K
      simp only [Act.put, List.setIfInBounds_toArray, List.set_cons_zero, List.set_cons_succ]
      obtain ⟨gB, hgB⟩ : ∃ g, Z0.heap.size = g := ⟨_, rfl⟩
      rw [hgB] at HBx ⊢
      clear hgB
      generalize Z0.alloc (.cells #[.bool v.r, .int .i64 v.n] 45) = Z1 at *
      refine wpAnyH_ready (rs := [7]) (by kernel_rfl) (by simp) (AllReadyH.cons rfl (fun K hK => ?_) AllReadyH.nil)
      refine step_appL (by kernel_rfl) _ _ 52 rfl b Z1.heap.size Z1.heap.size 45 i0 (.agg #[.bool false, .int .i64 0]) 2 16 Try.underlying52 HI.out.1 HI.out.2.1 HI.out.2.2.1 HI.out.2.2.2 rfl (by decide) (.slice a y.s.length cc) y.s.length (y.s.flatMap vlD) (lastC (us1 ++ [.slice a y.s.length cc]) ys y) ([]) (.slice (some ⟨g, 0, none⟩) (ys.length + 1) c :: us1) ([]) (by kernel_rfl) (HO.out.up (by omega)) (lastC_len hl4) gB 1 [.bool v.r, .int .i64 v.n] (vlD v) (by kernel_rfl) HBx.out (ownDL_vals _ _ _ [.bool v.r, .int .i64 v.n]) rfl (by simp [Value.oneCell']) (by omega) (by decide) (Nat.le_refl _) (by omega) (Nat.le_refl _) ?_
      intro g9 c9 w9 o9 gr9 _
      replace E0 := hide ((gr9.block _ (Array.getElem?_eq_some_iff.1 E0.out).1 (fun e => by have := hst _ e.symm; omega)).trans E0.out)
      replace HB := hide (HB.out.grow gr9 hst)
      have hz9 := gr9.size
      clear gr9
      replace HO := hide o9
      clear o9 HBx
      refine hK.out _ _ (HCL.out _ E0.out) (fun hHeld => ?_)
      clear hK K
      simp only [Act.put, List.setIfInBounds_toArray]
      have HCC := hide (lastCell hl4 HO.out)
      refine wpAnyH_take (i := 8) (v := ?_) rfl (by kernel_rfl) (by kernel_rfl) (by kernel_rfl) (fun _ _ _ h => h) (Or.inl ⟨by rfl, ?_⟩) (by assumption) ?_
      rotate_left
      · intro w' hSw
        try dsimp only at hSw
        go_simp; try rfl
      simp only [List.getElem_toArray, List.getElem_cons_succ, List.getElem_cons_zero, Act.put, List.setIfInBounds_toArray, List.set_cons_zero, List.set_cons_succ]
      refine wpAnyH_take (i := 9) (v := ?_) rfl (by kernel_rfl) (by kernel_rfl) (by kernel_rfl) (fun _ _ _ h => h) (Or.inl ⟨by rfl, ?_⟩) (by assumption) ?_
      rotate_left
      · intro w' hSw
        try dsimp only at hSw
        go_simp; try rfl
      simp only [List.getElem_toArray, List.getElem_cons_succ, List.getElem_cons_zero, Act.put, List.setIfInBounds_toArray, List.set_cons_zero, List.set_cons_succ]
      refine wpAnyH_ready (rs := [10]) (by kernel_rfl) (by simp) (AllReadyH.cons rfl (fun K hK => ?_) AllReadyH.nil)
      refine step_store1 (by kernel_rfl) (by kernel_rfl) 52 _ _ rfl g (ys.length * 5 + 4) (.slice (some ⟨g9, 0, none⟩) (y.s.length + 1) c9) (by kernel_rfl) (by kernel_rfl) rfl _ HCC.out.1 HCC.out.2.1 (by kernel_rfl) ?_
      replace E0 := hide ((heap_setCell_other w9 ⟨g, ys.length * 5 + 4, none⟩ _ (.slice (some ⟨g9, 0, none⟩) (y.s.length + 1) c9) (by dsimp only; omega)).trans E0.out)
      replace HB := hide (HB.out.set ⟨g, ys.length * 5 + 4, none⟩ (.slice (some ⟨g9, 0, none⟩) (y.s.length + 1) c9) e3 e4)
      replace HO := hide (lastOwn (v := v) hl4 HO.out)
      have hzS : w9.heap.size ≤ (w9.setCell ⟨g, ys.length * 5 + 4, none⟩ (.slice (some ⟨g9, 0, none⟩) (y.s.length + 1) c9)).heap.size := by simp
      have hzT : (w9.setCell ⟨g, ys.length * 5 + 4, none⟩ (.slice (some ⟨g9, 0, none⟩) (y.s.length + 1) c9)).heap.size ≤ w9.heap.size := by simp
      refine hK.out _ _ (HCL.out _ E0.out) (fun hHeld => ?_)
      clear hK K
      try simp only [Act.put, List.setIfInBounds_toArray, List.set_cons_zero, List.set_cons_succ]
      clear HCC
      generalize w9.setCell ⟨g, ys.length * 5 + 4, none⟩ (.slice (some ⟨g9, 0, none⟩) (y.s.length + 1) c9) = Y at *
      refine wpAnyH_done (by kernel_rfl) ?_ _
      go_wp2
      go_end0
      rw [puts_room k6]
      exact ⟨rfl, (OwnDL.mid (c1 := []) (v1 := []) HO.out rfl).up hzS, HB.out⟩
    · skip
      refine step_runX (some 16) (by kernel_rfl) (by kernel_rfl) (v := .slice (some ⟨Z0.heap.size, 0, none⟩) 1 1) (w' := Z0.alloc (.cells #[.bool v.r, .int .i64 v.n] 45)) (by go_simp; try rfl) ?_
      have b9 := (Below.refl Z0.heap.size Z0).alloc (Nat.le_refl _) (.cells #[.bool v.r, .int .i64 v.n] 45)
      have HBx := hide (Box.new Z0 #[.bool v.r, .int .i64 v.n] 45)
      replace E0 := hide ((b9.block _ (Array.getElem?_eq_some_iff.1 E0.out).1).trans E0.out)
      replace HO := hide (HO.out.below b9)
      replace HB := hide (HB.out.ofBelow b9)
      have hzZ := b9.size
      clear b9
      refine hK.out _ _ (HCL.out _ E0.out) (fun hHeld => ?_)
      clear hK K
      simp only [Act.put, List.setIfInBounds_toArray, List.set_cons_zero, List.set_cons_succ]
      obtain ⟨gB, hgB⟩ : ∃ g, Z0.heap.size = g := ⟨_, rfl⟩
      rw [hgB] at HBx ⊢
      clear hgB
      generalize Z0.alloc (.cells #[.bool v.r, .int .i64 v.n] 45) = Z1 at *
      refine wpAnyH_ready (rs := [4]) (by kernel_rfl) (by simp) (AllReadyH.cons rfl (fun K hK => ?_) AllReadyH.nil)
      have e9 := (lastCell hl4 HO.out).1
      refine step_runX (some 14) (by kernel_rfl) (by kernel_rfl) (v := .slice a y.s.length cc) (w' := Z1) (by go_simp; try rfl) ?_
      clear e9
      refine hK.out _ _ (HCL.out _ E0.out) (fun hHeld => ?_)
      clear hK K
      simp only [Act.put, List.setIfInBounds_toArray, List.set_cons_zero, List.set_cons_succ]
      refine wpAnyH_ready (rs := [7]) (by kernel_rfl) (by simp) (AllReadyH.cons rfl (fun K hK => ?_) AllReadyH.nil)
      refine step_appL (by kernel_rfl) _ _ 52 rfl b Z1.heap.size Z1.heap.size 45 i0 (.agg #[.bool false, .int .i64 0]) 2 16 Try.underlying52 HI.out.1 HI.out.2.1 HI.out.2.2.1 HI.out.2.2.2 rfl (by decide) (.slice a y.s.length cc) y.s.length (y.s.flatMap vlD) (lastC (us1 ++ [.slice a y.s.length cc]) ys y) ([]) (.slice (some ⟨g, 0, none⟩) (ys.length + 1) c :: us1) ([]) (by kernel_rfl) (HO.out.up (by omega)) (lastC_len hl4) gB 1 [.bool v.r, .int .i64 v.n] (vlD v) (by kernel_rfl) HBx.out (ownDL_vals _ _ _ [.bool v.r, .int .i64 v.n]) rfl (by simp [Value.oneCell']) (by omega) (by decide) (Nat.le_refl _) (by omega) (Nat.le_refl _) ?_
      intro g9 c9 w9 o9 gr9 _
      replace E0 := hide ((gr9.block _ (Array.getElem?_eq_some_iff.1 E0.out).1 (fun e => by have := hst _ e.symm; omega)).trans E0.out)
      replace HB := hide (HB.out.grow gr9 hst)
      have hz9 := gr9.size
      clear gr9
      replace HO := hide o9
      clear o9 HBx
      refine hK.out _ _ (HCL.out _ E0.out) (fun hHeld => ?_)
      clear hK K
      simp only [Act.put, List.setIfInBounds_toArray]
      have HCC := hide (lastCell hl4 HO.out)
      refine wpAnyH_take (i := 8) (v := ?_) rfl (by kernel_rfl) (by kernel_rfl) (by kernel_rfl) (fun _ _ _ h => h) (Or.inl ⟨by rfl, ?_⟩) (by assumption) ?_
      rotate_left
      · intro w' hSw
        try dsimp only at hSw
        go_simp; try rfl
      simp only [List.getElem_toArray, List.getElem_cons_succ, List.getElem_cons_zero, Act.put, List.setIfInBounds_toArray, List.set_cons_zero, List.set_cons_succ]
      refine wpAnyH_take (i := 9) (v := ?_) rfl (by kernel_rfl) (by kernel_rfl) (by kernel_rfl) (fun _ _ _ h => h) (Or.inl ⟨by rfl, ?_⟩) (by assumption) ?_
      rotate_left
      · intro w' hSw
        try dsimp only at hSw
        go_simp; try rfl
      simp only [List.getElem_toArray, List.getElem_cons_succ, List.getElem_cons_zero, Act.put, List.setIfInBounds_toArray, List.set_cons_zero, List.set_cons_succ]
      refine wpAnyH_ready (rs := [10]) (by kernel_rfl) (by simp) (AllReadyH.cons rfl (fun K hK => ?_) AllReadyH.nil)
      refine step_store1 (by kernel_rfl) (by kernel_rfl) 52 _ _ rfl g (ys.length * 5 + 4) (.slice (some ⟨g9, 0, none⟩) (y.s.length + 1) c9) (by kernel_rfl) (by kernel_rfl) rfl _ HCC.out.1 HCC.out.2.1 (by kernel_rfl) ?_
      replace E0 := hide ((heap_setCell_other w9 ⟨g, ys.length * 5 + 4, none⟩ _ (.slice (some ⟨g9, 0, none⟩) (y.s.length + 1) c9) (by dsimp only; omega)).trans E0.out)
      replace HB := hide (HB.out.set ⟨g, ys.length * 5 + 4, none⟩ (.slice (some ⟨g9, 0, none⟩) (y.s.length + 1) c9) e3 e4)
      replace HO := hide (lastOwn (v := v) hl4 HO.out)
      have hzS : w9.heap.size ≤ (w9.setCell ⟨g, ys.length * 5 + 4, none⟩ (.slice (some ⟨g9, 0, none⟩) (y.s.length + 1) c9)).heap.size := by simp
      have hzT : (w9.setCell ⟨g, ys.length * 5 + 4, none⟩ (.slice (some ⟨g9, 0, none⟩) (y.s.length + 1) c9)).heap.size ≤ w9.heap.size := by simp
      refine hK.out _ _ (HCL.out _ E0.out) (fun hHeld => ?_)
      clear hK K
      try simp only [Act.put, List.setIfInBounds_toArray, List.set_cons_zero, List.set_cons_succ]
      clear HCC
      generalize w9.setCell ⟨g, ys.length * 5 + 4, none⟩ (.slice (some ⟨g9, 0, none⟩) (y.s.length + 1) c9) = Y at *
      refine wpAnyH_done (by kernel_rfl) ?_ _
      go_wp2
      go_end0
      rw [puts_room k6]
      exact ⟨rfl, (OwnDL.mid (c1 := []) (v1 := []) HO.out rfl).up hzS, HB.out⟩
  · have k6' : ¬ (y.s.length : Int) < 6 := by omega
    go_wp2
    go_end0
    rw [puts_full k6]
    exact ⟨rfl, H1.out.up (by omega), HB.out⟩
theorem ownDL_tail {w : World} {b hi : Nat} {x : Value} {cs : List Dt} {us : List Value} {x' : Value} (h : OwnDL w b hi (.val x :: cs) (x' :: us)) : OwnDL w b hi cs us := by
  obtain ⟨F, g1, g2, g3⟩ := h
  obtain ⟨_, _, F1, F2, e, rfl, g4, g5⟩ := ownsL_cons g1
  cases e
  unfold Owns at g4
  obtain ⟨_, rfl⟩ := g4
  exact ⟨F2, g5, g2, g3⟩
set_option maxRecDepth 100000 in
set_option maxHeartbeats 8000000 in
theorem giveI (w : World) (t : Th) (u : Value) (v : Vl) (h : Reads w w.heap.size (frs t.f) u) (hg : ThG t) :
    Calls Try.prog 15 #[thV t u, vlV v] w fun e w' => thP w w' (giveX t v) e := by
  obtain ⟨ti, tf, ts, td⟩ := t
  dsimp only at h
  have HR := hide h
  obtain ⟨a2, c2, e2, _⟩ := h.shape
  subst e2
  clear h
  rcases last_of tf with rfl | ⟨ys, y, rfl⟩
  · rw [giveX_none]
    have bA := ((((Below.refl w.heap.size w).alloc (Nat.le_refl _) (.cells #[.int .i64 ti, .slice a2 (0) c2, .int .i64 ts, .int .i64 td] 37)).alloc (by simp) (.cells #[.bool v.r, .int .i64 v.n] 45)).alloc (by simp <;> omega) (.cells #[.int .i64 0, .slice none 0 0, .int .i64 0, .int .i64 0] 37))
    have G0 := heap_alloc_new w (.cells #[.int .i64 ti, .slice a2 (0) c2, .int .i64 ts, .int .i64 td] 37)
    have G1 := heap_alloc_new (w.alloc (.cells #[.int .i64 ti, .slice a2 (0) c2, .int .i64 ts, .int .i64 td] 37)) (.cells #[.bool v.r, .int .i64 v.n] 45)
    have G2 := heap_alloc_new ((w.alloc (.cells #[.int .i64 ti, .slice a2 (0) c2, .int .i64 ts, .int .i64 td] 37)).alloc (.cells #[.bool v.r, .int .i64 v.n] 45)) (.cells #[.int .i64 0, .slice none 0 0, .int .i64 0, .int .i64 0] 37)
    simp only [World.size_alloc] at G1 G2
    have E0 := hide ((Below.heap_alloc _ (.cells #[.int .i64 0, .slice none 0 0, .int .i64 0, .int .i64 0] 37) _ (by simp <;> omega)).trans ((Below.heap_alloc _ (.cells #[.bool v.r, .int .i64 v.n] 45) _ (by simp)).trans (G0)))
    have E1 := hide ((Below.heap_alloc _ (.cells #[.int .i64 0, .slice none 0 0, .int .i64 0, .int .i64 0] 37) _ (by simp)).trans (G1))
    have E2 := hide (G2)
    have HB := hide bA
    replace HR := hide (HR.out.at bA)
    clear bA G0 G1 G2
    unfold thV vlV
    dsimp only
    go_enter Try.func15, Try.ntmps15
    go_upto_region 1 with fail
    generalize (((w.alloc (.cells #[.int .i64 ti, .slice a2 (0) c2, .int .i64 ts, .int .i64 td] 37)).alloc (.cells #[.bool v.r, .int .i64 v.n] 45)).alloc (.cells #[.int .i64 0, .slice none 0 0, .int .i64 0, .int .i64 0] 37)) = W at *
    have k0 := (box_of E0.out).1 0 _ rfl
    have k1 := (box_of E0.out).1 1 _ rfl
    have k2 := (box_of E0.out).1 2 _ rfl
    have k3 := (box_of E0.out).1 3 _ rfl
    go_wp2_with fail
    refine (copyThI _ ⟨ti, [], ts, td⟩ _ HR.out hg).mono ?_
    rintro e Z1 ⟨u1, rfl, o9, b9⟩
    clear k0 k1 k2 k3
    obtain ⟨ra, rc, re⟩ := (OwnDL.mid (c1 := [.val (.int .i64 ti)]) (v1 := [.int .i64 ti]) o9 rfl).shape
    subst re
    have HO := hide (ownDL_tail o9)
    have hz1 := b9.size
    have HW := hide b9
    clear b9 o9
    unfold thV
    dsimp only
    go_upto_region 2 with fail
    have bA := (Below.refl Z1.heap.size Z1).alloc (Nat.le_refl _) (.cells #[.int .i64 ti, .slice ra (0) rc, .int .i64 ts, .int .i64 td] 37)
    have EO := hide (heap_alloc_new Z1 (.cells #[.int .i64 ti, .slice ra (0) rc, .int .i64 ts, .int .i64 td] 37))
    replace HO := hide (HO.out.below bA)
    replace HW := hide (HW.out.trans (bA.mono HW.out.size))
    have hz2 := bA.size
    clear bA
    obtain ⟨g5, hg5⟩ : ∃ g, Z1.heap.size = g := ⟨_, rfl⟩
    rw [hg5] at EO HO hz1 hz2 ⊢
    clear hg5
    generalize Z1.alloc (.cells #[.int .i64 ti, .slice ra (0) rc, .int .i64 ts, .int .i64 td] 37) = Z2 at *
    have q1 := (box_of EO.out).1 1 _ rfl
    clear q1
    have k0 := (box_of EO.out).1 0 _ rfl
    have k1 := (box_of EO.out).1 1 _ rfl
    have k2 := (box_of EO.out).1 2 _ rfl
    have k3 := (box_of EO.out).1 3 _ rfl
    have E2z := hide ((HW.out.block _ (Array.getElem?_eq_some_iff.1 E2.out).1).trans E2.out)
    have l0 := (box_of E2z.out).1 0 _ rfl
    have l1 := (box_of E2z.out).1 1 _ rfl
    have l2 := (box_of E2z.out).1 2 _ rfl
    have l3 := (box_of E2z.out).1 3 _ rfl
    have lz := (box_of E2z.out).2
    have hA := (Array.getElem?_eq_some_iff.1 E2.out).1
    have HBz := hide (HB.out.trans (HW.out.mono HB.out.size))
    go_wp2
    refine bodyPost_ret (v := .agg #[.int .i64 ti, .slice ra 0 rc, .int .i64 ts, .int .i64 td]) (results_one Try.results15 _ _ _ rfl (loadTh (putN4 E2z.out _ _ _ _))) rfl ?_
    refine ⟨_, rfl, ?_, (((HBz.out.setCell (by dsimp only; omega) _).setCell (by dsimp only; omega) _).setCell (by dsimp only; omega) _).setCell (by dsimp only; omega) _⟩
    refine OwnDL.val (u := .int .i64 ti) ?_
    refine ((OwnDL.same (b := W.heap.size) (hi := g5) HO.out (fun q hq hq2 _ => ?_)).mono (by omega)).up (by simp only [World.size_setCell]; omega)
    rw [heap_setCell_other _ _ _ _ (by dsimp only; omega), heap_setCell_other _ _ _ _ (by dsimp only; omega), heap_setCell_other _ _ _ _ (by dsimp only; omega), heap_setCell_other _ _ _ _ (by dsimp only; omega)]
  · rw [giveX_last]
    have hlen2 : (ys ++ [y]).length = ys.length + 1 := by simp
    rw [hlen2] at HR ⊢
    have hlen : ys.length + 1 ≤ 1048576 := by have := hg.f.1; rw [List.length_append] at this; simpa using this
    have bA := ((((Below.refl w.heap.size w).alloc (Nat.le_refl _) (.cells #[.int .i64 ti, .slice a2 (ys.length + 1) c2, .int .i64 ts, .int .i64 td] 37)).alloc (by simp) (.cells #[.bool v.r, .int .i64 v.n] 45)).alloc (by simp <;> omega) (.cells #[.int .i64 0, .slice none 0 0, .int .i64 0, .int .i64 0] 37))
    have G0 := heap_alloc_new w (.cells #[.int .i64 ti, .slice a2 (ys.length + 1) c2, .int .i64 ts, .int .i64 td] 37)
    have G1 := heap_alloc_new (w.alloc (.cells #[.int .i64 ti, .slice a2 (ys.length + 1) c2, .int .i64 ts, .int .i64 td] 37)) (.cells #[.bool v.r, .int .i64 v.n] 45)
    have G2 := heap_alloc_new ((w.alloc (.cells #[.int .i64 ti, .slice a2 (ys.length + 1) c2, .int .i64 ts, .int .i64 td] 37)).alloc (.cells #[.bool v.r, .int .i64 v.n] 45)) (.cells #[.int .i64 0, .slice none 0 0, .int .i64 0, .int .i64 0] 37)
    simp only [World.size_alloc] at G1 G2
    have E0 := hide ((Below.heap_alloc _ (.cells #[.int .i64 0, .slice none 0 0, .int .i64 0, .int .i64 0] 37) _ (by simp <;> omega)).trans ((Below.heap_alloc _ (.cells #[.bool v.r, .int .i64 v.n] 45) _ (by simp)).trans (G0)))
    have E1 := hide ((Below.heap_alloc _ (.cells #[.int .i64 0, .slice none 0 0, .int .i64 0, .int .i64 0] 37) _ (by simp)).trans (G1))
    have E2 := hide (G2)
    have HB := hide bA
    replace HR := hide (HR.out.at bA)
    clear bA G0 G1 G2
    unfold thV vlV
    dsimp only
    go_enter Try.func15, Try.ntmps15
    go_upto_region 1 with fail
    generalize (((w.alloc (.cells #[.int .i64 ti, .slice a2 (ys.length + 1) c2, .int .i64 ts, .int .i64 td] 37)).alloc (.cells #[.bool v.r, .int .i64 v.n] 45)).alloc (.cells #[.int .i64 0, .slice none 0 0, .int .i64 0, .int .i64 0] 37)) = W at *
    have k0 := (box_of E0.out).1 0 _ rfl
    have k1 := (box_of E0.out).1 1 _ rfl
    have k2 := (box_of E0.out).1 2 _ rfl
    have k3 := (box_of E0.out).1 3 _ rfl
    go_wp2_with fail
    refine (copyThI _ ⟨ti, ys ++ [y], ts, td⟩ _ HR.out hg).mono ?_
    rintro e Z1 ⟨u1, rfl, o9, b9⟩
    clear k0 k1 k2 k3
    obtain ⟨ra, rc, re⟩ := (OwnDL.mid (c1 := [.val (.int .i64 ti)]) (v1 := [.int .i64 ti]) o9 rfl).shape
    rw [hlen2] at re
    subst re
    have HO := hide (ownDL_tail o9)
    have hz1 := b9.size
    have HW := hide b9
    clear b9 o9
    unfold thV
    dsimp only
    go_upto_region 2 with fail
    have bA := (Below.refl Z1.heap.size Z1).alloc (Nat.le_refl _) (.cells #[.int .i64 ti, .slice ra (ys.length + 1) rc, .int .i64 ts, .int .i64 td] 37)
    have EO := hide (heap_alloc_new Z1 (.cells #[.int .i64 ti, .slice ra (ys.length + 1) rc, .int .i64 ts, .int .i64 td] 37))
    replace HO := hide (HO.out.below bA)
    replace HW := hide (HW.out.trans (bA.mono HW.out.size))
    have hz2 := bA.size
    clear bA
    obtain ⟨g5, hg5⟩ : ∃ g, Z1.heap.size = g := ⟨_, rfl⟩
    rw [hg5] at EO HO hz1 hz2 ⊢
    clear hg5
    generalize Z1.alloc (.cells #[.int .i64 ti, .slice ra (ys.length + 1) rc, .int .i64 ts, .int .i64 td] 37) = Z2 at *
    obtain ⟨g, hra⟩ : ∃ g, ra = some ⟨g, 0, none⟩ := by
      obtain ⟨g', c', us1, a, cc, hu, hl4, h2⟩ := ownLast (OwnDL.cons (OwnDL.mid (c1 := []) (v1 := []) HO.out rfl) (ownDL_nil _ g5 g5) hz1 (Nat.le_refl _))
      cases hu
      exact ⟨g', rfl⟩
    subst hra
    obtain ⟨c, hrc⟩ : ∃ c, c = rc := ⟨_, rfl⟩
    subst hrc
    have q1 := (box_of EO.out).1 1 _ rfl
    have hw1 : IntKind.i64.wrap (ys.length : Int) = (ys.length : Int) := by rw [IntKind.wrap_i64]; omega
    have hw2 : IntKind.i64.wrap ((ys.length : Int) + 1 - 1) = (ys.length : Int) := by rw [IntKind.wrap_i64]; omega
    have hn0 : 0 < (ys.length : Int) + 1 := by omega
    have hn1 : (ys.length : Int) < (ys.length : Int) + 1 := by omega
    have hn2 : 0 ≤ (ys.length : Int) := by omega
    go_upto_region 4 with fail
    clear q1
    have E1z := hide ((HW.out.block _ (Array.getElem?_eq_some_iff.1 E1.out).1).trans E1.out)
    clear HR
    have HCL : Hid (∀ w' : World, w'.heap[g5]? = some (.cells #[.int .i64 ti, .slice (some ⟨g, 0, none⟩) (ys.length + 1) c, .int .i64 ts, .int .i64 td] 37 (0, 0)) → w'.heap[w.heap.size + 1]? = some (.cells #[.bool v.r, .int .i64 v.n] 45 (0, 0)) → w'.cell? ⟨g5, 1, none⟩ = some (.slice (some ⟨g, 0, none⟩) (ys.length + 1) c) ∧ w'.cell? ⟨w.heap.size + 1, 0, none⟩ = some (.bool v.r) ∧ w'.cell? ⟨w.heap.size + 1, 1, none⟩ = some (.int .i64 v.n)) := hide (fun w' x5 x1 => ⟨(box_of x5).1 1 _ rfl, (box_of x1).1 0 _ rfl, (box_of x1).1 1 _ rfl⟩)
    refine wp_region_held_drew (S := fun w' => w'.cell? ⟨g5, 1, none⟩ = some (.slice (some ⟨g, 0, none⟩) (ys.length + 1) c) ∧ w'.cell? ⟨w.heap.size + 1, 0, none⟩ = some (.bool v.r) ∧ w'.cell? ⟨w.heap.size + 1, 1, none⟩ = some (.int .i64 v.n)) (by kernel_rfl) (HCL.out _ EO.out E1z.out) (fun hHeld => ?_)
    have HDr := hide (Below.refl Z2.heap.size Z2).drew
    replace EO := hide ((HDr.out.block _ (Array.getElem?_eq_some_iff.1 EO.out).1).trans EO.out)
    replace E1z := hide ((HDr.out.block _ (Array.getElem?_eq_some_iff.1 E1z.out).1).trans E1z.out)
    replace HO := hide (HO.out.below HDr.out)
    replace HW := hide (HW.out.trans (HDr.out.mono HW.out.size))
    have hz3 := HDr.out.size
    clear HDr
    generalize Z2.drew = Z3 at *
    refine wpAnyH_take (i := 0) (v := ?_) rfl (by kernel_rfl) (by kernel_rfl) (by kernel_rfl) (fun _ _ _ h => h) (Or.inl ⟨by rfl, ?_⟩) (by assumption) ?_
    rotate_left
    · intro w' hSw
      try dsimp only at hSw
      go_simp; try rfl
    simp only [List.getElem_toArray, List.getElem_cons_zero, Act.put, List.setIfInBounds_toArray, List.set_cons_zero, List.set_cons_succ]
    refine wpAnyH_take (i := 1) (v := ?_) rfl (by kernel_rfl) (by kernel_rfl) (by kernel_rfl) (fun _ _ _ h => h) (Or.inl ⟨by rfl, ?_⟩) (by assumption) ?_
    rotate_left
    · intro w' hSw
      try dsimp only at hSw
      go_simp; try rfl
    simp only [List.getElem_toArray, List.getElem_cons_succ, List.getElem_cons_zero, Act.put, List.setIfInBounds_toArray, List.set_cons_zero, List.set_cons_succ]
    refine wpAnyH_take (i := 2) (v := ?_) rfl (by kernel_rfl) (by kernel_rfl) (by kernel_rfl) (fun _ _ _ h => h) (Or.inl ⟨by rfl, ?_⟩) (by assumption) ?_
    rotate_left
    · intro w' hSw
      try dsimp only at hSw
      go_simp; try rfl
    simp only [List.getElem_toArray, List.getElem_cons_succ, List.getElem_cons_zero, Act.put, List.setIfInBounds_toArray, List.set_cons_zero, List.set_cons_succ]
    refine wpAnyH_take (i := 3) (v := ?_) rfl (by kernel_rfl) (by kernel_rfl) (by kernel_rfl) (fun _ _ _ h => h) (Or.inl ⟨by rfl, ?_⟩) (by assumption) ?_
    rotate_left
    · intro w' hSw
      try dsimp only at hSw
      go_simp; try rfl
    simp only [List.getElem_toArray, List.getElem_cons_succ, List.getElem_cons_zero, Act.put, List.setIfInBounds_toArray, List.set_cons_zero, List.set_cons_succ]
    refine wpAnyH_take (i := 4) (v := ?_) rfl (by kernel_rfl) (by kernel_rfl) (by kernel_rfl) (fun _ _ _ h => h) (Or.inl ⟨by rfl, ?_⟩) (by assumption) ?_
    rotate_left
    · intro w' hSw
      try dsimp only at hSw
      go_simp; try rfl
    simp only [List.getElem_toArray, List.getElem_cons_succ, List.getElem_cons_zero, Act.put, List.setIfInBounds_toArray, List.set_cons_zero, List.set_cons_succ]
    refine wpAnyH_take (i := 5) (v := ?_) rfl (by kernel_rfl) (by kernel_rfl) (by kernel_rfl) (fun _ _ _ h => h) (Or.inl ⟨by rfl, ?_⟩) (by assumption) ?_
    rotate_left
    · intro w' hSw
      try dsimp only at hSw
      go_simp; try rfl
    simp only [List.getElem_toArray, List.getElem_cons_succ, List.getElem_cons_zero, Act.put, List.setIfInBounds_toArray, List.set_cons_zero, List.set_cons_succ]
    have H1 := hide (OwnDL.mid (c1 := []) (v1 := []) HO.out rfl)
    obtain ⟨g', c', us1, a, cc, hu, hl4, h2⟩ := ownLast (OwnDL.cons H1.out (ownDL_nil _ g5 g5) hz1 (Nat.le_refl _))
    cases hu
    refine wpAnyH_ready (rs := [6]) (by kernel_rfl) (by simp) (AllReadyH.cons rfl (fun K hK => ?_) AllReadyH.nil)
    refine step_callW (some 20) (by kernel_rfl) (by kernel_rfl) 32 _ _ rfl #[.pointer (some ⟨g, ys.length * 5, none⟩), .agg #[.bool v.r, .int .i64 v.n]] (by kernel_rfl) (putFrI _ W.heap.size g5 g c ys y us1 a cc v hl4 (OwnDL.cons H1.out (ownDL_nil _ g5 g5) hz1 (Nat.le_refl _)) h2 (by omega) (by omega)) ?_
    rintro e Z4 ⟨rfl, o9, ch⟩
    have h5 := (Array.getElem?_eq_some_iff.1 EO.out).1
    have hA1 := (Array.getElem?_eq_some_iff.1 E1.out).1
    replace EO := hide ((ch.block _ h5 (.inr (Nat.le_refl _))).trans EO.out)
    replace E1z := hide ((ch.block _ (Array.getElem?_eq_some_iff.1 E1z.out).1 (.inl (by omega))).trans E1z.out)
    replace HW := hide (HW.out.trans (ch.below (Nat.le_refl _) (by omega)))
    have hz4 := ch.size
    clear ch h2 H1 HO
    have HO := hide o9
    clear o9
    refine ⟨_, rfl, ?_⟩
    refine hK.out _ _ (HCL.out _ EO.out E1z.out) (fun hHeld => ?_)
    clear hK K
    simp only [Act.put, List.setIfInBounds_toArray, List.set_cons_zero, List.set_cons_succ]
    refine wpAnyH_done (by kernel_rfl) ?_ _
    clear hHeld HCL
    have k0 := (box_of EO.out).1 0 _ rfl
    have k1 := (box_of EO.out).1 1 _ rfl
    have k2 := (box_of EO.out).1 2 _ rfl
    have k3 := (box_of EO.out).1 3 _ rfl
    have E2z := hide ((HW.out.block _ (Array.getElem?_eq_some_iff.1 E2.out).1).trans E2.out)
    have l0 := (box_of E2z.out).1 0 _ rfl
    have l1 := (box_of E2z.out).1 1 _ rfl
    have l2 := (box_of E2z.out).1 2 _ rfl
    have l3 := (box_of E2z.out).1 3 _ rfl
    have lz := (box_of E2z.out).2
    have hA := (Array.getElem?_eq_some_iff.1 E2.out).1
    have HBz := hide (HB.out.trans (HW.out.mono HB.out.size))
    go_wp2
    refine bodyPost_ret (v := .agg #[.int .i64 ti, .slice (some ⟨g, 0, none⟩) (ys.length + 1) c, .int .i64 ts, .int .i64 td]) (results_one Try.results15 _ _ _ rfl (loadTh (putN4 E2z.out _ _ _ _))) rfl ?_
    refine ⟨_, rfl, ?_, (((HBz.out.setCell (by dsimp only; omega) _).setCell (by dsimp only; omega) _).setCell (by dsimp only; omega) _).setCell (by dsimp only; omega) _⟩
    refine OwnDL.val (u := .int .i64 ti) ?_
    refine ((OwnDL.same (b := W.heap.size) (hi := Z4.heap.size) (OwnDL.cons (m := Z4.heap.size) HO.out (ownDL_vals _ _ _ [.int .i64 ts, .int .i64 td]) (by omega) (Nat.le_refl _)) (fun q hq hq2 _ => ?_)).mono (by omega)).up (by simp only [World.size_setCell]; omega)
    rw [heap_setCell_other _ _ _ _ (by dsimp only; omega), heap_setCell_other _ _ _ _ (by dsimp only; omega), heap_setCell_other _ _ _ _ (by dsimp only; omega), heap_setCell_other _ _ _ _ (by dsimp only; omega)]
end Go.Proofs.Ytgkglebgpbehbaa
