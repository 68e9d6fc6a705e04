/-
  Threads in the model: a value on the stack of the last frame.
-/
import Derived.Test.YtgkglebgpbehbaaGivS
namespace Go.Proofs.Ytgkglebgpbehbaa
open Go.RowKit

def putP (w w' : World) (b : Nat) (t : Th) (e : Ending) : Prop := ∃ u, e = .returned (thV t u) ∧ OwnDL w' b w'.heap.size (thD t) [.int .i64 t.i, u, .int .i64 t.s, .int .i64 t.d] ∧ Below b w w'
set_option maxRecDepth 100000 in
set_option maxHeartbeats 8000000 in
theorem putThS (w : World) (b hi : Nat) (t : Th) (u : Value) (v : Vl) (h : OwnDL w b hi (thD t) [.int .i64 t.i, u, .int .i64 t.s, .int .i64 t.d]) (hb : b ≤ w.heap.size) (hh : hi ≤ w.heap.size) (hl : t.f.length ≤ 1048576) :
    Calls Try.prog 29 #[thV t u, vlV v] w fun e w' => putP w w' b (giveX t v) e := by
  obtain ⟨ti, tf, ts, td⟩ := t
  dsimp only at h hl
  have h1 : OwnDL w b hi (frs tf :: [.val (.int .i64 ts), .val (.int .i64 td)]) (u :: [.int .i64 ts, .int .i64 td]) := by
    obtain ⟨F, g1, g2, g3⟩ := h
    obtain ⟨x, xs, F1, F2, e, rfl, g4, g5⟩ := ownsL_cons g1
    cases e
    unfold Owns at g4
    obtain ⟨_, rfl⟩ := g4
    exact ⟨F2, g5, g2, g3⟩
  obtain ⟨i0, hi', hz0, hz1, hz2⟩ := info_parts Try.infoVl
  have HI := hide (And.intro hi' (And.intro hz0 (And.intro hz1 hz2)))
  clear hi' hz0 hz1 hz2 h
  rcases last_of tf with rfl | ⟨ys, y, rfl⟩
  · rw [giveX_none]
    obtain ⟨a0, c0, e0⟩ := (OwnDL.mid (c1 := []) (v1 := []) h1 rfl).shape
    subst e0
    have bA := ((((Below.refl w.heap.size w).alloc (Nat.le_refl _) (.cells #[.int .i64 ti, .slice a0 0 c0, .int .i64 ts, .int .i64 td] 37)).alloc (by simp) (.cells #[.bool v.r, .int .i64 v.n] 45)).alloc (by simp <;> omega) (.cells #[.int .i64 0, .slice none 0 0, .int .i64 0, .int .i64 0] 37))
    have G0 := heap_alloc_new w (.cells #[.int .i64 ti, .slice a0 0 c0, .int .i64 ts, .int .i64 td] 37)
    have G1 := heap_alloc_new (w.alloc (.cells #[.int .i64 ti, .slice a0 0 c0, .int .i64 ts, .int .i64 td] 37)) (.cells #[.bool v.r, .int .i64 v.n] 45)
    have G2 := heap_alloc_new ((w.alloc (.cells #[.int .i64 ti, .slice a0 0 c0, .int .i64 ts, .int .i64 td] 37)).alloc (.cells #[.bool v.r, .int .i64 v.n] 45)) (.cells #[.int .i64 0, .slice none 0 0, .int .i64 0, .int .i64 0] 37)
    simp only [World.size_alloc] at G1 G2
    have E0 := hide ((Below.heap_alloc _ (.cells #[.int .i64 0, .slice none 0 0, .int .i64 0, .int .i64 0] 37) _ (by simp <;> omega)).trans ((Below.heap_alloc _ (.cells #[.bool v.r, .int .i64 v.n] 45) _ (by simp)).trans (G0)))
    have E1 := hide ((Below.heap_alloc _ (.cells #[.int .i64 0, .slice none 0 0, .int .i64 0, .int .i64 0] 37) _ (by simp)).trans (G1))
    have E2 := hide (G2)
    have HB := hide bA
    have HO := hide (h1.below bA)
    replace HB := hide (bA.mono hb)
    clear bA G0 G1 G2 h1
    unfold thV vlV
    dsimp only
    go_enter Try.func29, Try.ntmps29
    go_upto_region 1 with fail
    generalize (((w.alloc (.cells #[.int .i64 ti, .slice a0 0 c0, .int .i64 ts, .int .i64 td] 37)).alloc (.cells #[.bool v.r, .int .i64 v.n] 45)).alloc (.cells #[.int .i64 0, .slice none 0 0, .int .i64 0, .int .i64 0] 37)) = W at *
    have hs2 := (Array.getElem?_eq_some_iff.1 E2.out).1
    have q1 := (box_of E0.out).1 1 _ rfl
    have hw0 : IntKind.i64.wrap (-1) = -1 := by rw [IntKind.wrap_i64]; omega
    go_upto_region 4 with fail
    clear q1
    have k0 := (box_of E0.out).1 0 _ rfl
    have k1 := (box_of E0.out).1 1 _ rfl
    have k2 := (box_of E0.out).1 2 _ rfl
    have k3 := (box_of E0.out).1 3 _ rfl
    have l0 := (box_of E2.out).1 0 _ rfl
    have l1 := (box_of E2.out).1 1 _ rfl
    have l2 := (box_of E2.out).1 2 _ rfl
    have l3 := (box_of E2.out).1 3 _ rfl
    have lz := (box_of E2.out).2
    go_wp2
    refine bodyPost_ret (v := .agg #[.int .i64 ti, .slice a0 0 c0, .int .i64 ts, .int .i64 td]) (results_one Try.results29 _ _ _ rfl (loadTh (putN4 E2.out _ _ _ _))) rfl ?_
    refine ⟨_, rfl, ?_, (((HB.out.setCell (by dsimp only; omega) _).setCell (by dsimp only; omega) _).setCell (by dsimp only; omega) _).setCell (by dsimp only; omega) _⟩
    refine OwnDL.val (u := .int .i64 ti) ?_
    have hv4 : ∀ hh, OwnDL W b hh [.val (.int .i64 ts), .val (.int .i64 td)] [.int .i64 ts, .int .i64 td] := fun hh => ownDL_vals _ _ _ [.int .i64 ts, .int .i64 td]
    exact (OwnDL.same (hi := hi) (HO.out) (fun q hq hq2 _ => by rw [heap_setCell_other _ _ _ _ (by dsimp only; omega), heap_setCell_other _ _ _ _ (by dsimp only; omega), heap_setCell_other _ _ _ _ (by dsimp only; omega), heap_setCell_other _ _ _ _ (by dsimp only; omega)])).up (by simp; omega)
  · rw [giveX_last]
    have hlen : ys.length + 1 ≤ 1048576 := by rw [List.length_append] at hl; simpa using hl
    obtain ⟨g, c, us1, a, cc, rfl, hl4, h2⟩ := ownLast h1
    have hst := (OwnDL.mid h2 (lastC_len hl4)).blk
    obtain ⟨e1, e2, e3, e4⟩ := lastCell hl4 h2
    have bA := ((((Below.refl w.heap.size w).alloc (Nat.le_refl _) (.cells #[.int .i64 ti, .slice (some ⟨g, 0, none⟩) (ys.length + 1) c, .int .i64 ts, .int .i64 td] 37)).alloc (by simp) (.cells #[.bool v.r, .int .i64 v.n] 45)).alloc (by simp <;> omega) (.cells #[.int .i64 0, .slice none 0 0, .int .i64 0, .int .i64 0] 37))
    have G0 := heap_alloc_new w (.cells #[.int .i64 ti, .slice (some ⟨g, 0, none⟩) (ys.length + 1) c, .int .i64 ts, .int .i64 td] 37)
    have G1 := heap_alloc_new (w.alloc (.cells #[.int .i64 ti, .slice (some ⟨g, 0, none⟩) (ys.length + 1) c, .int .i64 ts, .int .i64 td] 37)) (.cells #[.bool v.r, .int .i64 v.n] 45)
    have G2 := heap_alloc_new ((w.alloc (.cells #[.int .i64 ti, .slice (some ⟨g, 0, none⟩) (ys.length + 1) c, .int .i64 ts, .int .i64 td] 37)).alloc (.cells #[.bool v.r, .int .i64 v.n] 45)) (.cells #[.int .i64 0, .slice none 0 0, .int .i64 0, .int .i64 0] 37)
    simp only [World.size_alloc] at G1 G2
    have E0 := hide ((Below.heap_alloc _ (.cells #[.int .i64 0, .slice none 0 0, .int .i64 0, .int .i64 0] 37) _ (by simp <;> omega)).trans ((Below.heap_alloc _ (.cells #[.bool v.r, .int .i64 v.n] 45) _ (by simp)).trans (G0)))
    have E1 := hide ((Below.heap_alloc _ (.cells #[.int .i64 0, .slice none 0 0, .int .i64 0, .int .i64 0] 37) _ (by simp)).trans (G1))
    have E2 := hide (G2)
    have HB := hide bA
    have HO := hide (h2.below bA)
    replace e1 := (bA.cell (p := ⟨g, ys.length * 5 + 4, none⟩) (by dsimp only; omega)).trans e1
    have H1 := hide (h1.below bA)
    replace HB := hide (bA.mono hb)
    clear bA G0 G1 G2 h1 h2
    unfold thV vlV
    dsimp only
    go_enter Try.func29, Try.ntmps29
    go_upto_region 1 with fail
    generalize (((w.alloc (.cells #[.int .i64 ti, .slice (some ⟨g, 0, none⟩) (ys.length + 1) c, .int .i64 ts, .int .i64 td] 37)).alloc (.cells #[.bool v.r, .int .i64 v.n] 45)).alloc (.cells #[.int .i64 0, .slice none 0 0, .int .i64 0, .int .i64 0] 37)) = W at *
    have hs2 := (Array.getElem?_eq_some_iff.1 E2.out).1
    have q1 := (box_of E0.out).1 1 _ rfl
    have hw1 : IntKind.i64.wrap (ys.length : Int) = (ys.length : Int) := by rw [IntKind.wrap_i64]; omega
    have hw2 : IntKind.i64.wrap ((ys.length : Int) + 1 - 1) = (ys.length : Int) := by rw [IntKind.wrap_i64]; omega
    have hn0 : 0 ≤ (ys.length : Int) := by omega
    have hn1 : (ys.length : Int) < (ys.length : Int) + 1 := by omega
    by_cases k6 : y.s.length < 6
    · have k6' : (y.s.length : Int) < 6 := by omega
      go_upto_region 3 with fail
      clear q1 e1 H1
      replace HO : Hid (OwnDL W b (w.heap.size + 1 + 1 + 1) (lastC (us1 ++ [.slice a y.s.length cc]) ys y ++ vls y.s :: [.val (.int .i64 ts), .val (.int .i64 td), .row 37 4 1 ([.int .i64 0, .slice none 0 0, .int .i64 0, .int .i64 0].map .val)]) ((.slice (some ⟨g, 0, none⟩) (ys.length + 1) c :: us1) ++ .slice a y.s.length cc :: [.int .i64 ts, .int .i64 td, .slice (some ⟨w.heap.size + 1 + 1, 0, none⟩) 1 1])) := hide (by
        have h := OwnDL.push (HO.out.up (show hi ≤ w.heap.size + 1 + 1 by omega)) (ownD_box (vs := [.int .i64 0, .slice none 0 0, .int .i64 0, .int .i64 0]) E2.out (by decide)) (by omega) (by omega)
        simpa using h)
      have HCL : Hid (∀ w' : World, w'.heap[w.heap.size]? = some (.cells #[.int .i64 ti, .slice (some ⟨g, 0, none⟩) (ys.length + 1) c, .int .i64 ts, .int .i64 td] 37 (0, 0)) → w'.heap[w.heap.size + 1]? = some (.cells #[.bool v.r, .int .i64 v.n] 45 (0, 0)) → w'.heap[w.heap.size + 1 + 1]? = some (.cells #[.int .i64 0, .slice none 0 0, .int .i64 0, .int .i64 0] 37 (0, 0)) → w'.cell? ⟨w.heap.size, 1, none⟩ = some (.slice (some ⟨g, 0, none⟩) (ys.length + 1) c) ∧ w'.cell? ⟨w.heap.size + 1, 0, none⟩ = some (.bool v.r) ∧ w'.cell? ⟨w.heap.size + 1, 1, none⟩ = some (.int .i64 v.n)) := hide (fun w' g0 g1 _ => ⟨(box_of g0).1 1 _ rfl, (box_of g1).1 0 _ rfl, (box_of g1).1 1 _ rfl⟩)
      refine wp_region_held_drew (S := fun w' => w'.cell? ⟨w.heap.size, 1, none⟩ = some (.slice (some ⟨g, 0, none⟩) (ys.length + 1) c) ∧ w'.cell? ⟨w.heap.size + 1, 0, none⟩ = some (.bool v.r) ∧ w'.cell? ⟨w.heap.size + 1, 1, none⟩ = some (.int .i64 v.n)) (by kernel_rfl) (HCL.out _ E0.out E1.out E2.out) (fun hHeld => ?_)
      have HD := hide (Below.refl W.heap.size W).drew
      replace E0 : Hid (W.drew.heap[w.heap.size]? = _) := hide E0.out
      replace E1 : Hid (W.drew.heap[w.heap.size + 1]? = _) := hide E1.out
      replace E2 : Hid (W.drew.heap[w.heap.size + 1 + 1]? = _) := hide E2.out
      replace HO := hide (HO.out.below HD.out)
      replace HB := hide (HB.out.drew)
      have hzW : W.heap.size ≤ W.drew.heap.size := HD.out.size
      clear HD
      generalize W.drew = Z0 at *
      refine wpAnyH_take (i := 0) (v := ?_) rfl (by kernel_rfl) (by kernel_rfl) (by kernel_rfl) (fun _ _ _ h => h) (Or.inl ⟨by rfl, ?_⟩) (by assumption) ?_
      rotate_left
      · intro w' hSw
        try dsimp only at hSw
        go_simp; try rfl
      simp only [List.getElem_toArray, List.getElem_cons_zero, Act.put, List.setIfInBounds_toArray, List.set_cons_zero, List.set_cons_succ]
      refine wpAnyH_take (i := 1) (v := ?_) rfl (by kernel_rfl) (by kernel_rfl) (by kernel_rfl) (fun _ _ _ h => h) (Or.inl ⟨by rfl, ?_⟩) (by assumption) ?_
      rotate_left
      · intro w' hSw
        try dsimp only at hSw
        go_simp; try rfl
      simp only [List.getElem_toArray, List.getElem_cons_succ, List.getElem_cons_zero, Act.put, List.setIfInBounds_toArray, List.set_cons_zero, List.set_cons_succ]
      refine wpAnyH_take (i := 2) (v := ?_) rfl (by kernel_rfl) (by kernel_rfl) (by kernel_rfl) (fun _ _ _ h => h) (Or.inl ⟨by rfl, ?_⟩) (by assumption) ?_
      rotate_left
      · intro w' hSw
        try dsimp only at hSw
        go_simp; try rfl
      simp only [List.getElem_toArray, List.getElem_cons_succ, List.getElem_cons_zero, Act.put, List.setIfInBounds_toArray, List.set_cons_zero, List.set_cons_succ]
      refine wpAnyH_take (i := 3) (v := ?_) rfl (by kernel_rfl) (by kernel_rfl) (by kernel_rfl) (fun _ _ _ h => h) (Or.inl ⟨by rfl, ?_⟩) (by assumption) ?_
      rotate_left
      · intro w' hSw
        try dsimp only at hSw
        go_simp; try rfl
      simp only [List.getElem_toArray, List.getElem_cons_succ, List.getElem_cons_zero, Act.put, List.setIfInBounds_toArray, List.set_cons_zero, List.set_cons_succ]
      refine wpAnyH_take (i := 4) (v := ?_) rfl (by kernel_rfl) (by kernel_rfl) (by kernel_rfl) (fun _ _ _ h => h) (Or.inl ⟨by rfl, ?_⟩) (by assumption) ?_
      rotate_left
      · intro w' hSw
        try dsimp only at hSw
        go_simp; try rfl
      simp only [List.getElem_toArray, List.getElem_cons_succ, List.getElem_cons_zero, Act.put, List.setIfInBounds_toArray, List.set_cons_zero, List.set_cons_succ]
      refine wpAnyH_take (i := 5) (v := ?_) rfl (by kernel_rfl) (by kernel_rfl) (by kernel_rfl) (fun _ _ _ h => h) (Or.inl ⟨by rfl, ?_⟩) (by assumption) ?_
      rotate_left
      · intro w' hSw
        try dsimp only at hSw
        go_simp; try rfl
      simp only [List.getElem_toArray, List.getElem_cons_succ, List.getElem_cons_zero, Act.put, List.setIfInBounds_toArray, List.set_cons_zero, List.set_cons_succ]
      refine wpAnyH_take (i := 6) (v := ?_) rfl (by kernel_rfl) (by kernel_rfl) (by kernel_rfl) (fun _ _ _ h => h) (Or.inl ⟨by rfl, ?_⟩) (by assumption) ?_
      rotate_left
      · intro w' hSw
        try dsimp only at hSw
        go_simp; try rfl
      simp only [List.getElem_toArray, List.getElem_cons_succ, List.getElem_cons_zero, Act.put, List.setIfInBounds_toArray, List.set_cons_zero, List.set_cons_succ]
      refine wpAnyH_take (i := 7) (v := ?_) rfl (by kernel_rfl) (by kernel_rfl) (by kernel_rfl) (fun _ _ _ h => h) (Or.inl ⟨by rfl, ?_⟩) (by assumption) ?_
      rotate_left
      · intro w' hSw
        try dsimp only at hSw
        go_simp; try rfl
      simp only [List.getElem_toArray, List.getElem_cons_succ, List.getElem_cons_zero, Act.put, List.setIfInBounds_toArray, List.set_cons_zero, List.set_cons_succ]
      refine wpAnyH_take (i := 9) (v := ?_) rfl (by kernel_rfl) (by kernel_rfl) (by kernel_rfl) (fun _ _ _ h => h) (Or.inl ⟨by rfl, ?_⟩) (by assumption) ?_
      rotate_left
      · intro w' hSw
        try dsimp only at hSw
        go_simp; try rfl
      simp only [List.getElem_toArray, List.getElem_cons_succ, List.getElem_cons_zero, Act.put, List.setIfInBounds_toArray, List.set_cons_zero, List.set_cons_succ]
      refine wpAnyH_ready (rs := [8, 10]) (by kernel_rfl) (by simp) (AllReadyH.cons rfl (fun K hK => ?_) (AllReadyH.cons rfl (fun K hK => ?_) AllReadyH.nil))
      · skip
        have e9 := (lastCell hl4 HO.out).1
        refine step_runX (some 30) (by kernel_rfl) (by kernel_rfl) (v := .slice a y.s.length cc) (w' := Z0) (by go_simp; try rfl) ?_
        clear e9
        refine hK.out _ _ (HCL.out _ E0.out E1.out E2.out) (fun hHeld => ?_)
        clear hK K
        simp only [Act.put, List.setIfInBounds_toArray, List.set_cons_zero, List.set_cons_succ]
        refine wpAnyH_ready (rs := [10]) (by kernel_rfl) (by simp) (AllReadyH.cons rfl (fun K hK => ?_) AllReadyH.nil)
        refine step_runX (some 32) (by kernel_rfl) (by kernel_rfl) (v := .slice (some ⟨Z0.heap.size, 0, none⟩) 1 1) (w' := Z0.alloc (.cells #[.bool v.r, .int .i64 v.n] 45)) (by go_simp; try rfl) ?_
        have b9 := (Below.refl Z0.heap.size Z0).alloc (Nat.le_refl _) (.cells #[.bool v.r, .int .i64 v.n] 45)
        have HBx := hide (Box.new Z0 #[.bool v.r, .int .i64 v.n] 45)
        replace E0 := hide ((b9.block _ (Array.getElem?_eq_some_iff.1 E0.out).1).trans E0.out)
        replace E1 := hide ((b9.block _ (Array.getElem?_eq_some_iff.1 E1.out).1).trans E1.out)
        replace E2 := hide ((b9.block _ (Array.getElem?_eq_some_iff.1 E2.out).1).trans E2.out)
        replace HO := hide (HO.out.below b9)
        replace HB := hide (HB.out.trans (b9.mono (Nat.le_trans hb HB.out.size)))
        have hzZ := b9.size
        clear b9
        refine hK.out _ _ (HCL.out _ E0.out E1.out E2.out) (fun hHeld => ?_)
        clear hK K
        simp only [Act.put, List.setIfInBounds_toArray, List.set_cons_zero, List.set_cons_succ]
        obtain ⟨gB, hgB⟩ : ∃ g, Z0.heap.size = g := ⟨_, rfl⟩
        rw [hgB] at HBx ⊢
        clear hgB
        generalize Z0.alloc (.cells #[.bool v.r, .int .i64 v.n] 45) = Z1 at *
        refine wpAnyH_ready (rs := [11]) (by kernel_rfl) (by simp) (AllReadyH.cons rfl (fun K hK => ?_) AllReadyH.nil)
        refine step_appL (by kernel_rfl) _ _ 52 rfl b Z1.heap.size Z1.heap.size 45 i0 (.agg #[.bool false, .int .i64 0]) 2 16 Try.underlying52 HI.out.1 HI.out.2.1 HI.out.2.2.1 HI.out.2.2.2 rfl (by decide) (.slice a y.s.length cc) y.s.length (y.s.flatMap vlD) (lastC (us1 ++ [.slice a y.s.length cc]) ys y) ([.val (.int .i64 ts), .val (.int .i64 td), .row 37 4 1 ([.int .i64 0, .slice none 0 0, .int .i64 0, .int .i64 0].map .val)]) (.slice (some ⟨g, 0, none⟩) (ys.length + 1) c :: us1) ([.int .i64 ts, .int .i64 td, .slice (some ⟨w.heap.size + 1 + 1, 0, none⟩) 1 1]) (by kernel_rfl) (HO.out.up (by omega)) (lastC_len hl4) gB 1 [.bool v.r, .int .i64 v.n] (vlD v) (by kernel_rfl) HBx.out (ownDL_vals _ _ _ [.bool v.r, .int .i64 v.n]) rfl (by simp [Value.oneCell']) (by omega) (by decide) (Nat.le_refl _) (by omega) (Nat.le_refl _) ?_
        intro g9 c9 w9 o9 gr9 _
        replace E0 := hide ((gr9.block _ (Array.getElem?_eq_some_iff.1 E0.out).1 (fun e => by have := hst _ e.symm; omega)).trans E0.out)
        replace E1 := hide ((gr9.block _ (Array.getElem?_eq_some_iff.1 E1.out).1 (fun e => by have := hst _ e.symm; omega)).trans E1.out)
        replace E2 := hide ((gr9.block _ (Array.getElem?_eq_some_iff.1 E2.out).1 (fun e => by have := hst _ e.symm; omega)).trans E2.out)
        replace HB := hide (HB.out.grown gr9 (Nat.le_trans hb HB.out.size) (fun q hq => (hst q hq).1))
        have hz9 := gr9.size
        clear gr9
        replace HO := hide o9
        clear o9 HBx
        refine hK.out _ _ (HCL.out _ E0.out E1.out E2.out) (fun hHeld => ?_)
        clear hK K
        simp only [Act.put, List.setIfInBounds_toArray]
        have HCC := hide (lastCell hl4 HO.out)
        refine wpAnyH_take (i := 12) (v := ?_) rfl (by kernel_rfl) (by kernel_rfl) (by kernel_rfl) (fun _ _ _ h => h) (Or.inl ⟨by rfl, ?_⟩) (by assumption) ?_
        rotate_left
        · intro w' hSw
          try dsimp only at hSw
          go_simp; try rfl
        simp only [List.getElem_toArray, List.getElem_cons_succ, List.getElem_cons_zero, Act.put, List.setIfInBounds_toArray, List.set_cons_zero, List.set_cons_succ]
        refine wpAnyH_take (i := 13) (v := ?_) rfl (by kernel_rfl) (by kernel_rfl) (by kernel_rfl) (fun _ _ _ h => h) (Or.inl ⟨by rfl, ?_⟩) (by assumption) ?_
        rotate_left
        · intro w' hSw
          try dsimp only at hSw
          go_simp; try rfl
        simp only [List.getElem_toArray, List.getElem_cons_succ, List.getElem_cons_zero, Act.put, List.setIfInBounds_toArray, List.set_cons_zero, List.set_cons_succ]
        refine wpAnyH_ready (rs := [14]) (by kernel_rfl) (by simp) (AllReadyH.cons rfl (fun K hK => ?_) AllReadyH.nil)
        refine step_store1 (by kernel_rfl) (by kernel_rfl) 52 _ _ rfl g (ys.length * 5 + 4) (.slice (some ⟨g9, 0, none⟩) (y.s.length + 1) c9) (by kernel_rfl) (by kernel_rfl) rfl _ HCC.out.1 HCC.out.2.1 (by kernel_rfl) ?_
        replace E0 := hide ((heap_setCell_other w9 ⟨g, ys.length * 5 + 4, none⟩ _ (.slice (some ⟨g9, 0, none⟩) (y.s.length + 1) c9) (by dsimp only; omega)).trans E0.out)
        replace E1 := hide ((heap_setCell_other w9 ⟨g, ys.length * 5 + 4, none⟩ _ (.slice (some ⟨g9, 0, none⟩) (y.s.length + 1) c9) (by dsimp only; omega)).trans E1.out)
        replace E2 := hide ((heap_setCell_other w9 ⟨g, ys.length * 5 + 4, none⟩ _ (.slice (some ⟨g9, 0, none⟩) (y.s.length + 1) c9) (by dsimp only; omega)).trans E2.out)
        replace HB := hide (HB.out.setCell (p := ⟨g, ys.length * 5 + 4, none⟩) (by dsimp only; omega) (.slice (some ⟨g9, 0, none⟩) (y.s.length + 1) c9))
        replace HO := hide (lastOwn (v := v) hl4 HO.out)
        have hzS : w9.heap.size ≤ (w9.setCell ⟨g, ys.length * 5 + 4, none⟩ (.slice (some ⟨g9, 0, none⟩) (y.s.length + 1) c9)).heap.size := by simp
        have hzT : (w9.setCell ⟨g, ys.length * 5 + 4, none⟩ (.slice (some ⟨g9, 0, none⟩) (y.s.length + 1) c9)).heap.size ≤ w9.heap.size := by simp
        refine hK.out _ _ (HCL.out _ E0.out E1.out E2.out) (fun hHeld => ?_)
        clear hK K
        try simp only [Act.put, List.setIfInBounds_toArray, List.set_cons_zero, List.set_cons_succ]
        clear HCC
        generalize w9.setCell ⟨g, ys.length * 5 + 4, none⟩ (.slice (some ⟨g9, 0, none⟩) (y.s.length + 1) c9) = Y at *
        refine wpAnyH_done (by kernel_rfl) ?_ _
        have k0 := (box_of E0.out).1 0 _ rfl
        have k1 := (box_of E0.out).1 1 _ rfl
        have k2 := (box_of E0.out).1 2 _ rfl
        have k3 := (box_of E0.out).1 3 _ rfl
        have l0 := (box_of E2.out).1 0 _ rfl
        have l1 := (box_of E2.out).1 1 _ rfl
        have l2 := (box_of E2.out).1 2 _ rfl
        have l3 := (box_of E2.out).1 3 _ rfl
        have lz := (box_of E2.out).2
        go_wp2
        refine bodyPost_ret (v := .agg #[.int .i64 ti, .slice (some ⟨g, 0, none⟩) (ys.length + 1) c, .int .i64 ts, .int .i64 td]) (results_one Try.results29 _ _ _ rfl (loadTh (putN4 E2.out _ _ _ _))) rfl ?_
        rw [puts_room k6]
        refine ⟨_, rfl, ?_, (((HB.out.setCell (by dsimp only; omega) _).setCell (by dsimp only; omega) _).setCell (by dsimp only; omega) _).setCell (by dsimp only; omega) _⟩
        refine OwnDL.val (u := .int .i64 ti) ?_
        have hv4 : ∀ hh, OwnDL Y b hh [.val (.int .i64 ts), .val (.int .i64 td)] [.int .i64 ts, .int .i64 td] := fun hh => ownDL_vals _ _ _ [.int .i64 ts, .int .i64 td]
        refine OwnDL.up (OwnDL.apartOf (g := w.heap.size + 1 + 1) (cs := [frs (ys ++ [⟨y.k, y.m, y.p, y.l, y.s ++ [v]⟩]), .val (.int .i64 ts), .val (.int .i64 td)]) (us := [.slice (some ⟨g, 0, none⟩) (ys.length + 1) c, .int .i64 ts, .int .i64 td]) HO.out rfl ?_) ?_
        · intro q hq _
          rw [heap_setCell_other _ _ _ _ (by dsimp only; omega), heap_setCell_other _ _ _ _ (by dsimp only; omega), heap_setCell_other _ _ _ _ (by dsimp only; omega), heap_setCell_other _ _ _ _ (by dsimp only; omega)]
        · simp only [World.size_setCell]
          omega
      · skip
        refine step_runX (some 32) (by kernel_rfl) (by kernel_rfl) (v := .slice (some ⟨Z0.heap.size, 0, none⟩) 1 1) (w' := Z0.alloc (.cells #[.bool v.r, .int .i64 v.n] 45)) (by go_simp; try rfl) ?_
        have b9 := (Below.refl Z0.heap.size Z0).alloc (Nat.le_refl _) (.cells #[.bool v.r, .int .i64 v.n] 45)
        have HBx := hide (Box.new Z0 #[.bool v.r, .int .i64 v.n] 45)
        replace E0 := hide ((b9.block _ (Array.getElem?_eq_some_iff.1 E0.out).1).trans E0.out)
        replace E1 := hide ((b9.block _ (Array.getElem?_eq_some_iff.1 E1.out).1).trans E1.out)
        replace E2 := hide ((b9.block _ (Array.getElem?_eq_some_iff.1 E2.out).1).trans E2.out)
        replace HO := hide (HO.out.below b9)
        replace HB := hide (HB.out.trans (b9.mono (Nat.le_trans hb HB.out.size)))
        have hzZ := b9.size
        clear b9
        refine hK.out _ _ (HCL.out _ E0.out E1.out E2.out) (fun hHeld => ?_)
        clear hK K
        simp only [Act.put, List.setIfInBounds_toArray, List.set_cons_zero, List.set_cons_succ]
        obtain ⟨gB, hgB⟩ : ∃ g, Z0.heap.size = g := ⟨_, rfl⟩
        rw [hgB] at HBx ⊢
        clear hgB
        generalize Z0.alloc (.cells #[.bool v.r, .int .i64 v.n] 45) = Z1 at *
        refine wpAnyH_ready (rs := [8]) (by kernel_rfl) (by simp) (AllReadyH.cons rfl (fun K hK => ?_) AllReadyH.nil)
        have e9 := (lastCell hl4 HO.out).1
        refine step_runX (some 30) (by kernel_rfl) (by kernel_rfl) (v := .slice a y.s.length cc) (w' := Z1) (by go_simp; try rfl) ?_
        clear e9
        refine hK.out _ _ (HCL.out _ E0.out E1.out E2.out) (fun hHeld => ?_)
        clear hK K
        simp only [Act.put, List.setIfInBounds_toArray, List.set_cons_zero, List.set_cons_succ]
        refine wpAnyH_ready (rs := [11]) (by kernel_rfl) (by simp) (AllReadyH.cons rfl (fun K hK => ?_) AllReadyH.nil)
        refine step_appL (by kernel_rfl) _ _ 52 rfl b Z1.heap.size Z1.heap.size 45 i0 (.agg #[.bool false, .int .i64 0]) 2 16 Try.underlying52 HI.out.1 HI.out.2.1 HI.out.2.2.1 HI.out.2.2.2 rfl (by decide) (.slice a y.s.length cc) y.s.length (y.s.flatMap vlD) (lastC (us1 ++ [.slice a y.s.length cc]) ys y) ([.val (.int .i64 ts), .val (.int .i64 td), .row 37 4 1 ([.int .i64 0, .slice none 0 0, .int .i64 0, .int .i64 0].map .val)]) (.slice (some ⟨g, 0, none⟩) (ys.length + 1) c :: us1) ([.int .i64 ts, .int .i64 td, .slice (some ⟨w.heap.size + 1 + 1, 0, none⟩) 1 1]) (by kernel_rfl) (HO.out.up (by omega)) (lastC_len hl4) gB 1 [.bool v.r, .int .i64 v.n] (vlD v) (by kernel_rfl) HBx.out (ownDL_vals _ _ _ [.bool v.r, .int .i64 v.n]) rfl (by simp [Value.oneCell']) (by omega) (by decide) (Nat.le_refl _) (by omega) (Nat.le_refl _) ?_
        intro g9 c9 w9 o9 gr9 _
        replace E0 := hide ((gr9.block _ (Array.getElem?_eq_some_iff.1 E0.out).1 (fun e => by have := hst _ e.symm; omega)).trans E0.out)
        replace E1 := hide ((gr9.block _ (Array.getElem?_eq_some_iff.1 E1.out).1 (fun e => by have := hst _ e.symm; omega)).trans E1.out)
        replace E2 := hide ((gr9.block _ (Array.getElem?_eq_some_iff.1 E2.out).1 (fun e => by have := hst _ e.symm; omega)).trans E2.out)
        replace HB := hide (HB.out.grown gr9 (Nat.le_trans hb HB.out.size) (fun q hq => (hst q hq).1))
        have hz9 := gr9.size
        clear gr9
        replace HO := hide o9
        clear o9 HBx
        refine hK.out _ _ (HCL.out _ E0.out E1.out E2.out) (fun hHeld => ?_)
        clear hK K
        simp only [Act.put, List.setIfInBounds_toArray]
        have HCC := hide (lastCell hl4 HO.out)
        refine wpAnyH_take (i := 12) (v := ?_) rfl (by kernel_rfl) (by kernel_rfl) (by kernel_rfl) (fun _ _ _ h => h) (Or.inl ⟨by rfl, ?_⟩) (by assumption) ?_
        rotate_left
        · intro w' hSw
          try dsimp only at hSw
          go_simp; try rfl
        simp only [List.getElem_toArray, List.getElem_cons_succ, List.getElem_cons_zero, Act.put, List.setIfInBounds_toArray, List.set_cons_zero, List.set_cons_succ]
        refine wpAnyH_take (i := 13) (v := ?_) rfl (by kernel_rfl) (by kernel_rfl) (by kernel_rfl) (fun _ _ _ h => h) (Or.inl ⟨by rfl, ?_⟩) (by assumption) ?_
        rotate_left
        · intro w' hSw
          try dsimp only at hSw
          go_simp; try rfl
        simp only [List.getElem_toArray, List.getElem_cons_succ, List.getElem_cons_zero, Act.put, List.setIfInBounds_toArray, List.set_cons_zero, List.set_cons_succ]
        refine wpAnyH_ready (rs := [14]) (by kernel_rfl) (by simp) (AllReadyH.cons rfl (fun K hK => ?_) AllReadyH.nil)
        refine step_store1 (by kernel_rfl) (by kernel_rfl) 52 _ _ rfl g (ys.length * 5 + 4) (.slice (some ⟨g9, 0, none⟩) (y.s.length + 1) c9) (by kernel_rfl) (by kernel_rfl) rfl _ HCC.out.1 HCC.out.2.1 (by kernel_rfl) ?_
        replace E0 := hide ((heap_setCell_other w9 ⟨g, ys.length * 5 + 4, none⟩ _ (.slice (some ⟨g9, 0, none⟩) (y.s.length + 1) c9) (by dsimp only; omega)).trans E0.out)
        replace E1 := hide ((heap_setCell_other w9 ⟨g, ys.length * 5 + 4, none⟩ _ (.slice (some ⟨g9, 0, none⟩) (y.s.length + 1) c9) (by dsimp only; omega)).trans E1.out)
        replace E2 := hide ((heap_setCell_other w9 ⟨g, ys.length * 5 + 4, none⟩ _ (.slice (some ⟨g9, 0, none⟩) (y.s.length + 1) c9) (by dsimp only; omega)).trans E2.out)
        replace HB := hide (HB.out.setCell (p := ⟨g, ys.length * 5 + 4, none⟩) (by dsimp only; omega) (.slice (some ⟨g9, 0, none⟩) (y.s.length + 1) c9))
        replace HO := hide (lastOwn (v := v) hl4 HO.out)
        have hzS : w9.heap.size ≤ (w9.setCell ⟨g, ys.length * 5 + 4, none⟩ (.slice (some ⟨g9, 0, none⟩) (y.s.length + 1) c9)).heap.size := by simp
        have hzT : (w9.setCell ⟨g, ys.length * 5 + 4, none⟩ (.slice (some ⟨g9, 0, none⟩) (y.s.length + 1) c9)).heap.size ≤ w9.heap.size := by simp
        refine hK.out _ _ (HCL.out _ E0.out E1.out E2.out) (fun hHeld => ?_)
        clear hK K
        try simp only [Act.put, List.setIfInBounds_toArray, List.set_cons_zero, List.set_cons_succ]
        clear HCC
        generalize w9.setCell ⟨g, ys.length * 5 + 4, none⟩ (.slice (some ⟨g9, 0, none⟩) (y.s.length + 1) c9) = Y at *
        refine wpAnyH_done (by kernel_rfl) ?_ _
        have k0 := (box_of E0.out).1 0 _ rfl
        have k1 := (box_of E0.out).1 1 _ rfl
        have k2 := (box_of E0.out).1 2 _ rfl
        have k3 := (box_of E0.out).1 3 _ rfl
        have l0 := (box_of E2.out).1 0 _ rfl
        have l1 := (box_of E2.out).1 1 _ rfl
        have l2 := (box_of E2.out).1 2 _ rfl
        have l3 := (box_of E2.out).1 3 _ rfl
        have lz := (box_of E2.out).2
        go_wp2
        refine bodyPost_ret (v := .agg #[.int .i64 ti, .slice (some ⟨g, 0, none⟩) (ys.length + 1) c, .int .i64 ts, .int .i64 td]) (results_one Try.results29 _ _ _ rfl (loadTh (putN4 E2.out _ _ _ _))) rfl ?_
        rw [puts_room k6]
        refine ⟨_, rfl, ?_, (((HB.out.setCell (by dsimp only; omega) _).setCell (by dsimp only; omega) _).setCell (by dsimp only; omega) _).setCell (by dsimp only; omega) _⟩
        refine OwnDL.val (u := .int .i64 ti) ?_
        have hv4 : ∀ hh, OwnDL Y b hh [.val (.int .i64 ts), .val (.int .i64 td)] [.int .i64 ts, .int .i64 td] := fun hh => ownDL_vals _ _ _ [.int .i64 ts, .int .i64 td]
        refine OwnDL.up (OwnDL.apartOf (g := w.heap.size + 1 + 1) (cs := [frs (ys ++ [⟨y.k, y.m, y.p, y.l, y.s ++ [v]⟩]), .val (.int .i64 ts), .val (.int .i64 td)]) (us := [.slice (some ⟨g, 0, none⟩) (ys.length + 1) c, .int .i64 ts, .int .i64 td]) HO.out rfl ?_) ?_
        · intro q hq _
          rw [heap_setCell_other _ _ _ _ (by dsimp only; omega), heap_setCell_other _ _ _ _ (by dsimp only; omega), heap_setCell_other _ _ _ _ (by dsimp only; omega), heap_setCell_other _ _ _ _ (by dsimp only; omega)]
        · simp only [World.size_setCell]
          omega
    · have k6' : ¬ (y.s.length : Int) < 6 := by omega
      replace HO := H1
      clear H1 hst
      go_upto_region 4 with fail
      clear q1 e1
      have k0 := (box_of E0.out).1 0 _ rfl
      have k1 := (box_of E0.out).1 1 _ rfl
      have k2 := (box_of E0.out).1 2 _ rfl
      have k3 := (box_of E0.out).1 3 _ rfl
      have l0 := (box_of E2.out).1 0 _ rfl
      have l1 := (box_of E2.out).1 1 _ rfl
      have l2 := (box_of E2.out).1 2 _ rfl
      have l3 := (box_of E2.out).1 3 _ rfl
      have lz := (box_of E2.out).2
      go_wp2
      refine bodyPost_ret (v := .agg #[.int .i64 ti, .slice (some ⟨g, 0, none⟩) (ys.length + 1) c, .int .i64 ts, .int .i64 td]) (results_one Try.results29 _ _ _ rfl (loadTh (putN4 E2.out _ _ _ _))) rfl ?_
      rw [puts_full k6]
      refine ⟨_, rfl, ?_, (((HB.out.setCell (by dsimp only; omega) _).setCell (by dsimp only; omega) _).setCell (by dsimp only; omega) _).setCell (by dsimp only; omega) _⟩
      refine OwnDL.val (u := .int .i64 ti) ?_
      have hv4 : ∀ hh, OwnDL W b hh [.val (.int .i64 ts), .val (.int .i64 td)] [.int .i64 ts, .int .i64 td] := fun hh => ownDL_vals _ _ _ [.int .i64 ts, .int .i64 td]
      exact (OwnDL.same (hi := hi) (HO.out) (fun q hq hq2 _ => by rw [heap_setCell_other _ _ _ _ (by dsimp only; omega), heap_setCell_other _ _ _ _ (by dsimp only; omega), heap_setCell_other _ _ _ _ (by dsimp only; omega), heap_setCell_other _ _ _ _ (by dsimp only; omega)])).up (by simp; omega)
end Go.Proofs.Ytgkglebgpbehbaa
