/-
  Copies at a node in the program: copies of copies.
-/
import Derived.Test.YtofnpgheppgcaaaCpJ
import Derived.Deep.RegionHeld
namespace Go.Proofs.Ytofnpgheppgcaaa
open Go.RowKit

set_option maxRecDepth 100000 in
set_option maxHeartbeats 8000000 in
theorem copyCpI (w : World) (x : Cpy) (u1 u2 : Value) (h1 : Reads w w.heap.size (vls x.f) u1) (h2 : Reads w w.heap.size (vls x.t) u2) (hl1 : x.f.length ≤ 1048576) (hl2 : x.t.length ≤ 1048576) :
    Calls Try.prog 52 #[cpyV x u1 u2] w fun e w' => cpyP w w' x e := by
  have HF := hide h1
  have HT := hide h2
  obtain ⟨af, cf, e1, _⟩ := h1.shape
  obtain ⟨at9, ct, e2, _⟩ := h2.shape
  subst e1 e2
  clear h1 h2
  have bA := (((Below.refl w.heap.size w).alloc (Nat.le_refl _) (.cells #[.int .i64 x.i, .int .i64 x.c, .int .i64 x.n, .bool x.v, .slice af x.f.length cf, .slice at9 x.t.length ct] 40)).alloc (by simp) (.cells #[.int .i64 0, .int .i64 0, .int .i64 0, .bool false, .slice none 0 0, .slice none 0 0] 40))
  have G0 := heap_alloc_new w (.cells #[.int .i64 x.i, .int .i64 x.c, .int .i64 x.n, .bool x.v, .slice af x.f.length cf, .slice at9 x.t.length ct] 40)
  have G1 := heap_alloc_new (w.alloc (.cells #[.int .i64 x.i, .int .i64 x.c, .int .i64 x.n, .bool x.v, .slice af x.f.length cf, .slice at9 x.t.length ct] 40)) (.cells #[.int .i64 0, .int .i64 0, .int .i64 0, .bool false, .slice none 0 0, .slice none 0 0] 40)
  simp only [World.size_alloc] at G1
  have E0 := hide ((Below.heap_alloc _ (.cells #[.int .i64 0, .int .i64 0, .int .i64 0, .bool false, .slice none 0 0, .slice none 0 0] 40) _ (by simp)).trans (G0))
  have E1 := hide (G1)
  have HB := hide bA
  replace HF := hide (HF.out.at bA)
  replace HT := hide (HT.out.at bA)
  have hsB := bA.size
  clear bA G0 G1
  unfold cpyV
  go_enter Try.func52, Try.ntmps52
  go_upto_region 1 with fail
  generalize ((w.alloc (.cells #[.int .i64 x.i, .int .i64 x.c, .int .i64 x.n, .bool x.v, .slice af x.f.length cf, .slice at9 x.t.length ct] 40)).alloc (.cells #[.int .i64 0, .int .i64 0, .int .i64 0, .bool false, .slice none 0 0, .slice none 0 0] 40)) = W at *
  have hsW := (Array.getElem?_eq_some_iff.1 E1.out).1
  refine wp_region_held_drew (S := fun _ => True) (by kernel_rfl) trivial (fun hHeld => ?_)
  have HW := hide (Below.refl W.heap.size W).drew
  replace E0 := hide ((HW.out.block _ (Array.getElem?_eq_some_iff.1 E0.out).1).trans E0.out)
  replace E1 := hide ((HW.out.block _ (Array.getElem?_eq_some_iff.1 E1.out).1).trans E1.out)
  replace HF := hide (HF.out.at HW.out)
  replace HT := hide (HT.out.at HW.out)
  replace HB := hide (HB.out.trans (HW.out.mono HB.out.size))
  have hz0 := HW.out.size
  clear HW
  generalize W.drew = Z0 at *
  refine wpAnyH_take (i := 0) (v := ?_) rfl (by kernel_rfl) (by kernel_rfl) (by kernel_rfl) (fun _ _ _ h => h) (Or.inl ⟨by rfl, ?_⟩) (by assumption) ?_
  rotate_left
  · intro w' hSw
    try dsimp only at hSw
    go_simp; try rfl
  simp only [List.getElem_toArray, List.getElem_cons_zero, Act.put, List.setIfInBounds_toArray, List.set_cons_zero, List.set_cons_succ]
  refine wpAnyH_take (i := 3) (v := ?_) rfl (by kernel_rfl) (by kernel_rfl) (by kernel_rfl) (fun _ _ _ h => h) (Or.inl ⟨by rfl, ?_⟩) (by assumption) ?_
  rotate_left
  · intro w' hSw
    try dsimp only at hSw
    go_simp; try rfl
  simp only [List.getElem_toArray, List.getElem_cons_succ, List.getElem_cons_zero, Act.put, List.setIfInBounds_toArray, List.set_cons_zero, List.set_cons_succ]
  refine wpAnyH_ready (rs := [1, 4]) (by kernel_rfl) (by simp) (AllReadyH.cons rfl (fun K hK => ?_) (AllReadyH.cons rfl (fun K hK => ?_) AllReadyH.nil))
  · skip
    have e9 := (box_of E0.out).1 4 _ rfl
    refine step_runX (some 4) (by kernel_rfl) (by kernel_rfl) (v := .slice af x.f.length cf) (w' := Z0) (by go_simp; try rfl) ?_
    clear e9
    refine hK.out _ _ trivial (fun hHeld => ?_)
    clear hK K
    simp only [Act.put, List.setIfInBounds_toArray, List.set_cons_zero, List.set_cons_succ]
    refine wpAnyH_ready (rs := [2, 4]) (by kernel_rfl) (by simp) (AllReadyH.cons rfl (fun K hK => ?_) (AllReadyH.cons rfl (fun K hK => ?_) AllReadyH.nil))
    · skip
      refine step_callW (some 5) (by kernel_rfl) (by kernel_rfl) 72 _ _ rfl #[.slice af x.f.length cf] (by kernel_rfl) (copyListVo _ _ x.f (HF.out) (by omega)) ?_
      rintro e Y1 ⟨r9, rfl, o9, b9⟩
      have hz1 := b9.size
      replace HB := hide (HB.out.trans (b9.mono HB.out.size))
      replace E0 := hide ((b9.block _ (Array.getElem?_eq_some_iff.1 E0.out).1).trans E0.out)
      replace E1 := hide ((b9.block _ (Array.getElem?_eq_some_iff.1 E1.out).1).trans E1.out)
      replace HF := hide (HF.out.at b9)
      replace HT := hide (HT.out.at b9)
      clear b9
      obtain ⟨pa, pc, pe⟩ := o9.shape
      subst pe
      have O1 := hide o9
      clear o9
      refine ⟨_, rfl, ?_⟩
      refine hK.out _ _ trivial (fun hHeld => ?_)
      clear hK K
      simp only [Act.put, List.setIfInBounds_toArray, List.set_cons_zero, List.set_cons_succ]
      refine wpAnyH_ready (rs := [4]) (by kernel_rfl) (by simp) (AllReadyH.cons rfl (fun K hK => ?_) AllReadyH.nil)
      have e9 := (box_of E0.out).1 5 _ rfl
      refine step_runX (some 7) (by kernel_rfl) (by kernel_rfl) (v := .slice at9 x.t.length ct) (w' := Y1) (by go_simp; try rfl) ?_
      clear e9
      refine hK.out _ _ trivial (fun hHeld => ?_)
      clear hK K
      simp only [Act.put, List.setIfInBounds_toArray, List.set_cons_zero, List.set_cons_succ]
      refine wpAnyH_take (i := 6) (v := ?_) rfl (by kernel_rfl) (by kernel_rfl) (by kernel_rfl) (fun _ _ _ h => h) (Or.inl ⟨by rfl, ?_⟩) (by assumption) ?_
      rotate_left
      · intro w' hSw
        try dsimp only at hSw
        go_simp; try rfl
      simp only [List.getElem_toArray, List.getElem_cons_succ, List.getElem_cons_zero, Act.put, List.setIfInBounds_toArray, List.set_cons_zero, List.set_cons_succ]
      refine wpAnyH_ready (rs := [5]) (by kernel_rfl) (by simp) (AllReadyH.cons rfl (fun K hK => ?_) AllReadyH.nil)
      refine step_callW (some 8) (by kernel_rfl) (by kernel_rfl) 72 _ _ rfl #[.slice at9 x.t.length ct] (by kernel_rfl) (copyListVo _ _ x.t (HT.out) (by omega)) ?_
      rintro e Y2 ⟨r9, rfl, o9, b9⟩
      have hz2 := b9.size
      replace HB := hide (HB.out.trans (b9.mono HB.out.size))
      replace E0 := hide ((b9.block _ (Array.getElem?_eq_some_iff.1 E0.out).1).trans E0.out)
      replace E1 := hide ((b9.block _ (Array.getElem?_eq_some_iff.1 E1.out).1).trans E1.out)
      replace HF := hide (HF.out.at b9)
      replace HT := hide (HT.out.at b9)
      replace O1 := hide (O1.out.below b9)
      clear b9
      obtain ⟨qa, qc, qe⟩ := o9.shape
      subst qe
      have O2 := hide o9
      clear o9
      refine ⟨_, rfl, ?_⟩
      refine hK.out _ _ trivial (fun hHeld => ?_)
      clear hK K
      simp only [Act.put, List.setIfInBounds_toArray, List.set_cons_zero, List.set_cons_succ]
      refine wpAnyH_ready (rs := [7]) (by kernel_rfl) (by simp) (AllReadyH.cons rfl (fun K hK => ?_) AllReadyH.nil)
      have e9 := (box_of E0.out).1 4 _ rfl
      have f9 := (box_of E0.out).2 4
      refine step_store1 (by kernel_rfl) (by kernel_rfl) 38 _ _ rfl (w.heap.size) 4 (.slice pa x.f.length pc) (by kernel_rfl) (by kernel_rfl) rfl _ e9 f9 (by kernel_rfl) ?_
      clear e9 f9
      replace E1 := hide ((heap_setCell_other Y2 ⟨w.heap.size, 4, none⟩ (w.heap.size + 1) (.slice pa x.f.length pc) (by dsimp only; omega)).trans E1.out)
      replace E0 : Hid ((Y2.setCell ⟨w.heap.size, 4, none⟩ (.slice pa x.f.length pc)).heap[w.heap.size]? = some (.cells #[.int .i64 x.i, .int .i64 x.c, .int .i64 x.n, .bool x.v, .slice pa x.f.length pc, .slice at9 x.t.length ct] 40 (0, 0))) := hide (heap_setCell_same Y2 (w.heap.size) 4 _ _ (.slice pa x.f.length pc) E0.out)
      replace HB := hide (HB.out.setCell (p := ⟨w.heap.size, 4, none⟩) (by dsimp only; omega) (.slice pa x.f.length pc))
      replace O1 := hide (O1.out.same (w' := Y2.setCell ⟨w.heap.size, 4, none⟩ (.slice pa x.f.length pc)) (fun q hq _ _ => heap_setCell_other _ _ _ _ (by dsimp only; omega)))
      replace O2 := hide (O2.out.same (w' := Y2.setCell ⟨w.heap.size, 4, none⟩ (.slice pa x.f.length pc)) (fun q hq _ _ => heap_setCell_other _ _ _ _ (by dsimp only; omega)))
      have hz3 : Y2.heap.size ≤ (Y2.setCell ⟨w.heap.size, 4, none⟩ (.slice pa x.f.length pc)).heap.size := by simp
      refine hK.out _ _ trivial (fun hHeld => ?_)
      clear hK K
      try simp only [Act.put, List.setIfInBounds_toArray, List.set_cons_zero, List.set_cons_succ]
      generalize Y2.setCell ⟨w.heap.size, 4, none⟩ (.slice pa x.f.length pc) = V3 at *
      refine wpAnyH_take (i := 8) (v := ?_) rfl (by kernel_rfl) (by kernel_rfl) (by kernel_rfl) (fun _ _ _ h => h) (Or.inl ⟨by rfl, ?_⟩) (by assumption) ?_
      rotate_left
      · intro w' hSw
        try dsimp only at hSw
        go_simp; try rfl
      simp only [List.getElem_toArray, List.getElem_cons_succ, List.getElem_cons_zero, Act.put, List.setIfInBounds_toArray, List.set_cons_zero, List.set_cons_succ]
      refine wpAnyH_ready (rs := [9]) (by kernel_rfl) (by simp) (AllReadyH.cons rfl (fun K hK => ?_) AllReadyH.nil)
      have e9 := (box_of E0.out).1 5 _ rfl
      have f9 := (box_of E0.out).2 5
      refine step_store1 (by kernel_rfl) (by kernel_rfl) 38 _ _ rfl (w.heap.size) 5 (.slice qa x.t.length qc) (by kernel_rfl) (by kernel_rfl) rfl _ e9 f9 (by kernel_rfl) ?_
      clear e9 f9
      replace E1 := hide ((heap_setCell_other V3 ⟨w.heap.size, 5, none⟩ (w.heap.size + 1) (.slice qa x.t.length qc) (by dsimp only; omega)).trans E1.out)
      replace E0 : Hid ((V3.setCell ⟨w.heap.size, 5, none⟩ (.slice qa x.t.length qc)).heap[w.heap.size]? = some (.cells #[.int .i64 x.i, .int .i64 x.c, .int .i64 x.n, .bool x.v, .slice pa x.f.length pc, .slice qa x.t.length qc] 40 (0, 0))) := hide (heap_setCell_same V3 (w.heap.size) 5 _ _ (.slice qa x.t.length qc) E0.out)
      replace HB := hide (HB.out.setCell (p := ⟨w.heap.size, 5, none⟩) (by dsimp only; omega) (.slice qa x.t.length qc))
      replace O1 := hide (O1.out.same (w' := V3.setCell ⟨w.heap.size, 5, none⟩ (.slice qa x.t.length qc)) (fun q hq _ _ => heap_setCell_other _ _ _ _ (by dsimp only; omega)))
      replace O2 := hide (O2.out.same (w' := V3.setCell ⟨w.heap.size, 5, none⟩ (.slice qa x.t.length qc)) (fun q hq _ _ => heap_setCell_other _ _ _ _ (by dsimp only; omega)))
      have hz4 : V3.heap.size ≤ (V3.setCell ⟨w.heap.size, 5, none⟩ (.slice qa x.t.length qc)).heap.size := by simp
      refine hK.out _ _ trivial (fun hHeld => ?_)
      clear hK K
      try simp only [Act.put, List.setIfInBounds_toArray, List.set_cons_zero, List.set_cons_succ]
      generalize V3.setCell ⟨w.heap.size, 5, none⟩ (.slice qa x.t.length qc) = V4 at *
      refine wpAnyH_done (by kernel_rfl) ?_ _
      have l0 := (box_of E1.out).1 0 _ rfl
      have l1 := (box_of E1.out).1 1 _ rfl
      have l2 := (box_of E1.out).1 2 _ rfl
      have l3 := (box_of E1.out).1 3 _ rfl
      have l4 := (box_of E1.out).1 4 _ rfl
      have l5 := (box_of E1.out).1 5 _ rfl
      have lz := (box_of E1.out).2
      have k0 := (box_of E0.out).1 0 _ rfl
      have k1 := (box_of E0.out).1 1 _ rfl
      have k2 := (box_of E0.out).1 2 _ rfl
      have k3 := (box_of E0.out).1 3 _ rfl
      have k4 := (box_of E0.out).1 4 _ rfl
      have k5 := (box_of E0.out).1 5 _ rfl
      have kz := (box_of E0.out).2
      go_wp2
      refine bodyPost_ret (v := .agg #[.int .i64 x.i, .int .i64 x.c, .int .i64 x.n, .bool x.v, .slice pa x.f.length pc, .slice qa x.t.length qc]) (results_one Try.results52 _ _ _ rfl (loadCpy (putN6c E1.out _ _ _ _ _ _))) rfl ?_
      refine ⟨_, _, rfl, ?_, (((((HB.out.setCell (by dsimp only; omega) _).setCell (by dsimp only; omega) _).setCell (by dsimp only; omega) _).setCell (by dsimp only; omega) _).setCell (by dsimp only; omega) _).setCell (by dsimp only; omega) _⟩
      refine ((OwnDL.same (b := W.heap.size) (OwnDL.val (OwnDL.val (OwnDL.val (OwnDL.val (OwnDL.cons (O1.out.mono (by omega)) (OwnDL.cons O2.out (ownDL_nil _ _ _) (by omega) (Nat.le_refl _)) (by omega) (by omega)))))) (fun q hq _ _ => ?_)).mono (by omega)).up (by simp only [World.size_setCell]; omega)
      rw [heap_setCell_other _ _ _ _ (by dsimp only; omega), heap_setCell_other _ _ _ _ (by dsimp only; omega), heap_setCell_other _ _ _ _ (by dsimp only; omega), heap_setCell_other _ _ _ _ (by dsimp only; omega), heap_setCell_other _ _ _ _ (by dsimp only; omega), heap_setCell_other _ _ _ _ (by dsimp only; omega)]
    · skip
      have e9 := (box_of E0.out).1 5 _ rfl
      refine step_runX (some 7) (by kernel_rfl) (by kernel_rfl) (v := .slice at9 x.t.length ct) (w' := Z0) (by go_simp; try rfl) ?_
      clear e9
      refine hK.out _ _ trivial (fun hHeld => ?_)
      clear hK K
      simp only [Act.put, List.setIfInBounds_toArray, List.set_cons_zero, List.set_cons_succ]
      refine wpAnyH_ready (rs := [2]) (by kernel_rfl) (by simp) (AllReadyH.cons rfl (fun K hK => ?_) AllReadyH.nil)
      refine step_callW (some 5) (by kernel_rfl) (by kernel_rfl) 72 _ _ rfl #[.slice af x.f.length cf] (by kernel_rfl) (copyListVo _ _ x.f (HF.out) (by omega)) ?_
      rintro e Y5 ⟨r9, rfl, o9, b9⟩
      have hz5 := b9.size
      replace HB := hide (HB.out.trans (b9.mono HB.out.size))
      replace E0 := hide ((b9.block _ (Array.getElem?_eq_some_iff.1 E0.out).1).trans E0.out)
      replace E1 := hide ((b9.block _ (Array.getElem?_eq_some_iff.1 E1.out).1).trans E1.out)
      replace HF := hide (HF.out.at b9)
      replace HT := hide (HT.out.at b9)
      clear b9
      obtain ⟨pa, pc, pe⟩ := o9.shape
      subst pe
      have O1 := hide o9
      clear o9
      refine ⟨_, rfl, ?_⟩
      refine hK.out _ _ trivial (fun hHeld => ?_)
      clear hK K
      simp only [Act.put, List.setIfInBounds_toArray, List.set_cons_zero, List.set_cons_succ]
      refine wpAnyH_take (i := 6) (v := ?_) rfl (by kernel_rfl) (by kernel_rfl) (by kernel_rfl) (fun _ _ _ h => h) (Or.inl ⟨by rfl, ?_⟩) (by assumption) ?_
      rotate_left
      · intro w' hSw
        try dsimp only at hSw
        go_simp; try rfl
      simp only [List.getElem_toArray, List.getElem_cons_succ, List.getElem_cons_zero, Act.put, List.setIfInBounds_toArray, List.set_cons_zero, List.set_cons_succ]
      refine wpAnyH_ready (rs := [5]) (by kernel_rfl) (by simp) (AllReadyH.cons rfl (fun K hK => ?_) AllReadyH.nil)
      refine step_callW (some 8) (by kernel_rfl) (by kernel_rfl) 72 _ _ rfl #[.slice at9 x.t.length ct] (by kernel_rfl) (copyListVo _ _ x.t (HT.out) (by omega)) ?_
      rintro e Y6 ⟨r9, rfl, o9, b9⟩
      have hz6 := b9.size
      replace HB := hide (HB.out.trans (b9.mono HB.out.size))
      replace E0 := hide ((b9.block _ (Array.getElem?_eq_some_iff.1 E0.out).1).trans E0.out)
      replace E1 := hide ((b9.block _ (Array.getElem?_eq_some_iff.1 E1.out).1).trans E1.out)
      replace HF := hide (HF.out.at b9)
      replace HT := hide (HT.out.at b9)
      replace O1 := hide (O1.out.below b9)
      clear b9
      obtain ⟨qa, qc, qe⟩ := o9.shape
      subst qe
      have O2 := hide o9
      clear o9
      refine ⟨_, rfl, ?_⟩
      refine hK.out _ _ trivial (fun hHeld => ?_)
      clear hK K
      simp only [Act.put, List.setIfInBounds_toArray, List.set_cons_zero, List.set_cons_succ]
      refine wpAnyH_ready (rs := [7]) (by kernel_rfl) (by simp) (AllReadyH.cons rfl (fun K hK => ?_) AllReadyH.nil)
      have e9 := (box_of E0.out).1 4 _ rfl
      have f9 := (box_of E0.out).2 4
      refine step_store1 (by kernel_rfl) (by kernel_rfl) 38 _ _ rfl (w.heap.size) 4 (.slice pa x.f.length pc) (by kernel_rfl) (by kernel_rfl) rfl _ e9 f9 (by kernel_rfl) ?_
      clear e9 f9
      replace E1 := hide ((heap_setCell_other Y6 ⟨w.heap.size, 4, none⟩ (w.heap.size + 1) (.slice pa x.f.length pc) (by dsimp only; omega)).trans E1.out)
      replace E0 : Hid ((Y6.setCell ⟨w.heap.size, 4, none⟩ (.slice pa x.f.length pc)).heap[w.heap.size]? = some (.cells #[.int .i64 x.i, .int .i64 x.c, .int .i64 x.n, .bool x.v, .slice pa x.f.length pc, .slice at9 x.t.length ct] 40 (0, 0))) := hide (heap_setCell_same Y6 (w.heap.size) 4 _ _ (.slice pa x.f.length pc) E0.out)
      replace HB := hide (HB.out.setCell (p := ⟨w.heap.size, 4, none⟩) (by dsimp only; omega) (.slice pa x.f.length pc))
      replace O1 := hide (O1.out.same (w' := Y6.setCell ⟨w.heap.size, 4, none⟩ (.slice pa x.f.length pc)) (fun q hq _ _ => heap_setCell_other _ _ _ _ (by dsimp only; omega)))
      replace O2 := hide (O2.out.same (w' := Y6.setCell ⟨w.heap.size, 4, none⟩ (.slice pa x.f.length pc)) (fun q hq _ _ => heap_setCell_other _ _ _ _ (by dsimp only; omega)))
      have hz7 : Y6.heap.size ≤ (Y6.setCell ⟨w.heap.size, 4, none⟩ (.slice pa x.f.length pc)).heap.size := by simp
      refine hK.out _ _ trivial (fun hHeld => ?_)
      clear hK K
      try simp only [Act.put, List.setIfInBounds_toArray, List.set_cons_zero, List.set_cons_succ]
      generalize Y6.setCell ⟨w.heap.size, 4, none⟩ (.slice pa x.f.length pc) = V7 at *
      refine wpAnyH_take (i := 8) (v := ?_) rfl (by kernel_rfl) (by kernel_rfl) (by kernel_rfl) (fun _ _ _ h => h) (Or.inl ⟨by rfl, ?_⟩) (by assumption) ?_
      rotate_left
      · intro w' hSw
        try dsimp only at hSw
        go_simp; try rfl
      simp only [List.getElem_toArray, List.getElem_cons_succ, List.getElem_cons_zero, Act.put, List.setIfInBounds_toArray, List.set_cons_zero, List.set_cons_succ]
      refine wpAnyH_ready (rs := [9]) (by kernel_rfl) (by simp) (AllReadyH.cons rfl (fun K hK => ?_) AllReadyH.nil)
      have e9 := (box_of E0.out).1 5 _ rfl
      have f9 := (box_of E0.out).2 5
      refine step_store1 (by kernel_rfl) (by kernel_rfl) 38 _ _ rfl (w.heap.size) 5 (.slice qa x.t.length qc) (by kernel_rfl) (by kernel_rfl) rfl _ e9 f9 (by kernel_rfl) ?_
      clear e9 f9
      replace E1 := hide ((heap_setCell_other V7 ⟨w.heap.size, 5, none⟩ (w.heap.size + 1) (.slice qa x.t.length qc) (by dsimp only; omega)).trans E1.out)
      replace E0 : Hid ((V7.setCell ⟨w.heap.size, 5, none⟩ (.slice qa x.t.length qc)).heap[w.heap.size]? = some (.cells #[.int .i64 x.i, .int .i64 x.c, .int .i64 x.n, .bool x.v, .slice pa x.f.length pc, .slice qa x.t.length qc] 40 (0, 0))) := hide (heap_setCell_same V7 (w.heap.size) 5 _ _ (.slice qa x.t.length qc) E0.out)
      replace HB := hide (HB.out.setCell (p := ⟨w.heap.size, 5, none⟩) (by dsimp only; omega) (.slice qa x.t.length qc))
      replace O1 := hide (O1.out.same (w' := V7.setCell ⟨w.heap.size, 5, none⟩ (.slice qa x.t.length qc)) (fun q hq _ _ => heap_setCell_other _ _ _ _ (by dsimp only; omega)))
      replace O2 := hide (O2.out.same (w' := V7.setCell ⟨w.heap.size, 5, none⟩ (.slice qa x.t.length qc)) (fun q hq _ _ => heap_setCell_other _ _ _ _ (by dsimp only; omega)))
      have hz8 : V7.heap.size ≤ (V7.setCell ⟨w.heap.size, 5, none⟩ (.slice qa x.t.length qc)).heap.size := by simp
      refine hK.out _ _ trivial (fun hHeld => ?_)
      clear hK K
      try simp only [Act.put, List.setIfInBounds_toArray, List.set_cons_zero, List.set_cons_succ]
      generalize V7.setCell ⟨w.heap.size, 5, none⟩ (.slice qa x.t.length qc) = V8 at *
      refine wpAnyH_done (by kernel_rfl) ?_ _
      have l0 := (box_of E1.out).1 0 _ rfl
      have l1 := (box_of E1.out).1 1 _ rfl
      have l2 := (box_of E1.out).1 2 _ rfl
      have l3 := (box_of E1.out).1 3 _ rfl
      have l4 := (box_of E1.out).1 4 _ rfl
      have l5 := (box_of E1.out).1 5 _ rfl
      have lz := (box_of E1.out).2
      have k0 := (box_of E0.out).1 0 _ rfl
      have k1 := (box_of E0.out).1 1 _ rfl
      have k2 := (box_of E0.out).1 2 _ rfl
      have k3 := (box_of E0.out).1 3 _ rfl
      have k4 := (box_of E0.out).1 4 _ rfl
      have k5 := (box_of E0.out).1 5 _ rfl
      have kz := (box_of E0.out).2
      go_wp2
      refine bodyPost_ret (v := .agg #[.int .i64 x.i, .int .i64 x.c, .int .i64 x.n, .bool x.v, .slice pa x.f.length pc, .slice qa x.t.length qc]) (results_one Try.results52 _ _ _ rfl (loadCpy (putN6c E1.out _ _ _ _ _ _))) rfl ?_
      refine ⟨_, _, rfl, ?_, (((((HB.out.setCell (by dsimp only; omega) _).setCell (by dsimp only; omega) _).setCell (by dsimp only; omega) _).setCell (by dsimp only; omega) _).setCell (by dsimp only; omega) _).setCell (by dsimp only; omega) _⟩
      refine ((OwnDL.same (b := W.heap.size) (OwnDL.val (OwnDL.val (OwnDL.val (OwnDL.val (OwnDL.cons (O1.out.mono (by omega)) (OwnDL.cons O2.out (ownDL_nil _ _ _) (by omega) (Nat.le_refl _)) (by omega) (by omega)))))) (fun q hq _ _ => ?_)).mono (by omega)).up (by simp only [World.size_setCell]; omega)
      rw [heap_setCell_other _ _ _ _ (by dsimp only; omega), heap_setCell_other _ _ _ _ (by dsimp only; omega), heap_setCell_other _ _ _ _ (by dsimp only; omega), heap_setCell_other _ _ _ _ (by dsimp only; omega), heap_setCell_other _ _ _ _ (by dsimp only; omega), heap_setCell_other _ _ _ _ (by dsimp only; omega)]
  · skip
    have e9 := (box_of E0.out).1 5 _ rfl
    refine step_runX (some 7) (by kernel_rfl) (by kernel_rfl) (v := .slice at9 x.t.length ct) (w' := Z0) (by go_simp; try rfl) ?_
    clear e9
    refine hK.out _ _ trivial (fun hHeld => ?_)
    clear hK K
    simp only [Act.put, List.setIfInBounds_toArray, List.set_cons_zero, List.set_cons_succ]
    refine wpAnyH_ready (rs := [1]) (by kernel_rfl) (by simp) (AllReadyH.cons rfl (fun K hK => ?_) AllReadyH.nil)
    have e9 := (box_of E0.out).1 4 _ rfl
    refine step_runX (some 4) (by kernel_rfl) (by kernel_rfl) (v := .slice af x.f.length cf) (w' := Z0) (by go_simp; try rfl) ?_
    clear e9
    refine hK.out _ _ trivial (fun hHeld => ?_)
    clear hK K
    simp only [Act.put, List.setIfInBounds_toArray, List.set_cons_zero, List.set_cons_succ]
    refine wpAnyH_ready (rs := [2]) (by kernel_rfl) (by simp) (AllReadyH.cons rfl (fun K hK => ?_) AllReadyH.nil)
    refine step_callW (some 5) (by kernel_rfl) (by kernel_rfl) 72 _ _ rfl #[.slice af x.f.length cf] (by kernel_rfl) (copyListVo _ _ x.f (HF.out) (by omega)) ?_
    rintro e Y9 ⟨r9, rfl, o9, b9⟩
    have hz9 := b9.size
    replace HB := hide (HB.out.trans (b9.mono HB.out.size))
    replace E0 := hide ((b9.block _ (Array.getElem?_eq_some_iff.1 E0.out).1).trans E0.out)
    replace E1 := hide ((b9.block _ (Array.getElem?_eq_some_iff.1 E1.out).1).trans E1.out)
    replace HF := hide (HF.out.at b9)
    replace HT := hide (HT.out.at b9)
    clear b9
    obtain ⟨pa, pc, pe⟩ := o9.shape
    subst pe
    have O1 := hide o9
    clear o9
    refine ⟨_, rfl, ?_⟩
    refine hK.out _ _ trivial (fun hHeld => ?_)
    clear hK K
    simp only [Act.put, List.setIfInBounds_toArray, List.set_cons_zero, List.set_cons_succ]
    refine wpAnyH_take (i := 6) (v := ?_) rfl (by kernel_rfl) (by kernel_rfl) (by kernel_rfl) (fun _ _ _ h => h) (Or.inl ⟨by rfl, ?_⟩) (by assumption) ?_
    rotate_left
    · intro w' hSw
      try dsimp only at hSw
      go_simp; try rfl
    simp only [List.getElem_toArray, List.getElem_cons_succ, List.getElem_cons_zero, Act.put, List.setIfInBounds_toArray, List.set_cons_zero, List.set_cons_succ]
    refine wpAnyH_ready (rs := [5]) (by kernel_rfl) (by simp) (AllReadyH.cons rfl (fun K hK => ?_) AllReadyH.nil)
    refine step_callW (some 8) (by kernel_rfl) (by kernel_rfl) 72 _ _ rfl #[.slice at9 x.t.length ct] (by kernel_rfl) (copyListVo _ _ x.t (HT.out) (by omega)) ?_
    rintro e Y10 ⟨r9, rfl, o9, b9⟩
    have hz10 := b9.size
    replace HB := hide (HB.out.trans (b9.mono HB.out.size))
    replace E0 := hide ((b9.block _ (Array.getElem?_eq_some_iff.1 E0.out).1).trans E0.out)
    replace E1 := hide ((b9.block _ (Array.getElem?_eq_some_iff.1 E1.out).1).trans E1.out)
    replace HF := hide (HF.out.at b9)
    replace HT := hide (HT.out.at b9)
    replace O1 := hide (O1.out.below b9)
    clear b9
    obtain ⟨qa, qc, qe⟩ := o9.shape
    subst qe
    have O2 := hide o9
    clear o9
    refine ⟨_, rfl, ?_⟩
    refine hK.out _ _ trivial (fun hHeld => ?_)
    clear hK K
    simp only [Act.put, List.setIfInBounds_toArray, List.set_cons_zero, List.set_cons_succ]
    refine wpAnyH_ready (rs := [7]) (by kernel_rfl) (by simp) (AllReadyH.cons rfl (fun K hK => ?_) AllReadyH.nil)
    have e9 := (box_of E0.out).1 4 _ rfl
    have f9 := (box_of E0.out).2 4
    refine step_store1 (by kernel_rfl) (by kernel_rfl) 38 _ _ rfl (w.heap.size) 4 (.slice pa x.f.length pc) (by kernel_rfl) (by kernel_rfl) rfl _ e9 f9 (by kernel_rfl) ?_
    clear e9 f9
    replace E1 := hide ((heap_setCell_other Y10 ⟨w.heap.size, 4, none⟩ (w.heap.size + 1) (.slice pa x.f.length pc) (by dsimp only; omega)).trans E1.out)
    replace E0 : Hid ((Y10.setCell ⟨w.heap.size, 4, none⟩ (.slice pa x.f.length pc)).heap[w.heap.size]? = some (.cells #[.int .i64 x.i, .int .i64 x.c, .int .i64 x.n, .bool x.v, .slice pa x.f.length pc, .slice at9 x.t.length ct] 40 (0, 0))) := hide (heap_setCell_same Y10 (w.heap.size) 4 _ _ (.slice pa x.f.length pc) E0.out)
    replace HB := hide (HB.out.setCell (p := ⟨w.heap.size, 4, none⟩) (by dsimp only; omega) (.slice pa x.f.length pc))
    replace O1 := hide (O1.out.same (w' := Y10.setCell ⟨w.heap.size, 4, none⟩ (.slice pa x.f.length pc)) (fun q hq _ _ => heap_setCell_other _ _ _ _ (by dsimp only; omega)))
    replace O2 := hide (O2.out.same (w' := Y10.setCell ⟨w.heap.size, 4, none⟩ (.slice pa x.f.length pc)) (fun q hq _ _ => heap_setCell_other _ _ _ _ (by dsimp only; omega)))
    have hz11 : Y10.heap.size ≤ (Y10.setCell ⟨w.heap.size, 4, none⟩ (.slice pa x.f.length pc)).heap.size := by simp
    refine hK.out _ _ trivial (fun hHeld => ?_)
    clear hK K
    try simp only [Act.put, List.setIfInBounds_toArray, List.set_cons_zero, List.set_cons_succ]
    generalize Y10.setCell ⟨w.heap.size, 4, none⟩ (.slice pa x.f.length pc) = V11 at *
    refine wpAnyH_take (i := 8) (v := ?_) rfl (by kernel_rfl) (by kernel_rfl) (by kernel_rfl) (fun _ _ _ h => h) (Or.inl ⟨by rfl, ?_⟩) (by assumption) ?_
    rotate_left
    · intro w' hSw
      try dsimp only at hSw
      go_simp; try rfl
    simp only [List.getElem_toArray, List.getElem_cons_succ, List.getElem_cons_zero, Act.put, List.setIfInBounds_toArray, List.set_cons_zero, List.set_cons_succ]
    refine wpAnyH_ready (rs := [9]) (by kernel_rfl) (by simp) (AllReadyH.cons rfl (fun K hK => ?_) AllReadyH.nil)
    have e9 := (box_of E0.out).1 5 _ rfl
    have f9 := (box_of E0.out).2 5
    refine step_store1 (by kernel_rfl) (by kernel_rfl) 38 _ _ rfl (w.heap.size) 5 (.slice qa x.t.length qc) (by kernel_rfl) (by kernel_rfl) rfl _ e9 f9 (by kernel_rfl) ?_
    clear e9 f9
    replace E1 := hide ((heap_setCell_other V11 ⟨w.heap.size, 5, none⟩ (w.heap.size + 1) (.slice qa x.t.length qc) (by dsimp only; omega)).trans E1.out)
    replace E0 : Hid ((V11.setCell ⟨w.heap.size, 5, none⟩ (.slice qa x.t.length qc)).heap[w.heap.size]? = some (.cells #[.int .i64 x.i, .int .i64 x.c, .int .i64 x.n, .bool x.v, .slice pa x.f.length pc, .slice qa x.t.length qc] 40 (0, 0))) := hide (heap_setCell_same V11 (w.heap.size) 5 _ _ (.slice qa x.t.length qc) E0.out)
    replace HB := hide (HB.out.setCell (p := ⟨w.heap.size, 5, none⟩) (by dsimp only; omega) (.slice qa x.t.length qc))
    replace O1 := hide (O1.out.same (w' := V11.setCell ⟨w.heap.size, 5, none⟩ (.slice qa x.t.length qc)) (fun q hq _ _ => heap_setCell_other _ _ _ _ (by dsimp only; omega)))
    replace O2 := hide (O2.out.same (w' := V11.setCell ⟨w.heap.size, 5, none⟩ (.slice qa x.t.length qc)) (fun q hq _ _ => heap_setCell_other _ _ _ _ (by dsimp only; omega)))
    have hz12 : V11.heap.size ≤ (V11.setCell ⟨w.heap.size, 5, none⟩ (.slice qa x.t.length qc)).heap.size := by simp
    refine hK.out _ _ trivial (fun hHeld => ?_)
    clear hK K
    try simp only [Act.put, List.setIfInBounds_toArray, List.set_cons_zero, List.set_cons_succ]
    generalize V11.setCell ⟨w.heap.size, 5, none⟩ (.slice qa x.t.length qc) = V12 at *
    refine wpAnyH_done (by kernel_rfl) ?_ _
    have l0 := (box_of E1.out).1 0 _ rfl
    have l1 := (box_of E1.out).1 1 _ rfl
    have l2 := (box_of E1.out).1 2 _ rfl
    have l3 := (box_of E1.out).1 3 _ rfl
    have l4 := (box_of E1.out).1 4 _ rfl
    have l5 := (box_of E1.out).1 5 _ rfl
    have lz := (box_of E1.out).2
    have k0 := (box_of E0.out).1 0 _ rfl
    have k1 := (box_of E0.out).1 1 _ rfl
    have k2 := (box_of E0.out).1 2 _ rfl
    have k3 := (box_of E0.out).1 3 _ rfl
    have k4 := (box_of E0.out).1 4 _ rfl
    have k5 := (box_of E0.out).1 5 _ rfl
    have kz := (box_of E0.out).2
    go_wp2
    refine bodyPost_ret (v := .agg #[.int .i64 x.i, .int .i64 x.c, .int .i64 x.n, .bool x.v, .slice pa x.f.length pc, .slice qa x.t.length qc]) (results_one Try.results52 _ _ _ rfl (loadCpy (putN6c E1.out _ _ _ _ _ _))) rfl ?_
    refine ⟨_, _, rfl, ?_, (((((HB.out.setCell (by dsimp only; omega) _).setCell (by dsimp only; omega) _).setCell (by dsimp only; omega) _).setCell (by dsimp only; omega) _).setCell (by dsimp only; omega) _).setCell (by dsimp only; omega) _⟩
    refine ((OwnDL.same (b := W.heap.size) (OwnDL.val (OwnDL.val (OwnDL.val (OwnDL.val (OwnDL.cons (O1.out.mono (by omega)) (OwnDL.cons O2.out (ownDL_nil _ _ _) (by omega) (Nat.le_refl _)) (by omega) (by omega)))))) (fun q hq _ _ => ?_)).mono (by omega)).up (by simp only [World.size_setCell]; omega)
    rw [heap_setCell_other _ _ _ _ (by dsimp only; omega), heap_setCell_other _ _ _ _ (by dsimp only; omega), heap_setCell_other _ _ _ _ (by dsimp only; omega), heap_setCell_other _ _ _ _ (by dsimp only; omega), heap_setCell_other _ _ _ _ (by dsimp only; omega), heap_setCell_other _ _ _ _ (by dsimp only; omega)]
set_option maxRecDepth 100000 in
set_option maxHeartbeats 8000000 in
theorem copyEachC (w : World) (xo : List Cpy) (u : Value) (h : Reads w w.heap.size (cpys xo) u) (hg : cpysG xo) :
    Calls Try.prog 58 #[u, .func (.func 52) #[] #[]] w fun e w' => rowP w w' (cpys xo) e := by
  have HR := hide h
  have hl := hg.1
  have HG2 := hide hg.2
  obtain ⟨a2, c2, e2, _⟩ := h.shape
  subst e2
  clear h hg
  obtain ⟨i1, hi, hz0, hz1, hz2⟩ := info_parts Try.infoCpy
  have HJ := hide (And.intro hi (And.intro hz0 (And.intro hz1 hz2)))
  clear hi hz0 hz1 hz2
  go_enter Try.func58, Try.ntmps58
  go_wp2
  go_loopw [5, 10] (fun r i wr => ∃ xs : List Cpy, xs.length ≤ xo.length ∧ Hid (xs = xo.take xs.length) ∧ i = .int .i64 (xs.length : Int) ∧ ∃ (va : Option Addr) (vc : Nat), r = .slice va xs.length vc ∧ Hid (OwnD wr w.heap.size wr.heap.size (cpys xs) (.slice va xs.length vc)) ∧ Hid (Below w.heap.size w wr)) (fun _ i _ => xo.length - (intOf i).toNat)
  case atStart => exact ⟨[], Nat.zero_le _, hide (by simp), rfl, none, 0, rfl, hide (ownD_nil _ _ _ _ _), hide (Below.refl _ _)⟩
  case round =>
    obtain ⟨xs, hj, HXS, rfl, va, vc, rfl, HO, HBr⟩ := hrel
    by_cases hlt : xs.length < xo.length
    · obtain ⟨a', cap', ea, hcap, _, hc⟩ := copy_at (HR.out.at HBr.out)
      cases ea
      obtain ⟨b, o, rfl, hbb, hcell⟩ := hc (by omega)
      obtain ⟨pv1, pv2, d0, d1, d2, d3, d4, d5, r1, r2⟩ := hcell xs.length hlt
      have HGy := hide (HG2.out (xo.getD xs.length default) (by rw [List.getD_eq_getElem?_getD, List.getElem?_eq_getElem hlt]; exact List.getElem_mem hlt))
      have HXS2 : Hid (xs ++ [xo.getD xs.length default] = xo.take (xs ++ [xo.getD xs.length default]).length) := hide (by
        rw [List.length_append]
        show _ = xo.take (xs.length + 1)
        rw [take_snocC hlt, ← HXS.out])
      clear hcell hc
      obtain ⟨y, hy⟩ : ∃ y, xo.getD xs.length default = y := ⟨_, rfl⟩
      rw [hy] at d0 d1 d2 d3 r1 r2 HGy HXS2
      clear hy
      obtain ⟨fa, fc, fe, _⟩ := r1.shape
      obtain ⟨ta, tc, te, _⟩ := r2.shape
      subst fe te
      have P1 := hide r1
      have P2 := hide r2
      clear r1 r2
      go_upto_region 5 with fail
      clear d0 d1 d2 d3 d4 d5
      have bA := (Below.refl wr.heap.size wr).alloc (Nat.le_refl _) (.cells #[.int .i64 y.i, .int .i64 y.c, .int .i64 y.n, .bool y.v, .slice fa y.f.length fc, .slice ta y.t.length tc] 40)
      have EF := hide (heap_alloc_new wr (.cells #[.int .i64 y.i, .int .i64 y.c, .int .i64 y.n, .bool y.v, .slice fa y.f.length fc, .slice ta y.t.length tc] 40))
      replace P1 := hide (P1.out.at bA)
      replace P2 := hide (P2.out.at bA)
      have HBw := hide bA
      clear bA hbb
      obtain ⟨gf, hgf⟩ : ∃ g, wr.heap.size = g := ⟨_, rfl⟩
      rw [hgf] at EF ⊢
      clear hgf
      generalize wr.alloc (.cells #[.int .i64 y.i, .int .i64 y.c, .int .i64 y.n, .bool y.v, .slice fa y.f.length fc, .slice ta y.t.length tc] 40) = W2 at *
      have f0 := (box_of EF.out).1 0 _ rfl
      have f1 := (box_of EF.out).1 1 _ rfl
      have f2 := (box_of EF.out).1 2 _ rfl
      have f3 := (box_of EF.out).1 3 _ rfl
      have f4 := (box_of EF.out).1 4 _ rfl
      have f5 := (box_of EF.out).1 5 _ rfl
      go_wp2_with fail
      refine (copyCpI _ y _ _ P1.out P2.out HGy.out.f.1 HGy.out.t.1).mono ?_
      rintro e W3 ⟨r1, r2, rfl, o9, b9⟩
      have hz0 := HBw.out.size
      have hz1 := b9.size
      replace HBw := hide (HBw.out.trans (b9.mono HBw.out.size))
      clear b9 f0 f1 f2 f3 f4 f5 EF P1 P2
      obtain ⟨pa, pc, pe, _⟩ := (cpyD_own o9).1.shape
      obtain ⟨qa, qc, qe, _⟩ := (cpyD_own o9).2.shape
      subst pe qe
      have HD := hide o9
      clear o9
      have HXa := hide ((Below.refl W3.heap.size W3).alloc (Nat.le_refl _) (.cells #[.int .i64 y.i, .int .i64 y.c, .int .i64 y.n, .bool y.v, .slice pa y.f.length pc, .slice qa y.t.length qc] 40))
      have hsX := HXa.out.size
      have HXb := hide (HBw.out.trans (HXa.out.mono HBw.out.size))
      have hown := hide (OwnDL.cons (HO.out.below HXb.out) (ownDL_nil _ wr.heap.size wr.heap.size) HBr.out.size (Nat.le_refl _))
      have hds := hide ((HD.out.below HXa.out).up HXa.out.size)
      have hbx := hide (box_of (heap_alloc_new W3 (.cells #[.int .i64 y.i, .int .i64 y.c, .int .i64 y.n, .bool y.v, .slice pa y.f.length pc, .slice qa y.t.length qc] 40))).1
      have hw0 := HBr.out.size
      have HBx := hide (HBr.out.trans (HXb.out.mono hw0))
      unfold cpyV
      go_wp2_with (first
        | (at_builtin; refine appL rfl _ _ 33 rfl w.heap.size wr.heap.size W2.heap.size 40 i1 (.agg #[.int .i64 0, .int .i64 0, .int .i64 0, .bool false, .slice none 0 0, .slice none 0 0]) 6 80 Try.underlying33 HJ.out.1 HJ.out.2.1 HJ.out.2.2.1 HJ.out.2.2.2 rfl (by decide) (.slice va xs.length vc) xs.length (xs.flatMap cpyD) [] [] [] [] rfl hown.out rfl _ _ [.int .i64 y.i, .int .i64 y.c, .int .i64 y.n, .bool y.v, .slice pa y.f.length pc, .slice qa y.t.length qc] (cpyD y) rfl hbx.out hds.out rfl (by simp [Value.oneCell']) (by omega) (by decide) (by omega) (by omega) (by omega) ?_; intro g9 vc9 w9 o9 gr9 hq9; have HB9 := hide (HBx.out.grown gr9 HBx.out.size (fun q hq => (hq9 q hq).1)); have HO9 := hide (OwnDL.mid (c1 := []) (v1 := []) o9 rfl); clear o9 gr9 hq9)
        | fail)
      refine ⟨⟨xs ++ [y], ?_, HXS2, ?_, some ⟨g9, 0, none⟩, vc9, ?_, hide ?_, HB9⟩, ?_⟩
      · rw [List.length_append]; simp only [List.length_cons, List.length_nil]; omega
      · rw [List.length_append]; simp only [List.length_cons, List.length_nil]; go_num
      · rw [List.length_append]; rfl
      · rw [cpys_snoc, List.length_append]
        exact HO9.out
      · simp [intOf]; omega
    · have hxe : xs = xo := by
        have h1 := HXS.out
        have h2 : xs.length = xo.length := by omega
        rw [h2, List.take_length] at h1
        exact h1
      subst hxe
      go_wp2
      go_ret
      exact ⟨_, rfl, HO.out, HBr.out⟩
end Go.Proofs.Ytofnpgheppgcaaa
