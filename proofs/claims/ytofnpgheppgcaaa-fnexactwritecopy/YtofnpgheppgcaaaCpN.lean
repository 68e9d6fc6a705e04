/-
  Copies at a node in the program: a field of one is written.
-/
import Derived.Test.YtofnpgheppgcaaaCpC
import Derived.Test.YtofnpgheppgcaaaCpW
namespace Go.Proofs.Ytofnpgheppgcaaa
open Go.RowKit

set_option maxRecDepth 100000 in
set_option maxHeartbeats 8000000 in
theorem writeOneI (w : World) (b hi g c j t : Nat) (xs : List Cpy) (y : Cpy) (x : Vl) (HO0 : OwnD w b hi (cpys xs) (.slice (some ⟨g, 0, none⟩) xs.length c)) (hb : b ≤ hi) (hh : hi ≤ w.heap.size) (hlt : j < xs.length) (hm : xs.length ≤ 1048576) (hy : xs.getD j default = y) (hyg : CpyG y) (htl : t < y.f.length) :
    Calls Try.prog 59 #[.pointer (some ⟨g, j * 6, none⟩), .int .i64 (t : Int), vlV x] w fun e w' => e = .returned (.tuple #[]) ∧ OwnD w' b w'.heap.size (cpys (xs.set j (wrOne y (t : Int) x))) (.slice (some ⟨g, 0, none⟩) xs.length c) ∧ Below b w w' := by
  obtain ⟨gb0, fc0, hc0, _, _, _, _, _, hb0, _, _⟩ := cpyWriteOwn HO0 hlt hy htl x
  have hg0 : g < w.heap.size := World.block_lt_of_cell? w _ hc0
  have bA := ((Below.refl w.heap.size w).alloc (Nat.le_refl _) (.cells #[.bool x.r, .int .i64 x.n] 48))
  have E0 := hide (heap_alloc_new w (.cells #[.bool x.r, .int .i64 x.n] 48))
  have HB : Hid (Below b w (w.alloc (.cells #[.bool x.r, .int .i64 x.n] 48))) := hide (bA.mono (by omega))
  have HO := hide (HO0.below bA)
  have K4 := hide ((bA.cell (p := ⟨g, j * 6 + 4, none⟩) hg0).trans hc0)
  have hsA := bA.size
  have hfl := hyg.f.1
  have htI : (t : Int) < (y.f.length : Int) := by omega
  clear bA HO0 hc0
  unfold vlV
  go_enter Try.func59, Try.ntmps59
  go_upto_region 1 with fail
  generalize w.alloc (.cells #[.bool x.r, .int .i64 x.n] 48) = W at *
  have hsW := (Array.getElem?_eq_some_iff.1 E0.out).1
  obtain ⟨a', cap', ea, _, _, hc⟩ := copy_at (show Reads W W.heap.size (cpys xs) (.slice (some ⟨g, 0, none⟩) xs.length c) from HO.out.rd (by omega))
  cases ea
  obtain ⟨b', o', eb, hbb', hcell⟩ := hc (by omega)
  cases eb
  obtain ⟨qv1, qv2, d0, d1, d2, d3, d4, d5, s1, s2⟩ := hcell j hlt
  simp only [Nat.zero_add] at d0 d1 d2 d3 d4 d5
  rw [hy] at d0 d1 d2 d3 s1 s2
  obtain ⟨fa, fc, fe, _⟩ := s1.shape
  obtain ⟨ta, tc, te, _⟩ := s2.shape
  subst fe te
  clear hcell hc
  go_wp2_with fail
  refine (writtenI _ y _ ta tc).mono ?_
  rintro e Z1 ⟨rfl, b9⟩
  replace E0 := hide ((b9.block _ hsW).trans E0.out)
  replace HB := hide (HB.out.trans (b9.mono (by omega)))
  replace HO := hide (HO.out.below b9)
  replace K4 := hide ((b9.cell (p := ⟨g, j * 6 + 4, none⟩) (by dsimp only; omega)).trans K4.out)
  have P1 := hide (s1.at b9)
  have k4 := (b9.cell (p := ⟨g, j * 6 + 4, none⟩) (by dsimp only; omega)).trans d4
  have hz1 := b9.size
  clear b9 d0 d1 d2 d3 d4 d5 s1 s2
  cases ct : dirtB y with
  | false =>
    have hnil : y.t = [] := by
      have h0 := of_decide_eq_false ct
      exact List.eq_nil_of_length_eq_zero (by omega)
    have HOq : Hid (OwnD Z1 b hi (.row 40 6 xs.length (((xs.take j).flatMap cpyD ++ [.val (.int .i64 y.i), .val (.int .i64 y.c), .val (.int .i64 y.n), .val (.bool y.v), vls y.f]) ++ vls y.t :: (xs.drop (j + 1)).flatMap cpyD)) (.slice (some ⟨g, 0, none⟩) xs.length c)) := hide (by
      have h := HO.out
      unfold cpys at h
      rw [cpy_mid hlt hy] at h
      simp only [cpyD, List.append_assoc, List.cons_append, List.nil_append] at h ⊢
      exact h)
    go_wp2_with fail
    refine (copyListVo _ _ y.f P1.out (by omega)).mono ?_
    rintro e Z2 ⟨r9, rfl, o9, b9⟩
    obtain ⟨pa, pc, pe⟩ := o9.shape
    subst pe
    have hz2 := b9.size
    obtain ⟨x0, e0, f0, gb9, o4⟩ := OwnD.field (HOq.out.below b9) o9 (Nat.le_trans hh (by omega)) (by omega) (by omega) (i := j * 6 + 5) (by rw [List.length_append, cpy_pre xs j (Nat.le_of_lt hlt)]; rfl)
    have HO4 := hide o4
    replace E0 := hide ((b9.block _ (Array.getElem?_eq_some_iff.1 E0.out).1).trans E0.out)
    replace HB := hide (HB.out.trans (b9.mono (by omega)))
    replace K4 := hide ((b9.cell (p := ⟨g, j * 6 + 4, none⟩) (by dsimp only; omega)).trans K4.out)
    clear o4 o9 b9 HO HOq P1 k4
    go_upto_region 3 with fail
    clear e0 f0
    replace E0 := hide ((heap_setCell_other Z2 ⟨g, j * 6 + 5, none⟩ (w.heap.size) (.slice pa y.f.length pc) (by dsimp only; omega)).trans E0.out)
    replace HB := hide (HB.out.setCell (p := ⟨g, j * 6 + 5, none⟩) (by dsimp only; omega) (.slice pa y.f.length pc))
    replace K4 := hide ((World.cell?_setCell_other Z2 ⟨g, j * 6 + 5, none⟩ ⟨g, j * 6 + 4, none⟩ (.slice pa y.f.length pc) (fun e => by simp at e)).trans K4.out)
    obtain ⟨ys, hys⟩ : ∃ ys, xs.set j ⟨y.i, y.c, y.n, y.v, y.f, y.f⟩ = ys := ⟨_, rfl⟩
    have hyl : ys.length = xs.length := by rw [← hys, List.length_set]
    have hyy : ys.getD j default = ⟨y.i, y.c, y.n, y.v, y.f, y.f⟩ := by rw [← hys, List.getD_eq_getElem?_getD, List.getElem?_set_self hlt]; rfl
    have hlty : j < ys.length := by omega
    have HO : Hid (OwnD (Z2.setCell ⟨g, j * 6 + 5, none⟩ (.slice pa y.f.length pc)) b (Z2.setCell ⟨g, j * 6 + 5, none⟩ (.slice pa y.f.length pc)).heap.size (cpys ys) (.slice (some ⟨g, 0, none⟩) ys.length c)) := hide (by
      have h := HO4.out
      rw [hyl, ← hys]
      unfold cpys
      rw [cpy_set _ hlt, List.length_set]
      simp only [cpyD, List.append_assoc, List.cons_append, List.nil_append] at h ⊢
      exact h.up (by simp))
    have hz7 : Z2.heap.size ≤ (Z2.setCell ⟨g, j * 6 + 5, none⟩ (.slice pa y.f.length pc)).heap.size := by simp
    clear HO4
    generalize (Z2.setCell ⟨g, j * 6 + 5, none⟩ (.slice pa y.f.length pc)) = Z3 at *
    obtain ⟨gb, fc7, hcell, _, _, _, _, hb1, hb2, hgg, _⟩ := cpyWriteOwn HO.out hlty hyy (show t < (⟨y.i, y.c, y.n, y.v, y.f, y.f⟩ : Cpy).f.length from htl) x
    have hgb9 : gb < w.heap.size := by
      have e := hcell.symm.trans K4.out
      simp at e
      omega
    have HSs : Hid (Z3.cell? ⟨g, j * 6 + 4, none⟩ = some (.slice (some ⟨gb, 0, none⟩) y.f.length fc7) ∧ Z3.cell? ⟨w.heap.size, 0, none⟩ = some (.bool x.r) ∧ Z3.cell? ⟨w.heap.size, 1, none⟩ = some (.int .i64 x.n)) := hide ⟨hcell, (box_of E0.out).1 0 _ rfl, (box_of E0.out).1 1 _ rfl⟩
    refine wp_region_held_drew (S := fun w' => w'.cell? ⟨g, j * 6 + 4, none⟩ = some (.slice (some ⟨gb, 0, none⟩) y.f.length fc7) ∧ w'.cell? ⟨w.heap.size, 0, none⟩ = some (.bool x.r) ∧ w'.cell? ⟨w.heap.size, 1, none⟩ = some (.int .i64 x.n)) (by kernel_rfl) HSs.out (fun hHeld => ?_)
    have HDr := hide (Below.refl Z3.heap.size Z3).drew
    replace E0 := hide ((HDr.out.block _ (Array.getElem?_eq_some_iff.1 E0.out).1).trans E0.out)
    replace HB := hide (HB.out.trans (HDr.out.mono (Nat.le_trans (Nat.le_trans hb hh) HB.out.size)))
    replace HO := hide (HO.out.below HDr.out)
    have hz8 := HDr.out.size
    clear HDr hcell HSs
    generalize Z3.drew = Z0 at *
    refine wpAnyH_take (i := 0) (v := ?_) rfl (by kernel_rfl) (by kernel_rfl) (by kernel_rfl) (fun _ _ _ h => h) (Or.inl ⟨by rfl, ?_⟩) (by assumption) ?_
    rotate_left
    · intro w' hSw
      try dsimp only at hSw
      go_simp; try rfl
    simp only [List.getElem_toArray, List.getElem_cons_zero, Act.put, List.setIfInBounds_toArray, List.set_cons_zero, List.set_cons_succ]
    refine wpAnyH_take (i := 1) (v := ?_) rfl (by kernel_rfl) (by kernel_rfl) (by kernel_rfl) (fun _ _ _ h => h) (Or.inl ⟨by rfl, ?_⟩) (by assumption) ?_
    rotate_left
    · intro w' hSw
      try dsimp only at hSw
      go_simp; try rfl
    simp only [List.getElem_toArray, List.getElem_cons_succ, List.getElem_cons_zero, Act.put, List.setIfInBounds_toArray, List.set_cons_zero, List.set_cons_succ]
    refine wpAnyH_take (i := 2) (v := ?_) rfl (by kernel_rfl) (by kernel_rfl) (by kernel_rfl) (fun _ _ _ h => h) (Or.inl ⟨by rfl, ?_⟩) (by assumption) ?_
    rotate_left
    · intro w' hSw
      try dsimp only at hSw
      go_simp; try rfl
    simp only [List.getElem_toArray, List.getElem_cons_succ, List.getElem_cons_zero, Act.put, List.setIfInBounds_toArray, List.set_cons_zero, List.set_cons_succ]
    refine wpAnyH_take (i := 3) (v := ?_) rfl (by kernel_rfl) (by kernel_rfl) (by kernel_rfl) (fun _ _ _ h => h) (Or.inl ⟨by rfl, ?_⟩) (by assumption) ?_
    rotate_left
    · intro w' hSw
      try dsimp only at hSw
      go_simp; try rfl
    simp only [List.getElem_toArray, List.getElem_cons_succ, List.getElem_cons_zero, Act.put, List.setIfInBounds_toArray, List.set_cons_zero, List.set_cons_succ]
    refine wpAnyH_take (i := 4) (v := ?_) rfl (by kernel_rfl) (by kernel_rfl) (by kernel_rfl) (fun _ _ _ h => h) (Or.inl ⟨by rfl, ?_⟩) (by assumption) ?_
    rotate_left
    · intro w' hSw
      try dsimp only at hSw
      go_simp; try rfl
    simp only [List.getElem_toArray, List.getElem_cons_succ, List.getElem_cons_zero, Act.put, List.setIfInBounds_toArray, List.set_cons_zero, List.set_cons_succ]
    refine wpAnyH_take (i := 5) (v := ?_) rfl (by kernel_rfl) (by kernel_rfl) (by kernel_rfl) (fun _ _ _ h => h) (Or.inl ⟨by rfl, ?_⟩) (by assumption) ?_
    rotate_left
    · intro w' hSw
      try dsimp only at hSw
      go_simp; try rfl
    simp only [List.getElem_toArray, List.getElem_cons_succ, List.getElem_cons_zero, Act.put, List.setIfInBounds_toArray, List.set_cons_zero, List.set_cons_succ]
    refine wpAnyH_take (i := 6) (v := ?_) rfl (by kernel_rfl) (by kernel_rfl) (by kernel_rfl) (fun _ _ _ h => h) (Or.inl ⟨by rfl, ?_⟩) (by assumption) ?_
    rotate_left
    · intro w' hSw
      try dsimp only at hSw
      go_simp; try rfl
    simp only [List.getElem_toArray, List.getElem_cons_succ, List.getElem_cons_zero, Act.put, List.setIfInBounds_toArray, List.set_cons_zero, List.set_cons_succ]
    obtain ⟨gb', fc', e2, x1, x2, x3, x4, x5, x6, _, HN⟩ := cpyWriteOwn HO.out hlty hyy (show t < (⟨y.i, y.c, y.n, y.v, y.f, y.f⟩ : Cpy).f.length from htl) x
    have e3 : some (Value.slice (some ⟨gb', 0, none⟩) y.f.length fc') = some (.slice (some ⟨gb, 0, none⟩) y.f.length fc7) := e2.symm.trans hHeld.1
    cases e3
    have HN2 := hide HN
    clear HN HO e2
    refine wpAnyH_ready (rs := [7]) (by kernel_rfl) (by simp) (AllReadyH.cons rfl (fun K hK => ?_) AllReadyH.nil)
    refine step_storeMid (by kernel_rfl) (by kernel_rfl) 48 _ _ rfl gb (t * 2) #[.bool x.r, .int .i64 x.n] (by kernel_rfl) (by kernel_rfl) (fun q hq => by
      have hq2 : q = 0 ∨ q = 1 := by simp at hq; omega
      rcases hq2 with rfl | rfl
      · exact ⟨x1, x2⟩
      · exact ⟨x3, x4⟩) (by kernel_rfl) (by simp [Value.oneCell']) ?_
    show K _ ((Z0.setCell ⟨gb, t * 2, none⟩ (.bool x.r)).setCell ⟨gb, t * 2 + 1, none⟩ (.int .i64 x.n))
    replace E0 := hide (((heap_setCell_other _ ⟨gb, t * 2 + 1, none⟩ (w.heap.size) (.int .i64 x.n) (by dsimp only; omega)).trans (heap_setCell_other Z0 ⟨gb, t * 2, none⟩ (w.heap.size) (.bool x.r) (by dsimp only; omega))).trans E0.out)
    replace HB := hide ((HB.out.setCell (p := ⟨gb, t * 2, none⟩) (by dsimp only; omega) (.bool x.r)).setCell (p := ⟨gb, t * 2 + 1, none⟩) (by dsimp only; omega) (.int .i64 x.n))
    have hz9 : Z0.heap.size ≤ (((Z0.setCell ⟨gb, t * 2, none⟩ (.bool x.r)).setCell ⟨gb, t * 2 + 1, none⟩ (.int .i64 x.n))).heap.size := by simp
    have hcg : (((Z0.setCell ⟨gb, t * 2, none⟩ (.bool x.r)).setCell ⟨gb, t * 2 + 1, none⟩ (.int .i64 x.n))).cell? ⟨g, j * 6 + 4, none⟩ = some (.slice (some ⟨gb, 0, none⟩) y.f.length fc7) := by
      exact (World.cell?_of_block (w := Z0) ((heap_setCell_other _ ⟨gb, t * 2 + 1, none⟩ g (.int .i64 x.n) (by dsimp only; omega)).trans (heap_setCell_other Z0 ⟨gb, t * 2, none⟩ g (.bool x.r) (by dsimp only; omega)))).trans hHeld.1
    refine hK.out _ _ ⟨hcg, (box_of E0.out).1 0 _ rfl, (box_of E0.out).1 1 _ rfl⟩ (fun hHeld => ?_)
    clear hK K
    try simp only [Act.put, List.setIfInBounds_toArray, List.set_cons_zero, List.set_cons_succ]
    clear hcg hHeld
    generalize ((Z0.setCell ⟨gb, t * 2, none⟩ (.bool x.r)).setCell ⟨gb, t * 2 + 1, none⟩ (.int .i64 x.n)) = Y at *
    refine wpAnyH_done (by kernel_rfl) ?_ _
    go_wp2
    go_end0
    refine ⟨rfl, ?_, HB.out⟩
    have h9 := HN2.out
    have eW : wrOne y (t : Int) x = ⟨y.i, y.c, y.n, y.v, y.f.set t x, y.f⟩ := by unfold wrOne; rw [if_pos hnil, Int.toNat_natCast]
    rw [eW]
    have eS : ∀ z : Cpy, ys.set j z = xs.set j z := fun z => by rw [← hys, List.set_set]
    rw [eS] at h9
    rw [hyl] at h9
    exact h9.up (by omega)
  | true =>
    have hne : ¬ y.t = [] := by
      intro h0
      have h1 := of_decide_eq_true ct
      rw [h0] at h1
      simp at h1
    go_upto_region 3 with fail
    obtain ⟨gb, fc7, hcell, _, _, _, _, hb1, hb2, hgg, _⟩ := cpyWriteOwn HO.out hlt hy htl x
    have hgb9 : gb < w.heap.size := by
      have e := hcell.symm.trans K4.out
      simp at e
      omega
    have HSs : Hid (Z1.cell? ⟨g, j * 6 + 4, none⟩ = some (.slice (some ⟨gb, 0, none⟩) y.f.length fc7) ∧ Z1.cell? ⟨w.heap.size, 0, none⟩ = some (.bool x.r) ∧ Z1.cell? ⟨w.heap.size, 1, none⟩ = some (.int .i64 x.n)) := hide ⟨hcell, (box_of E0.out).1 0 _ rfl, (box_of E0.out).1 1 _ rfl⟩
    refine wp_region_held_drew (S := fun w' => w'.cell? ⟨g, j * 6 + 4, none⟩ = some (.slice (some ⟨gb, 0, none⟩) y.f.length fc7) ∧ w'.cell? ⟨w.heap.size, 0, none⟩ = some (.bool x.r) ∧ w'.cell? ⟨w.heap.size, 1, none⟩ = some (.int .i64 x.n)) (by kernel_rfl) HSs.out (fun hHeld => ?_)
    have HDr := hide (Below.refl Z1.heap.size Z1).drew
    replace E0 := hide ((HDr.out.block _ (Array.getElem?_eq_some_iff.1 E0.out).1).trans E0.out)
    replace HB := hide (HB.out.trans (HDr.out.mono (Nat.le_trans (Nat.le_trans hb hh) HB.out.size)))
    replace HO := hide (HO.out.below HDr.out)
    have hz8 := HDr.out.size
    clear HDr hcell HSs
    generalize Z1.drew = Z0 at *
    refine wpAnyH_take (i := 0) (v := ?_) rfl (by kernel_rfl) (by kernel_rfl) (by kernel_rfl) (fun _ _ _ h => h) (Or.inl ⟨by rfl, ?_⟩) (by assumption) ?_
    rotate_left
    · intro w' hSw
      try dsimp only at hSw
      go_simp; try rfl
    simp only [List.getElem_toArray, List.getElem_cons_zero, Act.put, List.setIfInBounds_toArray, List.set_cons_zero, List.set_cons_succ]
    refine wpAnyH_take (i := 1) (v := ?_) rfl (by kernel_rfl) (by kernel_rfl) (by kernel_rfl) (fun _ _ _ h => h) (Or.inl ⟨by rfl, ?_⟩) (by assumption) ?_
    rotate_left
    · intro w' hSw
      try dsimp only at hSw
      go_simp; try rfl
    simp only [List.getElem_toArray, List.getElem_cons_succ, List.getElem_cons_zero, Act.put, List.setIfInBounds_toArray, List.set_cons_zero, List.set_cons_succ]
    refine wpAnyH_take (i := 2) (v := ?_) rfl (by kernel_rfl) (by kernel_rfl) (by kernel_rfl) (fun _ _ _ h => h) (Or.inl ⟨by rfl, ?_⟩) (by assumption) ?_
    rotate_left
    · intro w' hSw
      try dsimp only at hSw
      go_simp; try rfl
    simp only [List.getElem_toArray, List.getElem_cons_succ, List.getElem_cons_zero, Act.put, List.setIfInBounds_toArray, List.set_cons_zero, List.set_cons_succ]
    refine wpAnyH_take (i := 3) (v := ?_) rfl (by kernel_rfl) (by kernel_rfl) (by kernel_rfl) (fun _ _ _ h => h) (Or.inl ⟨by rfl, ?_⟩) (by assumption) ?_
    rotate_left
    · intro w' hSw
      try dsimp only at hSw
      go_simp; try rfl
    simp only [List.getElem_toArray, List.getElem_cons_succ, List.getElem_cons_zero, Act.put, List.setIfInBounds_toArray, List.set_cons_zero, List.set_cons_succ]
    refine wpAnyH_take (i := 4) (v := ?_) rfl (by kernel_rfl) (by kernel_rfl) (by kernel_rfl) (fun _ _ _ h => h) (Or.inl ⟨by rfl, ?_⟩) (by assumption) ?_
    rotate_left
    · intro w' hSw
      try dsimp only at hSw
      go_simp; try rfl
    simp only [List.getElem_toArray, List.getElem_cons_succ, List.getElem_cons_zero, Act.put, List.setIfInBounds_toArray, List.set_cons_zero, List.set_cons_succ]
    refine wpAnyH_take (i := 5) (v := ?_) rfl (by kernel_rfl) (by kernel_rfl) (by kernel_rfl) (fun _ _ _ h => h) (Or.inl ⟨by rfl, ?_⟩) (by assumption) ?_
    rotate_left
    · intro w' hSw
      try dsimp only at hSw
      go_simp; try rfl
    simp only [List.getElem_toArray, List.getElem_cons_succ, List.getElem_cons_zero, Act.put, List.setIfInBounds_toArray, List.set_cons_zero, List.set_cons_succ]
    refine wpAnyH_take (i := 6) (v := ?_) rfl (by kernel_rfl) (by kernel_rfl) (by kernel_rfl) (fun _ _ _ h => h) (Or.inl ⟨by rfl, ?_⟩) (by assumption) ?_
    rotate_left
    · intro w' hSw
      try dsimp only at hSw
      go_simp; try rfl
    simp only [List.getElem_toArray, List.getElem_cons_succ, List.getElem_cons_zero, Act.put, List.setIfInBounds_toArray, List.set_cons_zero, List.set_cons_succ]
    obtain ⟨gb', fc', e2, x1, x2, x3, x4, x5, x6, _, HN⟩ := cpyWriteOwn HO.out hlt hy htl x
    have e3 : some (Value.slice (some ⟨gb', 0, none⟩) y.f.length fc') = some (.slice (some ⟨gb, 0, none⟩) y.f.length fc7) := e2.symm.trans hHeld.1
    cases e3
    have HN2 := hide HN
    clear HN HO e2
    refine wpAnyH_ready (rs := [7]) (by kernel_rfl) (by simp) (AllReadyH.cons rfl (fun K hK => ?_) AllReadyH.nil)
    refine step_storeMid (by kernel_rfl) (by kernel_rfl) 48 _ _ rfl gb (t * 2) #[.bool x.r, .int .i64 x.n] (by kernel_rfl) (by kernel_rfl) (fun q hq => by
      have hq2 : q = 0 ∨ q = 1 := by simp at hq; omega
      rcases hq2 with rfl | rfl
      · exact ⟨x1, x2⟩
      · exact ⟨x3, x4⟩) (by kernel_rfl) (by simp [Value.oneCell']) ?_
    show K _ ((Z0.setCell ⟨gb, t * 2, none⟩ (.bool x.r)).setCell ⟨gb, t * 2 + 1, none⟩ (.int .i64 x.n))
    replace E0 := hide (((heap_setCell_other _ ⟨gb, t * 2 + 1, none⟩ (w.heap.size) (.int .i64 x.n) (by dsimp only; omega)).trans (heap_setCell_other Z0 ⟨gb, t * 2, none⟩ (w.heap.size) (.bool x.r) (by dsimp only; omega))).trans E0.out)
    replace HB := hide ((HB.out.setCell (p := ⟨gb, t * 2, none⟩) (by dsimp only; omega) (.bool x.r)).setCell (p := ⟨gb, t * 2 + 1, none⟩) (by dsimp only; omega) (.int .i64 x.n))
    have hz9 : Z0.heap.size ≤ (((Z0.setCell ⟨gb, t * 2, none⟩ (.bool x.r)).setCell ⟨gb, t * 2 + 1, none⟩ (.int .i64 x.n))).heap.size := by simp
    have hcg : (((Z0.setCell ⟨gb, t * 2, none⟩ (.bool x.r)).setCell ⟨gb, t * 2 + 1, none⟩ (.int .i64 x.n))).cell? ⟨g, j * 6 + 4, none⟩ = some (.slice (some ⟨gb, 0, none⟩) y.f.length fc7) := by
      exact (World.cell?_of_block (w := Z0) ((heap_setCell_other _ ⟨gb, t * 2 + 1, none⟩ g (.int .i64 x.n) (by dsimp only; omega)).trans (heap_setCell_other Z0 ⟨gb, t * 2, none⟩ g (.bool x.r) (by dsimp only; omega)))).trans hHeld.1
    refine hK.out _ _ ⟨hcg, (box_of E0.out).1 0 _ rfl, (box_of E0.out).1 1 _ rfl⟩ (fun hHeld => ?_)
    clear hK K
    try simp only [Act.put, List.setIfInBounds_toArray, List.set_cons_zero, List.set_cons_succ]
    clear hcg hHeld
    generalize ((Z0.setCell ⟨gb, t * 2, none⟩ (.bool x.r)).setCell ⟨gb, t * 2 + 1, none⟩ (.int .i64 x.n)) = Y at *
    refine wpAnyH_done (by kernel_rfl) ?_ _
    go_wp2
    go_end0
    refine ⟨rfl, ?_, HB.out⟩
    have h9 := HN2.out
    have eW : wrOne y (t : Int) x = ⟨y.i, y.c, y.n, y.v, y.f.set t x, y.t⟩ := by unfold wrOne; rw [if_neg hne, Int.toNat_natCast]
    rw [eW]
    exact h9.up (by omega)
end Go.Proofs.Ytofnpgheppgcaaa
