/-
  One memory in the program: whether objects are right.
-/
import Derived.Test.YthlaihkpffddcaaJ36
import Derived.Test.YthlaihkpffddcaaJ37
namespace Go.Proofs.Ythlaihkpffddcaa
open Go.RowKit Go.Shelf

attribute [local go_sem] Oper.semAt_some

def objRt (ks : List Kd) (y : Ob) : Bool := inB y.c 0 ((ks.length : Int) - 1) && fitsT (ks.getD y.c.toNat default).f y.f
theorem keepsFrom_below {B : Nat} {W W' : World} (hb : Below W.heap.size W W') : KeepsFrom B W W' := ⟨hb.size, fun k _ _ hk _ => (hb.block k (Array.getElem?_eq_some_iff.1 hk).1).trans hk⟩
set_option maxRecDepth 100000 in
set_option maxHeartbeats 16000000 in
theorem objectsRightI (w : World) (x : Pg) (u : Value) (m : Mm) (u1 u2 : Value) (h : Reads w w.heap.size (kins x.k) u) (h1 : Reads w w.heap.size (obs m.o) u1) (h2 : Reads w w.heap.size (lks m.l) u2) (hg : kinsG x.k) (hgm : obsG m.o) :
    Calls Try.prog 46 #[pgV x u, mmV m u1 u2] w fun e w' => e = .returned (.bool (m.o.all (objRt x.k))) ∧ Below w.heap.size w w' := by
  refine (callsIn_wide (n := 3)).1 ?_
  obtain ⟨uf, hO, hR⟩ := ObsAt.of h1
  have HO := hide hO
  have HRR := hide hR
  have HR := hide h
  have hm := hgm.1
  have HGM := hide hgm
  have hmk := hg.1
  have HGK := hide hg
  obtain ⟨a0, c0, e0, _⟩ := h.shape
  obtain ⟨a1, c1, e1, _⟩ := h1.shape
  obtain ⟨a2, c2, e2, _⟩ := h2.shape
  subst e0 e1 e2
  clear h h1 h2 hg hgm hO hR
  have bA := (((((Below.refl w.heap.size w).alloc (Nat.le_refl _) (.cells #[.slice a0 x.k.length c0] 34)).alloc (by simp) (.cells #[.slice a1 m.o.length c1, .slice a2 m.l.length c2] 39)).alloc (by simp <;> omega) (.cells #[.bool false] 4)).alloc (by simp <;> omega) (.cells #[.slice a1 m.o.length c1, .slice a2 m.l.length c2] 39))
  have G0 := heap_alloc_new w (.cells #[.slice a0 x.k.length c0] 34)
  have G1 := heap_alloc_new (w.alloc (.cells #[.slice a0 x.k.length c0] 34)) (.cells #[.slice a1 m.o.length c1, .slice a2 m.l.length c2] 39)
  have G2 := heap_alloc_new ((w.alloc (.cells #[.slice a0 x.k.length c0] 34)).alloc (.cells #[.slice a1 m.o.length c1, .slice a2 m.l.length c2] 39)) (.cells #[.bool false] 4)
  have G3 := heap_alloc_new (((w.alloc (.cells #[.slice a0 x.k.length c0] 34)).alloc (.cells #[.slice a1 m.o.length c1, .slice a2 m.l.length c2] 39)).alloc (.cells #[.bool false] 4)) (.cells #[.slice a1 m.o.length c1, .slice a2 m.l.length c2] 39)
  simp only [World.size_alloc] at G1 G2 G3
  have E0 := hide ((Below.heap_alloc _ (.cells #[.slice a1 m.o.length c1, .slice a2 m.l.length c2] 39) _ (by simp <;> omega)).trans ((Below.heap_alloc _ (.cells #[.bool false] 4) _ (by simp <;> omega)).trans ((Below.heap_alloc _ (.cells #[.slice a1 m.o.length c1, .slice a2 m.l.length c2] 39) _ (by simp)).trans (G0))))
  have E1 := hide ((Below.heap_alloc _ (.cells #[.slice a1 m.o.length c1, .slice a2 m.l.length c2] 39) _ (by simp <;> omega)).trans ((Below.heap_alloc _ (.cells #[.bool false] 4) _ (by simp)).trans (G1)))
  have E2 := hide ((Below.heap_alloc _ (.cells #[.slice a1 m.o.length c1, .slice a2 m.l.length c2] 39) _ (by simp)).trans (G2))
  have E3 := hide (G3)
  have HB := hide bA
  replace HO := hide (HO.out.below bA)
  clear bA G0 G1 G2 G3
  unfold mmV pgV
  refine callsIn_of_wp_marks Try.func46 rfl trivial ?_ rfl
  simp only [Try.ntmps46, List.size_toArray, List.length_cons, List.length_nil, Nat.reduceAdd, Nat.reduceSub, Array.replicate_succ, Array.replicate_zero, List.push_toArray, List.append_toArray, List.nil_append, List.cons_append]
  gi_wp2_with (refine ⟨trivial, ?_⟩; gi_at_call 73; refine (objects_in Fence.wide 2 trivial rfl _ _ _).mono ?_; rintro e w' ⟨rfl, rfl⟩)
  have hsz : ((((w.alloc (.cells #[.slice a0 x.k.length c0] 34)).alloc (.cells #[.slice a1 m.o.length c1, .slice a2 m.l.length c2] 39)).alloc (.cells #[.bool false] 4)).alloc (.cells #[.slice a1 m.o.length c1, .slice a2 m.l.length c2] 39)).heap.size = w.heap.size + 4 := by simp
  try simp only [World.size_alloc]
  generalize ((((w.alloc (.cells #[.slice a0 x.k.length c0] 34)).alloc (.cells #[.slice a1 m.o.length c1, .slice a2 m.l.length c2] 39)).alloc (.cells #[.bool false] 4)).alloc (.cells #[.slice a1 m.o.length c1, .slice a2 m.l.length c2] 39)) = W0 at *
  refine wpIn_rangeFunc_ownH (F := Fence.wide) (n := 3) rfl (by omega) (gf := 98) (lb := #[.pointer (some ⟨w.heap.size + 1 + 1 + 1, 0, none⟩)]) rfl trivial (enters_of Try.func98 (by kernel_rfl) rfl)
    (objects_stops Fence.wide (3 - 1) trivial rfl (by omega) (w.heap.size + 1 + 1 + 1) w.heap.size _ m.o uf hm W0 (by omega) (by omega) ((box_of E3.out).1 0 _ rfl) HO.out) belowK_t (belowK_b (by omega)) (Below.refl _ _) (fun _ => rfl)
    (fun pre W => (((∀ z ∈ pre, objRt x.k (m.o.getD z.1 default) = true) ∧ W.heap[w.heap.size]? = some (.cells #[.slice a0 x.k.length c0] 34 (0, 0))) ∧ W.heap[w.heap.size + 1 + 1]? = some (.cells #[.bool false] 4 (0, 0))) ∧ Below w.heap.size w W)
    (fun c pre W => (c = .ret ∧ ∃ z, z ∈ pre ∧ objRt x.k (m.o.getD z.1 default) = false ∧ W.heap[w.heap.size + 1 + 1]? = some (.cells #[.bool false] 4 (0, 0))) ∧ Below w.heap.size w W)
    (OwnFrom.and (OwnFrom.and (OwnFrom.and (ownFrom_pure _ _) (Go.Own.from (blk_own _ _ _) _)) (Go.Own.from (blk_own _ _ _) _)) (ownFrom_below (Nat.le_refl _) (by omega)))
    (fun c => OwnFrom.and (fun s X Y row hs hg hr => by
      obtain ⟨g1, z, g3, g4, g5⟩ := hs
      exact ⟨g1, z, g3, g4, blk_own _ _ (fun _ : Unit => _) () X Y row g5 hg (fun r e => (hr r e).2)⟩) (ownFrom_below (Nat.le_refl _) (by omega)))
    ⟨⟨⟨by simp, E0.out⟩, E2.out⟩, HB.out⟩
    (fun z a' W => ∃ Bx, w.heap.size + 2 < Bx ∧ W.heap[Bx]? = some (.cells #[.int .i64 (m.o.getD z.1 default).i, .int .i64 (m.o.getD z.1 default).c, .slice (uf z.1).1 (m.o.getD z.1 default).f.length (uf z.1).2] 51 (0, 0)) ∧ a' = { tmps := #[.agg #[.slice a0 x.k.length c0], .agg #[.slice a1 m.o.length c1, .slice a2 m.l.length c2], .pointer (some ⟨w.heap.size, 0, none⟩), .pointer (some ⟨w.heap.size + 1, 0, none⟩), .pointer (some ⟨w.heap.size + 1 + 1, 0, none⟩), .pointer (some ⟨Bx, 0, none⟩), .agg #[.slice a1 m.o.length c1, .slice a2 m.l.length c2], .func (.func 98) #[] #[.pointer (some ⟨w.heap.size + 1 + 1 + 1, 0, none⟩)], .agg #[.int .i64 (m.o.getD z.1 default).i, .int .i64 (m.o.getD z.1 default).c, .slice (uf z.1).1 (m.o.getD z.1 default).f.length (uf z.1).2], undef, undef, undef, undef, undef, undef, undef, undef, undef, undef, undef, undef, undef, undef, undef, undef, undef], defers := [] })
    (fun z a' _ X Y row hs hg hr => by obtain ⟨Bx, e1, e2, e3⟩ := hs; exact ⟨Bx, e1, blk_own Bx _ (fun _ : Unit => _) () X Y row e2 hg (fun r e => (hr r e).2), e3⟩)
    ?assign ?body ?done ?stop
  case assign =>
    rintro l pre z W K ⟨⟨⟨hp, b1⟩, b2⟩, hB1⟩ hK
    unfold obE
    have lt1 := (Array.getElem?_eq_some_iff.1 b1).1
    have lt2 := (Array.getElem?_eq_some_iff.1 b2).1
    generalize m.o.getD z.1 default = y at *
    generalize (uf z.1).1 = ua at *
    generalize (uf z.1).2 = uc at *
    gi_wp2
    exact hK _ _ ((KeepsOthers.alloc _ _).from _) ((Below.refl _ W).alloc hB1.size _) ⟨⟨⟨hp, (Below.heap_alloc W _ _ lt1).trans b1⟩, (Below.heap_alloc W _ _ lt2).trans b2⟩, hB1.alloc hB1.size _⟩ ⟨W.heap.size, by omega, World.alloc_heap_new W _, rfl⟩
  case body =>
    rintro l pre z a' W hl ⟨r, hr⟩ ⟨⟨⟨hp, b1⟩, b2⟩, hB1⟩ ⟨Bx, hBx, bX, rfl⟩ hlt
    have lt1 := (Array.getElem?_eq_some_iff.1 b1).1
    have lt2 := (Array.getElem?_eq_some_iff.1 b2).1
    have hrf := HRR.out z.1 z.2
    obtain ⟨y, hy⟩ : ∃ y, m.o.getD z.1 default = y := ⟨_, rfl⟩
    obtain ⟨ua, hua⟩ : ∃ y, (uf z.1).1 = y := ⟨_, rfl⟩
    obtain ⟨uc, huc⟩ : ∃ y, (uf z.1).2 = y := ⟨_, rfl⟩
    have HY := hide hy
    rw [hy, hua, huc] at bX hrf
    rw [hy, hua, huc]
    have RF := hide (hrf.at hB1)
    clear hy hua huc hrf
    cases ci : inB y.c 0 ((x.k.length : Int) - 1) with
    | false =>
      have HC : Hid (objRt x.k y = false) := hide (by unfold objRt; rw [ci]; rfl)
      have hasC := fun w => hasImpl w x a0 x.k.length c0 y.c hmk
      simp only [ci] at hasC
      clear ci
      gi_wp2
      have HCL : Hid (∀ w', Below W.heap.size W w' → w'.cell? ⟨w.heap.size, 0, none⟩ = some (.slice a0 x.k.length c0) ∧ w'.cell? ⟨Bx, 1, none⟩ = some (.int .i64 y.c)) := hide (fun w' hb => ⟨(box_of ((hb.block _ (Array.getElem?_eq_some_iff.1 b1).1).trans b1)).1 0 _ rfl, (box_of ((hb.block _ (Array.getElem?_eq_some_iff.1 bX).1).trans bX)).1 1 _ rfl⟩)
      have HW := hide (Below.refl W.heap.size W).drew
      refine wpIn_held_drew (S := fun w' => w'.cell? ⟨w.heap.size, 0, none⟩ = some (.slice a0 x.k.length c0) ∧ w'.cell? ⟨Bx, 1, none⟩ = some (.int .i64 y.c)) (by kernel_rfl) (by kernel_rfl) (by rintro ⟨_, _, h⟩; exact h) (HCL.out _ HW.out) (fun hHeld => ?_)
      generalize W.drew = Z0 at *
      refine wpAnyH_take (i := 0) (v := ?_) rfl (by kernel_rfl) (by kernel_rfl) (by kernel_rfl) (fun _ _ _ h => h) (Or.inl ⟨by rfl, ?_⟩) (by assumption) ?_
      rotate_left
      · intro w' hSw
        try dsimp only at hSw
        go_simp; try rfl
      simp only [List.getElem_toArray, List.getElem_cons_zero, Act.put, List.setIfInBounds_toArray, List.set_cons_zero, List.set_cons_succ]
      refine wpAnyH_take (i := 1) (v := ?_) rfl (by kernel_rfl) (by kernel_rfl) (by kernel_rfl) (fun _ _ _ h => h) (Or.inl ⟨by rfl, ?_⟩) (by assumption) ?_
      rotate_left
      · intro w' hSw
        try dsimp only at hSw
        go_simp; try rfl
      simp only [List.getElem_toArray, List.getElem_cons_succ, List.getElem_cons_zero, Act.put, List.setIfInBounds_toArray, List.set_cons_zero, List.set_cons_succ]
      refine wpAnyH_take (i := 2) (v := ?_) rfl (by kernel_rfl) (by kernel_rfl) (by kernel_rfl) (fun _ _ _ h => h) (Or.inl ⟨by rfl, ?_⟩) (by assumption) ?_
      rotate_left
      · intro w' hSw
        try dsimp only at hSw
        go_simp; try rfl
      simp only [List.getElem_toArray, List.getElem_cons_succ, List.getElem_cons_zero, Act.put, List.setIfInBounds_toArray, List.set_cons_zero, List.set_cons_succ]
      refine wpAnyH_ready (rs := [3]) (by kernel_rfl) (by simp) (AllReadyH.cons rfl (fun K hK => ?_) AllReadyH.nil)
      refine step_callW (some 12) (by kernel_rfl) (by kernel_rfl) 74 _ _ rfl #[.agg #[.slice a0 x.k.length c0], .int .i64 y.c] (by kernel_rfl) (hasC _) ?_
      rintro e Z1 ⟨rfl, b9⟩
      replace HW := hide (HW.out.trans (b9.mono HW.out.size))
      clear b9
      refine ⟨_, rfl, ?_⟩
      refine hK.out _ _ (HCL.out _ HW.out) (fun hHeld => ?_)
      clear hK K
      simp only [Act.put, List.setIfInBounds_toArray, List.set_cons_zero, List.set_cons_succ]
      refine wpAnyH_take (i := 4) (v := ?_) rfl (by kernel_rfl) (by kernel_rfl) (by kernel_rfl) (fun _ _ _ h => h) (Or.inl ⟨by rfl, ?_⟩) (by assumption) ?_
      rotate_left
      · intro w' hSw
        try dsimp only at hSw
        go_simp; try rfl
      simp only [List.getElem_toArray, List.getElem_cons_succ, List.getElem_cons_zero, Act.put, List.setIfInBounds_toArray, List.set_cons_zero, List.set_cons_succ]
      refine wpAnyH_take (i := 5) (v := ?_) rfl (by kernel_rfl) (by kernel_rfl) (by kernel_rfl) (fun _ _ _ h => h) (Or.inl ⟨by rfl, ?_⟩) (by assumption) ?_
      rotate_left
      · intro w' hSw
        try dsimp only at hSw
        go_simp; try rfl
      simp only [List.getElem_toArray, List.getElem_cons_succ, List.getElem_cons_zero, Act.put, List.setIfInBounds_toArray, List.set_cons_zero, List.set_cons_succ]
      refine wpAnyH_take (i := 6) (v := undef) rfl (by kernel_rfl) (by kernel_rfl) (by kernel_rfl) (fun _ _ _ h => h) (Or.inr ⟨by rfl, rfl⟩) (by assumption) ?_
      simp only [List.getElem_toArray, List.getElem_cons_succ, List.getElem_cons_zero, Act.put, List.setIfInBounds_toArray, List.set_cons_zero, List.set_cons_succ]
      refine wpAnyH_take (i := 7) (v := undef) rfl (by kernel_rfl) (by kernel_rfl) (by kernel_rfl) (fun _ _ _ h => h) (Or.inr ⟨by rfl, rfl⟩) (by assumption) ?_
      simp only [List.getElem_toArray, List.getElem_cons_succ, List.getElem_cons_zero, Act.put, List.setIfInBounds_toArray, List.set_cons_zero, List.set_cons_succ]
      refine wpAnyH_take (i := 8) (v := undef) rfl (by kernel_rfl) (by kernel_rfl) (by kernel_rfl) (fun _ _ _ h => h) (Or.inr ⟨by rfl, rfl⟩) (by assumption) ?_
      simp only [List.getElem_toArray, List.getElem_cons_succ, List.getElem_cons_zero, Act.put, List.setIfInBounds_toArray, List.set_cons_zero, List.set_cons_succ]
      refine wpAnyH_take (i := 9) (v := undef) rfl (by kernel_rfl) (by kernel_rfl) (by kernel_rfl) (fun _ _ _ h => h) (Or.inr ⟨by rfl, rfl⟩) (by assumption) ?_
      simp only [List.getElem_toArray, List.getElem_cons_succ, List.getElem_cons_zero, Act.put, List.setIfInBounds_toArray, List.set_cons_zero, List.set_cons_succ]
      refine wpAnyH_take (i := 10) (v := undef) rfl (by kernel_rfl) (by kernel_rfl) (by kernel_rfl) (fun _ _ _ h => h) (Or.inr ⟨by rfl, rfl⟩) (by assumption) ?_
      simp only [List.getElem_toArray, List.getElem_cons_succ, List.getElem_cons_zero, Act.put, List.setIfInBounds_toArray, List.set_cons_zero, List.set_cons_succ]
      refine wpAnyH_take (i := 11) (v := undef) rfl (by kernel_rfl) (by kernel_rfl) (by kernel_rfl) (fun _ _ _ h => h) (Or.inr ⟨by rfl, rfl⟩) (by assumption) ?_
      simp only [List.getElem_toArray, List.getElem_cons_succ, List.getElem_cons_zero, Act.put, List.setIfInBounds_toArray, List.set_cons_zero, List.set_cons_succ]
      refine wpAnyH_take (i := 12) (v := undef) rfl (by kernel_rfl) (by kernel_rfl) (by kernel_rfl) (fun _ _ _ h => h) (Or.inr ⟨by rfl, rfl⟩) (by assumption) ?_
      simp only [List.getElem_toArray, List.getElem_cons_succ, List.getElem_cons_zero, Act.put, List.setIfInBounds_toArray, List.set_cons_zero, List.set_cons_succ]
      refine wpAnyH_take (i := 13) (v := undef) rfl (by kernel_rfl) (by kernel_rfl) (by kernel_rfl) (fun _ _ _ h => h) (Or.inr ⟨by rfl, rfl⟩) (by assumption) ?_
      simp only [List.getElem_toArray, List.getElem_cons_succ, List.getElem_cons_zero, Act.put, List.setIfInBounds_toArray, List.set_cons_zero, List.set_cons_succ]
      refine wpAnyH_take (i := 14) (v := undef) rfl (by kernel_rfl) (by kernel_rfl) (by kernel_rfl) (fun _ _ _ h => h) (Or.inr ⟨by rfl, rfl⟩) (by assumption) ?_
      simp only [List.getElem_toArray, List.getElem_cons_succ, List.getElem_cons_zero, Act.put, List.setIfInBounds_toArray, List.set_cons_zero, List.set_cons_succ]
      refine wpAnyH_take (i := 15) (v := undef) rfl (by kernel_rfl) (by kernel_rfl) (by kernel_rfl) (fun _ _ _ h => h) (Or.inr ⟨by rfl, rfl⟩) (by assumption) ?_
      simp only [List.getElem_toArray, List.getElem_cons_succ, List.getElem_cons_zero, Act.put, List.setIfInBounds_toArray, List.set_cons_zero, List.set_cons_succ]
      refine wpAnyH_take (i := 16) (v := ?_) rfl (by kernel_rfl) (by kernel_rfl) (by kernel_rfl) (fun _ _ _ h => h) (Or.inl ⟨by rfl, ?_⟩) (by assumption) ?_
      rotate_left
      · intro w' hSw
        try dsimp only at hSw
        go_simp; try rfl
      simp only [List.getElem_toArray, List.getElem_cons_succ, List.getElem_cons_zero, Act.put, List.setIfInBounds_toArray, List.set_cons_zero, List.set_cons_succ]
      refine wpAnyH_done (by kernel_rfl) ?_ _
      have HZ := hide (hB1.trans (HW.out.mono hB1.size))
      have b2z := (HW.out.block _ lt2).trans b2
      have t0 := (box_of b2z).1 0 _ rfl
      have tz := (box_of b2z).2
      have HKF := hide (keepsFrom_below (B := W0.heap.size) HW.out)
      clear HCL hHeld
      gi_wp2
      exact ⟨HKF.out.trans ((KeepsOthers.setCell _ _ _).from _), ⟨rfl, z, List.mem_append.2 (.inr (by simp)), by rw [HY.out]; exact HC.out, heap_setCell_same _ _ 0 _ 4 _ b2z⟩, HZ.out.setCell (by simp <;> omega) _⟩
    | true =>
      have hin := inB_yes ci
      obtain ⟨j, hj⟩ : ∃ j : Nat, y.c = (j : Int) := ⟨y.c.toNat, by omega⟩
      have hltk : j < x.k.length := by omega
      have hltI : (j : Int) < (x.k.length : Int) := by omega
      have HCC : Hid (objRt x.k y = fitsT (x.k.getD j default).f y.f) := hide (by unfold objRt; rw [ci, hj, Int.toNat_natCast]; rfl)
      obtain ⟨_, _, ea, _, _, hc⟩ := kind_at (HR.out.at hB1)
      cases ea
      obtain ⟨b, o, rfl, hbb, hcell⟩ := hc (by omega)
      obtain ⟨pv1, pv2, pv3, d0, d1, d2, d3, d4, r1, r2, r3⟩ := hcell j hltk
      have hkf := (getD_mem HGK.out.2 j hltk).f.1
      clear hcell hc
      obtain ⟨KD, hKD⟩ : ∃ K, x.k.getD j default = K := ⟨_, rfl⟩
      rw [hKD] at d0 d1 r1 r2 r3 HCC hkf
      clear hKD
      obtain ⟨f1, g1, e1, _⟩ := r1.shape
      obtain ⟨f2, g2, e2, _⟩ := r2.shape
      obtain ⟨f3, g3, e3, _⟩ := r3.shape
      subst e1 e2 e3
      have R2 := hide r2
      clear r1 r2 r3
      have hasC := fun w => hasImpl w x (some ⟨b, o, none⟩) x.k.length c0 (j : Int) hmk
      rw [hj] at bX ci
      rw [hj]
      simp only [ci] at hasC
      clear ci hin hj
      cases cf : fitsT KD.f y.f with
      | false =>
        have HC : Hid (objRt x.k y = false) := hide (HCC.out.trans cf)
        have fC := fun (Z : World) (hb : Below W.heap.size W Z) => fieldsTakeI Z KD f1 f2 f3 g1 g2 g3 y.f ua uc (R2.out.at hb) (RF.out.at hb) hkf
        simp only [cf] at fC
        gi_wp2
        have HCL : Hid (∀ w', Below W.heap.size W w' → w'.cell? ⟨w.heap.size, 0, none⟩ = some (.slice (some ⟨b, o, none⟩) x.k.length c0) ∧ w'.cell? ⟨Bx, 1, none⟩ = some (.int .i64 (j : Int)) ∧ w'.cell? ⟨Bx, 2, none⟩ = some (.slice ua y.f.length uc) ∧ w'.cell? ⟨b, o + j * 5, none⟩ = some (.string KD.n) ∧ w'.cell? ⟨b, o + j * 5 + 1, none⟩ = some (.int .i64 KD.s) ∧ w'.cell? ⟨b, o + j * 5 + 2, none⟩ = some (.slice f1 KD.p.length g1) ∧ w'.cell? ⟨b, o + j * 5 + 3, none⟩ = some (.slice f2 KD.f.length g2) ∧ w'.cell? ⟨b, o + j * 5 + 4, none⟩ = some (.slice f3 KD.m.length g3)) := hide (fun w' hb => ⟨(box_of ((hb.block _ (Array.getElem?_eq_some_iff.1 b1).1).trans b1)).1 0 _ rfl, (box_of ((hb.block _ (Array.getElem?_eq_some_iff.1 bX).1).trans bX)).1 1 _ rfl, (box_of ((hb.block _ (Array.getElem?_eq_some_iff.1 bX).1).trans bX)).1 2 _ rfl, (hb.cell (p := ⟨b, o + j * 5, none⟩) hbb).trans d0, (hb.cell (p := ⟨b, o + j * 5 + 1, none⟩) hbb).trans d1, (hb.cell (p := ⟨b, o + j * 5 + 2, none⟩) hbb).trans d2, (hb.cell (p := ⟨b, o + j * 5 + 3, none⟩) hbb).trans d3, (hb.cell (p := ⟨b, o + j * 5 + 4, none⟩) hbb).trans d4⟩)
        have HW := hide (Below.refl W.heap.size W).drew
        refine wpIn_held_drew (S := fun w' => w'.cell? ⟨w.heap.size, 0, none⟩ = some (.slice (some ⟨b, o, none⟩) x.k.length c0) ∧ w'.cell? ⟨Bx, 1, none⟩ = some (.int .i64 (j : Int)) ∧ w'.cell? ⟨Bx, 2, none⟩ = some (.slice ua y.f.length uc) ∧ w'.cell? ⟨b, o + j * 5, none⟩ = some (.string KD.n) ∧ w'.cell? ⟨b, o + j * 5 + 1, none⟩ = some (.int .i64 KD.s) ∧ w'.cell? ⟨b, o + j * 5 + 2, none⟩ = some (.slice f1 KD.p.length g1) ∧ w'.cell? ⟨b, o + j * 5 + 3, none⟩ = some (.slice f2 KD.f.length g2) ∧ w'.cell? ⟨b, o + j * 5 + 4, none⟩ = some (.slice f3 KD.m.length g3)) (by kernel_rfl) (by kernel_rfl) (by rintro ⟨_, _, h⟩; exact h) (HCL.out _ HW.out) (fun hHeld => ?_)
        generalize W.drew = Z0 at *
        refine wpAnyH_take (i := 0) (v := ?_) rfl (by kernel_rfl) (by kernel_rfl) (by kernel_rfl) (fun _ _ _ h => h) (Or.inl ⟨by rfl, ?_⟩) (by assumption) ?_
        rotate_left
        · intro w' hSw
          try dsimp only at hSw
          go_simp; try rfl
        simp only [List.getElem_toArray, List.getElem_cons_zero, Act.put, List.setIfInBounds_toArray, List.set_cons_zero, List.set_cons_succ]
        refine wpAnyH_take (i := 1) (v := ?_) rfl (by kernel_rfl) (by kernel_rfl) (by kernel_rfl) (fun _ _ _ h => h) (Or.inl ⟨by rfl, ?_⟩) (by assumption) ?_
        rotate_left
        · intro w' hSw
          try dsimp only at hSw
          go_simp; try rfl
        simp only [List.getElem_toArray, List.getElem_cons_succ, List.getElem_cons_zero, Act.put, List.setIfInBounds_toArray, List.set_cons_zero, List.set_cons_succ]
        refine wpAnyH_take (i := 2) (v := ?_) rfl (by kernel_rfl) (by kernel_rfl) (by kernel_rfl) (fun _ _ _ h => h) (Or.inl ⟨by rfl, ?_⟩) (by assumption) ?_
        rotate_left
        · intro w' hSw
          try dsimp only at hSw
          go_simp; try rfl
        simp only [List.getElem_toArray, List.getElem_cons_succ, List.getElem_cons_zero, Act.put, List.setIfInBounds_toArray, List.set_cons_zero, List.set_cons_succ]
        refine wpAnyH_ready (rs := [3]) (by kernel_rfl) (by simp) (AllReadyH.cons rfl (fun K hK => ?_) AllReadyH.nil)
        refine step_callW (some 12) (by kernel_rfl) (by kernel_rfl) 74 _ _ rfl #[.agg #[.slice (some ⟨b, o, none⟩) x.k.length c0], .int .i64 (j : Int)] (by kernel_rfl) (hasC _) ?_
        rintro e Z1 ⟨rfl, b9⟩
        replace HW := hide (HW.out.trans (b9.mono HW.out.size))
        clear b9
        refine ⟨_, rfl, ?_⟩
        refine hK.out _ _ (HCL.out _ HW.out) (fun hHeld => ?_)
        clear hK K
        simp only [Act.put, List.setIfInBounds_toArray, List.set_cons_zero, List.set_cons_succ]
        refine wpAnyH_take (i := 4) (v := ?_) rfl (by kernel_rfl) (by kernel_rfl) (by kernel_rfl) (fun _ _ _ h => h) (Or.inl ⟨by rfl, ?_⟩) (by assumption) ?_
        rotate_left
        · intro w' hSw
          try dsimp only at hSw
          go_simp; try rfl
        simp only [List.getElem_toArray, List.getElem_cons_succ, List.getElem_cons_zero, Act.put, List.setIfInBounds_toArray, List.set_cons_zero, List.set_cons_succ]
        refine wpAnyH_take (i := 5) (v := ?_) rfl (by kernel_rfl) (by kernel_rfl) (by kernel_rfl) (fun _ _ _ h => h) (Or.inl ⟨by rfl, ?_⟩) (by assumption) ?_
        rotate_left
        · intro w' hSw
          try dsimp only at hSw
          go_simp; try rfl
        simp only [List.getElem_toArray, List.getElem_cons_succ, List.getElem_cons_zero, Act.put, List.setIfInBounds_toArray, List.set_cons_zero, List.set_cons_succ]
        refine wpAnyH_take (i := 6) (v := ?_) rfl (by kernel_rfl) (by kernel_rfl) (by kernel_rfl) (fun _ _ _ h => h) (Or.inl ⟨by rfl, ?_⟩) (by assumption) ?_
        rotate_left
        · intro w' hSw
          try dsimp only at hSw
          go_simp; try rfl
        simp only [List.getElem_toArray, List.getElem_cons_succ, List.getElem_cons_zero, Act.put, List.setIfInBounds_toArray, List.set_cons_zero, List.set_cons_succ]
        refine wpAnyH_take (i := 7) (v := ?_) rfl (by kernel_rfl) (by kernel_rfl) (by kernel_rfl) (fun _ _ _ h => h) (Or.inl ⟨by rfl, ?_⟩) (by assumption) ?_
        rotate_left
        · intro w' hSw
          try dsimp only at hSw
          go_simp; try rfl
        simp only [List.getElem_toArray, List.getElem_cons_succ, List.getElem_cons_zero, Act.put, List.setIfInBounds_toArray, List.set_cons_zero, List.set_cons_succ]
        refine wpAnyH_take (i := 8) (v := ?_) rfl (by kernel_rfl) (by kernel_rfl) (by kernel_rfl) (fun _ _ _ h => h) (Or.inl ⟨by rfl, ?_⟩) (by assumption) ?_
        rotate_left
        · intro w' hSw
          try dsimp only at hSw
          go_simp; try rfl
        simp only [List.getElem_toArray, List.getElem_cons_succ, List.getElem_cons_zero, Act.put, List.setIfInBounds_toArray, List.set_cons_zero, List.set_cons_succ]
        refine wpAnyH_take (i := 9) (v := ?_) rfl (by kernel_rfl) (by kernel_rfl) (by kernel_rfl) (fun _ _ _ h => h) (Or.inl ⟨by rfl, ?_⟩) (by assumption) ?_
        rotate_left
        · intro w' hSw
          try dsimp only at hSw
          go_simp; try rfl
        simp only [List.getElem_toArray, List.getElem_cons_succ, List.getElem_cons_zero, Act.put, List.setIfInBounds_toArray, List.set_cons_zero, List.set_cons_succ]
        refine wpAnyH_take (i := 10) (v := ?_) rfl (by kernel_rfl) (by kernel_rfl) (by kernel_rfl) (fun _ _ _ h => h) (Or.inl ⟨by rfl, ?_⟩) (by assumption) ?_
        rotate_left
        · intro w' hSw
          try dsimp only at hSw
          go_simp; try rfl
        simp only [List.getElem_toArray, List.getElem_cons_succ, List.getElem_cons_zero, Act.put, List.setIfInBounds_toArray, List.set_cons_zero, List.set_cons_succ]
        refine wpAnyH_take (i := 11) (v := ?_) rfl (by kernel_rfl) (by kernel_rfl) (by kernel_rfl) (fun _ _ _ h => h) (Or.inl ⟨by rfl, ?_⟩) (by assumption) ?_
        rotate_left
        · intro w' hSw
          try dsimp only at hSw
          go_simp; try rfl
        simp only [List.getElem_toArray, List.getElem_cons_succ, List.getElem_cons_zero, Act.put, List.setIfInBounds_toArray, List.set_cons_zero, List.set_cons_succ]
        refine wpAnyH_take (i := 12) (v := ?_) rfl (by kernel_rfl) (by kernel_rfl) (by kernel_rfl) (fun _ _ _ h => h) (Or.inl ⟨by rfl, ?_⟩) (by assumption) ?_
        rotate_left
        · intro w' hSw
          try dsimp only at hSw
          go_simp; try rfl
        simp only [List.getElem_toArray, List.getElem_cons_succ, List.getElem_cons_zero, Act.put, List.setIfInBounds_toArray, List.set_cons_zero, List.set_cons_succ]
        refine wpAnyH_take (i := 13) (v := ?_) rfl (by kernel_rfl) (by kernel_rfl) (by kernel_rfl) (fun _ _ _ h => h) (Or.inl ⟨by rfl, ?_⟩) (by assumption) ?_
        rotate_left
        · intro w' hSw
          try dsimp only at hSw
          go_simp; try rfl
        simp only [List.getElem_toArray, List.getElem_cons_succ, List.getElem_cons_zero, Act.put, List.setIfInBounds_toArray, List.set_cons_zero, List.set_cons_succ]
        refine wpAnyH_ready (rs := [14]) (by kernel_rfl) (by simp) (AllReadyH.cons rfl (fun K hK => ?_) AllReadyH.nil)
        refine step_callW (some 23) (by kernel_rfl) (by kernel_rfl) 75 _ _ rfl #[.agg #[.string KD.n, .int .i64 KD.s, .slice f1 KD.p.length g1, .slice f2 KD.f.length g2, .slice f3 KD.m.length g3], .slice ua y.f.length uc] (by kernel_rfl) (fC _ HW.out) ?_
        rintro e Z2 ⟨rfl, b9⟩
        replace HW := hide (HW.out.trans (b9.mono HW.out.size))
        clear b9
        refine ⟨_, rfl, ?_⟩
        refine hK.out _ _ (HCL.out _ HW.out) (fun hHeld => ?_)
        clear hK K
        simp only [Act.put, List.setIfInBounds_toArray, List.set_cons_zero, List.set_cons_succ]
        refine wpAnyH_take (i := 15) (v := ?_) rfl (by kernel_rfl) (by kernel_rfl) (by kernel_rfl) (fun _ _ _ h => h) (Or.inl ⟨by rfl, ?_⟩) (by assumption) ?_
        rotate_left
        · intro w' hSw
          try dsimp only at hSw
          go_simp; try rfl
        simp only [List.getElem_toArray, List.getElem_cons_succ, List.getElem_cons_zero, Act.put, List.setIfInBounds_toArray, List.set_cons_zero, List.set_cons_succ]
        refine wpAnyH_take (i := 16) (v := ?_) rfl (by kernel_rfl) (by kernel_rfl) (by kernel_rfl) (fun _ _ _ h => h) (Or.inl ⟨by rfl, ?_⟩) (by assumption) ?_
        rotate_left
        · intro w' hSw
          try dsimp only at hSw
          go_simp; try rfl
        simp only [List.getElem_toArray, List.getElem_cons_succ, List.getElem_cons_zero, Act.put, List.setIfInBounds_toArray, List.set_cons_zero, List.set_cons_succ]
        refine wpAnyH_done (by kernel_rfl) ?_ _
        have HZ := hide (hB1.trans (HW.out.mono hB1.size))
        have b2z := (HW.out.block _ lt2).trans b2
        have t0 := (box_of b2z).1 0 _ rfl
        have tz := (box_of b2z).2
        have HKF := hide (keepsFrom_below (B := W0.heap.size) HW.out)
        clear HCL hHeld
        gi_wp2
        exact ⟨HKF.out.trans ((KeepsOthers.setCell _ _ _).from _), ⟨rfl, z, List.mem_append.2 (.inr (by simp)), by rw [HY.out]; exact HC.out, heap_setCell_same _ _ 0 _ 4 _ b2z⟩, HZ.out.setCell (by simp <;> omega) _⟩
      | true =>
        have HC : Hid (objRt x.k y = true) := hide (HCC.out.trans cf)
        have fC := fun (Z : World) (hb : Below W.heap.size W Z) => fieldsTakeI Z KD f1 f2 f3 g1 g2 g3 y.f ua uc (R2.out.at hb) (RF.out.at hb) hkf
        simp only [cf] at fC
        gi_wp2
        have HCL : Hid (∀ w', Below W.heap.size W w' → w'.cell? ⟨w.heap.size, 0, none⟩ = some (.slice (some ⟨b, o, none⟩) x.k.length c0) ∧ w'.cell? ⟨Bx, 1, none⟩ = some (.int .i64 (j : Int)) ∧ w'.cell? ⟨Bx, 2, none⟩ = some (.slice ua y.f.length uc) ∧ w'.cell? ⟨b, o + j * 5, none⟩ = some (.string KD.n) ∧ w'.cell? ⟨b, o + j * 5 + 1, none⟩ = some (.int .i64 KD.s) ∧ w'.cell? ⟨b, o + j * 5 + 2, none⟩ = some (.slice f1 KD.p.length g1) ∧ w'.cell? ⟨b, o + j * 5 + 3, none⟩ = some (.slice f2 KD.f.length g2) ∧ w'.cell? ⟨b, o + j * 5 + 4, none⟩ = some (.slice f3 KD.m.length g3)) := hide (fun w' hb => ⟨(box_of ((hb.block _ (Array.getElem?_eq_some_iff.1 b1).1).trans b1)).1 0 _ rfl, (box_of ((hb.block _ (Array.getElem?_eq_some_iff.1 bX).1).trans bX)).1 1 _ rfl, (box_of ((hb.block _ (Array.getElem?_eq_some_iff.1 bX).1).trans bX)).1 2 _ rfl, (hb.cell (p := ⟨b, o + j * 5, none⟩) hbb).trans d0, (hb.cell (p := ⟨b, o + j * 5 + 1, none⟩) hbb).trans d1, (hb.cell (p := ⟨b, o + j * 5 + 2, none⟩) hbb).trans d2, (hb.cell (p := ⟨b, o + j * 5 + 3, none⟩) hbb).trans d3, (hb.cell (p := ⟨b, o + j * 5 + 4, none⟩) hbb).trans d4⟩)
        have HW := hide (Below.refl W.heap.size W).drew
        refine wpIn_held_drew (S := fun w' => w'.cell? ⟨w.heap.size, 0, none⟩ = some (.slice (some ⟨b, o, none⟩) x.k.length c0) ∧ w'.cell? ⟨Bx, 1, none⟩ = some (.int .i64 (j : Int)) ∧ w'.cell? ⟨Bx, 2, none⟩ = some (.slice ua y.f.length uc) ∧ w'.cell? ⟨b, o + j * 5, none⟩ = some (.string KD.n) ∧ w'.cell? ⟨b, o + j * 5 + 1, none⟩ = some (.int .i64 KD.s) ∧ w'.cell? ⟨b, o + j * 5 + 2, none⟩ = some (.slice f1 KD.p.length g1) ∧ w'.cell? ⟨b, o + j * 5 + 3, none⟩ = some (.slice f2 KD.f.length g2) ∧ w'.cell? ⟨b, o + j * 5 + 4, none⟩ = some (.slice f3 KD.m.length g3)) (by kernel_rfl) (by kernel_rfl) (by rintro ⟨_, _, h⟩; exact h) (HCL.out _ HW.out) (fun hHeld => ?_)
        generalize W.drew = Z0 at *
        refine wpAnyH_take (i := 0) (v := ?_) rfl (by kernel_rfl) (by kernel_rfl) (by kernel_rfl) (fun _ _ _ h => h) (Or.inl ⟨by rfl, ?_⟩) (by assumption) ?_
        rotate_left
        · intro w' hSw
          try dsimp only at hSw
          go_simp; try rfl
        simp only [List.getElem_toArray, List.getElem_cons_zero, Act.put, List.setIfInBounds_toArray, List.set_cons_zero, List.set_cons_succ]
        refine wpAnyH_take (i := 1) (v := ?_) rfl (by kernel_rfl) (by kernel_rfl) (by kernel_rfl) (fun _ _ _ h => h) (Or.inl ⟨by rfl, ?_⟩) (by assumption) ?_
        rotate_left
        · intro w' hSw
          try dsimp only at hSw
          go_simp; try rfl
        simp only [List.getElem_toArray, List.getElem_cons_succ, List.getElem_cons_zero, Act.put, List.setIfInBounds_toArray, List.set_cons_zero, List.set_cons_succ]
        refine wpAnyH_take (i := 2) (v := ?_) rfl (by kernel_rfl) (by kernel_rfl) (by kernel_rfl) (fun _ _ _ h => h) (Or.inl ⟨by rfl, ?_⟩) (by assumption) ?_
        rotate_left
        · intro w' hSw
          try dsimp only at hSw
          go_simp; try rfl
        simp only [List.getElem_toArray, List.getElem_cons_succ, List.getElem_cons_zero, Act.put, List.setIfInBounds_toArray, List.set_cons_zero, List.set_cons_succ]
        refine wpAnyH_ready (rs := [3]) (by kernel_rfl) (by simp) (AllReadyH.cons rfl (fun K hK => ?_) AllReadyH.nil)
        refine step_callW (some 12) (by kernel_rfl) (by kernel_rfl) 74 _ _ rfl #[.agg #[.slice (some ⟨b, o, none⟩) x.k.length c0], .int .i64 (j : Int)] (by kernel_rfl) (hasC _) ?_
        rintro e Z1 ⟨rfl, b9⟩
        replace HW := hide (HW.out.trans (b9.mono HW.out.size))
        clear b9
        refine ⟨_, rfl, ?_⟩
        refine hK.out _ _ (HCL.out _ HW.out) (fun hHeld => ?_)
        clear hK K
        simp only [Act.put, List.setIfInBounds_toArray, List.set_cons_zero, List.set_cons_succ]
        refine wpAnyH_take (i := 4) (v := ?_) rfl (by kernel_rfl) (by kernel_rfl) (by kernel_rfl) (fun _ _ _ h => h) (Or.inl ⟨by rfl, ?_⟩) (by assumption) ?_
        rotate_left
        · intro w' hSw
          try dsimp only at hSw
          go_simp; try rfl
        simp only [List.getElem_toArray, List.getElem_cons_succ, List.getElem_cons_zero, Act.put, List.setIfInBounds_toArray, List.set_cons_zero, List.set_cons_succ]
        refine wpAnyH_take (i := 5) (v := ?_) rfl (by kernel_rfl) (by kernel_rfl) (by kernel_rfl) (fun _ _ _ h => h) (Or.inl ⟨by rfl, ?_⟩) (by assumption) ?_
        rotate_left
        · intro w' hSw
          try dsimp only at hSw
          go_simp; try rfl
        simp only [List.getElem_toArray, List.getElem_cons_succ, List.getElem_cons_zero, Act.put, List.setIfInBounds_toArray, List.set_cons_zero, List.set_cons_succ]
        refine wpAnyH_take (i := 6) (v := ?_) rfl (by kernel_rfl) (by kernel_rfl) (by kernel_rfl) (fun _ _ _ h => h) (Or.inl ⟨by rfl, ?_⟩) (by assumption) ?_
        rotate_left
        · intro w' hSw
          try dsimp only at hSw
          go_simp; try rfl
        simp only [List.getElem_toArray, List.getElem_cons_succ, List.getElem_cons_zero, Act.put, List.setIfInBounds_toArray, List.set_cons_zero, List.set_cons_succ]
        refine wpAnyH_take (i := 7) (v := ?_) rfl (by kernel_rfl) (by kernel_rfl) (by kernel_rfl) (fun _ _ _ h => h) (Or.inl ⟨by rfl, ?_⟩) (by assumption) ?_
        rotate_left
        · intro w' hSw
          try dsimp only at hSw
          go_simp; try rfl
        simp only [List.getElem_toArray, List.getElem_cons_succ, List.getElem_cons_zero, Act.put, List.setIfInBounds_toArray, List.set_cons_zero, List.set_cons_succ]
        refine wpAnyH_take (i := 8) (v := ?_) rfl (by kernel_rfl) (by kernel_rfl) (by kernel_rfl) (fun _ _ _ h => h) (Or.inl ⟨by rfl, ?_⟩) (by assumption) ?_
        rotate_left
        · intro w' hSw
          try dsimp only at hSw
          go_simp; try rfl
        simp only [List.getElem_toArray, List.getElem_cons_succ, List.getElem_cons_zero, Act.put, List.setIfInBounds_toArray, List.set_cons_zero, List.set_cons_succ]
        refine wpAnyH_take (i := 9) (v := ?_) rfl (by kernel_rfl) (by kernel_rfl) (by kernel_rfl) (fun _ _ _ h => h) (Or.inl ⟨by rfl, ?_⟩) (by assumption) ?_
        rotate_left
        · intro w' hSw
          try dsimp only at hSw
          go_simp; try rfl
        simp only [List.getElem_toArray, List.getElem_cons_succ, List.getElem_cons_zero, Act.put, List.setIfInBounds_toArray, List.set_cons_zero, List.set_cons_succ]
        refine wpAnyH_take (i := 10) (v := ?_) rfl (by kernel_rfl) (by kernel_rfl) (by kernel_rfl) (fun _ _ _ h => h) (Or.inl ⟨by rfl, ?_⟩) (by assumption) ?_
        rotate_left
        · intro w' hSw
          try dsimp only at hSw
          go_simp; try rfl
        simp only [List.getElem_toArray, List.getElem_cons_succ, List.getElem_cons_zero, Act.put, List.setIfInBounds_toArray, List.set_cons_zero, List.set_cons_succ]
        refine wpAnyH_take (i := 11) (v := ?_) rfl (by kernel_rfl) (by kernel_rfl) (by kernel_rfl) (fun _ _ _ h => h) (Or.inl ⟨by rfl, ?_⟩) (by assumption) ?_
        rotate_left
        · intro w' hSw
          try dsimp only at hSw
          go_simp; try rfl
        simp only [List.getElem_toArray, List.getElem_cons_succ, List.getElem_cons_zero, Act.put, List.setIfInBounds_toArray, List.set_cons_zero, List.set_cons_succ]
        refine wpAnyH_take (i := 12) (v := ?_) rfl (by kernel_rfl) (by kernel_rfl) (by kernel_rfl) (fun _ _ _ h => h) (Or.inl ⟨by rfl, ?_⟩) (by assumption) ?_
        rotate_left
        · intro w' hSw
          try dsimp only at hSw
          go_simp; try rfl
        simp only [List.getElem_toArray, List.getElem_cons_succ, List.getElem_cons_zero, Act.put, List.setIfInBounds_toArray, List.set_cons_zero, List.set_cons_succ]
        refine wpAnyH_take (i := 13) (v := ?_) rfl (by kernel_rfl) (by kernel_rfl) (by kernel_rfl) (fun _ _ _ h => h) (Or.inl ⟨by rfl, ?_⟩) (by assumption) ?_
        rotate_left
        · intro w' hSw
          try dsimp only at hSw
          go_simp; try rfl
        simp only [List.getElem_toArray, List.getElem_cons_succ, List.getElem_cons_zero, Act.put, List.setIfInBounds_toArray, List.set_cons_zero, List.set_cons_succ]
        refine wpAnyH_ready (rs := [14]) (by kernel_rfl) (by simp) (AllReadyH.cons rfl (fun K hK => ?_) AllReadyH.nil)
        refine step_callW (some 23) (by kernel_rfl) (by kernel_rfl) 75 _ _ rfl #[.agg #[.string KD.n, .int .i64 KD.s, .slice f1 KD.p.length g1, .slice f2 KD.f.length g2, .slice f3 KD.m.length g3], .slice ua y.f.length uc] (by kernel_rfl) (fC _ HW.out) ?_
        rintro e Z2 ⟨rfl, b9⟩
        replace HW := hide (HW.out.trans (b9.mono HW.out.size))
        clear b9
        refine ⟨_, rfl, ?_⟩
        refine hK.out _ _ (HCL.out _ HW.out) (fun hHeld => ?_)
        clear hK K
        simp only [Act.put, List.setIfInBounds_toArray, List.set_cons_zero, List.set_cons_succ]
        refine wpAnyH_take (i := 15) (v := ?_) rfl (by kernel_rfl) (by kernel_rfl) (by kernel_rfl) (fun _ _ _ h => h) (Or.inl ⟨by rfl, ?_⟩) (by assumption) ?_
        rotate_left
        · intro w' hSw
          try dsimp only at hSw
          go_simp; try rfl
        simp only [List.getElem_toArray, List.getElem_cons_succ, List.getElem_cons_zero, Act.put, List.setIfInBounds_toArray, List.set_cons_zero, List.set_cons_succ]
        refine wpAnyH_take (i := 16) (v := ?_) rfl (by kernel_rfl) (by kernel_rfl) (by kernel_rfl) (fun _ _ _ h => h) (Or.inl ⟨by rfl, ?_⟩) (by assumption) ?_
        rotate_left
        · intro w' hSw
          try dsimp only at hSw
          go_simp; try rfl
        simp only [List.getElem_toArray, List.getElem_cons_succ, List.getElem_cons_zero, Act.put, List.setIfInBounds_toArray, List.set_cons_zero, List.set_cons_succ]
        refine wpAnyH_done (by kernel_rfl) ?_ _
        have HZ := hide (hB1.trans (HW.out.mono hB1.size))
        have HKF := hide (keepsFrom_below (B := W0.heap.size) HW.out)
        have b1z := (HW.out.block _ lt1).trans b1
        have b2z := (HW.out.block _ lt2).trans b2
        have HBl := hide (HW.out.mono hB1.size)
        clear HCL hHeld
        gi_wp2
        exact ⟨HKF.out, HBl.out, ⟨⟨fun t ht => (List.mem_append.1 ht).elim (hp t) (fun e => by simp at e; subst e; rw [HY.out]; exact HC.out), b1z⟩, b2z⟩, HZ.out⟩
  case done =>
    rintro D ys W hD hT ⟨⟨⟨hp, b1⟩, b2⟩, hB1⟩ hK
    have hA : m.o.all (objRt x.k) = true := by
      rw [List.all_eq_true]
      intro y hy
      obtain ⟨i, hi, rfl⟩ := List.mem_iff_getElem.1 hy
      obtain ⟨z, hz, e⟩ := told_all hT i hi
      have h := hp z hz
      rw [e, List.getD_eq_getElem?_getD, List.getElem?_eq_getElem hi] at h
      exact h
    have HA := hide hA
    clear hA hp
    have t0 := (box_of b2).1 0 _ rfl
    have tz := (box_of b2).2
    gi_wp2
    have hK' := (KeepsOthers.setCell W ⟨w.heap.size + 1 + 1, 0, none⟩ (.bool true)).same D _ hK rfl
    have g2 := heap_setCell_same W (w.heap.size + 1 + 1) 0 _ 4 (.bool true) b2
    refine ⟨by simp, .inl ⟨_, _, rfl, run_takeDeferred hK', ?_⟩⟩
    refine ⟨.bool true, results_one Try.results46 _ _ _ rfl (ldBl ((World.putObj_heap_other (by omega)).trans g2)), by rw [HA.out], ?_⟩
    exact (hB1.setCell (by simp <;> omega) _).trans (belowK_b (w := w) (Nat.le_refl _) _ D _ _ (by omega) hK' rfl rfl)
  case stop =>
    rintro D c pre W hD ⟨k, hk, hT⟩ ⟨⟨rfl, z, hz, hp, b2⟩, hB1⟩ hK
    have hA : m.o.all (objRt x.k) = false := by
      cases c : m.o.all (objRt x.k) with
      | false => rfl
      | true =>
        rw [List.all_eq_true] at c
        have h := c (m.o.getD z.1 default) (by rw [List.getD_eq_getElem?_getD, List.getElem?_eq_getElem z.2]; exact List.getElem_mem z.2)
        rw [hp] at h; cases h
    have HA := hide hA
    clear hA hp
    gi_wp2
    refine ⟨by simp, .inl ⟨_, _, rfl, run_takeDeferred hK, ?_⟩⟩
    refine ⟨.bool false, results_one Try.results46 _ _ _ rfl (ldBl ((World.putObj_heap_other (by omega)).trans b2)), by rw [HA.out], ?_⟩
    exact hB1.trans (belowK_b (w := w) (Nat.le_refl _) W D _ _ (by omega) hK rfl rfl)
end Go.Proofs.Ythlaihkpffddcaa
