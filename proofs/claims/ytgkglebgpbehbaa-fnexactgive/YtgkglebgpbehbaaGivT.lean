/-
  Threads in the model: a value is given.
-/
import Derived.Test.YtgkglebgpbehbaaGivP
namespace Go.Proofs.Ytgkglebgpbehbaa
open Go.RowKit

set_option maxRecDepth 100000 in
set_option maxHeartbeats 8000000 in
theorem giveS (w : World) (t : Th) (u : Value) (v : Vl) (h : Reads w w.heap.size (frs t.f) u) (hg : ThG t) :
    Calls Try.prog 13 #[thV t u, vlV v] w fun e w' => thP w w' (giveX t v) e := by
  have HR := hide h
  obtain ⟨a2, c2, e2, _⟩ := h.shape
  subst e2
  clear h
  have bA := ((((Below.refl w.heap.size w).alloc (Nat.le_refl _) (.cells #[.int .i64 t.i, .slice a2 t.f.length c2, .int .i64 t.s, .int .i64 t.d] 37)).alloc (by simp) (.cells #[.bool v.r, .int .i64 v.n] 45)).alloc (by simp <;> omega) (.cells #[.int .i64 0, .slice none 0 0, .int .i64 0, .int .i64 0] 37))
  have G0 := heap_alloc_new w (.cells #[.int .i64 t.i, .slice a2 t.f.length c2, .int .i64 t.s, .int .i64 t.d] 37)
  have G1 := heap_alloc_new (w.alloc (.cells #[.int .i64 t.i, .slice a2 t.f.length c2, .int .i64 t.s, .int .i64 t.d] 37)) (.cells #[.bool v.r, .int .i64 v.n] 45)
  have G2 := heap_alloc_new ((w.alloc (.cells #[.int .i64 t.i, .slice a2 t.f.length c2, .int .i64 t.s, .int .i64 t.d] 37)).alloc (.cells #[.bool v.r, .int .i64 v.n] 45)) (.cells #[.int .i64 0, .slice none 0 0, .int .i64 0, .int .i64 0] 37)
  simp only [World.size_alloc] at G1 G2
  have E0 := hide ((Below.heap_alloc _ (.cells #[.int .i64 0, .slice none 0 0, .int .i64 0, .int .i64 0] 37) _ (by simp <;> omega)).trans ((Below.heap_alloc _ (.cells #[.bool v.r, .int .i64 v.n] 45) _ (by simp)).trans (G0)))
  have E1 := hide ((Below.heap_alloc _ (.cells #[.int .i64 0, .slice none 0 0, .int .i64 0, .int .i64 0] 37) _ (by simp)).trans (G1))
  have E2 := hide (G2)
  have HB := hide bA
  replace HR := hide (HR.out.at bA)
  clear bA G0 G1 G2
  unfold thV vlV
  go_enter Try.func13, Try.ntmps13
  go_upto_region 1 with fail
  generalize (((w.alloc (.cells #[.int .i64 t.i, .slice a2 t.f.length c2, .int .i64 t.s, .int .i64 t.d] 37)).alloc (.cells #[.bool v.r, .int .i64 v.n] 45)).alloc (.cells #[.int .i64 0, .slice none 0 0, .int .i64 0, .int .i64 0] 37)) = W at *
  have HCL : Hid (∀ w', Below W.heap.size W w' → w'.cell? ⟨w.heap.size, 0, none⟩ = some (.int .i64 t.i) ∧ w'.cell? ⟨w.heap.size, 1, none⟩ = some (.slice a2 t.f.length c2) ∧ w'.cell? ⟨w.heap.size, 2, none⟩ = some (.int .i64 t.s) ∧ w'.cell? ⟨w.heap.size, 3, none⟩ = some (.int .i64 t.d) ∧ w'.cell? ⟨w.heap.size + 1, 0, none⟩ = some (.bool v.r) ∧ w'.cell? ⟨w.heap.size + 1, 1, none⟩ = some (.int .i64 v.n)) := hide (fun w' hb => ⟨(box_of ((hb.block _ (Array.getElem?_eq_some_iff.1 E0.out).1).trans E0.out)).1 0 _ rfl, (box_of ((hb.block _ (Array.getElem?_eq_some_iff.1 E0.out).1).trans E0.out)).1 1 _ rfl, (box_of ((hb.block _ (Array.getElem?_eq_some_iff.1 E0.out).1).trans E0.out)).1 2 _ rfl, (box_of ((hb.block _ (Array.getElem?_eq_some_iff.1 E0.out).1).trans E0.out)).1 3 _ rfl, (box_of ((hb.block _ (Array.getElem?_eq_some_iff.1 E1.out).1).trans E1.out)).1 0 _ rfl, (box_of ((hb.block _ (Array.getElem?_eq_some_iff.1 E1.out).1).trans E1.out)).1 1 _ rfl⟩)
  have HW := hide (Below.refl W.heap.size W).drew
  refine wp_region_held_drew (S := fun w' => w'.cell? ⟨w.heap.size, 0, none⟩ = some (.int .i64 t.i) ∧ w'.cell? ⟨w.heap.size, 1, none⟩ = some (.slice a2 t.f.length c2) ∧ w'.cell? ⟨w.heap.size, 2, none⟩ = some (.int .i64 t.s) ∧ w'.cell? ⟨w.heap.size, 3, none⟩ = some (.int .i64 t.d) ∧ w'.cell? ⟨w.heap.size + 1, 0, none⟩ = some (.bool v.r) ∧ w'.cell? ⟨w.heap.size + 1, 1, none⟩ = some (.int .i64 v.n)) (by kernel_rfl) (HCL.out _ HW.out) (fun hHeld => ?_)
  generalize W.drew = Z0 at *
  refine wpAnyH_take (i := 0) (v := ?_) rfl (by kernel_rfl) (by kernel_rfl) (by kernel_rfl) (fun _ _ _ h => h) (Or.inl ⟨by rfl, ?_⟩) (by assumption) ?_
  rotate_left
  · intro w' hSw
    try dsimp only at hSw
    go_simp; try rfl
  simp only [List.getElem_toArray, List.getElem_cons_zero, Act.put, List.setIfInBounds_toArray, List.set_cons_zero, List.set_cons_succ]
  refine wpAnyH_take (i := 2) (v := ?_) rfl (by kernel_rfl) (by kernel_rfl) (by kernel_rfl) (fun _ _ _ h => h) (Or.inl ⟨by rfl, ?_⟩) (by assumption) ?_
  rotate_left
  · intro w' hSw
    try dsimp only at hSw
    go_simp; try rfl
  simp only [List.getElem_toArray, List.getElem_cons_succ, List.getElem_cons_zero, Act.put, List.setIfInBounds_toArray, List.set_cons_zero, List.set_cons_succ]
  refine wpAnyH_ready (rs := [1]) (by kernel_rfl) (by simp) (AllReadyH.cons rfl (fun K hK => ?_) AllReadyH.nil)
  refine step_callW (some 6) (by kernel_rfl) (by kernel_rfl) 30 _ _ rfl #[.agg #[.int .i64 t.i, .slice a2 t.f.length c2, .int .i64 t.s, .int .i64 t.d]] (by kernel_rfl) (copyThS _ t _ (HR.out.at HW.out) hg) ?_
  rintro e Z1 ⟨u1, rfl, o9, b9⟩
  have hz0 := HW.out.size
  have hz1 := b9.size
  replace HW := hide (HW.out.trans (b9.mono HW.out.size))
  clear b9
  have HO := hide o9
  clear o9
  refine ⟨_, rfl, ?_⟩
  refine hK.out _ _ (HCL.out _ HW.out) (fun hHeld => ?_)
  clear hK K
  simp only [Act.put, List.setIfInBounds_toArray, List.set_cons_zero, List.set_cons_succ]
  refine wpAnyH_ready (rs := [3]) (by kernel_rfl) (by simp) (AllReadyH.cons rfl (fun K hK => ?_) AllReadyH.nil)
  refine step_callW (some 8) (by kernel_rfl) (by kernel_rfl) 29 _ _ rfl #[thV t u1, vlV v] (by kernel_rfl) (putThS _ Z0.heap.size Z1.heap.size t u1 v HO.out hz1 (Nat.le_refl _) hg.f.1) ?_
  rintro e Z2 ⟨u2, rfl, o9, b9⟩
  have hz2 := b9.size
  replace HW := hide (HW.out.trans (b9.mono hz0))
  clear b9
  replace HO := hide o9
  clear o9
  refine ⟨_, rfl, ?_⟩
  refine hK.out _ _ (HCL.out _ HW.out) (fun hHeld => ?_)
  clear hK K
  simp only [Act.put, List.setIfInBounds_toArray, List.set_cons_zero, List.set_cons_succ]
  have GA := hide ((HW.out.block _ (Array.getElem?_eq_some_iff.1 E2.out).1).trans E2.out)
  have hA := (Array.getElem?_eq_some_iff.1 E2.out).1
  obtain ⟨V, hV⟩ : ∃ V, giveX t v = V := ⟨_, rfl⟩
  rw [hV] at HO ⊢
  unfold thV
  obtain ⟨p2, q2, e2⟩ := (OwnDL.mid (c1 := [.val (.int .i64 V.i)]) (v1 := [.int .i64 V.i]) HO.out rfl).shape
  subst e2
  refine wpAnyH_ready (rs := [4]) (by kernel_rfl) (by simp) (AllReadyH.cons rfl (fun K hK => ?_) AllReadyH.nil)
  refine step_storeX (by kernel_rfl) (by kernel_rfl) 37 _ _ rfl (w.heap.size + 1 + 1) #[.int .i64 V.i, .slice p2 V.f.length q2, .int .i64 V.s, .int .i64 V.d] (by kernel_rfl) (by kernel_rfl) _ _ GA.out (by kernel_rfl) (by rfl) (by simp [Value.oneCell']) ?_
  have GB := hide (setRow_heap Z2 (w.heap.size + 1 + 1) _ #[.int .i64 V.i, .slice p2 V.f.length q2, .int .i64 V.s, .int .i64 V.d] _ _ GA.out)
  have HS : Hid (∀ w' : World, (∀ k, k ≠ w.heap.size + 1 + 1 → w'.heap[k]? = Z2.heap[k]?) → w'.cell? ⟨w.heap.size, 0, none⟩ = some (.int .i64 t.i) ∧ w'.cell? ⟨w.heap.size, 1, none⟩ = some (.slice a2 t.f.length c2) ∧ w'.cell? ⟨w.heap.size, 2, none⟩ = some (.int .i64 t.s) ∧ w'.cell? ⟨w.heap.size, 3, none⟩ = some (.int .i64 t.d) ∧ w'.cell? ⟨w.heap.size + 1, 0, none⟩ = some (.bool v.r) ∧ w'.cell? ⟨w.heap.size + 1, 1, none⟩ = some (.int .i64 v.n)) := hide (fun w' hk => by
    have x0 := ((hk (w.heap.size) (by omega)).trans (HW.out.block _ (Array.getElem?_eq_some_iff.1 E0.out).1)).trans E0.out
    have x1 := ((hk (w.heap.size + 1) (by omega)).trans (HW.out.block _ (Array.getElem?_eq_some_iff.1 E1.out).1)).trans E1.out
    exact ⟨(box_of x0).1 0 _ rfl, (box_of x0).1 1 _ rfl, (box_of x0).1 2 _ rfl, (box_of x0).1 3 _ rfl, (box_of x1).1 0 _ rfl, (box_of x1).1 1 _ rfl⟩)
  refine hK.out _ _ (HS.out _ (fun k hk => setRow_other _ _ _ _ hk)) (fun hHeld => ?_)
  clear hK K
  try simp only [Act.put, List.setIfInBounds_toArray, List.set_cons_zero, List.set_cons_succ]
  refine wpAnyH_done (by kernel_rfl) ?_ _
  have HBZ := hide (below_setRow (HB.out.trans (HW.out.mono HB.out.size)) (show w.heap.size ≤ w.heap.size + 1 + 1 by omega) #[.int .i64 V.i, .slice p2 V.f.length q2, .int .i64 V.s, .int .i64 V.d])
  have HO3 := hide (OwnDL.setRowA HO.out (w.heap.size + 1 + 1) #[.int .i64 V.i, .slice p2 V.f.length q2, .int .i64 V.s, .int .i64 V.d] (Or.inl (by omega)))
  have hz3 : Z2.heap.size ≤ (Z2.setRow (w.heap.size + 1 + 1) #[.int .i64 V.i, .slice p2 V.f.length q2, .int .i64 V.s, .int .i64 V.d]).heap.size := by simp
  clear HS HCL hHeld HW HO
  generalize Z2.setRow (w.heap.size + 1 + 1) #[.int .i64 V.i, .slice p2 V.f.length q2, .int .i64 V.s, .int .i64 V.d] = Z3 at *
  go_wp2
  refine bodyPost_ret (v := .agg #[.int .i64 V.i, .slice p2 V.f.length q2, .int .i64 V.s, .int .i64 V.d]) (results_one Try.results13 _ _ _ rfl (loadTh GB.out)) rfl ?_
  rw [hV]
  exact ⟨_, rfl, (HO3.out.mono (by omega)).up hz3, HBZ.out⟩
end Go.Proofs.Ytgkglebgpbehbaa
