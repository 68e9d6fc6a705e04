/-
  Threads in the program: a copy.
-/
import Derived.Test.YtgkglebgpbehbaaGivS
import Derived.Test.YtgkglebgpbehbaaCopyG
namespace Go.Proofs.Ytgkglebgpbehbaa
open Go.RowKit

set_option maxRecDepth 100000 in
set_option maxHeartbeats 4000000 in
theorem copyListVl (w : World) (v : Value) (xs : List Vl) (h : Reads w w.heap.size (vls xs) v) (hm : xs.length ≤ 2000000) :
    Calls Try.prog 66 #[v] w fun e w' => rowP w w' (vls xs) e := by
  have HF1 := hide (flat_vl xs)
  obtain ⟨i0, hi, hz0, hz1, hz2⟩ := info_parts Try.infoVl
  have HSZ : Hid ((Try.prog.info? 45).map (·.size) = some 2) := hide (by rw [hi]; simp [hz1])
  unfold vls Reads at h
  obtain ⟨us, hrd, hds⟩ := h
  have HDS := hide hds
  have H1 := hide (one_flat HF1.out hds)
  have HR := hide hrd
  obtain ⟨hfl, a, cap, rfl, _⟩ := hrd
  clear hds
  by_cases h0 : xs.length = 0
  · have hnil := List.eq_nil_of_length_eq_zero h0
    subst hnil
    go_enter Try.func66, Try.ntmps66
    go_wp2
    go_ret
    exact ⟨_, rfl, ownD_nil _ _ _ _ _, Below.refl _ _⟩
  · obtain ⟨ad, rfl, hsrc⟩ := rd_src HR.out (by omega)
    have HSR := hide hsrc
    have HFL := hide hfl
    have hne : ¬ ((xs.length : Int) = 0) := by omega
    clear hsrc hfl HR
    obtain ⟨n, hn⟩ : ∃ n, xs.length = n := ⟨_, rfl⟩
    have HNN := hide hn
    rw [hn] at hm h0 hne HFL ⊢
    clear hn
    go_enter Try.func66, Try.ntmps66
    go_wp2_with (first
      | (at_make; refine wpList_make_full _ rfl _ _ 52 rfl w.heap.size 45 i0 (.agg #[.bool false, .int .i64 0]) 2 Try.underlying52 hi hz0 hz1 _ _ _ _ n rfl rfl rfl rfl (by rw [hz2]; omega) (by unfold maxLen; omega) (Nat.le_refl _) ?_; intro w1 ho1 hg1; have HO1 := hide ho1; have HG1 := hide hg1; have HSR1 : Hid (∀ (j : Nat) (u : Value), us[j]? = some u → w1.cell? (ad.add j) = some u) := hide (fun j u hu => (((Below.refl w.heap.size w).grown HG1.out (Nat.le_refl _) (fun k hk => by cases hk)).cell (World.block_lt_of_cell? w _ (HSR.out j u hu))).trans (HSR.out j u hu)); clear ho1 hg1)
      | (refine wpList_copy_rows rfl _ _ 52 52 rfl 45 Try.underlying52 2 HSZ.out w.heap.size w.heap.size n n _ rfl HO1.out ad n cap rfl (Nat.le_refl _) us HFL.out HSR1.out H1.out ?_; intro w2 ho2 hg2; have HO2 := hide ho2; have HG2 := hide hg2; clear ho2 hg2))
    have HF : Hid (w2.ownsRow w.heap.size 45 2 (.slice (some ⟨w.heap.size, 0, none⟩) n n) n us) := hide (by
      have h2 := HO2.out
      rwa [List.drop_eq_nil_of_le (by rw [HO1.out.1, HFL.out]; exact Nat.le_refl _), List.append_nil] at h2)
    have HB : Hid (Below w.heap.size w w2) := hide (((Below.refl w.heap.size w).grown HG1.out (Nat.le_refl _) (fun k hk => by cases hk)).grown HG2.out ((Below.refl w.heap.size w).grown HG1.out (Nat.le_refl _) (fun k hk => by cases hk)).size (fun k hk => by cases hk; exact Nat.le_refl _))
    clear HO1 HO2 HG1 HG2
    go_ret
    refine ⟨_, rfl, ⟨[w.heap.size], ?_, by simp, fun q hq => ?_⟩, HB.out⟩
    · unfold vls Owns
      rw [HNN.out]
      exact ⟨us, [], HF.out, ownsL_flat (fun d hd => by obtain ⟨u, hu, _⟩ := HF1.out d hd; exact ⟨u, hu⟩) (ReadsL.low HDS.out HB.out (Nat.le_refl _)), rfl⟩
    · have hq' : q = w.heap.size := by simpa using hq
      subst hq'
      exact (World.ownsRow.lt HF.out _ rfl).2
def frP (w w' : World) (y : Fr) (e : Ending) : Prop := ∃ u1 u2, e = .returned (frV y u1 u2) ∧ OwnDL w' w.heap.size w'.heap.size (frD y) [.int .i64 y.k, .int .i64 y.m, .int .i64 y.p, u1, u2] ∧ Below w.heap.size w w'
set_option maxRecDepth 100000 in
set_option maxHeartbeats 8000000 in
theorem copyFrI (w : World) (y : Fr) (v1 v2 : Value) (h1 : Reads w w.heap.size (vls y.l) v1) (h2 : Reads w w.heap.size (vls y.s) v2) (hg : FrG y) :
    Calls Try.prog 47 #[frV y v1 v2] w fun e w' => frP w w' y e := by
  have P1 := hide h1
  have P2 := hide h2
  have hl := hg.l.1
  have hs := hg.s.1
  obtain ⟨a1, c1, e1, _⟩ := h1.shape
  obtain ⟨a2, c2, e2, _⟩ := h2.shape
  subst e1 e2
  clear h1 h2
  have bA := (((Below.refl w.heap.size w).alloc (Nat.le_refl _) (.cells #[.int .i64 y.k, .int .i64 y.m, .int .i64 y.p, .slice a1 y.l.length c1, .slice a2 y.s.length c2] 54)).alloc (by simp) (.cells #[.int .i64 0, .int .i64 0, .int .i64 0, .slice none 0 0, .slice none 0 0] 54))
  have G0 := heap_alloc_new w (.cells #[.int .i64 y.k, .int .i64 y.m, .int .i64 y.p, .slice a1 y.l.length c1, .slice a2 y.s.length c2] 54)
  have G1 := heap_alloc_new (w.alloc (.cells #[.int .i64 y.k, .int .i64 y.m, .int .i64 y.p, .slice a1 y.l.length c1, .slice a2 y.s.length c2] 54)) (.cells #[.int .i64 0, .int .i64 0, .int .i64 0, .slice none 0 0, .slice none 0 0] 54)
  simp only [World.size_alloc] at G1
  have E0 := hide ((Below.heap_alloc _ (.cells #[.int .i64 0, .int .i64 0, .int .i64 0, .slice none 0 0, .slice none 0 0] 54) _ (by simp)).trans (G0))
  have E1 := hide (G1)
  have HB := hide bA
  replace P1 := hide (P1.out.at bA)
  replace P2 := hide (P2.out.at bA)
  clear bA G0 G1
  unfold frV
  go_enter Try.func47, Try.ntmps47
  go_upto_region 1 with fail
  generalize ((w.alloc (.cells #[.int .i64 y.k, .int .i64 y.m, .int .i64 y.p, .slice a1 y.l.length c1, .slice a2 y.s.length c2] 54)).alloc (.cells #[.int .i64 0, .int .i64 0, .int .i64 0, .slice none 0 0, .slice none 0 0] 54)) = W at *
  have HCL : Hid (∀ w', Below W.heap.size W w' → w'.cell? ⟨w.heap.size, 0, none⟩ = some (.int .i64 y.k) ∧ w'.cell? ⟨w.heap.size, 1, none⟩ = some (.int .i64 y.m) ∧ w'.cell? ⟨w.heap.size, 2, none⟩ = some (.int .i64 y.p) ∧ w'.cell? ⟨w.heap.size, 3, none⟩ = some (.slice a1 y.l.length c1) ∧ w'.cell? ⟨w.heap.size, 4, none⟩ = some (.slice a2 y.s.length c2)) := hide (fun w' hb => ⟨(box_of ((hb.block _ (Array.getElem?_eq_some_iff.1 E0.out).1).trans E0.out)).1 0 _ rfl, (box_of ((hb.block _ (Array.getElem?_eq_some_iff.1 E0.out).1).trans E0.out)).1 1 _ rfl, (box_of ((hb.block _ (Array.getElem?_eq_some_iff.1 E0.out).1).trans E0.out)).1 2 _ rfl, (box_of ((hb.block _ (Array.getElem?_eq_some_iff.1 E0.out).1).trans E0.out)).1 3 _ rfl, (box_of ((hb.block _ (Array.getElem?_eq_some_iff.1 E0.out).1).trans E0.out)).1 4 _ rfl⟩)
  have HW := hide (Below.refl W.heap.size W).drew
  refine wp_region_held_drew (S := fun w' => w'.cell? ⟨w.heap.size, 0, none⟩ = some (.int .i64 y.k) ∧ w'.cell? ⟨w.heap.size, 1, none⟩ = some (.int .i64 y.m) ∧ w'.cell? ⟨w.heap.size, 2, none⟩ = some (.int .i64 y.p) ∧ w'.cell? ⟨w.heap.size, 3, none⟩ = some (.slice a1 y.l.length c1) ∧ w'.cell? ⟨w.heap.size, 4, none⟩ = some (.slice a2 y.s.length c2)) (by kernel_rfl) (HCL.out _ HW.out) (fun hHeld => ?_)
  generalize W.drew = Z0 at *
  refine wpAnyH_take (i := 0) (v := ?_) rfl (by kernel_rfl) (by kernel_rfl) (by kernel_rfl) (fun _ _ _ h => h) (Or.inl ⟨by rfl, ?_⟩) (by assumption) ?_
  rotate_left
  · intro w' hSw
    try dsimp only at hSw
    go_simp; try rfl
  simp only [List.getElem_toArray, List.getElem_cons_zero, Act.put, List.setIfInBounds_toArray, List.set_cons_zero, List.set_cons_succ]
  refine wpAnyH_take (i := 1) (v := ?_) rfl (by kernel_rfl) (by kernel_rfl) (by kernel_rfl) (fun _ _ _ h => h) (Or.inl ⟨by rfl, ?_⟩) (by assumption) ?_
  rotate_left
  · intro w' hSw
    try dsimp only at hSw
    go_simp; try rfl
  simp only [List.getElem_toArray, List.getElem_cons_succ, List.getElem_cons_zero, Act.put, List.setIfInBounds_toArray, List.set_cons_zero, List.set_cons_succ]
  refine wpAnyH_take (i := 2) (v := ?_) rfl (by kernel_rfl) (by kernel_rfl) (by kernel_rfl) (fun _ _ _ h => h) (Or.inl ⟨by rfl, ?_⟩) (by assumption) ?_
  rotate_left
  · intro w' hSw
    try dsimp only at hSw
    go_simp; try rfl
  simp only [List.getElem_toArray, List.getElem_cons_succ, List.getElem_cons_zero, Act.put, List.setIfInBounds_toArray, List.set_cons_zero, List.set_cons_succ]
  refine wpAnyH_take (i := 3) (v := ?_) rfl (by kernel_rfl) (by kernel_rfl) (by kernel_rfl) (fun _ _ _ h => h) (Or.inl ⟨by rfl, ?_⟩) (by assumption) ?_
  rotate_left
  · intro w' hSw
    try dsimp only at hSw
    go_simp; try rfl
  simp only [List.getElem_toArray, List.getElem_cons_succ, List.getElem_cons_zero, Act.put, List.setIfInBounds_toArray, List.set_cons_zero, List.set_cons_succ]
  refine wpAnyH_take (i := 4) (v := ?_) rfl (by kernel_rfl) (by kernel_rfl) (by kernel_rfl) (fun _ _ _ h => h) (Or.inl ⟨by rfl, ?_⟩) (by assumption) ?_
  rotate_left
  · intro w' hSw
    try dsimp only at hSw
    go_simp; try rfl
  simp only [List.getElem_toArray, List.getElem_cons_succ, List.getElem_cons_zero, Act.put, List.setIfInBounds_toArray, List.set_cons_zero, List.set_cons_succ]
  refine wpAnyH_take (i := 5) (v := ?_) rfl (by kernel_rfl) (by kernel_rfl) (by kernel_rfl) (fun _ _ _ h => h) (Or.inl ⟨by rfl, ?_⟩) (by assumption) ?_
  rotate_left
  · intro w' hSw
    try dsimp only at hSw
    go_simp; try rfl
  simp only [List.getElem_toArray, List.getElem_cons_succ, List.getElem_cons_zero, Act.put, List.setIfInBounds_toArray, List.set_cons_zero, List.set_cons_succ]
  refine wpAnyH_take (i := 6) (v := ?_) rfl (by kernel_rfl) (by kernel_rfl) (by kernel_rfl) (fun _ _ _ h => h) (Or.inl ⟨by rfl, ?_⟩) (by assumption) ?_
  rotate_left
  · intro w' hSw
    try dsimp only at hSw
    go_simp; try rfl
  simp only [List.getElem_toArray, List.getElem_cons_succ, List.getElem_cons_zero, Act.put, List.setIfInBounds_toArray, List.set_cons_zero, List.set_cons_succ]
  refine wpAnyH_take (i := 7) (v := ?_) rfl (by kernel_rfl) (by kernel_rfl) (by kernel_rfl) (fun _ _ _ h => h) (Or.inl ⟨by rfl, ?_⟩) (by assumption) ?_
  rotate_left
  · intro w' hSw
    try dsimp only at hSw
    go_simp; try rfl
  simp only [List.getElem_toArray, List.getElem_cons_succ, List.getElem_cons_zero, Act.put, List.setIfInBounds_toArray, List.set_cons_zero, List.set_cons_succ]
  refine wpAnyH_take (i := 9) (v := ?_) rfl (by kernel_rfl) (by kernel_rfl) (by kernel_rfl) (fun _ _ _ h => h) (Or.inl ⟨by rfl, ?_⟩) (by assumption) ?_
  rotate_left
  · intro w' hSw
    try dsimp only at hSw
    go_simp; try rfl
  simp only [List.getElem_toArray, List.getElem_cons_succ, List.getElem_cons_zero, Act.put, List.setIfInBounds_toArray, List.set_cons_zero, List.set_cons_succ]
  refine wpAnyH_take (i := 10) (v := ?_) rfl (by kernel_rfl) (by kernel_rfl) (by kernel_rfl) (fun _ _ _ h => h) (Or.inl ⟨by rfl, ?_⟩) (by assumption) ?_
  rotate_left
  · intro w' hSw
    try dsimp only at hSw
    go_simp; try rfl
  simp only [List.getElem_toArray, List.getElem_cons_succ, List.getElem_cons_zero, Act.put, List.setIfInBounds_toArray, List.set_cons_zero, List.set_cons_succ]
  have hz0 := HW.out.size
  refine wpAnyH_ready (rs := [8]) (by kernel_rfl) (by simp) (AllReadyH.cons rfl (fun K hK => ?_) AllReadyH.nil)
  refine step_callW (some 11) (by kernel_rfl) (by kernel_rfl) 66 _ _ rfl #[.slice a1 y.l.length c1] (by kernel_rfl) (copyListVl _ _ y.l (P1.out.at HW.out) (by omega)) ?_
  rintro e Z1 ⟨r1, rfl, o9, b9⟩
  have hz1 := b9.size
  replace HW := hide (HW.out.trans (b9.mono HW.out.size))
  clear b9
  have O1 := hide o9
  clear o9
  refine ⟨_, rfl, ?_⟩
  refine hK.out _ _ (HCL.out _ HW.out) (fun hHeld => ?_)
  clear hK K
  simp only [Act.put, List.setIfInBounds_toArray, List.set_cons_zero, List.set_cons_succ]
  refine wpAnyH_ready (rs := [11]) (by kernel_rfl) (by simp) (AllReadyH.cons rfl (fun K hK => ?_) AllReadyH.nil)
  refine step_callW (some 14) (by kernel_rfl) (by kernel_rfl) 66 _ _ rfl #[.slice a2 y.s.length c2] (by kernel_rfl) (copyListVl _ _ y.s (P2.out.at HW.out) (by omega)) ?_
  rintro e Z2 ⟨r2, rfl, o9, b9⟩
  have hz2 := b9.size
  replace HW := hide (HW.out.trans (b9.mono HW.out.size))
  replace O1 := hide (O1.out.below b9)
  clear b9
  have O2 := hide o9
  clear o9
  refine ⟨_, rfl, ?_⟩
  refine hK.out _ _ (HCL.out _ HW.out) (fun hHeld => ?_)
  clear hK K
  simp only [Act.put, List.setIfInBounds_toArray, List.set_cons_zero, List.set_cons_succ]
  obtain ⟨pa, pc, pe⟩ := O1.out.shape
  obtain ⟨qa, qc, qe⟩ := O2.out.shape
  subst pe qe
  refine wpAnyH_take (i := 12) (v := ?_) rfl (by kernel_rfl) (by kernel_rfl) (by kernel_rfl) (fun _ _ _ h => h) (Or.inl ⟨by rfl, ?_⟩) (by assumption) ?_
  rotate_left
  · intro w' hSw
    try dsimp only at hSw
    go_simp; try rfl
  simp only [List.getElem_toArray, List.getElem_cons_succ, List.getElem_cons_zero, Act.put, List.setIfInBounds_toArray, List.set_cons_zero, List.set_cons_succ]
  have GA := hide ((HW.out.block _ (Array.getElem?_eq_some_iff.1 E1.out).1).trans E1.out)
  have hA := (Array.getElem?_eq_some_iff.1 E1.out).1
  refine wpAnyH_ready (rs := [13]) (by kernel_rfl) (by simp) (AllReadyH.cons rfl (fun K hK => ?_) AllReadyH.nil)
  refine step_storeX (by kernel_rfl) (by kernel_rfl) 54 _ _ rfl (w.heap.size + 1) #[.int .i64 y.k, .int .i64 y.m, .int .i64 y.p, .slice pa y.l.length pc, .slice qa y.s.length qc] (by kernel_rfl) (by kernel_rfl) _ _ GA.out (by kernel_rfl) (by rfl) (by simp [Value.oneCell']) ?_
  have GB := hide (setRow_heap Z2 (w.heap.size + 1) _ #[.int .i64 y.k, .int .i64 y.m, .int .i64 y.p, .slice pa y.l.length pc, .slice qa y.s.length qc] _ _ GA.out)
  have x0 := ((setRow_other Z2 (w.heap.size + 1) (w.heap.size) #[.int .i64 y.k, .int .i64 y.m, .int .i64 y.p, .slice pa y.l.length pc, .slice qa y.s.length qc] (by omega)).trans (HW.out.block _ (Array.getElem?_eq_some_iff.1 E0.out).1)).trans E0.out
  refine hK.out _ _ ⟨(box_of x0).1 0 _ rfl, (box_of x0).1 1 _ rfl, (box_of x0).1 2 _ rfl, (box_of x0).1 3 _ rfl, (box_of x0).1 4 _ rfl⟩ (fun hHeld => ?_)
  clear hK K
  try simp only [Act.put, List.setIfInBounds_toArray, List.set_cons_zero, List.set_cons_succ]
  refine wpAnyH_done (by kernel_rfl) ?_ _
  have HBZ := hide (below_setRow (HB.out.trans (HW.out.mono HB.out.size)) (show w.heap.size ≤ w.heap.size + 1 by omega) #[.int .i64 y.k, .int .i64 y.m, .int .i64 y.p, .slice pa y.l.length pc, .slice qa y.s.length qc])
  have HO3 : Hid (OwnDL Z2 Z0.heap.size Z2.heap.size (frD y) [.int .i64 y.k, .int .i64 y.m, .int .i64 y.p, .slice pa y.l.length pc, .slice qa y.s.length qc]) := hide (OwnDL.val (OwnDL.val (OwnDL.val (OwnDL.cons O1.out (OwnDL.cons O2.out (ownDL_nil _ Z2.heap.size _) (by omega) (by omega)) (by omega) (by omega)))))
  replace HO3 := hide (OwnDL.setRowA HO3.out (w.heap.size + 1) #[.int .i64 y.k, .int .i64 y.m, .int .i64 y.p, .slice pa y.l.length pc, .slice qa y.s.length qc] (Or.inl (by omega)))
  have hz3 : Z2.heap.size ≤ (Z2.setRow (w.heap.size + 1) #[.int .i64 y.k, .int .i64 y.m, .int .i64 y.p, .slice pa y.l.length pc, .slice qa y.s.length qc]).heap.size := by simp
  clear HCL hHeld HW O1 O2 x0
  generalize Z2.setRow (w.heap.size + 1) #[.int .i64 y.k, .int .i64 y.m, .int .i64 y.p, .slice pa y.l.length pc, .slice qa y.s.length qc] = Z3 at *
  go_wp2
  refine bodyPost_ret (v := .agg #[.int .i64 y.k, .int .i64 y.m, .int .i64 y.p, .slice pa y.l.length pc, .slice qa y.s.length qc]) (results_one Try.results47 _ _ _ rfl (loadFr GB.out)) rfl ?_
  exact ⟨_, _, rfl, (HO3.out.mono (by omega)).up hz3, HBZ.out⟩
set_option maxRecDepth 100000 in
set_option maxHeartbeats 8000000 in
theorem copyEachI (w : World) (fs : List Fr) (u : Value) (h : Reads w w.heap.size (frs fs) u) (hg : frsG fs) :
    Calls Try.prog 46 #[u, .func (.func 47) #[] #[]] w fun e w' => rowP w w' (frs fs) e := by
  have HR := hide h
  have hl := hg.1
  have HG2 := hide hg.2
  obtain ⟨a2, c2, e2, _⟩ := h.shape
  subst e2
  clear h hg
  obtain ⟨i1, hi, hz0, hz1, hz2⟩ := info_parts Try.infoFr
  have HJ := hide (And.intro hi (And.intro hz0 (And.intro hz1 hz2)))
  clear hi hz0 hz1 hz2
  go_enter Try.func46, Try.ntmps46
  go_wp2
  go_loopw [5, 10] (fun r i wr => ∃ xs : List Fr, xs.length ≤ fs.length ∧ Hid (xs = fs.take xs.length) ∧ i = .int .i64 (xs.length : Int) ∧ ∃ (va : Option Addr) (vc : Nat), r = .slice va xs.length vc ∧ Hid (OwnD wr w.heap.size wr.heap.size (frs xs) (.slice va xs.length vc)) ∧ Hid (Below w.heap.size w wr)) (fun _ i _ => fs.length - (intOf i).toNat)
  case atStart => exact ⟨[], Nat.zero_le _, hide (by simp), rfl, none, 0, rfl, hide (ownD_nil _ _ _ _ _), hide (Below.refl _ _)⟩
  case round =>
    obtain ⟨xs, hj, HXS, rfl, va, vc, rfl, HO, HBr⟩ := hrel
    by_cases hlt : xs.length < fs.length
    · obtain ⟨a', cap', ea, hcap, _, hc⟩ := frame_at (HR.out.at HBr.out)
      cases ea
      obtain ⟨b, o, rfl, hbb, hcell⟩ := hc (by omega)
      obtain ⟨pv1, pv2, d0, d1, d2, d3, d4, r1, r2⟩ := hcell xs.length hlt
      have HGy := hide (HG2.out (fs.getD xs.length default) (by rw [List.getD_eq_getElem?_getD, List.getElem?_eq_getElem hlt]; exact List.getElem_mem hlt))
      have HXS2 : Hid (xs ++ [fs.getD xs.length default] = fs.take (xs ++ [fs.getD xs.length default]).length) := hide (by
        rw [List.length_append]
        show _ = fs.take (xs.length + 1)
        rw [take_snoc hlt, ← HXS.out])
      clear hcell hc
      obtain ⟨y, hy⟩ : ∃ y, fs.getD xs.length default = y := ⟨_, rfl⟩
      rw [hy] at d0 d1 d2 r1 r2 HGy HXS2
      clear hy
      obtain ⟨fa1, fc1, fe1, _⟩ := r1.shape
      obtain ⟨fa2, fc2, fe2, _⟩ := r2.shape
      subst fe1 fe2
      have P1 := hide r1
      have P2 := hide r2
      clear r1 r2
      go_upto_region 5 with fail
      clear d0 d1 d2 d3 d4
      have bA := (Below.refl wr.heap.size wr).alloc (Nat.le_refl _) (.cells #[.int .i64 y.k, .int .i64 y.m, .int .i64 y.p, .slice fa1 y.l.length fc1, .slice fa2 y.s.length fc2] 54)
      have EF := hide (heap_alloc_new wr (.cells #[.int .i64 y.k, .int .i64 y.m, .int .i64 y.p, .slice fa1 y.l.length fc1, .slice fa2 y.s.length fc2] 54))
      replace P1 := hide (P1.out.at bA)
      replace P2 := hide (P2.out.at bA)
      have HBw := hide bA
      clear bA hbb
      obtain ⟨gf, hgf⟩ : ∃ g, wr.heap.size = g := ⟨_, rfl⟩
      rw [hgf] at EF ⊢
      clear hgf
      generalize wr.alloc (.cells #[.int .i64 y.k, .int .i64 y.m, .int .i64 y.p, .slice fa1 y.l.length fc1, .slice fa2 y.s.length fc2] 54) = W2 at *
      have f0 := (box_of EF.out).1 0 _ rfl
      have f1 := (box_of EF.out).1 1 _ rfl
      have f2 := (box_of EF.out).1 2 _ rfl
      have f3 := (box_of EF.out).1 3 _ rfl
      have f4 := (box_of EF.out).1 4 _ rfl
      go_wp2_with fail
      refine (copyFrI _ y _ _ P1.out P2.out HGy.out).mono ?_
      rintro e W3 ⟨r1, r2, rfl, o9, b9⟩
      have hz0 := HBw.out.size
      have hz1 := b9.size
      replace HBw := hide (HBw.out.trans (b9.mono HBw.out.size))
      clear b9 f0 f1 f2 f3 f4 EF P1 P2
      obtain ⟨⟨pa, pc, pe, _⟩, ⟨qa, qc, qe, _⟩⟩ := (show (∃ a c, r1 = .slice a y.l.length c ∧ True) ∧ (∃ a c, r2 = .slice a y.s.length c ∧ True) from ⟨by obtain ⟨a, c, e, _⟩ := (frD_own o9).1.shape; exact ⟨a, c, e, trivial⟩, by obtain ⟨a, c, e, _⟩ := (frD_own o9).2.shape; exact ⟨a, c, e, trivial⟩⟩)
      subst pe qe
      have HD := hide o9
      clear o9
      have HXa := hide ((Below.refl W3.heap.size W3).alloc (Nat.le_refl _) (.cells #[.int .i64 y.k, .int .i64 y.m, .int .i64 y.p, .slice pa y.l.length pc, .slice qa y.s.length qc] 54))
      have hsX := HXa.out.size
      have HXb := hide (HBw.out.trans (HXa.out.mono HBw.out.size))
      have hown := hide (OwnDL.cons (HO.out.below HXb.out) (ownDL_nil _ wr.heap.size wr.heap.size) HBr.out.size (Nat.le_refl _))
      have hds := hide ((HD.out.below HXa.out).up HXa.out.size)
      have hbx := hide (box_of (heap_alloc_new W3 (.cells #[.int .i64 y.k, .int .i64 y.m, .int .i64 y.p, .slice pa y.l.length pc, .slice qa y.s.length qc] 54))).1
      have hw0 := HBr.out.size
      have HBx := hide (HBr.out.trans (HXb.out.mono hw0))
      unfold frV
      go_wp2_with (first
        | (at_builtin; refine appL rfl _ _ 35 rfl w.heap.size wr.heap.size W2.heap.size 54 i1 (.agg #[.int .i64 0, .int .i64 0, .int .i64 0, .slice none 0 0, .slice none 0 0]) 5 72 Try.underlying35 HJ.out.1 HJ.out.2.1 HJ.out.2.2.1 HJ.out.2.2.2 rfl (by decide) (.slice va xs.length vc) xs.length (xs.flatMap frD) [] [] [] [] rfl hown.out rfl _ _ [.int .i64 y.k, .int .i64 y.m, .int .i64 y.p, .slice pa y.l.length pc, .slice qa y.s.length qc] (frD y) rfl hbx.out hds.out rfl (by simp [Value.oneCell']) (by omega) (by decide) (by omega) (by omega) (by omega) ?_; intro g9 vc9 w9 o9 gr9 hq9; have HB9 := hide (HBx.out.grown gr9 HBx.out.size (fun q hq => (hq9 q hq).1)); have HO9 := hide (OwnDL.mid (c1 := []) (v1 := []) o9 rfl); clear o9 gr9 hq9)
        | fail)
      refine ⟨⟨xs ++ [y], ?_, HXS2, ?_, some ⟨g9, 0, none⟩, vc9, ?_, hide ?_, HB9⟩, ?_⟩
      · rw [List.length_append]; simp only [List.length_cons, List.length_nil]; omega
      · rw [List.length_append]; simp only [List.length_cons, List.length_nil]; go_num
      · rw [List.length_append]; rfl
      · rw [frs_snoc, List.length_append]
        exact HO9.out
      · simp [intOf]; omega
    · have hxe : xs = fs := by
        have h1 := HXS.out
        have h2 : xs.length = fs.length := by omega
        rw [h2, List.take_length] at h1
        exact h1
      subst hxe
      go_wp2
      go_ret
      exact ⟨_, rfl, HO.out, HBr.out⟩
set_option maxRecDepth 100000 in
set_option maxHeartbeats 8000000 in
theorem copyThI (w : World) (t : Th) (u : Value) (h : Reads w w.heap.size (frs t.f) u) (hg : ThG t) :
    Calls Try.prog 31 #[thV t u] w fun e w' => thP w w' t e := by
  have HR := hide h
  obtain ⟨a2, c2, e2, _⟩ := h.shape
  subst e2
  clear h
  have bA := (((Below.refl w.heap.size w).alloc (Nat.le_refl _) (.cells #[.int .i64 t.i, .slice a2 t.f.length c2, .int .i64 t.s, .int .i64 t.d] 37)).alloc (by simp) (.cells #[.int .i64 0, .slice none 0 0, .int .i64 0, .int .i64 0] 37))
  have G0 := heap_alloc_new w (.cells #[.int .i64 t.i, .slice a2 t.f.length c2, .int .i64 t.s, .int .i64 t.d] 37)
  have G1 := heap_alloc_new (w.alloc (.cells #[.int .i64 t.i, .slice a2 t.f.length c2, .int .i64 t.s, .int .i64 t.d] 37)) (.cells #[.int .i64 0, .slice none 0 0, .int .i64 0, .int .i64 0] 37)
  simp only [World.size_alloc] at G1
  have E0 := hide ((Below.heap_alloc _ (.cells #[.int .i64 0, .slice none 0 0, .int .i64 0, .int .i64 0] 37) _ (by simp)).trans (G0))
  have E1 := hide (G1)
  have HB := hide bA
  replace HR := hide (HR.out.at bA)
  clear bA G0 G1
  unfold thV
  go_enter Try.func31, Try.ntmps31
  go_upto_region 1 with fail
  generalize ((w.alloc (.cells #[.int .i64 t.i, .slice a2 t.f.length c2, .int .i64 t.s, .int .i64 t.d] 37)).alloc (.cells #[.int .i64 0, .slice none 0 0, .int .i64 0, .int .i64 0] 37)) = W at *
  have HCL : Hid (∀ w', Below W.heap.size W w' → w'.cell? ⟨w.heap.size, 0, none⟩ = some (.int .i64 t.i) ∧ w'.cell? ⟨w.heap.size, 1, none⟩ = some (.slice a2 t.f.length c2) ∧ w'.cell? ⟨w.heap.size, 2, none⟩ = some (.int .i64 t.s) ∧ w'.cell? ⟨w.heap.size, 3, none⟩ = some (.int .i64 t.d)) := hide (fun w' hb => ⟨(box_of ((hb.block _ (Array.getElem?_eq_some_iff.1 E0.out).1).trans E0.out)).1 0 _ rfl, (box_of ((hb.block _ (Array.getElem?_eq_some_iff.1 E0.out).1).trans E0.out)).1 1 _ rfl, (box_of ((hb.block _ (Array.getElem?_eq_some_iff.1 E0.out).1).trans E0.out)).1 2 _ rfl, (box_of ((hb.block _ (Array.getElem?_eq_some_iff.1 E0.out).1).trans E0.out)).1 3 _ rfl⟩)
  have HW := hide (Below.refl W.heap.size W).drew
  refine wp_region_held_drew (S := fun w' => w'.cell? ⟨w.heap.size, 0, none⟩ = some (.int .i64 t.i) ∧ w'.cell? ⟨w.heap.size, 1, none⟩ = some (.slice a2 t.f.length c2) ∧ w'.cell? ⟨w.heap.size, 2, none⟩ = some (.int .i64 t.s) ∧ w'.cell? ⟨w.heap.size, 3, none⟩ = some (.int .i64 t.d)) (by kernel_rfl) (HCL.out _ HW.out) (fun hHeld => ?_)
  generalize W.drew = Z0 at *
  refine wpAnyH_take (i := 0) (v := ?_) rfl (by kernel_rfl) (by kernel_rfl) (by kernel_rfl) (fun _ _ _ h => h) (Or.inl ⟨by rfl, ?_⟩) (by assumption) ?_
  rotate_left
  · intro w' hSw
    try dsimp only at hSw
    go_simp; try rfl
  simp only [List.getElem_toArray, List.getElem_cons_zero, Act.put, List.setIfInBounds_toArray, List.set_cons_zero, List.set_cons_succ]
  refine wpAnyH_take (i := 1) (v := ?_) rfl (by kernel_rfl) (by kernel_rfl) (by kernel_rfl) (fun _ _ _ h => h) (Or.inl ⟨by rfl, ?_⟩) (by assumption) ?_
  rotate_left
  · intro w' hSw
    try dsimp only at hSw
    go_simp; try rfl
  simp only [List.getElem_toArray, List.getElem_cons_succ, List.getElem_cons_zero, Act.put, List.setIfInBounds_toArray, List.set_cons_zero, List.set_cons_succ]
  refine wpAnyH_take (i := 2) (v := ?_) rfl (by kernel_rfl) (by kernel_rfl) (by kernel_rfl) (fun _ _ _ h => h) (Or.inl ⟨by rfl, ?_⟩) (by assumption) ?_
  rotate_left
  · intro w' hSw
    try dsimp only at hSw
    go_simp; try rfl
  simp only [List.getElem_toArray, List.getElem_cons_succ, List.getElem_cons_zero, Act.put, List.setIfInBounds_toArray, List.set_cons_zero, List.set_cons_succ]
  refine wpAnyH_take (i := 3) (v := ?_) rfl (by kernel_rfl) (by kernel_rfl) (by kernel_rfl) (fun _ _ _ h => h) (Or.inl ⟨by rfl, ?_⟩) (by assumption) ?_
  rotate_left
  · intro w' hSw
    try dsimp only at hSw
    go_simp; try rfl
  simp only [List.getElem_toArray, List.getElem_cons_succ, List.getElem_cons_zero, Act.put, List.setIfInBounds_toArray, List.set_cons_zero, List.set_cons_succ]
  refine wpAnyH_take (i := 5) (v := ?_) rfl (by kernel_rfl) (by kernel_rfl) (by kernel_rfl) (fun _ _ _ h => h) (Or.inl ⟨by rfl, ?_⟩) (by assumption) ?_
  rotate_left
  · intro w' hSw
    try dsimp only at hSw
    go_simp; try rfl
  simp only [List.getElem_toArray, List.getElem_cons_succ, List.getElem_cons_zero, Act.put, List.setIfInBounds_toArray, List.set_cons_zero, List.set_cons_succ]
  refine wpAnyH_take (i := 6) (v := ?_) rfl (by kernel_rfl) (by kernel_rfl) (by kernel_rfl) (fun _ _ _ h => h) (Or.inl ⟨by rfl, ?_⟩) (by assumption) ?_
  rotate_left
  · intro w' hSw
    try dsimp only at hSw
    go_simp; try rfl
  simp only [List.getElem_toArray, List.getElem_cons_succ, List.getElem_cons_zero, Act.put, List.setIfInBounds_toArray, List.set_cons_zero, List.set_cons_succ]
  refine wpAnyH_take (i := 7) (v := ?_) rfl (by kernel_rfl) (by kernel_rfl) (by kernel_rfl) (fun _ _ _ h => h) (Or.inl ⟨by rfl, ?_⟩) (by assumption) ?_
  rotate_left
  · intro w' hSw
    try dsimp only at hSw
    go_simp; try rfl
  simp only [List.getElem_toArray, List.getElem_cons_succ, List.getElem_cons_zero, Act.put, List.setIfInBounds_toArray, List.set_cons_zero, List.set_cons_succ]
  refine wpAnyH_take (i := 8) (v := ?_) rfl (by kernel_rfl) (by kernel_rfl) (by kernel_rfl) (fun _ _ _ h => h) (Or.inl ⟨by rfl, ?_⟩) (by assumption) ?_
  rotate_left
  · intro w' hSw
    try dsimp only at hSw
    go_simp; try rfl
  simp only [List.getElem_toArray, List.getElem_cons_succ, List.getElem_cons_zero, Act.put, List.setIfInBounds_toArray, List.set_cons_zero, List.set_cons_succ]
  have hz0 := HW.out.size
  refine wpAnyH_ready (rs := [4]) (by kernel_rfl) (by simp) (AllReadyH.cons rfl (fun K hK => ?_) AllReadyH.nil)
  refine step_callW (some 7) (by kernel_rfl) (by kernel_rfl) 46 _ _ rfl #[.slice a2 t.f.length c2, .func (.func 47) #[] #[]] (by kernel_rfl) (copyEachI _ t.f _ (HR.out.at HW.out) hg.f) ?_
  rintro e Z1 ⟨r1, rfl, o9, b9⟩
  have hz1 := b9.size
  replace HW := hide (HW.out.trans (b9.mono HW.out.size))
  clear b9
  have O1 := hide o9
  clear o9
  refine ⟨_, rfl, ?_⟩
  refine hK.out _ _ (HCL.out _ HW.out) (fun hHeld => ?_)
  clear hK K
  simp only [Act.put, List.setIfInBounds_toArray, List.set_cons_zero, List.set_cons_succ]
  obtain ⟨pa, pc, pe⟩ := O1.out.shape
  subst pe
  refine wpAnyH_take (i := 9) (v := ?_) rfl (by kernel_rfl) (by kernel_rfl) (by kernel_rfl) (fun _ _ _ h => h) (Or.inl ⟨by rfl, ?_⟩) (by assumption) ?_
  rotate_left
  · intro w' hSw
    try dsimp only at hSw
    go_simp; try rfl
  simp only [List.getElem_toArray, List.getElem_cons_succ, List.getElem_cons_zero, Act.put, List.setIfInBounds_toArray, List.set_cons_zero, List.set_cons_succ]
  have GA := hide ((HW.out.block _ (Array.getElem?_eq_some_iff.1 E1.out).1).trans E1.out)
  have hA := (Array.getElem?_eq_some_iff.1 E1.out).1
  refine wpAnyH_ready (rs := [10]) (by kernel_rfl) (by simp) (AllReadyH.cons rfl (fun K hK => ?_) AllReadyH.nil)
  refine step_storeX (by kernel_rfl) (by kernel_rfl) 37 _ _ rfl (w.heap.size + 1) #[.int .i64 t.i, .slice pa t.f.length pc, .int .i64 t.s, .int .i64 t.d] (by kernel_rfl) (by kernel_rfl) _ _ GA.out (by kernel_rfl) (by rfl) (by simp [Value.oneCell']) ?_
  have GB := hide (setRow_heap Z1 (w.heap.size + 1) _ #[.int .i64 t.i, .slice pa t.f.length pc, .int .i64 t.s, .int .i64 t.d] _ _ GA.out)
  have x0 := ((setRow_other Z1 (w.heap.size + 1) (w.heap.size) #[.int .i64 t.i, .slice pa t.f.length pc, .int .i64 t.s, .int .i64 t.d] (by omega)).trans (HW.out.block _ (Array.getElem?_eq_some_iff.1 E0.out).1)).trans E0.out
  refine hK.out _ _ ⟨(box_of x0).1 0 _ rfl, (box_of x0).1 1 _ rfl, (box_of x0).1 2 _ rfl, (box_of x0).1 3 _ rfl⟩ (fun hHeld => ?_)
  clear hK K
  try simp only [Act.put, List.setIfInBounds_toArray, List.set_cons_zero, List.set_cons_succ]
  refine wpAnyH_done (by kernel_rfl) ?_ _
  have HBZ := hide (below_setRow (HB.out.trans (HW.out.mono HB.out.size)) (show w.heap.size ≤ w.heap.size + 1 by omega) #[.int .i64 t.i, .slice pa t.f.length pc, .int .i64 t.s, .int .i64 t.d])
  have HO3 : Hid (OwnDL Z1 Z0.heap.size Z1.heap.size (thD t) [.int .i64 t.i, .slice pa t.f.length pc, .int .i64 t.s, .int .i64 t.d]) := hide (OwnDL.val (OwnDL.cons O1.out (OwnDL.val (OwnDL.val (ownDL_nil _ Z1.heap.size _))) (by omega) (by omega)))
  replace HO3 := hide (OwnDL.setRowA HO3.out (w.heap.size + 1) #[.int .i64 t.i, .slice pa t.f.length pc, .int .i64 t.s, .int .i64 t.d] (Or.inl (by omega)))
  have hz3 : Z1.heap.size ≤ (Z1.setRow (w.heap.size + 1) #[.int .i64 t.i, .slice pa t.f.length pc, .int .i64 t.s, .int .i64 t.d]).heap.size := by simp
  clear HCL hHeld HW O1 x0
  generalize Z1.setRow (w.heap.size + 1) #[.int .i64 t.i, .slice pa t.f.length pc, .int .i64 t.s, .int .i64 t.d] = Z3 at *
  go_wp2
  refine bodyPost_ret (v := .agg #[.int .i64 t.i, .slice pa t.f.length pc, .int .i64 t.s, .int .i64 t.d]) (results_one Try.results31 _ _ _ rfl (loadTh GB.out)) rfl ?_
  exact ⟨_, rfl, (HO3.out.mono (by omega)).up hz3, HBZ.out⟩
end Go.Proofs.Ytgkglebgpbehbaa
