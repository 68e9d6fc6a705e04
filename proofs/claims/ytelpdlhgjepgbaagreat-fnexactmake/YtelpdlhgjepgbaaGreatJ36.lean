/-
  Joined: CpyM, MemJ.
-/
import Derived.Test.YtelpdlhgjepgbaaGreatJ28
import Derived.Test.YtelpdlhgjepgbaaGreatJ33
import Derived.Test.YtelpdlhgjepgbaaGreatJ35
import Derived.Test.YtelpdlhgjepgbaaGreatJ31
/-
  One memory in the program: a copy.
-/
namespace Go.Proofs.YtelpdlhgjepgbaaGreat
open Go.RowKit

set_option maxRecDepth 100000 in
set_option maxHeartbeats 4000000 in
theorem copyListVo (w : World) (v : Value) (xs : List Vl) (h : Reads w w.heap.size (vls xs) v) (hm : xs.length ≤ 2000000) :
    Calls Tryz.prog 67 #[v] w fun e w' => rowP w w' (vls xs) e := by
  have HF1 := hide (flat_vl xs)
  obtain ⟨i0, hi, hz0, hz1, hz2⟩ := info_parts Tryz.infoVl
  have HSZ : Hid ((Tryz.prog.info? 85).map (·.size) = some 2) := hide (by rw [hi]; simp [hz1])
  unfold vls Reads at h
  obtain ⟨us, hrd, hds⟩ := h
  have HDS := hide hds
  have H1 := hide (one_flat HF1.out hds)
  have HR := hide hrd
  obtain ⟨hfl, a, cap, rfl, _⟩ := hrd
  clear hds
  by_cases h0 : xs.length = 0
  · have hnil := List.eq_nil_of_length_eq_zero h0
    subst hnil
    go_enter Tryz.func67, Tryz.ntmps67
    go_wp2
    go_ret
    exact ⟨_, rfl, ownD_nil _ _ _ _ _, Below.refl _ _⟩
  · obtain ⟨ad, rfl, hsrc⟩ := rd_src HR.out (by omega)
    have HSR := hide hsrc
    have HFL := hide hfl
    have hne : ¬ ((xs.length : Int) = 0) := by omega
    clear hsrc hfl HR
    obtain ⟨n, hn⟩ : ∃ n, xs.length = n := ⟨_, rfl⟩
    have HNN := hide hn
    rw [hn] at hm h0 hne HFL ⊢
    clear hn
    go_enter Tryz.func67, Tryz.ntmps67
    go_wp2_with (first
      | (at_make; refine wpList_make_full _ rfl _ _ 52 rfl w.heap.size 85 i0 (.agg #[.bool false, .int .i64 0]) 2 Tryz.underlying52 hi hz0 hz1 _ _ _ _ n rfl rfl rfl rfl (by rw [hz2]; omega) (by unfold maxLen; omega) (Nat.le_refl _) ?_; intro w1 ho1 hg1; have HO1 := hide ho1; have HG1 := hide hg1; have HSR1 : Hid (∀ (j : Nat) (u : Value), us[j]? = some u → w1.cell? (ad.add j) = some u) := hide (fun j u hu => (((Below.refl w.heap.size w).grown HG1.out (Nat.le_refl _) (fun k hk => by cases hk)).cell (World.block_lt_of_cell? w _ (HSR.out j u hu))).trans (HSR.out j u hu)); clear ho1 hg1)
      | (refine wpList_copy_rows rfl _ _ 52 52 rfl 85 Tryz.underlying52 2 HSZ.out w.heap.size w.heap.size n n _ rfl HO1.out ad n cap rfl (Nat.le_refl _) us HFL.out HSR1.out H1.out ?_; intro w2 ho2 hg2; have HO2 := hide ho2; have HG2 := hide hg2; clear ho2 hg2))
    have HF : Hid (w2.ownsRow w.heap.size 85 2 (.slice (some ⟨w.heap.size, 0, none⟩) n n) n us) := hide (by
      have h2 := HO2.out
      rwa [List.drop_eq_nil_of_le (by rw [HO1.out.1, HFL.out]; exact Nat.le_refl _), List.append_nil] at h2)
    have HB : Hid (Below w.heap.size w w2) := hide (((Below.refl w.heap.size w).grown HG1.out (Nat.le_refl _) (fun k hk => by cases hk)).grown HG2.out ((Below.refl w.heap.size w).grown HG1.out (Nat.le_refl _) (fun k hk => by cases hk)).size (fun k hk => by cases hk; exact Nat.le_refl _))
    clear HO1 HO2 HG1 HG2
    go_ret
    refine ⟨_, rfl, ⟨[w.heap.size], ?_, by simp, fun q hq => ?_⟩, HB.out⟩
    · unfold vls Owns
      rw [HNN.out]
      exact ⟨us, [], HF.out, ownsL_flat (fun d hd => by obtain ⟨u, hu, _⟩ := HF1.out d hd; exact ⟨u, hu⟩) (ReadsL.low HDS.out HB.out (Nat.le_refl _)), rfl⟩
    · have hq' : q = w.heap.size := by simpa using hq
      subst hq'
      exact (World.ownsRow.lt HF.out _ rfl).2
set_option maxRecDepth 100000 in
set_option maxHeartbeats 4000000 in
theorem copyListLk (w : World) (v : Value) (xs : List Lk) (h : Reads w w.heap.size (lks xs) v) (hm : xs.length ≤ 2000000) :
    Calls Tryz.prog 43 #[v] w fun e w' => rowP w w' (lks xs) e := by
  have HF1 := hide (flat_lk xs)
  obtain ⟨i0, hi, hz0, hz1, hz2⟩ := info_parts Tryz.infoLk
  have HSZ : Hid ((Tryz.prog.info? 89).map (·.size) = some 3) := hide (by rw [hi]; simp [hz1])
  unfold lks Reads at h
  obtain ⟨us, hrd, hds⟩ := h
  have HDS := hide hds
  have H1 := hide (one_flat HF1.out hds)
  have HR := hide hrd
  obtain ⟨hfl, a, cap, rfl, _⟩ := hrd
  clear hds
  by_cases h0 : xs.length = 0
  · have hnil := List.eq_nil_of_length_eq_zero h0
    subst hnil
    go_enter Tryz.func43, Tryz.ntmps43
    go_wp2
    go_ret
    exact ⟨_, rfl, ownD_nil _ _ _ _ _, Below.refl _ _⟩
  · obtain ⟨ad, rfl, hsrc⟩ := rd_src HR.out (by omega)
    have HSR := hide hsrc
    have HFL := hide hfl
    have hne : ¬ ((xs.length : Int) = 0) := by omega
    clear hsrc hfl HR
    obtain ⟨n, hn⟩ : ∃ n, xs.length = n := ⟨_, rfl⟩
    have HNN := hide hn
    rw [hn] at hm h0 hne HFL ⊢
    clear hn
    go_enter Tryz.func43, Tryz.ntmps43
    go_wp2_with (first
      | (at_make; refine wpList_make_full _ rfl _ _ 32 rfl w.heap.size 89 i0 (.agg #[.int .i64 0, .int .i64 0, .int .i64 0]) 3 Tryz.underlying32 hi hz0 hz1 _ _ _ _ n rfl rfl rfl rfl (by rw [hz2]; omega) (by unfold maxLen; omega) (Nat.le_refl _) ?_; intro w1 ho1 hg1; have HO1 := hide ho1; have HG1 := hide hg1; have HSR1 : Hid (∀ (j : Nat) (u : Value), us[j]? = some u → w1.cell? (ad.add j) = some u) := hide (fun j u hu => (((Below.refl w.heap.size w).grown HG1.out (Nat.le_refl _) (fun k hk => by cases hk)).cell (World.block_lt_of_cell? w _ (HSR.out j u hu))).trans (HSR.out j u hu)); clear ho1 hg1)
      | (refine wpList_copy_rows rfl _ _ 32 32 rfl 89 Tryz.underlying32 3 HSZ.out w.heap.size w.heap.size n n _ rfl HO1.out ad n cap rfl (Nat.le_refl _) us HFL.out HSR1.out H1.out ?_; intro w2 ho2 hg2; have HO2 := hide ho2; have HG2 := hide hg2; clear ho2 hg2))
    have HF : Hid (w2.ownsRow w.heap.size 89 3 (.slice (some ⟨w.heap.size, 0, none⟩) n n) n us) := hide (by
      have h2 := HO2.out
      rwa [List.drop_eq_nil_of_le (by rw [HO1.out.1, HFL.out]; exact Nat.le_refl _), List.append_nil] at h2)
    have HB : Hid (Below w.heap.size w w2) := hide (((Below.refl w.heap.size w).grown HG1.out (Nat.le_refl _) (fun k hk => by cases hk)).grown HG2.out ((Below.refl w.heap.size w).grown HG1.out (Nat.le_refl _) (fun k hk => by cases hk)).size (fun k hk => by cases hk; exact Nat.le_refl _))
    clear HO1 HO2 HG1 HG2
    go_ret
    refine ⟨_, rfl, ⟨[w.heap.size], ?_, by simp, fun q hq => ?_⟩, HB.out⟩
    · unfold lks Owns
      rw [HNN.out]
      exact ⟨us, [], HF.out, ownsL_flat (fun d hd => by obtain ⟨u, hu, _⟩ := HF1.out d hd; exact ⟨u, hu⟩) (ReadsL.low HDS.out HB.out (Nat.le_refl _)), rfl⟩
    · have hq' : q = w.heap.size := by simpa using hq
      subst hq'
      exact (World.ownsRow.lt HF.out _ rfl).2
set_option maxRecDepth 100000 in
set_option maxHeartbeats 8000000 in
theorem copyObI (w : World) (x : Ob) (u : Value) (h : Reads w w.heap.size (vls x.f) u) (hl : x.f.length ≤ 1048576) :
    Calls Tryz.prog 42 #[obV x u] w fun e w' => obP w w' x e := by
  have P1 := hide h
  obtain ⟨a1, c1, e1, _⟩ := h.shape
  subst e1
  clear h
  have bA := (((Below.refl w.heap.size w).alloc (Nat.le_refl _) (.cells #[.int .i64 x.i, .int .i64 x.c, .slice a1 x.f.length c1] 54)).alloc (by simp) (.cells #[.int .i64 0, .int .i64 0, .slice none 0 0] 54))
  have G0 := heap_alloc_new w (.cells #[.int .i64 x.i, .int .i64 x.c, .slice a1 x.f.length c1] 54)
  have G1 := heap_alloc_new (w.alloc (.cells #[.int .i64 x.i, .int .i64 x.c, .slice a1 x.f.length c1] 54)) (.cells #[.int .i64 0, .int .i64 0, .slice none 0 0] 54)
  simp only [World.size_alloc] at G1
  have E0 := hide ((Below.heap_alloc _ (.cells #[.int .i64 0, .int .i64 0, .slice none 0 0] 54) _ (by simp)).trans (G0))
  have E1 := hide (G1)
  have HB := hide bA
  replace P1 := hide (P1.out.at bA)
  clear bA G0 G1
  unfold obV
  go_enter Tryz.func42, Tryz.ntmps42
  go_upto_region 1 with fail
  generalize ((w.alloc (.cells #[.int .i64 x.i, .int .i64 x.c, .slice a1 x.f.length c1] 54)).alloc (.cells #[.int .i64 0, .int .i64 0, .slice none 0 0] 54)) = W at *
  have HCL : Hid (∀ w', Below W.heap.size W w' → w'.cell? ⟨w.heap.size, 0, none⟩ = some (.int .i64 x.i) ∧ w'.cell? ⟨w.heap.size, 1, none⟩ = some (.int .i64 x.c) ∧ w'.cell? ⟨w.heap.size, 2, none⟩ = some (.slice a1 x.f.length c1)) := hide (fun w' hb => ⟨(box_of ((hb.block _ (Array.getElem?_eq_some_iff.1 E0.out).1).trans E0.out)).1 0 _ rfl, (box_of ((hb.block _ (Array.getElem?_eq_some_iff.1 E0.out).1).trans E0.out)).1 1 _ rfl, (box_of ((hb.block _ (Array.getElem?_eq_some_iff.1 E0.out).1).trans E0.out)).1 2 _ rfl⟩)
  have HW := hide (Below.refl W.heap.size W).drew
  refine wp_region_held_drew (S := fun w' => w'.cell? ⟨w.heap.size, 0, none⟩ = some (.int .i64 x.i) ∧ w'.cell? ⟨w.heap.size, 1, none⟩ = some (.int .i64 x.c) ∧ w'.cell? ⟨w.heap.size, 2, none⟩ = some (.slice a1 x.f.length c1)) (by kernel_rfl) (HCL.out _ HW.out) (fun hHeld => ?_)
  generalize W.drew = Z0 at *
  refine wpAnyH_take (i := 0) (v := ?_) rfl (by kernel_rfl) (by kernel_rfl) (by kernel_rfl) (fun _ _ _ h => h) (Or.inl ⟨by rfl, ?_⟩) (by assumption) ?_
  rotate_left
  · intro w' hSw
    try dsimp only at hSw
    go_simp; try rfl
  simp only [List.getElem_toArray, List.getElem_cons_zero, Act.put, List.setIfInBounds_toArray, List.set_cons_zero, List.set_cons_succ]
  refine wpAnyH_take (i := 1) (v := ?_) rfl (by kernel_rfl) (by kernel_rfl) (by kernel_rfl) (fun _ _ _ h => h) (Or.inl ⟨by rfl, ?_⟩) (by assumption) ?_
  rotate_left
  · intro w' hSw
    try dsimp only at hSw
    go_simp; try rfl
  simp only [List.getElem_toArray, List.getElem_cons_succ, List.getElem_cons_zero, Act.put, List.setIfInBounds_toArray, List.set_cons_zero, List.set_cons_succ]
  refine wpAnyH_take (i := 2) (v := ?_) rfl (by kernel_rfl) (by kernel_rfl) (by kernel_rfl) (fun _ _ _ h => h) (Or.inl ⟨by rfl, ?_⟩) (by assumption) ?_
  rotate_left
  · intro w' hSw
    try dsimp only at hSw
    go_simp; try rfl
  simp only [List.getElem_toArray, List.getElem_cons_succ, List.getElem_cons_zero, Act.put, List.setIfInBounds_toArray, List.set_cons_zero, List.set_cons_succ]
  refine wpAnyH_take (i := 3) (v := ?_) rfl (by kernel_rfl) (by kernel_rfl) (by kernel_rfl) (fun _ _ _ h => h) (Or.inl ⟨by rfl, ?_⟩) (by assumption) ?_
  rotate_left
  · intro w' hSw
    try dsimp only at hSw
    go_simp; try rfl
  simp only [List.getElem_toArray, List.getElem_cons_succ, List.getElem_cons_zero, Act.put, List.setIfInBounds_toArray, List.set_cons_zero, List.set_cons_succ]
  refine wpAnyH_take (i := 4) (v := ?_) rfl (by kernel_rfl) (by kernel_rfl) (by kernel_rfl) (fun _ _ _ h => h) (Or.inl ⟨by rfl, ?_⟩) (by assumption) ?_
  rotate_left
  · intro w' hSw
    try dsimp only at hSw
    go_simp; try rfl
  simp only [List.getElem_toArray, List.getElem_cons_succ, List.getElem_cons_zero, Act.put, List.setIfInBounds_toArray, List.set_cons_zero, List.set_cons_succ]
  refine wpAnyH_take (i := 5) (v := ?_) rfl (by kernel_rfl) (by kernel_rfl) (by kernel_rfl) (fun _ _ _ h => h) (Or.inl ⟨by rfl, ?_⟩) (by assumption) ?_
  rotate_left
  · intro w' hSw
    try dsimp only at hSw
    go_simp; try rfl
  simp only [List.getElem_toArray, List.getElem_cons_succ, List.getElem_cons_zero, Act.put, List.setIfInBounds_toArray, List.set_cons_zero, List.set_cons_succ]
  have hz0 := HW.out.size
  refine wpAnyH_ready (rs := [6]) (by kernel_rfl) (by simp) (AllReadyH.cons rfl (fun K hK => ?_) AllReadyH.nil)
  refine step_callW (some 9) (by kernel_rfl) (by kernel_rfl) 67 _ _ rfl #[.slice a1 x.f.length c1] (by kernel_rfl) (copyListVo _ _ x.f (P1.out.at HW.out) (by omega)) ?_
  rintro e Z1 ⟨r1, rfl, o9, b9⟩
  have hz1 := b9.size
  replace HW := hide (HW.out.trans (b9.mono HW.out.size))
  clear b9
  have O1 := hide o9
  clear o9
  refine ⟨_, rfl, ?_⟩
  refine hK.out _ _ (HCL.out _ HW.out) (fun hHeld => ?_)
  clear hK K
  simp only [Act.put, List.setIfInBounds_toArray, List.set_cons_zero, List.set_cons_succ]
  obtain ⟨pa, pc, pe⟩ := O1.out.shape
  subst pe
  refine wpAnyH_take (i := 7) (v := ?_) rfl (by kernel_rfl) (by kernel_rfl) (by kernel_rfl) (fun _ _ _ h => h) (Or.inl ⟨by rfl, ?_⟩) (by assumption) ?_
  rotate_left
  · intro w' hSw
    try dsimp only at hSw
    go_simp; try rfl
  simp only [List.getElem_toArray, List.getElem_cons_succ, List.getElem_cons_zero, Act.put, List.setIfInBounds_toArray, List.set_cons_zero, List.set_cons_succ]
  have GA := hide ((HW.out.block _ (Array.getElem?_eq_some_iff.1 E1.out).1).trans E1.out)
  have hA := (Array.getElem?_eq_some_iff.1 E1.out).1
  refine wpAnyH_ready (rs := [8]) (by kernel_rfl) (by simp) (AllReadyH.cons rfl (fun K hK => ?_) AllReadyH.nil)
  refine step_storeX (by kernel_rfl) (by kernel_rfl) 54 _ _ rfl (w.heap.size + 1) #[.int .i64 x.i, .int .i64 x.c, .slice pa x.f.length pc] (by kernel_rfl) (by kernel_rfl) _ _ GA.out (by kernel_rfl) (by rfl) (by simp [Value.oneCell']) ?_
  have GB := hide (setRow_heap Z1 (w.heap.size + 1) _ #[.int .i64 x.i, .int .i64 x.c, .slice pa x.f.length pc] _ _ GA.out)
  have x0 := ((setRow_other Z1 (w.heap.size + 1) (w.heap.size) #[.int .i64 x.i, .int .i64 x.c, .slice pa x.f.length pc] (by omega)).trans (HW.out.block _ (Array.getElem?_eq_some_iff.1 E0.out).1)).trans E0.out
  refine hK.out _ _ ⟨(box_of x0).1 0 _ rfl, (box_of x0).1 1 _ rfl, (box_of x0).1 2 _ rfl⟩ (fun hHeld => ?_)
  clear hK K
  try simp only [Act.put, List.setIfInBounds_toArray, List.set_cons_zero, List.set_cons_succ]
  refine wpAnyH_done (by kernel_rfl) ?_ _
  have HBZ := hide (below_setRow (HB.out.trans (HW.out.mono HB.out.size)) (show w.heap.size ≤ w.heap.size + 1 by omega) #[.int .i64 x.i, .int .i64 x.c, .slice pa x.f.length pc])
  have HO3 : Hid (OwnDL Z1 Z0.heap.size Z1.heap.size (obD x) [.int .i64 x.i, .int .i64 x.c, .slice pa x.f.length pc]) := hide (OwnDL.val (OwnDL.val (OwnDL.cons O1.out (ownDL_nil _ Z1.heap.size _) (by omega) (by omega))))
  replace HO3 := hide (OwnDL.setRowA HO3.out (w.heap.size + 1) #[.int .i64 x.i, .int .i64 x.c, .slice pa x.f.length pc] (Or.inl (by omega)))
  have hz3 : Z1.heap.size ≤ (Z1.setRow (w.heap.size + 1) #[.int .i64 x.i, .int .i64 x.c, .slice pa x.f.length pc]).heap.size := by simp
  clear HCL hHeld HW O1 x0
  generalize Z1.setRow (w.heap.size + 1) #[.int .i64 x.i, .int .i64 x.c, .slice pa x.f.length pc] = Z3 at *
  go_wp2
  refine bodyPost_ret (v := .agg #[.int .i64 x.i, .int .i64 x.c, .slice pa x.f.length pc]) (results_one Tryz.results42 _ _ _ rfl (loadOb GB.out)) rfl ?_
  exact ⟨_, rfl, (HO3.out.mono (by omega)).up hz3, HBZ.out⟩
set_option maxRecDepth 100000 in
set_option maxHeartbeats 8000000 in
theorem copyEachO (w : World) (xo : List Ob) (u : Value) (h : Reads w w.heap.size (obs xo) u) (hg : obsG xo) :
    Calls Tryz.prog 41 #[u, .func (.func 42) #[] #[]] w fun e w' => rowP w w' (obs xo) e := by
  have HR := hide h
  have hl := hg.1
  have HG2 := hide hg.2
  obtain ⟨a2, c2, e2, _⟩ := h.shape
  subst e2
  clear h hg
  obtain ⟨i1, hi, hz0, hz1, hz2⟩ := info_parts Tryz.infoOb
  have HJ := hide (And.intro hi (And.intro hz0 (And.intro hz1 hz2)))
  clear hi hz0 hz1 hz2
  go_enter Tryz.func41, Tryz.ntmps41
  go_wp2
  go_loopw [5, 10] (fun r i wr => ∃ xs : List Ob, xs.length ≤ xo.length ∧ Hid (xs = xo.take xs.length) ∧ i = .int .i64 (xs.length : Int) ∧ ∃ (va : Option Addr) (vc : Nat), r = .slice va xs.length vc ∧ Hid (OwnD wr w.heap.size wr.heap.size (obs xs) (.slice va xs.length vc)) ∧ Hid (Below w.heap.size w wr)) (fun _ i _ => xo.length - (intOf i).toNat)
  case atStart => exact ⟨[], Nat.zero_le _, hide (by simp), rfl, none, 0, rfl, hide (ownD_nil _ _ _ _ _), hide (Below.refl _ _)⟩
  case round =>
    obtain ⟨xs, hj, HXS, rfl, va, vc, rfl, HO, HBr⟩ := hrel
    by_cases hlt : xs.length < xo.length
    · obtain ⟨a', cap', ea, hcap, _, hc⟩ := object_at (HR.out.at HBr.out)
      cases ea
      obtain ⟨b, o, rfl, hbb, hcell⟩ := hc (by omega)
      obtain ⟨pv1, d0, d1, d2, r1⟩ := hcell xs.length hlt
      have HGy := hide (HG2.out (xo.getD xs.length default) (by rw [List.getD_eq_getElem?_getD, List.getElem?_eq_getElem hlt]; exact List.getElem_mem hlt))
      have HXS2 : Hid (xs ++ [xo.getD xs.length default] = xo.take (xs ++ [xo.getD xs.length default]).length) := hide (by
        rw [List.length_append]
        show _ = xo.take (xs.length + 1)
        rw [take_snocO hlt, ← HXS.out])
      clear hcell hc
      obtain ⟨y, hy⟩ : ∃ y, xo.getD xs.length default = y := ⟨_, rfl⟩
      rw [hy] at d0 d1 r1 HGy HXS2
      clear hy
      obtain ⟨fa1, fc1, fe1, _⟩ := r1.shape
      subst fe1
      have P1 := hide r1
      clear r1
      go_upto_region 5 with fail
      clear d0 d1 d2
      have bA := (Below.refl wr.heap.size wr).alloc (Nat.le_refl _) (.cells #[.int .i64 y.i, .int .i64 y.c, .slice fa1 y.f.length fc1] 54)
      have EF := hide (heap_alloc_new wr (.cells #[.int .i64 y.i, .int .i64 y.c, .slice fa1 y.f.length fc1] 54))
      replace P1 := hide (P1.out.at bA)
      have HBw := hide bA
      clear bA hbb
      obtain ⟨gf, hgf⟩ : ∃ g, wr.heap.size = g := ⟨_, rfl⟩
      rw [hgf] at EF ⊢
      clear hgf
      generalize wr.alloc (.cells #[.int .i64 y.i, .int .i64 y.c, .slice fa1 y.f.length fc1] 54) = W2 at *
      have f0 := (box_of EF.out).1 0 _ rfl
      have f1 := (box_of EF.out).1 1 _ rfl
      have f2 := (box_of EF.out).1 2 _ rfl
      go_wp2_with fail
      refine (copyObI _ y _ P1.out HGy.out.f.1).mono ?_
      rintro e W3 ⟨r1, rfl, o9, b9⟩
      have hz0 := HBw.out.size
      have hz1 := b9.size
      replace HBw := hide (HBw.out.trans (b9.mono HBw.out.size))
      clear b9 f0 f1 f2 EF P1
      obtain ⟨pa, pc, pe, _⟩ := (obD_own o9).shape
      subst pe
      have HD := hide o9
      clear o9
      have HXa := hide ((Below.refl W3.heap.size W3).alloc (Nat.le_refl _) (.cells #[.int .i64 y.i, .int .i64 y.c, .slice pa y.f.length pc] 54))
      have hsX := HXa.out.size
      have HXb := hide (HBw.out.trans (HXa.out.mono HBw.out.size))
      have hown := hide (OwnDL.cons (HO.out.below HXb.out) (ownDL_nil _ wr.heap.size wr.heap.size) HBr.out.size (Nat.le_refl _))
      have hds := hide ((HD.out.below HXa.out).up HXa.out.size)
      have hbx := hide (box_of (heap_alloc_new W3 (.cells #[.int .i64 y.i, .int .i64 y.c, .slice pa y.f.length pc] 54))).1
      have hw0 := HBr.out.size
      have HBx := hide (HBr.out.trans (HXb.out.mono hw0))
      unfold obV
      go_wp2_with (first
        | (at_builtin; refine appL rfl _ _ 31 rfl w.heap.size wr.heap.size W2.heap.size 54 i1 (.agg #[.int .i64 0, .int .i64 0, .slice none 0 0]) 3 40 Tryz.underlying31 HJ.out.1 HJ.out.2.1 HJ.out.2.2.1 HJ.out.2.2.2 rfl (by decide) (.slice va xs.length vc) xs.length (xs.flatMap obD) [] [] [] [] rfl hown.out rfl _ _ [.int .i64 y.i, .int .i64 y.c, .slice pa y.f.length pc] (obD y) rfl hbx.out hds.out rfl (by simp [Value.oneCell']) (by omega) (by decide) (by omega) (by omega) (by omega) ?_; intro g9 vc9 w9 o9 gr9 hq9; have HB9 := hide (HBx.out.grown gr9 HBx.out.size (fun q hq => (hq9 q hq).1)); have HO9 := hide (OwnDL.mid (c1 := []) (v1 := []) o9 rfl); clear o9 gr9 hq9)
        | fail)
      refine ⟨⟨xs ++ [y], ?_, HXS2, ?_, some ⟨g9, 0, none⟩, vc9, ?_, hide ?_, HB9⟩, ?_⟩
      · rw [List.length_append]; simp only [List.length_cons, List.length_nil]; omega
      · rw [List.length_append]; simp only [List.length_cons, List.length_nil]; go_num
      · rw [List.length_append]; rfl
      · rw [obs_snoc, List.length_append]
        exact HO9.out
      · simp [intOf]; omega
    · have hxe : xs = xo := by
        have h1 := HXS.out
        have h2 : xs.length = xo.length := by omega
        rw [h2, List.take_length] at h1
        exact h1
      subst hxe
      go_wp2
      go_ret
      exact ⟨_, rfl, HO.out, HBr.out⟩
set_option maxRecDepth 100000 in
set_option maxHeartbeats 8000000 in
theorem copyMmI (w : World) (m : Mm) (u1 u2 : Value) (h1 : Reads w w.heap.size (obs m.o) u1) (h2 : Reads w w.heap.size (lks m.l) u2) (hg : MmG m) :
    Calls Tryz.prog 26 #[mmV m u1 u2] w fun e w' => mmP w w' m e := by
  have P1 := hide h1
  have P2 := hide h2
  have hl := hg.l.1
  obtain ⟨a1, c1, e1, _⟩ := h1.shape
  obtain ⟨a2, c2, e2, _⟩ := h2.shape
  subst e1 e2
  clear h1 h2
  have bA := (((Below.refl w.heap.size w).alloc (Nat.le_refl _) (.cells #[.slice a1 m.o.length c1, .slice a2 m.l.length c2] 34)).alloc (by simp) (.cells #[.slice none 0 0, .slice none 0 0] 34))
  have G0 := heap_alloc_new w (.cells #[.slice a1 m.o.length c1, .slice a2 m.l.length c2] 34)
  have G1 := heap_alloc_new (w.alloc (.cells #[.slice a1 m.o.length c1, .slice a2 m.l.length c2] 34)) (.cells #[.slice none 0 0, .slice none 0 0] 34)
  simp only [World.size_alloc] at G1
  have E0 := hide ((Below.heap_alloc _ (.cells #[.slice none 0 0, .slice none 0 0] 34) _ (by simp)).trans (G0))
  have E1 := hide (G1)
  have HB := hide bA
  replace P1 := hide (P1.out.at bA)
  replace P2 := hide (P2.out.at bA)
  clear bA G0 G1
  unfold mmV
  go_enter Tryz.func26, Tryz.ntmps26
  go_upto_region 1 with fail
  generalize ((w.alloc (.cells #[.slice a1 m.o.length c1, .slice a2 m.l.length c2] 34)).alloc (.cells #[.slice none 0 0, .slice none 0 0] 34)) = W at *
  have HCL : Hid (∀ w', Below W.heap.size W w' → w'.cell? ⟨w.heap.size, 0, none⟩ = some (.slice a1 m.o.length c1) ∧ w'.cell? ⟨w.heap.size, 1, none⟩ = some (.slice a2 m.l.length c2)) := hide (fun w' hb => ⟨(box_of ((hb.block _ (Array.getElem?_eq_some_iff.1 E0.out).1).trans E0.out)).1 0 _ rfl, (box_of ((hb.block _ (Array.getElem?_eq_some_iff.1 E0.out).1).trans E0.out)).1 1 _ rfl⟩)
  have HW := hide (Below.refl W.heap.size W).drew
  refine wp_region_held_drew (S := fun w' => w'.cell? ⟨w.heap.size, 0, none⟩ = some (.slice a1 m.o.length c1) ∧ w'.cell? ⟨w.heap.size, 1, none⟩ = some (.slice a2 m.l.length c2)) (by kernel_rfl) (HCL.out _ HW.out) (fun hHeld => ?_)
  generalize W.drew = Z0 at *
  refine wpAnyH_take (i := 0) (v := ?_) rfl (by kernel_rfl) (by kernel_rfl) (by kernel_rfl) (fun _ _ _ h => h) (Or.inl ⟨by rfl, ?_⟩) (by assumption) ?_
  rotate_left
  · intro w' hSw
    try dsimp only at hSw
    go_simp; try rfl
  simp only [List.getElem_toArray, List.getElem_cons_zero, Act.put, List.setIfInBounds_toArray, List.set_cons_zero, List.set_cons_succ]
  refine wpAnyH_take (i := 1) (v := ?_) rfl (by kernel_rfl) (by kernel_rfl) (by kernel_rfl) (fun _ _ _ h => h) (Or.inl ⟨by rfl, ?_⟩) (by assumption) ?_
  rotate_left
  · intro w' hSw
    try dsimp only at hSw
    go_simp; try rfl
  simp only [List.getElem_toArray, List.getElem_cons_succ, List.getElem_cons_zero, Act.put, List.setIfInBounds_toArray, List.set_cons_zero, List.set_cons_succ]
  refine wpAnyH_take (i := 3) (v := ?_) rfl (by kernel_rfl) (by kernel_rfl) (by kernel_rfl) (fun _ _ _ h => h) (Or.inl ⟨by rfl, ?_⟩) (by assumption) ?_
  rotate_left
  · intro w' hSw
    try dsimp only at hSw
    go_simp; try rfl
  simp only [List.getElem_toArray, List.getElem_cons_succ, List.getElem_cons_zero, Act.put, List.setIfInBounds_toArray, List.set_cons_zero, List.set_cons_succ]
  refine wpAnyH_take (i := 4) (v := ?_) rfl (by kernel_rfl) (by kernel_rfl) (by kernel_rfl) (fun _ _ _ h => h) (Or.inl ⟨by rfl, ?_⟩) (by assumption) ?_
  rotate_left
  · intro w' hSw
    try dsimp only at hSw
    go_simp; try rfl
  simp only [List.getElem_toArray, List.getElem_cons_succ, List.getElem_cons_zero, Act.put, List.setIfInBounds_toArray, List.set_cons_zero, List.set_cons_succ]
  have hz0 := HW.out.size
  refine wpAnyH_ready (rs := [2]) (by kernel_rfl) (by simp) (AllReadyH.cons rfl (fun K hK => ?_) AllReadyH.nil)
  refine step_callW (some 5) (by kernel_rfl) (by kernel_rfl) 41 _ _ rfl #[.slice a1 m.o.length c1, .func (.func 42) #[] #[]] (by kernel_rfl) (copyEachO _ m.o _ (P1.out.at HW.out) hg.o) ?_
  rintro e Z1 ⟨r1, rfl, o9, b9⟩
  have hz1 := b9.size
  replace HW := hide (HW.out.trans (b9.mono HW.out.size))
  clear b9
  have O1 := hide o9
  clear o9
  refine ⟨_, rfl, ?_⟩
  refine hK.out _ _ (HCL.out _ HW.out) (fun hHeld => ?_)
  clear hK K
  simp only [Act.put, List.setIfInBounds_toArray, List.set_cons_zero, List.set_cons_succ]
  refine wpAnyH_ready (rs := [5]) (by kernel_rfl) (by simp) (AllReadyH.cons rfl (fun K hK => ?_) AllReadyH.nil)
  refine step_callW (some 8) (by kernel_rfl) (by kernel_rfl) 43 _ _ rfl #[.slice a2 m.l.length c2] (by kernel_rfl) (copyListLk _ _ m.l (P2.out.at HW.out) (by omega)) ?_
  rintro e Z2 ⟨r2, rfl, o9, b9⟩
  have hz2 := b9.size
  replace HW := hide (HW.out.trans (b9.mono HW.out.size))
  replace O1 := hide (O1.out.below b9)
  clear b9
  have O2 := hide o9
  clear o9
  refine ⟨_, rfl, ?_⟩
  refine hK.out _ _ (HCL.out _ HW.out) (fun hHeld => ?_)
  clear hK K
  simp only [Act.put, List.setIfInBounds_toArray, List.set_cons_zero, List.set_cons_succ]
  obtain ⟨pa, pc, pe⟩ := O1.out.shape
  obtain ⟨qa, qc, qe⟩ := O2.out.shape
  subst pe qe
  refine wpAnyH_take (i := 6) (v := ?_) rfl (by kernel_rfl) (by kernel_rfl) (by kernel_rfl) (fun _ _ _ h => h) (Or.inl ⟨by rfl, ?_⟩) (by assumption) ?_
  rotate_left
  · intro w' hSw
    try dsimp only at hSw
    go_simp; try rfl
  simp only [List.getElem_toArray, List.getElem_cons_succ, List.getElem_cons_zero, Act.put, List.setIfInBounds_toArray, List.set_cons_zero, List.set_cons_succ]
  have GA := hide ((HW.out.block _ (Array.getElem?_eq_some_iff.1 E1.out).1).trans E1.out)
  have hA := (Array.getElem?_eq_some_iff.1 E1.out).1
  refine wpAnyH_ready (rs := [7]) (by kernel_rfl) (by simp) (AllReadyH.cons rfl (fun K hK => ?_) AllReadyH.nil)
  refine step_storeX (by kernel_rfl) (by kernel_rfl) 34 _ _ rfl (w.heap.size + 1) #[.slice pa m.o.length pc, .slice qa m.l.length qc] (by kernel_rfl) (by kernel_rfl) _ _ GA.out (by kernel_rfl) (by rfl) (by simp [Value.oneCell']) ?_
  have GB := hide (setRow_heap Z2 (w.heap.size + 1) _ #[.slice pa m.o.length pc, .slice qa m.l.length qc] _ _ GA.out)
  have x0 := ((setRow_other Z2 (w.heap.size + 1) (w.heap.size) #[.slice pa m.o.length pc, .slice qa m.l.length qc] (by omega)).trans (HW.out.block _ (Array.getElem?_eq_some_iff.1 E0.out).1)).trans E0.out
  refine hK.out _ _ ⟨(box_of x0).1 0 _ rfl, (box_of x0).1 1 _ rfl⟩ (fun hHeld => ?_)
  clear hK K
  try simp only [Act.put, List.setIfInBounds_toArray, List.set_cons_zero, List.set_cons_succ]
  refine wpAnyH_done (by kernel_rfl) ?_ _
  have HBZ := hide (below_setRow (HB.out.trans (HW.out.mono HB.out.size)) (show w.heap.size ≤ w.heap.size + 1 by omega) #[.slice pa m.o.length pc, .slice qa m.l.length qc])
  have HO3 : Hid (OwnDL Z2 Z0.heap.size Z2.heap.size (mmD m) [.slice pa m.o.length pc, .slice qa m.l.length qc]) := hide (OwnDL.cons O1.out (OwnDL.cons O2.out (ownDL_nil _ Z2.heap.size _) (by omega) (by omega)) (by omega) (by omega))
  replace HO3 := hide (OwnDL.setRowA HO3.out (w.heap.size + 1) #[.slice pa m.o.length pc, .slice qa m.l.length qc] (Or.inl (by omega)))
  have hz3 : Z2.heap.size ≤ (Z2.setRow (w.heap.size + 1) #[.slice pa m.o.length pc, .slice qa m.l.length qc]).heap.size := by simp
  clear HCL hHeld HW O1 O2 x0
  generalize Z2.setRow (w.heap.size + 1) #[.slice pa m.o.length pc, .slice qa m.l.length qc] = Z3 at *
  go_wp2
  refine bodyPost_ret (v := .agg #[.slice pa m.o.length pc, .slice qa m.l.length qc]) (results_one Tryz.results26 _ _ _ rfl (loadMm GB.out)) rfl ?_
  exact ⟨_, _, rfl, (HO3.out.mono (by omega)).up hz3, HBZ.out⟩
end Go.Proofs.YtelpdlhgjepgbaaGreat
/-
  One memory in the program: a field, what is read, found and written.
-/
namespace Go.Proofs.YtelpdlhgjepgbaaGreat
open Go.RowKit

theorem ObsAt.at {w w' : World} {u : Value} {xs : List Ob} {uf : Nat → Option Addr × Nat} (h : ObsAt w.heap.size w u xs uf) (hb : Below w.heap.size w w') : ObsAt w'.heap.size w' u xs uf := by
  obtain ⟨a, cap, e, h2⟩ := h.below hb
  refine ⟨a, cap, e, fun hp => ?_⟩
  obtain ⟨b, o, e2, hlt, hc⟩ := h2 hp
  exact ⟨b, o, e2, Nat.lt_of_lt_of_le hlt hb.size, hc⟩
theorem fuV_ok {w : World} {n : Nat} {m : Mm} {q : Int} {uf : Nat → Option Addr × Nat} (hR : ∀ j, j < m.o.length → Reads w n (vls (m.o.getD j default).f) (.slice (uf j).1 (m.o.getD j default).f.length (uf j).2)) :
    ∃ fa fc, fuV m q uf = .slice fa (findX m q).f.length fc ∧ Reads w n (vls (findX m q).f) (.slice fa (findX m q).f.length fc) := by
  unfold fuV findX
  split
  · rename_i h
    exact ⟨_, _, rfl, hR _ (at_lt h)⟩
  · refine ⟨none, 0, rfl, ?_⟩
    unfold vls Reads
    exact ⟨[], ⟨rfl, none, 0, rfl, Nat.zero_le _, fun _ => rfl, fun h => absurd h (by decide)⟩, by unfold ReadsL; rfl⟩
theorem hasF_found {m : Mm} {q at' : Int} : hasF m q at' = (foundB m q && inB at' 0 (((findX m q).f.length : Int) - 1)) := by
  unfold hasF foundB findX fieldsM
  by_cases h : 0 ≤ atM m q
  · rw [if_pos h]
  · rw [decide_eq_false h]; rfl
def fldP (w w' : World) (m : Mm) (q at' : Int) (uf : Nat → Option Addr × Nat) (e : Ending) : Prop := Below w.heap.size w w' ∧ (hasF m q at' = false → e = .returned (.tuple #[.pointer none, .bool false])) ∧ (hasF m q at' = true → ∃ gb go fc, fuV m q uf = .slice (some ⟨gb, go, none⟩) (findX m q).f.length fc ∧ e = .returned (.tuple #[.pointer (some ⟨gb, go + at'.toNat * 2, none⟩), .bool true]))
end Go.Proofs.YtelpdlhgjepgbaaGreat
