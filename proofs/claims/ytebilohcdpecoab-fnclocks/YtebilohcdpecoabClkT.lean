/-
  Clocks in the model: Join2 and Knows.
-/
import Derived.Test.YtebilohcdpecoabClkS
import Derived.Test.YtebilohcdpecoabAppN
import Derived.Test.YtebilohcdpecoabBldV
namespace Go.Proofs.Ytebilohcdpecoab
open Go.RowKit

set_option maxRecDepth 100000 in
set_option maxHeartbeats 4000000 in
theorem join2S (w : World) (a b : List Smp) (v1 v2 : Value) (h1 : Reads w w.heap.size (smps a) v1) (h2 : Reads w w.heap.size (smps b) v2) (hlab : a.length + b.length ≤ 1048577) (hla : a.length ≤ 1048576) (hlb : b.length ≤ 1048576) :
    Calls Try.prog 11 #[v1, v2] w fun e w' => rowP w w' (smps (joinC a b)) e := by
  have A1 := hide h1
  have B1 := hide h2
  obtain ⟨a1, c1, e1, _⟩ := h1.shape
  obtain ⟨a2, c2, e2, _⟩ := h2.shape
  subst e1 e2
  clear h1 h2
  have HV1 : Hid (¬ (clkB a = true ∧ clkB b = true) → joinC a b = []) := hide (fun h => by unfold joinC; rw [if_neg h])
  have HV2 : Hid (clkB a = true → clkB b = true → joinC a b = joinK a b) := hide (fun h h' => by unfold joinC; rw [if_pos ⟨h, h'⟩])
  generalize joinC a b = V at *
  go_enter Try.func11, Try.ntmps11
  go_wp2_with fail
  refine (clockOkS _ a _ A1.out hla).mono ?_
  rintro e w1 ⟨rfl, b1⟩
  have HB := hide b1
  clear b1
  cases ca : clkB a with
  | false =>
    have HF : Hid (V = []) := hide (HV1.out (fun h => by rw [ca] at h; cases h.1))
    have HZ := hide (OwnDL.snoc (ownDL_nil w1 w1.heap.size w1.heap.size) (Nat.le_refl _) 42 2 0 #[] (by decide) rfl)
    have hs1 := HB.out.size
    go_wp2
    go_ret
    rw [HF.out]
    exact ⟨_, rfl, (OwnDL.mid (c1 := []) (v1 := []) HZ.out rfl).mono hs1, HB.out.alloc hs1 _⟩
  | true =>
    go_wp2_with fail
    refine (clockOkS _ b _ (B1.out.at HB.out) hlb).mono ?_
    rintro e w2 ⟨rfl, b2⟩
    replace HB := hide (HB.out.trans (b2.mono HB.out.size))
    clear b2
    cases cb : clkB b with
    | false =>
      have HF : Hid (V = []) := hide (HV1.out (fun h => by rw [cb] at h; cases h.2))
      have HZ := hide (OwnDL.snoc (ownDL_nil w2 w2.heap.size w2.heap.size) (Nat.le_refl _) 42 2 0 #[] (by decide) rfl)
      have hs1 := HB.out.size
      go_wp2
      go_ret
      rw [HF.out]
      exact ⟨_, rfl, (OwnDL.mid (c1 := []) (v1 := []) HZ.out rfl).mono hs1, HB.out.alloc hs1 _⟩
    | true =>
      have HF : Hid (V = joinK a b) := hide (HV2.out ca cb)
      go_wp2_with fail
      refine (joinKS _ a b _ _ (A1.out.at HB.out) (B1.out.at HB.out) hlab).mono ?_
      rintro e w3 ⟨r, rfl, o9, b9⟩
      have hs1 := HB.out.size
      have HO := hide (o9.mono hs1)
      replace HB := hide (HB.out.trans (b9.mono HB.out.size))
      clear b9 o9
      go_wp2
      go_ret
      rw [HF.out]
      exact ⟨_, rfl, HO.out, HB.out⟩
set_option maxRecDepth 100000 in
set_option maxHeartbeats 8000000 in
theorem knowsS (w : World) (a b : List Smp) (v1 v2 : Value) (h1 : Reads w w.heap.size (smps a) v1) (h2 : Reads w w.heap.size (smps b) v2) (hla : a.length ≤ 1048576) (hlb : b.length ≤ 1048576) :
    Calls Try.prog 20 #[v1, v2] w fun e w' => e = .returned (.bool (knowsB a b)) ∧ Below w.heap.size w w' := by
  have A1 := hide h1
  have B1 := hide h2
  obtain ⟨a1, c1, e1, _⟩ := h1.shape
  obtain ⟨a2, c2, e2, _⟩ := h2.shape
  subst e1 e2
  clear h1 h2
  have HN : Hid (∀ j, j < b.length → decide ((b.getD j default).n ≤ cntX a (b.getD j default).w) = false → knowsB a b = false) := hide (fun j hj h => by unfold knowsB; rw [all_hitS hj h]; rfl)
  have HYs : Hid ((∀ i, i < b.length → decide ((b.getD i default).n ≤ cntX a (b.getD i default).w) = true) → knowsB a b = (clkB a && clkB b)) := hide (fun h => by unfold knowsB; rw [all_yesS h]; rfl)
  generalize knowsB a b = V at *
  go_enter Try.func20, Try.ntmps20
  go_wp2
  go_loopw [5] (fun i wr => ∃ j : Nat, j ≤ b.length ∧ i = .int .i64 (j : Int) ∧ Hid (Below w.heap.size w wr) ∧ Hid (∀ i, i < j → decide ((b.getD i default).n ≤ cntX a (b.getD i default).w) = true)) (fun i _ => b.length - (intOf i).toNat)
  case atStart => exact ⟨0, Nat.zero_le _, rfl, hide (Below.refl _ _), hide (fun i hi => by omega)⟩
  case round =>
    obtain ⟨j, hj, rfl, HB, HQ⟩ := hrel
    by_cases hlt : j < b.length
    · obtain ⟨a', cap', ea, hcap, _, hc⟩ := stamp_at (B1.out.at HB.out)
      cases ea
      obtain ⟨b1, o1, rfl, hbb, hcell⟩ := hc (by omega)
      obtain ⟨d0, d1⟩ := hcell j hlt
      clear hc hcell
      obtain ⟨y, hy⟩ : ∃ y, b.getD j default = y := ⟨_, rfl⟩
      rw [hy] at d0 d1
      have HY := hide hy
      clear hy
      have hltI : (j : Int) < (b.length : Int) := by omega
      go_upto_region 4 with fail
      by_cases k : y.n ≤ cntX a y.w
      · have HK := hide k
        have k' : ¬ (y.n > cntX a y.w) := by omega
        clear k
        have HKd : Hid (decide (y.n ≤ cntX a y.w) = true) := hide (decide_eq_true HK.out)
        have HCL : Hid (∀ w', Below wr.heap.size wr w' → w'.cell? ⟨b1, o1 + j * 2, none⟩ = some (.int .i64 y.w) ∧ w'.cell? ⟨b1, o1 + j * 2 + 1, none⟩ = some (.int .i64 y.n)) := hide (fun w' hb => ⟨(hb.cell (p := ⟨b1, o1 + j * 2, none⟩) hbb).trans d0, (hb.cell (p := ⟨b1, o1 + j * 2 + 1, none⟩) hbb).trans d1⟩)
        have HW := hide (Below.refl wr.heap.size wr).drew
        clear d0 d1
        refine wp_region_held_drew (S := fun w' => w'.cell? ⟨b1, o1 + j * 2, none⟩ = some (.int .i64 y.w) ∧ w'.cell? ⟨b1, o1 + j * 2 + 1, none⟩ = some (.int .i64 y.n)) (by kernel_rfl) (HCL.out _ HW.out) (fun hHeld => ?_)
        generalize wr.drew = Z0 at *
        refine wpAnyH_take (i := 0) (v := ?_) rfl (by kernel_rfl) (by kernel_rfl) (by kernel_rfl) (fun _ _ _ h => h) (Or.inl ⟨by rfl, ?_⟩) (by assumption) ?_
        rotate_left
        · intro w' hSw
          try dsimp only at hSw
          go_simp; try rfl
        simp only [List.getElem_toArray, List.getElem_cons_zero, Act.put, List.setIfInBounds_toArray, List.set_cons_zero, List.set_cons_succ]
        refine wpAnyH_take (i := 1) (v := ?_) rfl (by kernel_rfl) (by kernel_rfl) (by kernel_rfl) (fun _ _ _ h => h) (Or.inl ⟨by rfl, ?_⟩) (by assumption) ?_
        rotate_left
        · intro w' hSw
          try dsimp only at hSw
          go_simp; try rfl
        simp only [List.getElem_toArray, List.getElem_cons_succ, List.getElem_cons_zero, Act.put, List.setIfInBounds_toArray, List.set_cons_zero, List.set_cons_succ]
        refine wpAnyH_take (i := 2) (v := ?_) rfl (by kernel_rfl) (by kernel_rfl) (by kernel_rfl) (fun _ _ _ h => h) (Or.inl ⟨by rfl, ?_⟩) (by assumption) ?_
        rotate_left
        · intro w' hSw
          try dsimp only at hSw
          go_simp; try rfl
        simp only [List.getElem_toArray, List.getElem_cons_succ, List.getElem_cons_zero, Act.put, List.setIfInBounds_toArray, List.set_cons_zero, List.set_cons_succ]
        refine wpAnyH_take (i := 3) (v := ?_) rfl (by kernel_rfl) (by kernel_rfl) (by kernel_rfl) (fun _ _ _ h => h) (Or.inl ⟨by rfl, ?_⟩) (by assumption) ?_
        rotate_left
        · intro w' hSw
          try dsimp only at hSw
          go_simp; try rfl
        simp only [List.getElem_toArray, List.getElem_cons_succ, List.getElem_cons_zero, Act.put, List.setIfInBounds_toArray, List.set_cons_zero, List.set_cons_succ]
        refine wpAnyH_take (i := 4) (v := ?_) rfl (by kernel_rfl) (by kernel_rfl) (by kernel_rfl) (fun _ _ _ h => h) (Or.inl ⟨by rfl, ?_⟩) (by assumption) ?_
        rotate_left
        · intro w' hSw
          try dsimp only at hSw
          go_simp; try rfl
        simp only [List.getElem_toArray, List.getElem_cons_succ, List.getElem_cons_zero, Act.put, List.setIfInBounds_toArray, List.set_cons_zero, List.set_cons_succ]
        refine wpAnyH_take (i := 5) (v := ?_) rfl (by kernel_rfl) (by kernel_rfl) (by kernel_rfl) (fun _ _ _ h => h) (Or.inl ⟨by rfl, ?_⟩) (by assumption) ?_
        rotate_left
        · intro w' hSw
          try dsimp only at hSw
          go_simp; try rfl
        simp only [List.getElem_toArray, List.getElem_cons_succ, List.getElem_cons_zero, Act.put, List.setIfInBounds_toArray, List.set_cons_zero, List.set_cons_succ]
        refine wpAnyH_take (i := 6) (v := ?_) rfl (by kernel_rfl) (by kernel_rfl) (by kernel_rfl) (fun _ _ _ h => h) (Or.inl ⟨by rfl, ?_⟩) (by assumption) ?_
        rotate_left
        · intro w' hSw
          try dsimp only at hSw
          go_simp; try rfl
        simp only [List.getElem_toArray, List.getElem_cons_succ, List.getElem_cons_zero, Act.put, List.setIfInBounds_toArray, List.set_cons_zero, List.set_cons_succ]
        refine wpAnyH_take (i := 7) (v := ?_) rfl (by kernel_rfl) (by kernel_rfl) (by kernel_rfl) (fun _ _ _ h => h) (Or.inl ⟨by rfl, ?_⟩) (by assumption) ?_
        rotate_left
        · intro w' hSw
          try dsimp only at hSw
          go_simp; try rfl
        simp only [List.getElem_toArray, List.getElem_cons_succ, List.getElem_cons_zero, Act.put, List.setIfInBounds_toArray, List.set_cons_zero, List.set_cons_succ]
        refine wpAnyH_take (i := 8) (v := ?_) rfl (by kernel_rfl) (by kernel_rfl) (by kernel_rfl) (fun _ _ _ h => h) (Or.inl ⟨by rfl, ?_⟩) (by assumption) ?_
        rotate_left
        · intro w' hSw
          try dsimp only at hSw
          go_simp; try rfl
        simp only [List.getElem_toArray, List.getElem_cons_succ, List.getElem_cons_zero, Act.put, List.setIfInBounds_toArray, List.set_cons_zero, List.set_cons_succ]
        refine wpAnyH_take (i := 9) (v := ?_) rfl (by kernel_rfl) (by kernel_rfl) (by kernel_rfl) (fun _ _ _ h => h) (Or.inl ⟨by rfl, ?_⟩) (by assumption) ?_
        rotate_left
        · intro w' hSw
          try dsimp only at hSw
          go_simp; try rfl
        simp only [List.getElem_toArray, List.getElem_cons_succ, List.getElem_cons_zero, Act.put, List.setIfInBounds_toArray, List.set_cons_zero, List.set_cons_succ]
        refine wpAnyH_take (i := 10) (v := ?_) rfl (by kernel_rfl) (by kernel_rfl) (by kernel_rfl) (fun _ _ _ h => h) (Or.inl ⟨by rfl, ?_⟩) (by assumption) ?_
        rotate_left
        · intro w' hSw
          try dsimp only at hSw
          go_simp; try rfl
        simp only [List.getElem_toArray, List.getElem_cons_succ, List.getElem_cons_zero, Act.put, List.setIfInBounds_toArray, List.set_cons_zero, List.set_cons_succ]
        refine wpAnyH_ready (rs := [11]) (by kernel_rfl) (by simp) (AllReadyH.cons rfl (fun K hK => ?_) AllReadyH.nil)
        refine step_callW (some 23) (by kernel_rfl) (by kernel_rfl) 23 _ _ rfl #[.slice a1 a.length c1, .int .i64 y.w] (by kernel_rfl) (countS _ a _ y.w (A1.out.at (HB.out.trans (HW.out.mono HB.out.size))) hla) ?_
        rintro e Z1 ⟨rfl, hZ⟩
        subst hZ
        refine ⟨_, rfl, ?_⟩
        refine hK.out _ _ (HCL.out _ HW.out) (fun hHeld => ?_)
        clear hK K
        simp only [Act.put, List.setIfInBounds_toArray, List.set_cons_zero, List.set_cons_succ]
        refine wpAnyH_take (i := 12) (v := ?_) rfl (by kernel_rfl) (by kernel_rfl) (by kernel_rfl) (fun _ _ _ h => h) (Or.inl ⟨by rfl, ?_⟩) (by assumption) ?_
        rotate_left
        · intro w' hSw
          try dsimp only at hSw
          go_simp; try rfl
        simp only [List.getElem_toArray, List.getElem_cons_succ, List.getElem_cons_zero, Act.put, List.setIfInBounds_toArray, List.set_cons_zero, List.set_cons_succ]
        refine wpAnyH_done (by kernel_rfl) ?_ _
        have HX := hide (HB.out.trans (HW.out.mono HB.out.size))
        have HQ2 : Hid (∀ i, i < j + 1 → decide ((b.getD i default).n ≤ cntX a (b.getD i default).w) = true) := hide (fun q hq => by
          rcases Nat.lt_succ_iff_lt_or_eq.1 hq with h | rfl
          · exact HQ.out q h
          · rw [HY.out]; exact HKd.out)
        go_wp2
        exact ⟨⟨j + 1, by omega, by go_num, HX, HQ2⟩, by simp [intOf]; omega⟩
      · have HK := hide k
        have k' : y.n > cntX a y.w := by omega
        clear k
        have HKd : Hid (decide (y.n ≤ cntX a y.w) = false) := hide (decide_eq_false HK.out)
        have HCL : Hid (∀ w', Below wr.heap.size wr w' → w'.cell? ⟨b1, o1 + j * 2, none⟩ = some (.int .i64 y.w) ∧ w'.cell? ⟨b1, o1 + j * 2 + 1, none⟩ = some (.int .i64 y.n)) := hide (fun w' hb => ⟨(hb.cell (p := ⟨b1, o1 + j * 2, none⟩) hbb).trans d0, (hb.cell (p := ⟨b1, o1 + j * 2 + 1, none⟩) hbb).trans d1⟩)
        have HW := hide (Below.refl wr.heap.size wr).drew
        clear d0 d1
        refine wp_region_held_drew (S := fun w' => w'.cell? ⟨b1, o1 + j * 2, none⟩ = some (.int .i64 y.w) ∧ w'.cell? ⟨b1, o1 + j * 2 + 1, none⟩ = some (.int .i64 y.n)) (by kernel_rfl) (HCL.out _ HW.out) (fun hHeld => ?_)
        generalize wr.drew = Z0 at *
        refine wpAnyH_take (i := 0) (v := ?_) rfl (by kernel_rfl) (by kernel_rfl) (by kernel_rfl) (fun _ _ _ h => h) (Or.inl ⟨by rfl, ?_⟩) (by assumption) ?_
        rotate_left
        · intro w' hSw
          try dsimp only at hSw
          go_simp; try rfl
        simp only [List.getElem_toArray, List.getElem_cons_zero, Act.put, List.setIfInBounds_toArray, List.set_cons_zero, List.set_cons_succ]
        refine wpAnyH_take (i := 1) (v := ?_) rfl (by kernel_rfl) (by kernel_rfl) (by kernel_rfl) (fun _ _ _ h => h) (Or.inl ⟨by rfl, ?_⟩) (by assumption) ?_
        rotate_left
        · intro w' hSw
          try dsimp only at hSw
          go_simp; try rfl
        simp only [List.getElem_toArray, List.getElem_cons_succ, List.getElem_cons_zero, Act.put, List.setIfInBounds_toArray, List.set_cons_zero, List.set_cons_succ]
        refine wpAnyH_take (i := 2) (v := ?_) rfl (by kernel_rfl) (by kernel_rfl) (by kernel_rfl) (fun _ _ _ h => h) (Or.inl ⟨by rfl, ?_⟩) (by assumption) ?_
        rotate_left
        · intro w' hSw
          try dsimp only at hSw
          go_simp; try rfl
        simp only [List.getElem_toArray, List.getElem_cons_succ, List.getElem_cons_zero, Act.put, List.setIfInBounds_toArray, List.set_cons_zero, List.set_cons_succ]
        refine wpAnyH_take (i := 3) (v := ?_) rfl (by kernel_rfl) (by kernel_rfl) (by kernel_rfl) (fun _ _ _ h => h) (Or.inl ⟨by rfl, ?_⟩) (by assumption) ?_
        rotate_left
        · intro w' hSw
          try dsimp only at hSw
          go_simp; try rfl
        simp only [List.getElem_toArray, List.getElem_cons_succ, List.getElem_cons_zero, Act.put, List.setIfInBounds_toArray, List.set_cons_zero, List.set_cons_succ]
        refine wpAnyH_take (i := 4) (v := ?_) rfl (by kernel_rfl) (by kernel_rfl) (by kernel_rfl) (fun _ _ _ h => h) (Or.inl ⟨by rfl, ?_⟩) (by assumption) ?_
        rotate_left
        · intro w' hSw
          try dsimp only at hSw
          go_simp; try rfl
        simp only [List.getElem_toArray, List.getElem_cons_succ, List.getElem_cons_zero, Act.put, List.setIfInBounds_toArray, List.set_cons_zero, List.set_cons_succ]
        refine wpAnyH_take (i := 5) (v := ?_) rfl (by kernel_rfl) (by kernel_rfl) (by kernel_rfl) (fun _ _ _ h => h) (Or.inl ⟨by rfl, ?_⟩) (by assumption) ?_
        rotate_left
        · intro w' hSw
          try dsimp only at hSw
          go_simp; try rfl
        simp only [List.getElem_toArray, List.getElem_cons_succ, List.getElem_cons_zero, Act.put, List.setIfInBounds_toArray, List.set_cons_zero, List.set_cons_succ]
        refine wpAnyH_take (i := 6) (v := ?_) rfl (by kernel_rfl) (by kernel_rfl) (by kernel_rfl) (fun _ _ _ h => h) (Or.inl ⟨by rfl, ?_⟩) (by assumption) ?_
        rotate_left
        · intro w' hSw
          try dsimp only at hSw
          go_simp; try rfl
        simp only [List.getElem_toArray, List.getElem_cons_succ, List.getElem_cons_zero, Act.put, List.setIfInBounds_toArray, List.set_cons_zero, List.set_cons_succ]
        refine wpAnyH_take (i := 7) (v := ?_) rfl (by kernel_rfl) (by kernel_rfl) (by kernel_rfl) (fun _ _ _ h => h) (Or.inl ⟨by rfl, ?_⟩) (by assumption) ?_
        rotate_left
        · intro w' hSw
          try dsimp only at hSw
          go_simp; try rfl
        simp only [List.getElem_toArray, List.getElem_cons_succ, List.getElem_cons_zero, Act.put, List.setIfInBounds_toArray, List.set_cons_zero, List.set_cons_succ]
        refine wpAnyH_take (i := 8) (v := ?_) rfl (by kernel_rfl) (by kernel_rfl) (by kernel_rfl) (fun _ _ _ h => h) (Or.inl ⟨by rfl, ?_⟩) (by assumption) ?_
        rotate_left
        · intro w' hSw
          try dsimp only at hSw
          go_simp; try rfl
        simp only [List.getElem_toArray, List.getElem_cons_succ, List.getElem_cons_zero, Act.put, List.setIfInBounds_toArray, List.set_cons_zero, List.set_cons_succ]
        refine wpAnyH_take (i := 9) (v := ?_) rfl (by kernel_rfl) (by kernel_rfl) (by kernel_rfl) (fun _ _ _ h => h) (Or.inl ⟨by rfl, ?_⟩) (by assumption) ?_
        rotate_left
        · intro w' hSw
          try dsimp only at hSw
          go_simp; try rfl
        simp only [List.getElem_toArray, List.getElem_cons_succ, List.getElem_cons_zero, Act.put, List.setIfInBounds_toArray, List.set_cons_zero, List.set_cons_succ]
        refine wpAnyH_take (i := 10) (v := ?_) rfl (by kernel_rfl) (by kernel_rfl) (by kernel_rfl) (fun _ _ _ h => h) (Or.inl ⟨by rfl, ?_⟩) (by assumption) ?_
        rotate_left
        · intro w' hSw
          try dsimp only at hSw
          go_simp; try rfl
        simp only [List.getElem_toArray, List.getElem_cons_succ, List.getElem_cons_zero, Act.put, List.setIfInBounds_toArray, List.set_cons_zero, List.set_cons_succ]
        refine wpAnyH_ready (rs := [11]) (by kernel_rfl) (by simp) (AllReadyH.cons rfl (fun K hK => ?_) AllReadyH.nil)
        refine step_callW (some 23) (by kernel_rfl) (by kernel_rfl) 23 _ _ rfl #[.slice a1 a.length c1, .int .i64 y.w] (by kernel_rfl) (countS _ a _ y.w (A1.out.at (HB.out.trans (HW.out.mono HB.out.size))) hla) ?_
        rintro e Z1 ⟨rfl, hZ⟩
        subst hZ
        refine ⟨_, rfl, ?_⟩
        refine hK.out _ _ (HCL.out _ HW.out) (fun hHeld => ?_)
        clear hK K
        simp only [Act.put, List.setIfInBounds_toArray, List.set_cons_zero, List.set_cons_succ]
        refine wpAnyH_take (i := 12) (v := ?_) rfl (by kernel_rfl) (by kernel_rfl) (by kernel_rfl) (fun _ _ _ h => h) (Or.inl ⟨by rfl, ?_⟩) (by assumption) ?_
        rotate_left
        · intro w' hSw
          try dsimp only at hSw
          go_simp; try rfl
        simp only [List.getElem_toArray, List.getElem_cons_succ, List.getElem_cons_zero, Act.put, List.setIfInBounds_toArray, List.set_cons_zero, List.set_cons_succ]
        refine wpAnyH_done (by kernel_rfl) ?_ _
        have HX := hide (HB.out.trans (HW.out.mono HB.out.size))
        have HF : Hid (V = false) := hide (HN.out j hlt (by rw [HY.out]; exact HKd.out))
        go_wp2
        go_ret
        exact ⟨by rw [HF.out]; rfl, HX.out⟩
    · obtain rfl : j = b.length := by omega
      have HF := hide (HYs.out HQ.out)
      go_wp2_with fail
      refine (clockOkS _ a _ (A1.out.at HB.out) hla).mono ?_
      rintro e w1 ⟨rfl, b1⟩
      replace HB := hide (HB.out.trans (b1.mono HB.out.size))
      clear b1
      cases ca : clkB a with
      | false =>
        have HF2 : Hid (V = false) := hide (by rw [HF.out, ca]; rfl)
        go_wp2
        go_ret
        exact ⟨by rw [HF2.out]; rfl, HB.out⟩
      | true =>
        have HF2 : Hid (V = clkB b) := hide (by rw [HF.out, ca]; rfl)
        go_wp2_with fail
        refine (clockOkS _ b _ (B1.out.at HB.out) hlb).mono ?_
        rintro e w2 ⟨rfl, b2⟩
        replace HB := hide (HB.out.trans (b2.mono HB.out.size))
        clear b2
        go_wp2
        go_ret
        exact ⟨by rw [HF2.out]; rfl, HB.out⟩
theorem flat_smp (xs : List Smp) : ∀ d ∈ xs.flatMap smpD, ∃ u, d = .val u ∧ u.oneCell' = true := fun d hd => by
  obtain ⟨y, _, hy⟩ := List.mem_flatMap.1 hd
  unfold smpD at hy
  simp at hy
  rcases hy with rfl | rfl
  · exact ⟨_, rfl, rfl⟩
  · exact ⟨_, rfl, rfl⟩
set_option maxRecDepth 100000 in
set_option maxHeartbeats 8000000 in
theorem tickS (w : World) (xs : List Smp) (v : Value) (q : Int) (h : Reads w w.heap.size (smps xs) v) (hg : smpsG xs) :
    Calls Try.prog 21 #[v, .int .i64 q] w fun e w' => rowP w w' (smps (tickX xs q)) e := by
  have HR := hide h
  have hm := hg.1
  have hcr := cntX_ok (q := q) hg.2
  have HC := hide (countS w xs v q h hm)
  obtain ⟨a1, c1, e1, _⟩ := h.shape
  subst e1
  clear h hg
  have HV1 : Hid (¬ (clkB xs = true ∧ inB q 1 1000000 = true ∧ cntX xs q < 16777215) → tickX xs q = xs) := hide (fun h => by unfold tickX; rw [if_neg h])
  have HV2 : Hid ((clkB xs = true ∧ inB q 1 1000000 = true ∧ cntX xs q < 16777215) → tickX xs q = joinK xs [⟨q, cntX xs q + 1⟩]) := hide (fun h => by unfold tickX; rw [if_pos h])
  generalize tickX xs q = V at *
  generalize cntX xs q = C at *
  obtain ⟨i0, hi, hz0, hz1, hz2⟩ := info_parts Try.infoSmp
  have HI := hide (And.intro hi (And.intro hz0 (And.intro hz1 hz2)))
  clear hi hz0 hz1 hz2
  go_enter Try.func21, Try.ntmps21
  go_wp2_with fail
  refine HC.out.mono ?_
  rintro e w0 ⟨rfl, hw0⟩
  subst hw0
  clear HC
  go_wp2_with fail
  refine (clockOkS _ xs _ HR.out hm).mono ?_
  rintro e w1 ⟨rfl, b1⟩
  have HB := hide b1
  clear b1
  cases ca : clkB xs with
  | false =>
    have HF : Hid (V = xs) := hide (HV1.out (fun h => by rw [ca] at h; cases h.1))
    have HZ := hide (OwnDL.snoc (ownDL_nil w1 w1.heap.size w1.heap.size) (Nat.le_refl _) 42 2 0 #[] (by decide) rfl)
    have bX := (Below.refl w1.heap.size w1).alloc (Nat.le_refl _) (.cells #[] 42)
    have HBX := hide (HB.out.trans (bX.mono HB.out.size))
    have HRX := hide (HR.out.at HBX.out)
    have hsX := HBX.out.size
    have hs1 := HB.out.size
    have hs2 := bX.size
    clear bX
    go_wp2_with (first
      | (at_builtin; refine appN rfl _ _ 24 rfl w1.heap.size _ 42 i0 (.agg #[.int .i64 0, .int .i64 0]) 2 16 Try.underlying24 HI.out.1 HI.out.2.1 HI.out.2.2.1 HI.out.2.2.2 rfl (by decide) w1.heap.size 0 0 [] [] [] [] [] rfl HZ.out rfl _ rfl xs.length 42 (xs.flatMap smpD) HRX.out (flat_smp xs) (by omega) (by decide) (Nat.le_refl _) hs2 ?_; intro v9 w9 o9 g9 hb9; obtain ⟨a9, c9, e9⟩ := (OwnDL.mid (c1 := []) (v1 := []) o9 rfl).shape; subst e9; have HO9 := hide o9; have HB9 := hide (HBX.out.grown g9 hsX (fun q hq => by cases hq; omega)); clear o9 g9)
      | fail)
    go_ret
    rw [HF.out]
    exact ⟨_, rfl, (by have h9 := (OwnDL.mid (c1 := []) (v1 := []) HO9.out rfl).mono hs1; rw [Nat.zero_add, List.nil_append] at h9; exact h9), HB9.out⟩
  | true =>
    go_wp2_with fail
    refine (inSpec _ _ _ _).mono ?_
    rintro e w2 ⟨rfl, hw2⟩
    rw [hw2]
    clear hw2 w2
    cases cb : inB q 1 1000000 with
    | false =>
      have HF : Hid (V = xs) := hide (HV1.out (fun h => by rw [cb] at h; cases h.2.1))
      have HZ := hide (OwnDL.snoc (ownDL_nil w1 w1.heap.size w1.heap.size) (Nat.le_refl _) 42 2 0 #[] (by decide) rfl)
      have bX := (Below.refl w1.heap.size w1).alloc (Nat.le_refl _) (.cells #[] 42)
      have HBX := hide (HB.out.trans (bX.mono HB.out.size))
      have HRX := hide (HR.out.at HBX.out)
      have hsX := HBX.out.size
      have hs1 := HB.out.size
      have hs2 := bX.size
      clear bX
      go_wp2_with (first
        | (at_builtin; refine appN rfl _ _ 24 rfl w1.heap.size _ 42 i0 (.agg #[.int .i64 0, .int .i64 0]) 2 16 Try.underlying24 HI.out.1 HI.out.2.1 HI.out.2.2.1 HI.out.2.2.2 rfl (by decide) w1.heap.size 0 0 [] [] [] [] [] rfl HZ.out rfl _ rfl xs.length 42 (xs.flatMap smpD) HRX.out (flat_smp xs) (by omega) (by decide) (Nat.le_refl _) hs2 ?_; intro v9 w9 o9 g9 hb9; obtain ⟨a9, c9, e9⟩ := (OwnDL.mid (c1 := []) (v1 := []) o9 rfl).shape; subst e9; have HO9 := hide o9; have HB9 := hide (HBX.out.grown g9 hsX (fun q hq => by cases hq; omega)); clear o9 g9)
        | fail)
      go_ret
      rw [HF.out]
      exact ⟨_, rfl, (by have h9 := (OwnDL.mid (c1 := []) (v1 := []) HO9.out rfl).mono hs1; rw [Nat.zero_add, List.nil_append] at h9; exact h9), HB9.out⟩
    | true =>
      by_cases k : C < 16777215
      · have k' : ¬ (C ≥ 16777215) := by omega
        have HF : Hid (V = joinK xs [⟨q, C + 1⟩]) := hide (HV2.out ⟨ca, cb, k⟩)
        have hwr : IntKind.i64.wrap (C + 1) = C + 1 := by rw [IntKind.wrap_i64]; omega
        have HZ := hide (OwnDL.snoc (ownDL_nil w1 w1.heap.size w1.heap.size) (Nat.le_refl _) 42 2 1 #[.int .i64 q, .int .i64 (C + 1)] (by decide) rfl)
        have bX := (Below.refl w1.heap.size w1).alloc (Nat.le_refl _) (.cells #[.int .i64 q, .int .i64 (C + 1)] 42)
        have HBX := hide (HB.out.trans (bX.mono HB.out.size))
        have HRX := hide (HR.out.at HBX.out)
        have hs1 := HBX.out.size
        clear bX k
        go_wp2_with fail
        have HQX : Hid (Reads (w1.alloc (.cells #[.int .i64 q, .int .i64 (C + 1)] 42)) (w1.alloc (.cells #[.int .i64 q, .int .i64 (C + 1)] 42)).heap.size (smps [⟨q, C + 1⟩]) (.slice (some ⟨w1.heap.size, 0, none⟩) 1 1)) := hide ((OwnDL.mid (c1 := []) (v1 := []) HZ.out rfl).rd (Nat.le_refl _))
        refine (joinKS _ xs [⟨q, C + 1⟩] _ _ HRX.out HQX.out (by simp; omega)).mono ?_
        rintro e w3 ⟨r, rfl, o9, b9⟩
        have HO := hide (o9.mono hs1)
        replace HBX := hide (HBX.out.trans (b9.mono hs1))
        clear b9 o9
        go_wp2
        go_ret
        rw [HF.out]
        exact ⟨_, rfl, HO.out, HBX.out⟩
      · have k' : C ≥ 16777215 := by omega
        have HF : Hid (V = xs) := hide (HV1.out (fun h => k h.2.2))
        have HZ := hide (OwnDL.snoc (ownDL_nil w1 w1.heap.size w1.heap.size) (Nat.le_refl _) 42 2 0 #[] (by decide) rfl)
        have bX := (Below.refl w1.heap.size w1).alloc (Nat.le_refl _) (.cells #[] 42)
        have HBX := hide (HB.out.trans (bX.mono HB.out.size))
        have HRX := hide (HR.out.at HBX.out)
        have hsX := HBX.out.size
        have hs1 := HB.out.size
        have hs2 := bX.size
        clear bX
        go_wp2_with (first
          | (at_builtin; refine appN rfl _ _ 24 rfl w1.heap.size _ 42 i0 (.agg #[.int .i64 0, .int .i64 0]) 2 16 Try.underlying24 HI.out.1 HI.out.2.1 HI.out.2.2.1 HI.out.2.2.2 rfl (by decide) w1.heap.size 0 0 [] [] [] [] [] rfl HZ.out rfl _ rfl xs.length 42 (xs.flatMap smpD) HRX.out (flat_smp xs) (by omega) (by decide) (Nat.le_refl _) hs2 ?_; intro v9 w9 o9 g9 hb9; obtain ⟨a9, c9, e9⟩ := (OwnDL.mid (c1 := []) (v1 := []) o9 rfl).shape; subst e9; have HO9 := hide o9; have HB9 := hide (HBX.out.grown g9 hsX (fun q hq => by cases hq; omega)); clear o9 g9)
          | fail)
        go_ret
        rw [HF.out]
        exact ⟨_, rfl, (by have h9 := (OwnDL.mid (c1 := []) (v1 := []) HO9.out rfl).mono hs1; rw [Nat.zero_add, List.nil_append] at h9; exact h9), HB9.out⟩
end Go.Proofs.Ytebilohcdpecoab
