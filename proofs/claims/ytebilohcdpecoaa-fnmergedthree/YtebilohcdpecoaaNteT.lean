/-
  Notes in the model: MergeNotes, AddNote, Covers.
-/
import Derived.Test.YtebilohcdpecoaaNteS
import Derived.Test.YtebilohcdpecoaaAppN
import Derived.Test.YtebilohcdpecoaaBldV
namespace Go.Proofs.Ytebilohcdpecoaa
open Go.RowKit

theorem flat_nte (xs : List Nte) : ∀ d ∈ xs.flatMap nteD, ∃ u, d = .val u ∧ u.oneCell' = true := fun d hd => by
  obtain ⟨y, _, hy⟩ := List.mem_flatMap.1 hd
  unfold nteD at hy
  simp at hy
  rcases hy with rfl | rfl
  · exact ⟨_, rfl, rfl⟩
  · exact ⟨_, rfl, rfl⟩
theorem ntk_len {xs : List Nte} (h : ntkB xs = true) : xs.length ≤ 130 := by
  unfold ntkB at h
  rw [Bool.and_eq_true] at h
  exact of_decide_eq_true h.2
set_option maxRecDepth 100000 in
set_option maxHeartbeats 8000000 in
theorem mergeS (w : World) (a b : List Nte) (v1 v2 : Value) (h1 : Reads w w.heap.size (ntes a) v1) (h2 : Reads w w.heap.size (ntes b) v2) (hlab : a.length + b.length ≤ 1048577) (hla : a.length ≤ 1048576) (hlb : b.length ≤ 1048576) :
    Calls Try.prog 18 #[v1, v2] w fun e w' => rowP w w' (ntes (mergeX a b)) e := by
  have A1 := hide h1
  have B1 := hide h2
  obtain ⟨a1, c1, e1, _⟩ := h1.shape
  obtain ⟨a2, c2, e2, _⟩ := h2.shape
  subst e1 e2
  clear h1 h2
  have HV1 : Hid (¬ (ntkB a = true ∧ ntkB b = true ∧ ntkB (joinN a b) = true) → mergeX a b = a) := hide (fun h => by unfold mergeX; rw [if_neg h])
  have HV2 : Hid (ntkB a = true → ntkB b = true → ntkB (joinN a b) = true → mergeX a b = joinN a b) := hide (fun h h' h'' => by unfold mergeX; rw [if_pos ⟨h, h', h''⟩])
  generalize mergeX a b = V at *
  have HJL := hide (joinN_len a b)
  obtain ⟨i0, hi, hz0, hz1, hz2⟩ := info_parts Try.infoNte
  have HI := hide (And.intro hi (And.intro hz0 (And.intro hz1 hz2)))
  clear hi hz0 hz1 hz2
  have HZ := hide (OwnDL.snoc (ownDL_nil w w.heap.size w.heap.size) (Nat.le_refl _) 43 2 0 #[] (by decide) rfl)
  have bX := (Below.refl w.heap.size w).alloc (Nat.le_refl _) (.cells #[] 43)
  have HBX := hide bX
  have HRX := hide (A1.out.at bX)
  have hsX := bX.size
  have hs2 := bX.size
  clear bX
  go_enter Try.func18, Try.ntmps18
  go_wp2_with (first
    | (at_builtin; refine appN rfl _ _ 25 rfl w.heap.size _ 43 i0 (.agg #[.int .i64 0, .int .i64 0]) 2 16 Try.underlying25 HI.out.1 HI.out.2.1 HI.out.2.2.1 HI.out.2.2.2 rfl (by decide) w.heap.size 0 0 [] [] [] [] [] rfl HZ.out rfl _ rfl a.length 43 (a.flatMap nteD) HRX.out (flat_nte a) (by omega) (by decide) (Nat.le_refl _) hs2 ?_; intro v9 w9 o9 g9 hb9; obtain ⟨a9, c9, e9⟩ := (OwnDL.mid (c1 := []) (v1 := []) o9 rfl).shape; subst e9; have HO9 := hide (OwnDL.mid (c1 := []) (v1 := []) o9 rfl); have HB9 := hide (HBX.out.grown g9 hsX (fun q hq => by cases hq; omega)); clear o9 g9)
    | fail)
  have HO : Hid (OwnD w9 w.heap.size w9.heap.size (ntes a) (.slice a9 a.length c9)) := hide (by have h9 := HO9.out; simp only [Nat.zero_add, List.nil_append] at h9; exact h9)
  have HB := HB9
  clear HO9 HB9 HBX HRX HZ hsX hs2
  refine (notesOkS _ a _ (A1.out.at HB.out) hla).mono ?_
  rintro e w1 ⟨rfl, b1⟩
  have hs1 := HB.out.size
  replace HO := hide ((HO.out.below b1).up b1.size)
  replace HB := hide (HB.out.trans (b1.mono hs1))
  clear b1 hs1
  cases ca : ntkB a with
  | false =>
    have HF : Hid (V = a) := hide (HV1.out (fun h => by rw [ca] at h; cases h.1))
    go_wp2
    go_ret
    rw [HF.out]
    exact ⟨_, rfl, HO.out, HB.out⟩
  | true =>
    go_wp2_with fail
    refine (notesOkS _ b _ (B1.out.at HB.out) hlb).mono ?_
    rintro e w1 ⟨rfl, b1⟩
    have hs1 := HB.out.size
    replace HO := hide ((HO.out.below b1).up b1.size)
    replace HB := hide (HB.out.trans (b1.mono hs1))
    clear b1 hs1
    cases cb : ntkB b with
    | false =>
      have HF : Hid (V = a) := hide (HV1.out (fun h => by rw [cb] at h; cases h.2.1))
      go_wp2
      go_ret
      rw [HF.out]
      exact ⟨_, rfl, HO.out, HB.out⟩
    | true =>
      go_wp2_with fail
      refine (joinNS _ a b _ _ (A1.out.at HB.out) (B1.out.at HB.out) hlab).mono ?_
      rintro e w1 ⟨r, rfl, o9, b1⟩
      have hsm := HB.out.size
      have HJ := hide (o9.mono hsm)
      have hjl := HJL.out
      have hs1 := HB.out.size
      replace HO := hide ((HO.out.below b1).up b1.size)
      replace HB := hide (HB.out.trans (b1.mono hs1))
      clear b1 hs1
      clear o9 hsm
      obtain ⟨ja, jc, je⟩ := HJ.out.shape
      subst je
      go_wp2_with fail
      refine (notesOkS _ (joinN a b) _ (HJ.out.rd (Nat.le_refl _)) (by have q1 := ntk_len ca; have q2 := ntk_len cb; omega)).mono ?_
      rintro e w1 ⟨rfl, b1⟩
      replace HJ := hide ((HJ.out.below b1).up b1.size)
      have hs1 := HB.out.size
      replace HO := hide ((HO.out.below b1).up b1.size)
      replace HB := hide (HB.out.trans (b1.mono hs1))
      clear b1 hs1
      cases cj : ntkB (joinN a b) with
      | false =>
        have HF : Hid (V = a) := hide (HV1.out (fun h => by rw [cj] at h; cases h.2.2))
        go_wp2
        go_ret
        rw [HF.out]
        exact ⟨_, rfl, HO.out, HB.out⟩
      | true =>
        have HF : Hid (V = joinN a b) := hide (HV2.out ca cb cj)
        go_wp2
        go_ret
        rw [HF.out]
        exact ⟨_, rfl, HJ.out, HB.out⟩
set_option maxRecDepth 100000 in
set_option maxHeartbeats 4000000 in
theorem addNoteS (w : World) (a : List Nte) (v1 : Value) (q n : Int) (h1 : Reads w w.heap.size (ntes a) v1) (hla : a.length ≤ 1048576) :
    Calls Try.prog 14 #[v1, .int .i64 q, .int .i64 n] w fun e w' => rowP w w' (ntes (mergeX a [⟨q, n⟩])) e := by
  have A1 := hide h1
  obtain ⟨a1, c1, e1, _⟩ := h1.shape
  subst e1
  clear h1
  have HZ := hide (OwnDL.snoc (ownDL_nil w w.heap.size w.heap.size) (Nat.le_refl _) 43 2 1 #[.int .i64 q, .int .i64 n] (by decide) rfl)
  have bX := (Below.refl w.heap.size w).alloc (Nat.le_refl _) (.cells #[.int .i64 q, .int .i64 n] 43)
  have HB := hide bX
  have HRX := hide (A1.out.at bX)
  have hs1 := bX.size
  clear bX
  go_enter Try.func14, Try.ntmps14
  go_wp2_with fail
  have HQX : Hid (Reads (w.alloc (.cells #[.int .i64 q, .int .i64 n] 43)) (w.alloc (.cells #[.int .i64 q, .int .i64 n] 43)).heap.size (ntes [⟨q, n⟩]) (.slice (some ⟨w.heap.size, 0, none⟩) 1 1)) := hide ((OwnDL.mid (c1 := []) (v1 := []) HZ.out rfl).rd (Nat.le_refl _))
  refine (mergeS _ a [⟨q, n⟩] _ _ HRX.out HQX.out (by simp; omega) hla (by simp)).mono ?_
  rintro e w3 ⟨r, rfl, o9, b9⟩
  have HO := hide (o9.mono hs1)
  replace HB := hide (HB.out.trans (b9.mono hs1))
  clear b9 o9
  go_wp2
  go_ret
  exact ⟨_, rfl, HO.out, HB.out⟩
set_option maxRecDepth 100000 in
set_option maxHeartbeats 8000000 in
theorem coversS (w : World) (a b : List Nte) (v1 v2 : Value) (h1 : Reads w w.heap.size (ntes a) v1) (h2 : Reads w w.heap.size (ntes b) v2) (hla : a.length ≤ 1048576) (hlb : b.length ≤ 1048576) :
    Calls Try.prog 20 #[v1, v2] w fun e w' => e = .returned (.bool (covB a b)) ∧ Below w.heap.size w w' := by
  have A1 := hide h1
  have B1 := hide h2
  obtain ⟨a1, c1, e1, _⟩ := h1.shape
  obtain ⟨a2, c2, e2, _⟩ := h2.shape
  subst e1 e2
  clear h1 h2
  have HN : Hid (∀ j, j < b.length → decide ((b.getD j default).n ≤ nvX a (b.getD j default).w) = false → covB a b = false) := hide (fun j hj h => by unfold covB; rw [all_hitS hj h]; rfl)
  have HYs : Hid ((∀ i, i < b.length → decide ((b.getD i default).n ≤ nvX a (b.getD i default).w) = true) → covB a b = (ntkB a && ntkB b)) := hide (fun h => by unfold covB; rw [all_yesS h]; rfl)
  generalize covB a b = V at *
  go_enter Try.func20, Try.ntmps20
  go_wp2
  go_loopw [5] (fun i wr => ∃ j : Nat, j ≤ b.length ∧ i = .int .i64 (j : Int) ∧ Hid (Below w.heap.size w wr) ∧ Hid (∀ i, i < j → decide ((b.getD i default).n ≤ nvX a (b.getD i default).w) = true)) (fun i _ => b.length - (intOf i).toNat)
  case atStart => exact ⟨0, Nat.zero_le _, rfl, hide (Below.refl _ _), hide (fun i hi => by omega)⟩
  case round =>
    obtain ⟨j, hj, rfl, HB, HQ⟩ := hrel
    by_cases hlt : j < b.length
    · obtain ⟨a', cap', ea, hcap, _, hc⟩ := nte_at (B1.out.at HB.out)
      cases ea
      obtain ⟨b1, o1, rfl, hbb, hcell⟩ := hc (by omega)
      obtain ⟨d0, d1⟩ := hcell j hlt
      clear hc hcell
      obtain ⟨y, hy⟩ : ∃ y, b.getD j default = y := ⟨_, rfl⟩
      rw [hy] at d0 d1
      have HY := hide hy
      clear hy
      have hltI : (j : Int) < (b.length : Int) := by omega
      go_upto_region 4 with fail
      by_cases k : y.n ≤ nvX a y.w
      · have HK := hide k
        have k' : ¬ (y.n > nvX a y.w) := by omega
        clear k
        have HKd : Hid (decide (y.n ≤ nvX a y.w) = true) := hide (decide_eq_true HK.out)
        have HCL : Hid (∀ w', Below wr.heap.size wr w' → w'.cell? ⟨b1, o1 + j * 2, none⟩ = some (.int .i64 y.w) ∧ w'.cell? ⟨b1, o1 + j * 2 + 1, none⟩ = some (.int .i64 y.n)) := hide (fun w' hb => ⟨(hb.cell (p := ⟨b1, o1 + j * 2, none⟩) hbb).trans d0, (hb.cell (p := ⟨b1, o1 + j * 2 + 1, none⟩) hbb).trans d1⟩)
        have HW := hide (Below.refl wr.heap.size wr).drew
        clear d0 d1
        refine wp_region_held_drew (S := fun w' => w'.cell? ⟨b1, o1 + j * 2, none⟩ = some (.int .i64 y.w) ∧ w'.cell? ⟨b1, o1 + j * 2 + 1, none⟩ = some (.int .i64 y.n)) (by kernel_rfl) (HCL.out _ HW.out) (fun hHeld => ?_)
        generalize wr.drew = Z0 at *
        refine wpAnyH_take (i := 0) (v := ?_) rfl (by kernel_rfl) (by kernel_rfl) (by kernel_rfl) (fun _ _ _ h => h) (Or.inl ⟨by rfl, ?_⟩) (by assumption) ?_
        rotate_left
        · intro w' hSw
          try dsimp only at hSw
          go_simp; try rfl
        simp only [List.getElem_toArray, List.getElem_cons_zero, Act.put, List.setIfInBounds_toArray, List.set_cons_zero, List.set_cons_succ]
        refine wpAnyH_take (i := 1) (v := ?_) rfl (by kernel_rfl) (by kernel_rfl) (by kernel_rfl) (fun _ _ _ h => h) (Or.inl ⟨by rfl, ?_⟩) (by assumption) ?_
        rotate_left
        · intro w' hSw
          try dsimp only at hSw
          go_simp; try rfl
        simp only [List.getElem_toArray, List.getElem_cons_succ, List.getElem_cons_zero, Act.put, List.setIfInBounds_toArray, List.set_cons_zero, List.set_cons_succ]
        refine wpAnyH_take (i := 2) (v := ?_) rfl (by kernel_rfl) (by kernel_rfl) (by kernel_rfl) (fun _ _ _ h => h) (Or.inl ⟨by rfl, ?_⟩) (by assumption) ?_
        rotate_left
        · intro w' hSw
          try dsimp only at hSw
          go_simp; try rfl
        simp only [List.getElem_toArray, List.getElem_cons_succ, List.getElem_cons_zero, Act.put, List.setIfInBounds_toArray, List.set_cons_zero, List.set_cons_succ]
        refine wpAnyH_take (i := 3) (v := ?_) rfl (by kernel_rfl) (by kernel_rfl) (by kernel_rfl) (fun _ _ _ h => h) (Or.inl ⟨by rfl, ?_⟩) (by assumption) ?_
        rotate_left
        · intro w' hSw
          try dsimp only at hSw
          go_simp; try rfl
        simp only [List.getElem_toArray, List.getElem_cons_succ, List.getElem_cons_zero, Act.put, List.setIfInBounds_toArray, List.set_cons_zero, List.set_cons_succ]
        refine wpAnyH_take (i := 4) (v := ?_) rfl (by kernel_rfl) (by kernel_rfl) (by kernel_rfl) (fun _ _ _ h => h) (Or.inl ⟨by rfl, ?_⟩) (by assumption) ?_
        rotate_left
        · intro w' hSw
          try dsimp only at hSw
          go_simp; try rfl
        simp only [List.getElem_toArray, List.getElem_cons_succ, List.getElem_cons_zero, Act.put, List.setIfInBounds_toArray, List.set_cons_zero, List.set_cons_succ]
        refine wpAnyH_take (i := 5) (v := ?_) rfl (by kernel_rfl) (by kernel_rfl) (by kernel_rfl) (fun _ _ _ h => h) (Or.inl ⟨by rfl, ?_⟩) (by assumption) ?_
        rotate_left
        · intro w' hSw
          try dsimp only at hSw
          go_simp; try rfl
        simp only [List.getElem_toArray, List.getElem_cons_succ, List.getElem_cons_zero, Act.put, List.setIfInBounds_toArray, List.set_cons_zero, List.set_cons_succ]
        refine wpAnyH_take (i := 6) (v := ?_) rfl (by kernel_rfl) (by kernel_rfl) (by kernel_rfl) (fun _ _ _ h => h) (Or.inl ⟨by rfl, ?_⟩) (by assumption) ?_
        rotate_left
        · intro w' hSw
          try dsimp only at hSw
          go_simp; try rfl
        simp only [List.getElem_toArray, List.getElem_cons_succ, List.getElem_cons_zero, Act.put, List.setIfInBounds_toArray, List.set_cons_zero, List.set_cons_succ]
        refine wpAnyH_take (i := 7) (v := ?_) rfl (by kernel_rfl) (by kernel_rfl) (by kernel_rfl) (fun _ _ _ h => h) (Or.inl ⟨by rfl, ?_⟩) (by assumption) ?_
        rotate_left
        · intro w' hSw
          try dsimp only at hSw
          go_simp; try rfl
        simp only [List.getElem_toArray, List.getElem_cons_succ, List.getElem_cons_zero, Act.put, List.setIfInBounds_toArray, List.set_cons_zero, List.set_cons_succ]
        refine wpAnyH_take (i := 8) (v := ?_) rfl (by kernel_rfl) (by kernel_rfl) (by kernel_rfl) (fun _ _ _ h => h) (Or.inl ⟨by rfl, ?_⟩) (by assumption) ?_
        rotate_left
        · intro w' hSw
          try dsimp only at hSw
          go_simp; try rfl
        simp only [List.getElem_toArray, List.getElem_cons_succ, List.getElem_cons_zero, Act.put, List.setIfInBounds_toArray, List.set_cons_zero, List.set_cons_succ]
        refine wpAnyH_take (i := 9) (v := ?_) rfl (by kernel_rfl) (by kernel_rfl) (by kernel_rfl) (fun _ _ _ h => h) (Or.inl ⟨by rfl, ?_⟩) (by assumption) ?_
        rotate_left
        · intro w' hSw
          try dsimp only at hSw
          go_simp; try rfl
        simp only [List.getElem_toArray, List.getElem_cons_succ, List.getElem_cons_zero, Act.put, List.setIfInBounds_toArray, List.set_cons_zero, List.set_cons_succ]
        refine wpAnyH_take (i := 10) (v := ?_) rfl (by kernel_rfl) (by kernel_rfl) (by kernel_rfl) (fun _ _ _ h => h) (Or.inl ⟨by rfl, ?_⟩) (by assumption) ?_
        rotate_left
        · intro w' hSw
          try dsimp only at hSw
          go_simp; try rfl
        simp only [List.getElem_toArray, List.getElem_cons_succ, List.getElem_cons_zero, Act.put, List.setIfInBounds_toArray, List.set_cons_zero, List.set_cons_succ]
        refine wpAnyH_ready (rs := [11]) (by kernel_rfl) (by simp) (AllReadyH.cons rfl (fun K hK => ?_) AllReadyH.nil)
        refine step_callW (some 23) (by kernel_rfl) (by kernel_rfl) 10 _ _ rfl #[.slice a1 a.length c1, .int .i64 y.w] (by kernel_rfl) (noteOfS _ a _ y.w (A1.out.at (HB.out.trans (HW.out.mono HB.out.size))) hla) ?_
        rintro e Z1 ⟨rfl, hZ⟩
        subst hZ
        refine ⟨_, rfl, ?_⟩
        refine hK.out _ _ (HCL.out _ HW.out) (fun hHeld => ?_)
        clear hK K
        simp only [Act.put, List.setIfInBounds_toArray, List.set_cons_zero, List.set_cons_succ]
        refine wpAnyH_take (i := 12) (v := ?_) rfl (by kernel_rfl) (by kernel_rfl) (by kernel_rfl) (fun _ _ _ h => h) (Or.inl ⟨by rfl, ?_⟩) (by assumption) ?_
        rotate_left
        · intro w' hSw
          try dsimp only at hSw
          go_simp; try rfl
        simp only [List.getElem_toArray, List.getElem_cons_succ, List.getElem_cons_zero, Act.put, List.setIfInBounds_toArray, List.set_cons_zero, List.set_cons_succ]
        refine wpAnyH_done (by kernel_rfl) ?_ _
        have HX := hide (HB.out.trans (HW.out.mono HB.out.size))
        have HQ2 : Hid (∀ i, i < j + 1 → decide ((b.getD i default).n ≤ nvX a (b.getD i default).w) = true) := hide (fun q hq => by
          rcases Nat.lt_succ_iff_lt_or_eq.1 hq with h | rfl
          · exact HQ.out q h
          · rw [HY.out]; exact HKd.out)
        go_wp2
        exact ⟨⟨j + 1, by omega, by go_num, HX, HQ2⟩, by simp [intOf]; omega⟩
      · have HK := hide k
        have k' : y.n > nvX a y.w := by omega
        clear k
        have HKd : Hid (decide (y.n ≤ nvX a y.w) = false) := hide (decide_eq_false HK.out)
        have HCL : Hid (∀ w', Below wr.heap.size wr w' → w'.cell? ⟨b1, o1 + j * 2, none⟩ = some (.int .i64 y.w) ∧ w'.cell? ⟨b1, o1 + j * 2 + 1, none⟩ = some (.int .i64 y.n)) := hide (fun w' hb => ⟨(hb.cell (p := ⟨b1, o1 + j * 2, none⟩) hbb).trans d0, (hb.cell (p := ⟨b1, o1 + j * 2 + 1, none⟩) hbb).trans d1⟩)
        have HW := hide (Below.refl wr.heap.size wr).drew
        clear d0 d1
        refine wp_region_held_drew (S := fun w' => w'.cell? ⟨b1, o1 + j * 2, none⟩ = some (.int .i64 y.w) ∧ w'.cell? ⟨b1, o1 + j * 2 + 1, none⟩ = some (.int .i64 y.n)) (by kernel_rfl) (HCL.out _ HW.out) (fun hHeld => ?_)
        generalize wr.drew = Z0 at *
        refine wpAnyH_take (i := 0) (v := ?_) rfl (by kernel_rfl) (by kernel_rfl) (by kernel_rfl) (fun _ _ _ h => h) (Or.inl ⟨by rfl, ?_⟩) (by assumption) ?_
        rotate_left
        · intro w' hSw
          try dsimp only at hSw
          go_simp; try rfl
        simp only [List.getElem_toArray, List.getElem_cons_zero, Act.put, List.setIfInBounds_toArray, List.set_cons_zero, List.set_cons_succ]
        refine wpAnyH_take (i := 1) (v := ?_) rfl (by kernel_rfl) (by kernel_rfl) (by kernel_rfl) (fun _ _ _ h => h) (Or.inl ⟨by rfl, ?_⟩) (by assumption) ?_
        rotate_left
        · intro w' hSw
          try dsimp only at hSw
          go_simp; try rfl
        simp only [List.getElem_toArray, List.getElem_cons_succ, List.getElem_cons_zero, Act.put, List.setIfInBounds_toArray, List.set_cons_zero, List.set_cons_succ]
        refine wpAnyH_take (i := 2) (v := ?_) rfl (by kernel_rfl) (by kernel_rfl) (by kernel_rfl) (fun _ _ _ h => h) (Or.inl ⟨by rfl, ?_⟩) (by assumption) ?_
        rotate_left
        · intro w' hSw
          try dsimp only at hSw
          go_simp; try rfl
        simp only [List.getElem_toArray, List.getElem_cons_succ, List.getElem_cons_zero, Act.put, List.setIfInBounds_toArray, List.set_cons_zero, List.set_cons_succ]
        refine wpAnyH_take (i := 3) (v := ?_) rfl (by kernel_rfl) (by kernel_rfl) (by kernel_rfl) (fun _ _ _ h => h) (Or.inl ⟨by rfl, ?_⟩) (by assumption) ?_
        rotate_left
        · intro w' hSw
          try dsimp only at hSw
          go_simp; try rfl
        simp only [List.getElem_toArray, List.getElem_cons_succ, List.getElem_cons_zero, Act.put, List.setIfInBounds_toArray, List.set_cons_zero, List.set_cons_succ]
        refine wpAnyH_take (i := 4) (v := ?_) rfl (by kernel_rfl) (by kernel_rfl) (by kernel_rfl) (fun _ _ _ h => h) (Or.inl ⟨by rfl, ?_⟩) (by assumption) ?_
        rotate_left
        · intro w' hSw
          try dsimp only at hSw
          go_simp; try rfl
        simp only [List.getElem_toArray, List.getElem_cons_succ, List.getElem_cons_zero, Act.put, List.setIfInBounds_toArray, List.set_cons_zero, List.set_cons_succ]
        refine wpAnyH_take (i := 5) (v := ?_) rfl (by kernel_rfl) (by kernel_rfl) (by kernel_rfl) (fun _ _ _ h => h) (Or.inl ⟨by rfl, ?_⟩) (by assumption) ?_
        rotate_left
        · intro w' hSw
          try dsimp only at hSw
          go_simp; try rfl
        simp only [List.getElem_toArray, List.getElem_cons_succ, List.getElem_cons_zero, Act.put, List.setIfInBounds_toArray, List.set_cons_zero, List.set_cons_succ]
        refine wpAnyH_take (i := 6) (v := ?_) rfl (by kernel_rfl) (by kernel_rfl) (by kernel_rfl) (fun _ _ _ h => h) (Or.inl ⟨by rfl, ?_⟩) (by assumption) ?_
        rotate_left
        · intro w' hSw
          try dsimp only at hSw
          go_simp; try rfl
        simp only [List.getElem_toArray, List.getElem_cons_succ, List.getElem_cons_zero, Act.put, List.setIfInBounds_toArray, List.set_cons_zero, List.set_cons_succ]
        refine wpAnyH_take (i := 7) (v := ?_) rfl (by kernel_rfl) (by kernel_rfl) (by kernel_rfl) (fun _ _ _ h => h) (Or.inl ⟨by rfl, ?_⟩) (by assumption) ?_
        rotate_left
        · intro w' hSw
          try dsimp only at hSw
          go_simp; try rfl
        simp only [List.getElem_toArray, List.getElem_cons_succ, List.getElem_cons_zero, Act.put, List.setIfInBounds_toArray, List.set_cons_zero, List.set_cons_succ]
        refine wpAnyH_take (i := 8) (v := ?_) rfl (by kernel_rfl) (by kernel_rfl) (by kernel_rfl) (fun _ _ _ h => h) (Or.inl ⟨by rfl, ?_⟩) (by assumption) ?_
        rotate_left
        · intro w' hSw
          try dsimp only at hSw
          go_simp; try rfl
        simp only [List.getElem_toArray, List.getElem_cons_succ, List.getElem_cons_zero, Act.put, List.setIfInBounds_toArray, List.set_cons_zero, List.set_cons_succ]
        refine wpAnyH_take (i := 9) (v := ?_) rfl (by kernel_rfl) (by kernel_rfl) (by kernel_rfl) (fun _ _ _ h => h) (Or.inl ⟨by rfl, ?_⟩) (by assumption) ?_
        rotate_left
        · intro w' hSw
          try dsimp only at hSw
          go_simp; try rfl
        simp only [List.getElem_toArray, List.getElem_cons_succ, List.getElem_cons_zero, Act.put, List.setIfInBounds_toArray, List.set_cons_zero, List.set_cons_succ]
        refine wpAnyH_take (i := 10) (v := ?_) rfl (by kernel_rfl) (by kernel_rfl) (by kernel_rfl) (fun _ _ _ h => h) (Or.inl ⟨by rfl, ?_⟩) (by assumption) ?_
        rotate_left
        · intro w' hSw
          try dsimp only at hSw
          go_simp; try rfl
        simp only [List.getElem_toArray, List.getElem_cons_succ, List.getElem_cons_zero, Act.put, List.setIfInBounds_toArray, List.set_cons_zero, List.set_cons_succ]
        refine wpAnyH_ready (rs := [11]) (by kernel_rfl) (by simp) (AllReadyH.cons rfl (fun K hK => ?_) AllReadyH.nil)
        refine step_callW (some 23) (by kernel_rfl) (by kernel_rfl) 10 _ _ rfl #[.slice a1 a.length c1, .int .i64 y.w] (by kernel_rfl) (noteOfS _ a _ y.w (A1.out.at (HB.out.trans (HW.out.mono HB.out.size))) hla) ?_
        rintro e Z1 ⟨rfl, hZ⟩
        subst hZ
        refine ⟨_, rfl, ?_⟩
        refine hK.out _ _ (HCL.out _ HW.out) (fun hHeld => ?_)
        clear hK K
        simp only [Act.put, List.setIfInBounds_toArray, List.set_cons_zero, List.set_cons_succ]
        refine wpAnyH_take (i := 12) (v := ?_) rfl (by kernel_rfl) (by kernel_rfl) (by kernel_rfl) (fun _ _ _ h => h) (Or.inl ⟨by rfl, ?_⟩) (by assumption) ?_
        rotate_left
        · intro w' hSw
          try dsimp only at hSw
          go_simp; try rfl
        simp only [List.getElem_toArray, List.getElem_cons_succ, List.getElem_cons_zero, Act.put, List.setIfInBounds_toArray, List.set_cons_zero, List.set_cons_succ]
        refine wpAnyH_done (by kernel_rfl) ?_ _
        have HX := hide (HB.out.trans (HW.out.mono HB.out.size))
        have HF : Hid (V = false) := hide (HN.out j hlt (by rw [HY.out]; exact HKd.out))
        go_wp2
        go_ret
        exact ⟨by rw [HF.out]; rfl, HX.out⟩
    · obtain rfl : j = b.length := by omega
      have HF := hide (HYs.out HQ.out)
      go_wp2_with fail
      refine (notesOkS _ a _ (A1.out.at HB.out) hla).mono ?_
      rintro e w1 ⟨rfl, b1⟩
      replace HB := hide (HB.out.trans (b1.mono HB.out.size))
      clear b1
      cases ca : ntkB a with
      | false =>
        have HF2 : Hid (V = false) := hide (by rw [HF.out, ca]; rfl)
        go_wp2
        go_ret
        exact ⟨by rw [HF2.out]; rfl, HB.out⟩
      | true =>
        have HF2 : Hid (V = ntkB b) := hide (by rw [HF.out, ca]; rfl)
        go_wp2_with fail
        refine (notesOkS _ b _ (B1.out.at HB.out) hlb).mono ?_
        rintro e w2 ⟨rfl, b2⟩
        replace HB := hide (HB.out.trans (b2.mono HB.out.size))
        clear b2
        go_wp2
        go_ret
        exact ⟨by rw [HF2.out]; rfl, HB.out⟩
end Go.Proofs.Ytebilohcdpecoaa
