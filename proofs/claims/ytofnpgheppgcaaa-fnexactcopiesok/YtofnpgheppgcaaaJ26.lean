/-
  Joined: MemV, ValsS.
-/
import Derived.Test.YtofnpgheppgcaaaJ22
import Derived.Test.YtofnpgheppgcaaaJ25
import Derived.Test.YtofnpgheppgcaaaJ20
import Derived.Test.YtofnpgheppgcaaaJ21
import Derived.Deep.RegionHeld
/-
  One memory in the program: whether fields are as a class has them.
-/
namespace Go.Proofs.Ytofnpgheppgcaaa
open Go.RowKit

def fitT (d : Fd) (y : Vl) : Bool := vlB y && (y.r == (frv d).r)
def fitsT (fs : List Fd) (vs : List Vl) : Bool := decide (fs.length = vs.length) && (List.range fs.length).all (fun i => fitT (fs.getD i default) (vs.getD i default))
set_option maxRecDepth 100000 in
set_option maxHeartbeats 8000000 in
theorem fieldTakesI (w : World) (d : Fd) (y : Vl) :
    Calls Try.prog 81 #[.agg #[.string d.n, .string d.t], .agg #[.bool y.r, .int .i64 y.n]] w fun e w' => e = .returned (.bool (fitT d y)) ∧ Below w.heap.size w w' := by
  have rC := fun w => isRefI w d
  unfold fdV at rC
  unfold fitT vlB
  generalize (frv d).r = bb at *
  have vC := fun w => valImpl y.r y.n w
  have bA := (((Below.refl w.heap.size w).alloc (Nat.le_refl _) (.cells #[.string d.n, .string d.t] 101)).alloc (by simp) (.cells #[.bool y.r, .int .i64 y.n] 48))
  have G0 := heap_alloc_new w (.cells #[.string d.n, .string d.t] 101)
  have G1 := heap_alloc_new (w.alloc (.cells #[.string d.n, .string d.t] 101)) (.cells #[.bool y.r, .int .i64 y.n] 48)
  simp only [World.size_alloc] at G1
  have E0 := hide ((Below.heap_alloc _ (.cells #[.bool y.r, .int .i64 y.n] 48) _ (by simp)).trans (G0))
  have E1 := hide (G1)
  have HB := hide bA
  clear bA G0 G1
  go_enter Try.func81, Try.ntmps81
  go_upto_region 1 with fail
  generalize ((w.alloc (.cells #[.string d.n, .string d.t] 101)).alloc (.cells #[.bool y.r, .int .i64 y.n] 48)) = W at *
  cases ci : vOk y.r y.n with
  | false =>
    simp only [ci] at vC
    have HC := hide ci
    clear ci
    have HCL : Hid (∀ w', Below W.heap.size W w' → w'.cell? ⟨w.heap.size, 0, none⟩ = some (.string d.n) ∧ w'.cell? ⟨w.heap.size, 1, none⟩ = some (.string d.t) ∧ w'.cell? ⟨w.heap.size + 1, 0, none⟩ = some (.bool y.r) ∧ w'.cell? ⟨w.heap.size + 1, 1, none⟩ = some (.int .i64 y.n)) := hide (fun w' hb => ⟨(box_of ((hb.block _ (Array.getElem?_eq_some_iff.1 E0.out).1).trans E0.out)).1 0 _ rfl, (box_of ((hb.block _ (Array.getElem?_eq_some_iff.1 E0.out).1).trans E0.out)).1 1 _ rfl, (box_of ((hb.block _ (Array.getElem?_eq_some_iff.1 E1.out).1).trans E1.out)).1 0 _ rfl, (box_of ((hb.block _ (Array.getElem?_eq_some_iff.1 E1.out).1).trans E1.out)).1 1 _ rfl⟩)
    have HW := hide (Below.refl W.heap.size W).drew
    refine wp_region_held_drew (S := fun w' => w'.cell? ⟨w.heap.size, 0, none⟩ = some (.string d.n) ∧ w'.cell? ⟨w.heap.size, 1, none⟩ = some (.string d.t) ∧ w'.cell? ⟨w.heap.size + 1, 0, none⟩ = some (.bool y.r) ∧ w'.cell? ⟨w.heap.size + 1, 1, none⟩ = some (.int .i64 y.n)) (by kernel_rfl) (HCL.out _ HW.out) (fun hHeld => ?_)
    generalize W.drew = Z0 at *
    refine wpAnyH_take (i := 0) (v := ?_) rfl (by kernel_rfl) (by kernel_rfl) (by kernel_rfl) (fun _ _ _ h => h) (Or.inl ⟨by rfl, ?_⟩) (by assumption) ?_
    rotate_left
    · intro w' hSw
      try dsimp only at hSw
      go_simp; try rfl
    simp only [List.getElem_toArray, List.getElem_cons_zero, Act.put, List.setIfInBounds_toArray, List.set_cons_zero, List.set_cons_succ]
    refine wpAnyH_ready (rs := [1]) (by kernel_rfl) (by simp) (AllReadyH.cons rfl (fun K hK => ?_) AllReadyH.nil)
    refine step_callW (some 6) (by kernel_rfl) (by kernel_rfl) 92 _ _ rfl #[.agg #[.bool y.r, .int .i64 y.n]] (by kernel_rfl) (vC _) ?_
    rintro e Z1 ⟨rfl, b9⟩
    replace HW := hide (HW.out.trans (b9.mono HW.out.size))
    clear b9
    refine ⟨_, rfl, ?_⟩
    refine hK.out _ _ (HCL.out _ HW.out) (fun hHeld => ?_)
    clear hK K
    simp only [Act.put, List.setIfInBounds_toArray, List.set_cons_zero, List.set_cons_succ]
    refine wpAnyH_take (i := 2) (v := ?_) rfl (by kernel_rfl) (by kernel_rfl) (by kernel_rfl) (fun _ _ _ h => h) (Or.inl ⟨by rfl, ?_⟩) (by assumption) ?_
    rotate_left
    · intro w' hSw
      try dsimp only at hSw
      go_simp; try rfl
    simp only [List.getElem_toArray, List.getElem_cons_succ, List.getElem_cons_zero, Act.put, List.setIfInBounds_toArray, List.set_cons_zero, List.set_cons_succ]
    refine wpAnyH_take (i := 3) (v := undef) rfl (by kernel_rfl) (by kernel_rfl) (by kernel_rfl) (fun _ _ _ h => h) (Or.inr ⟨by rfl, rfl⟩) (by assumption) ?_
    simp only [List.getElem_toArray, List.getElem_cons_succ, List.getElem_cons_zero, Act.put, List.setIfInBounds_toArray, List.set_cons_zero, List.set_cons_succ]
    refine wpAnyH_take (i := 4) (v := undef) rfl (by kernel_rfl) (by kernel_rfl) (by kernel_rfl) (fun _ _ _ h => h) (Or.inr ⟨by rfl, rfl⟩) (by assumption) ?_
    simp only [List.getElem_toArray, List.getElem_cons_succ, List.getElem_cons_zero, Act.put, List.setIfInBounds_toArray, List.set_cons_zero, List.set_cons_succ]
    refine wpAnyH_take (i := 5) (v := undef) rfl (by kernel_rfl) (by kernel_rfl) (by kernel_rfl) (fun _ _ _ h => h) (Or.inr ⟨by rfl, rfl⟩) (by assumption) ?_
    simp only [List.getElem_toArray, List.getElem_cons_succ, List.getElem_cons_zero, Act.put, List.setIfInBounds_toArray, List.set_cons_zero, List.set_cons_succ]
    refine wpAnyH_take (i := 6) (v := undef) rfl (by kernel_rfl) (by kernel_rfl) (by kernel_rfl) (fun _ _ _ h => h) (Or.inr ⟨by rfl, rfl⟩) (by assumption) ?_
    simp only [List.getElem_toArray, List.getElem_cons_succ, List.getElem_cons_zero, Act.put, List.setIfInBounds_toArray, List.set_cons_zero, List.set_cons_succ]
    refine wpAnyH_take (i := 7) (v := undef) rfl (by kernel_rfl) (by kernel_rfl) (by kernel_rfl) (fun _ _ _ h => h) (Or.inr ⟨by rfl, rfl⟩) (by assumption) ?_
    simp only [List.getElem_toArray, List.getElem_cons_succ, List.getElem_cons_zero, Act.put, List.setIfInBounds_toArray, List.set_cons_zero, List.set_cons_succ]
    refine wpAnyH_take (i := 8) (v := ?_) rfl (by kernel_rfl) (by kernel_rfl) (by kernel_rfl) (fun _ _ _ h => h) (Or.inl ⟨by rfl, ?_⟩) (by assumption) ?_
    rotate_left
    · intro w' hSw
      try dsimp only at hSw
      go_simp; try rfl
    simp only [List.getElem_toArray, List.getElem_cons_succ, List.getElem_cons_zero, Act.put, List.setIfInBounds_toArray, List.set_cons_zero, List.set_cons_succ]
    refine wpAnyH_take (i := 9) (v := ?_) rfl (by kernel_rfl) (by kernel_rfl) (by kernel_rfl) (fun _ _ _ h => h) (Or.inl ⟨by rfl, ?_⟩) (by assumption) ?_
    rotate_left
    · intro w' hSw
      try dsimp only at hSw
      go_simp; try rfl
    simp only [List.getElem_toArray, List.getElem_cons_succ, List.getElem_cons_zero, Act.put, List.setIfInBounds_toArray, List.set_cons_zero, List.set_cons_succ]
    refine wpAnyH_done (by kernel_rfl) ?_ _
    go_wp2
    go_ret
    exact ⟨by rw [HC.out]; rfl, HB.out.trans (HW.out.mono HB.out.size)⟩
  | true =>
    simp only [ci] at vC
    have HC := hide ci
    clear ci
    have HCL : Hid (∀ w', Below W.heap.size W w' → w'.cell? ⟨w.heap.size, 0, none⟩ = some (.string d.n) ∧ w'.cell? ⟨w.heap.size, 1, none⟩ = some (.string d.t) ∧ w'.cell? ⟨w.heap.size + 1, 0, none⟩ = some (.bool y.r) ∧ w'.cell? ⟨w.heap.size + 1, 1, none⟩ = some (.int .i64 y.n)) := hide (fun w' hb => ⟨(box_of ((hb.block _ (Array.getElem?_eq_some_iff.1 E0.out).1).trans E0.out)).1 0 _ rfl, (box_of ((hb.block _ (Array.getElem?_eq_some_iff.1 E0.out).1).trans E0.out)).1 1 _ rfl, (box_of ((hb.block _ (Array.getElem?_eq_some_iff.1 E1.out).1).trans E1.out)).1 0 _ rfl, (box_of ((hb.block _ (Array.getElem?_eq_some_iff.1 E1.out).1).trans E1.out)).1 1 _ rfl⟩)
    have HW := hide (Below.refl W.heap.size W).drew
    refine wp_region_held_drew (S := fun w' => w'.cell? ⟨w.heap.size, 0, none⟩ = some (.string d.n) ∧ w'.cell? ⟨w.heap.size, 1, none⟩ = some (.string d.t) ∧ w'.cell? ⟨w.heap.size + 1, 0, none⟩ = some (.bool y.r) ∧ w'.cell? ⟨w.heap.size + 1, 1, none⟩ = some (.int .i64 y.n)) (by kernel_rfl) (HCL.out _ HW.out) (fun hHeld => ?_)
    generalize W.drew = Z0 at *
    refine wpAnyH_take (i := 0) (v := ?_) rfl (by kernel_rfl) (by kernel_rfl) (by kernel_rfl) (fun _ _ _ h => h) (Or.inl ⟨by rfl, ?_⟩) (by assumption) ?_
    rotate_left
    · intro w' hSw
      try dsimp only at hSw
      go_simp; try rfl
    simp only [List.getElem_toArray, List.getElem_cons_zero, Act.put, List.setIfInBounds_toArray, List.set_cons_zero, List.set_cons_succ]
    refine wpAnyH_ready (rs := [1]) (by kernel_rfl) (by simp) (AllReadyH.cons rfl (fun K hK => ?_) AllReadyH.nil)
    refine step_callW (some 6) (by kernel_rfl) (by kernel_rfl) 92 _ _ rfl #[.agg #[.bool y.r, .int .i64 y.n]] (by kernel_rfl) (vC _) ?_
    rintro e Z1 ⟨rfl, b9⟩
    replace HW := hide (HW.out.trans (b9.mono HW.out.size))
    clear b9
    refine ⟨_, rfl, ?_⟩
    refine hK.out _ _ (HCL.out _ HW.out) (fun hHeld => ?_)
    clear hK K
    simp only [Act.put, List.setIfInBounds_toArray, List.set_cons_zero, List.set_cons_succ]
    refine wpAnyH_take (i := 2) (v := ?_) rfl (by kernel_rfl) (by kernel_rfl) (by kernel_rfl) (fun _ _ _ h => h) (Or.inl ⟨by rfl, ?_⟩) (by assumption) ?_
    rotate_left
    · intro w' hSw
      try dsimp only at hSw
      go_simp; try rfl
    simp only [List.getElem_toArray, List.getElem_cons_succ, List.getElem_cons_zero, Act.put, List.setIfInBounds_toArray, List.set_cons_zero, List.set_cons_succ]
    refine wpAnyH_take (i := 3) (v := ?_) rfl (by kernel_rfl) (by kernel_rfl) (by kernel_rfl) (fun _ _ _ h => h) (Or.inl ⟨by rfl, ?_⟩) (by assumption) ?_
    rotate_left
    · intro w' hSw
      try dsimp only at hSw
      go_simp; try rfl
    simp only [List.getElem_toArray, List.getElem_cons_succ, List.getElem_cons_zero, Act.put, List.setIfInBounds_toArray, List.set_cons_zero, List.set_cons_succ]
    refine wpAnyH_take (i := 4) (v := ?_) rfl (by kernel_rfl) (by kernel_rfl) (by kernel_rfl) (fun _ _ _ h => h) (Or.inl ⟨by rfl, ?_⟩) (by assumption) ?_
    rotate_left
    · intro w' hSw
      try dsimp only at hSw
      go_simp; try rfl
    simp only [List.getElem_toArray, List.getElem_cons_succ, List.getElem_cons_zero, Act.put, List.setIfInBounds_toArray, List.set_cons_zero, List.set_cons_succ]
    refine wpAnyH_take (i := 5) (v := ?_) rfl (by kernel_rfl) (by kernel_rfl) (by kernel_rfl) (fun _ _ _ h => h) (Or.inl ⟨by rfl, ?_⟩) (by assumption) ?_
    rotate_left
    · intro w' hSw
      try dsimp only at hSw
      go_simp; try rfl
    simp only [List.getElem_toArray, List.getElem_cons_succ, List.getElem_cons_zero, Act.put, List.setIfInBounds_toArray, List.set_cons_zero, List.set_cons_succ]
    refine wpAnyH_ready (rs := [6]) (by kernel_rfl) (by simp) (AllReadyH.cons rfl (fun K hK => ?_) AllReadyH.nil)
    refine step_callW (some 11) (by kernel_rfl) (by kernel_rfl) 93 _ _ rfl #[.agg #[.string d.n, .string d.t]] (by kernel_rfl) (rC _) ?_
    rintro e Z2 ⟨rfl, b9⟩
    replace HW := hide (HW.out.trans (b9.mono HW.out.size))
    clear b9
    refine ⟨_, rfl, ?_⟩
    refine hK.out _ _ (HCL.out _ HW.out) (fun hHeld => ?_)
    clear hK K
    simp only [Act.put, List.setIfInBounds_toArray, List.set_cons_zero, List.set_cons_succ]
    refine wpAnyH_take (i := 7) (v := ?_) rfl (by kernel_rfl) (by kernel_rfl) (by kernel_rfl) (fun _ _ _ h => h) (Or.inl ⟨by rfl, ?_⟩) (by assumption) ?_
    rotate_left
    · intro w' hSw
      try dsimp only at hSw
      go_simp; try rfl
    simp only [List.getElem_toArray, List.getElem_cons_succ, List.getElem_cons_zero, Act.put, List.setIfInBounds_toArray, List.set_cons_zero, List.set_cons_succ]
    refine wpAnyH_take (i := 8) (v := ?_) rfl (by kernel_rfl) (by kernel_rfl) (by kernel_rfl) (fun _ _ _ h => h) (Or.inl ⟨by rfl, ?_⟩) (by assumption) ?_
    rotate_left
    · intro w' hSw
      try dsimp only at hSw
      go_simp; try rfl
    simp only [List.getElem_toArray, List.getElem_cons_succ, List.getElem_cons_zero, Act.put, List.setIfInBounds_toArray, List.set_cons_zero, List.set_cons_succ]
    refine wpAnyH_take (i := 9) (v := ?_) rfl (by kernel_rfl) (by kernel_rfl) (by kernel_rfl) (fun _ _ _ h => h) (Or.inl ⟨by rfl, ?_⟩) (by assumption) ?_
    rotate_left
    · intro w' hSw
      try dsimp only at hSw
      go_simp; try rfl
    simp only [List.getElem_toArray, List.getElem_cons_succ, List.getElem_cons_zero, Act.put, List.setIfInBounds_toArray, List.set_cons_zero, List.set_cons_succ]
    refine wpAnyH_done (by kernel_rfl) ?_ _
    go_wp2
    go_ret
    exact ⟨by rw [HC.out]; rfl, HB.out.trans (HW.out.mono HB.out.size)⟩
set_option maxRecDepth 100000 in
set_option maxHeartbeats 8000000 in
theorem equalFuncI (w : World) (fs : List Fd) (vs : List Vl) (u1 u2 : Value) (h1 : Reads w w.heap.size (flds fs) u1) (h2 : Reads w w.heap.size (vls vs) u2) (hm : fs.length ≤ 1048576) :
    Calls Try.prog 80 #[u1, u2, .func (.func 81) #[] #[]] w fun e w' => e = .returned (.bool (fitsT fs vs)) ∧ Below w.heap.size w w' := by
  have HR := hide h1
  have HQ := hide h2
  obtain ⟨a1, c1, e1, _⟩ := h1.shape
  obtain ⟨a2, c2, e2, _⟩ := h2.shape
  subst e1 e2
  clear h1 h2
  obtain ⟨V, hV⟩ : ∃ V, fitsT fs vs = V := ⟨_, rfl⟩
  have HV0 : Hid (¬ fs.length = vs.length → V = false) := hide (fun h => by rw [← hV]; unfold fitsT; rw [decide_eq_false h]; rfl)
  have HV1 : Hid (∀ j, j < fs.length → fitT (fs.getD j default) (vs.getD j default) = false → V = false) := hide (fun j hj h => by
    rw [← hV]; unfold fitsT
    have : (List.range fs.length).all (fun i => fitT (fs.getD i default) (vs.getD i default)) = false := by
      cases c : (List.range fs.length).all (fun i => fitT (fs.getD i default) (vs.getD i default)) with
      | false => rfl
      | true => rw [List.all_eq_true] at c; have := c j (List.mem_range.2 hj); rw [h] at this; cases this
    rw [this, Bool.and_false])
  have HV2 : Hid (fs.length = vs.length → (∀ j, j < fs.length → fitT (fs.getD j default) (vs.getD j default) = true) → V = true) := hide (fun he h => by
    rw [← hV]; unfold fitsT
    rw [decide_eq_true he, Bool.true_and, List.all_eq_true]
    exact fun i hi => h i (List.mem_range.1 hi))
  rw [hV]
  clear hV
  by_cases hne : fs.length = vs.length
  · have HNE := hide hne
    rw [← hne] at HQ
    rw [← hne]
    clear hne
    go_enter Try.func80, Try.ntmps80
    go_wp2
    go_loopw [17] (fun i wr => ∃ j : Nat, j ≤ fs.length ∧ i = .int .i64 (j : Int) ∧ Hid (∀ t, t < j → fitT (fs.getD t default) (vs.getD t default) = true) ∧ Hid (Below w.heap.size w wr)) (fun i _ => fs.length - (intOf i).toNat)
    case atStart => exact ⟨0, Nat.zero_le _, rfl, hide (fun t ht => by omega), hide (Below.refl _ _)⟩
    case round =>
      obtain ⟨j, hj, rfl, HA, HBr⟩ := hrel
      by_cases hlt : j < fs.length
      · obtain ⟨_, _, ea, _, _, hc⟩ := field_at (HR.out.at HBr.out)
        cases ea
        obtain ⟨b, o, rfl, hbb, hcell⟩ := hc (by omega)
        obtain ⟨d0, d1⟩ := hcell j hlt
        obtain ⟨_, _, ea, _, _, hc2⟩ := val_at (HQ.out.at HBr.out)
        obtain ⟨e71, _, e72⟩ : _ ∧ _ ∧ _ := by simpa using ea
        clear ea
        rename_i e73
        clear e73
        subst e71 e72
        obtain ⟨b2, o2, rfl, hbb2, hcell2⟩ := hc2 (by have := HNE.out; omega)
        obtain ⟨f0, f1⟩ := hcell2 j (by have := HNE.out; omega)
        clear hcell hc hcell2 hc2
        have hlt2 : (j : Int) < (fs.length : Int) := by omega
        have HNo := hide (HV1.out j hlt)
        have HA2 : Hid (fitT (fs.getD j default) (vs.getD j default) = true → ∀ t, t < j + 1 → fitT (fs.getD t default) (vs.getD t default) = true) := hide (fun h t ht => by
          rcases Nat.lt_succ_iff_lt_or_eq.1 ht with h1 | rfl
          · exact HA.out t h1
          · exact h)
        obtain ⟨d, hd⟩ : ∃ d, fs.getD j default = d := ⟨_, rfl⟩
        obtain ⟨y, hy⟩ : ∃ y, vs.getD j default = y := ⟨_, rfl⟩
        rw [hd] at d0 d1
        rw [hy] at f0 f1
        rw [hd, hy] at HNo HA2
        clear hd hy
        have g0 : ∀ W', Below wr.heap.size wr W' → W'.cell? ⟨b2, o2 + j * 2, none⟩ = some (.bool y.r) ∧ W'.cell? ⟨b2, o2 + j * 2 + 1, none⟩ = some (.int .i64 y.n) := fun W' hb => ⟨(hb.cell (p := ⟨b2, o2 + j * 2, none⟩) hbb2).trans f0, (hb.cell (p := ⟨b2, o2 + j * 2 + 1, none⟩) hbb2).trans f1⟩
        have bA1 := (Below.refl wr.heap.size wr).alloc (Nat.le_refl _) (.cells #[.string d.n, .string d.t] 101)
        have HG0 := hide (g0 _ bA1)
        have bA2 := bA1.alloc bA1.size (.cells #[.bool y.r, .int .i64 y.n] 48)
        have EF0 := hide (heap_alloc_new wr (.cells #[.string d.n, .string d.t] 101))
        have EF1 := hide (heap_alloc_new (wr.alloc (.cells #[.string d.n, .string d.t] 101)) (.cells #[.bool y.r, .int .i64 y.n] 48))
        have HBw := hide bA2
        have hw0 := HBr.out.size
        clear bA1 bA2 g0 f0 f1
        go_upto_region 6 with fail
        clear d0 d1
        obtain ⟨f0, f1⟩ := HG0.out
        simp only [World.size_alloc] at EF1
        replace EF0 := hide ((Below.heap_alloc _ (.cells #[.bool y.r, .int .i64 y.n] 48) _ (by simp)).trans EF0.out)
        obtain ⟨gf, hgf⟩ : ∃ g, wr.heap.size = g := ⟨_, rfl⟩
        rw [hgf] at EF0 EF1
        have HGF := hide hgf
        rw [hgf]
        clear hgf
        have hsz1 : (wr.alloc (.cells #[.string d.n, .string d.t] 101)).heap.size = gf + 1 := by rw [World.size_alloc, HGF.out]
        go_upto_region 7 with fail
        try rw [hsz1]
        clear f0 f1 HG0 hsz1
        generalize (wr.alloc (.cells #[.string d.n, .string d.t] 101)).alloc (.cells #[.bool y.r, .int .i64 y.n] 48) = W2 at *
        have k0 := (box_of EF0.out).1 0 _ rfl
        have k1 := (box_of EF0.out).1 1 _ rfl
        have l0 := (box_of EF1.out).1 0 _ rfl
        have l1 := (box_of EF1.out).1 1 _ rfl
        go_wp2_with fail
        refine (fieldTakesI _ d y).mono ?_
        rintro e W3 ⟨rfl, b9⟩
        replace HBw := hide (HBw.out.trans (b9.mono HBw.out.size))
        clear b9 k0 k1 l0 l1 EF0 EF1
        cases ci : fitT d y with
        | false =>
          have HF := hide (HNo.out ci)
          clear HNo HA2 HV0 HV1 HV2 HA
          go_wp2
          go_ret
          exact ⟨by rw [HF.out]; rfl, HBr.out.trans (HBw.out.mono hw0)⟩
        | true =>
          have HA3 := hide (HA2.out ci)
          clear HA2 HNo HA ci
          go_wp2
          exact ⟨⟨j + 1, by omega, by go_num, HA3, hide (HBr.out.trans (HBw.out.mono hw0))⟩, by simp [intOf]; omega⟩
      · have he : j = fs.length := by omega
        have HF : Hid (V = true) := hide (HV2.out HNE.out (fun t ht => HA.out t (by omega)))
        go_wp2
        go_ret
        exact ⟨by rw [HF.out]; rfl, HBr.out⟩
  · have hneI : ¬ (fs.length : Int) = (vs.length : Int) := by omega
    have HF := hide (HV0.out hne)
    go_enter Try.func80, Try.ntmps80
    go_wp2
    go_ret
    exact ⟨by rw [HF.out]; rfl, Below.refl _ _⟩
set_option maxRecDepth 100000 in
set_option maxHeartbeats 4000000 in
theorem fieldsTakeI (w : World) (K : Kd) (f1 f2 f3 : Option Addr) (g1 g2 g3 : Nat) (vs : List Vl) (a2 : Option Addr) (c2 : Nat) (h1 : Reads w w.heap.size (flds K.f) (.slice f2 K.f.length g2)) (h2 : Reads w w.heap.size (vls vs) (.slice a2 vs.length c2)) (hm : K.f.length ≤ 1048576) :
    Calls Try.prog 68 #[.agg #[.string K.n, .int .i64 K.s, .slice f1 K.p.length g1, .slice f2 K.f.length g2, .slice f3 K.m.length g3], .slice a2 vs.length c2] w fun e w' => e = .returned (.bool (fitsT K.f vs)) ∧ Below w.heap.size w w' := by
  have bA := (Below.refl w.heap.size w).alloc (Nat.le_refl _) (.cells #[.string K.n, .int .i64 K.s, .slice f1 K.p.length g1, .slice f2 K.f.length g2, .slice f3 K.m.length g3] 98)
  have HR := hide (h1.at bA)
  have HQ := hide (h2.at bA)
  have HB := hide bA
  clear h1 h2 bA
  obtain ⟨fs, hfs⟩ : ∃ fs, K.f = fs := ⟨_, rfl⟩
  rw [hfs] at HR HQ HB hm ⊢
  clear hfs
  go_enter Try.func68, Try.ntmps68
  go_wp2_with fail
  refine (equalFuncI _ fs vs _ _ HR.out HQ.out hm).mono ?_
  rintro e w1 ⟨rfl, b1⟩
  replace HB := hide (HB.out.trans (b1.mono HB.out.size))
  clear b1 HR HQ
  go_wp2
  go_ret
  exact ⟨rfl, HB.out⟩
end Go.Proofs.Ytofnpgheppgcaaa
/-
  Values in the model: whether all are right.
-/
namespace Go.Proofs.Ytofnpgheppgcaaa
open Go.RowKit

set_option maxRecDepth 100000 in
set_option maxHeartbeats 4000000 in
theorem valsS (w : World) (xs : List Vl) (u : Value) (h : Reads w w.heap.size (vls xs) u) (hm : xs.length ≤ 1048576) :
    Calls Try.prog 63 #[u] w fun e w' => e = .returned (.bool (xs.all vlB)) ∧ Below w.heap.size w w' := by
  have HR := hide h
  obtain ⟨a1, c1, e1, _⟩ := h.shape
  subst e1
  clear h
  have HY : Hid (∀ j, j < xs.length → vlB (xs.getD j default) = false → xs.all vlB = false) := hide (fun j h1 h2 => allNo h1 h2)
  have HN : Hid ((∀ j, j < xs.length → vlB (xs.getD j default) = true) → xs.all vlB = true) := hide (fun h => allYes h)
  generalize xs.all vlB = V at *
  go_enter Try.func63, Try.ntmps63
  go_wp2
  go_loopw [3] (fun i wr => ∃ j : Nat, j ≤ xs.length ∧ i = .int .i64 (j : Int) ∧ Hid (Below w.heap.size w wr) ∧ Hid (∀ i, i < j → vlB (xs.getD i default) = true)) (fun i _ => xs.length - (intOf i).toNat)
  case atStart => exact ⟨0, Nat.zero_le _, rfl, hide (Below.refl _ _), hide (fun i hi => by omega)⟩
  case round =>
    obtain ⟨j, hj, rfl, HB, HQ⟩ := hrel
    by_cases hlt : j < xs.length
    · obtain ⟨a', cap', ea, hcap, _, hc⟩ := val_at (HR.out.at HB.out)
      cases ea
      obtain ⟨b, o, rfl, hbb, hcell⟩ := hc (by omega)
      obtain ⟨d0, d1⟩ := hcell j hlt
      clear hcell hc
      obtain ⟨y, hy⟩ : ∃ y, xs.getD j default = y := ⟨_, rfl⟩
      rw [hy] at d0 d1
      have HX := hide hy
      clear hy
      go_wp2_with fail
      refine (valSpec y.r y.n _).mono ?_
      rintro e w1 ⟨rfl, b1⟩
      replace HB := hide (HB.out.trans (b1.mono HB.out.size))
      clear b1
      cases k : vOk y.r y.n with
      | false =>
        have HF : Hid (V = false) := hide (HY.out j hlt (by rw [HX.out]; exact k))
        go_wp2
        go_ret
        exact ⟨by rw [HF.out]; rfl, HB.out⟩
      | true =>
        have HQ2 : Hid (∀ i, i < j + 1 → vlB (xs.getD i default) = true) := hide (fun i hi => by
          rcases Nat.lt_succ_iff_lt_or_eq.1 hi with h | rfl
          · exact HQ.out i h
          · rw [HX.out]; exact k)
        go_wp2
        exact ⟨⟨j + 1, by omega, by go_num, HB, HQ2⟩, by simp [intOf]; omega⟩
    · obtain rfl : j = xs.length := by omega
      have HF : Hid (V = true) := hide (HN.out HQ.out)
      go_wp2
      go_ret
      exact ⟨by rw [HF.out]; rfl, HB.out⟩
end Go.Proofs.Ytofnpgheppgcaaa
