/-
  Joined: MemV, RngO.
-/
import Derived.Test.YthlaihkpffddcaaJ32
import Derived.Test.YthlaihkpffddcaaJ35
import Derived.Test.YthlaihkpffddcaaJ20
import Derived.Deep.RegionHeld
import Derived.RangeFuncNested
import Derived.RangeFuncLeaves
import Derived.Shelf.Abstract
import Derived.WalkKit
import Derived.OwnWalkIn
import Derived.TacticsInMore
import Derived.LoopNIn
import Derived.LoopIn
import Derived.Test.YthlaihkpffddcaaJ24
/-
  One memory in the program: whether fields are as a class has them.
-/
namespace Go.Proofs.Ythlaihkpffddcaa
open Go.RowKit

def fitT (d : Fd) (y : Vl) : Bool := vlB y && (y.r == (frv d).r)
def fitsT (fs : List Fd) (vs : List Vl) : Bool := decide (fs.length = vs.length) && (List.range fs.length).all (fun i => fitT (fs.getD i default) (vs.getD i default))
set_option maxRecDepth 100000 in
set_option maxHeartbeats 8000000 in
theorem fieldTakesI (w : World) (d : Fd) (y : Vl) :
    Calls Try.prog 100 #[.agg #[.string d.n, .string d.t], .agg #[.bool y.r, .int .i64 y.n]] w fun e w' => e = .returned (.bool (fitT d y)) ∧ Below w.heap.size w w' := by
  have rC := fun w => isRefI w d
  unfold fdV at rC
  unfold fitT vlB
  generalize (frv d).r = bb at *
  have vC := fun w => valImpl y.r y.n w
  have bA := (((Below.refl w.heap.size w).alloc (Nat.le_refl _) (.cells #[.string d.n, .string d.t] 95)).alloc (by simp) (.cells #[.bool y.r, .int .i64 y.n] 59))
  have G0 := heap_alloc_new w (.cells #[.string d.n, .string d.t] 95)
  have G1 := heap_alloc_new (w.alloc (.cells #[.string d.n, .string d.t] 95)) (.cells #[.bool y.r, .int .i64 y.n] 59)
  simp only [World.size_alloc] at G1
  have E0 := hide ((Below.heap_alloc _ (.cells #[.bool y.r, .int .i64 y.n] 59) _ (by simp)).trans (G0))
  have E1 := hide (G1)
  have HB := hide bA
  clear bA G0 G1
  go_enter Try.func100, Try.ntmps100
  go_upto_region 1 with fail
  generalize ((w.alloc (.cells #[.string d.n, .string d.t] 95)).alloc (.cells #[.bool y.r, .int .i64 y.n] 59)) = W at *
  cases ci : vOk y.r y.n with
  | false =>
    simp only [ci] at vC
    have HC := hide ci
    clear ci
    have HCL : Hid (∀ w', Below W.heap.size W w' → w'.cell? ⟨w.heap.size, 0, none⟩ = some (.string d.n) ∧ w'.cell? ⟨w.heap.size, 1, none⟩ = some (.string d.t) ∧ w'.cell? ⟨w.heap.size + 1, 0, none⟩ = some (.bool y.r) ∧ w'.cell? ⟨w.heap.size + 1, 1, none⟩ = some (.int .i64 y.n)) := hide (fun w' hb => ⟨(box_of ((hb.block _ (Array.getElem?_eq_some_iff.1 E0.out).1).trans E0.out)).1 0 _ rfl, (box_of ((hb.block _ (Array.getElem?_eq_some_iff.1 E0.out).1).trans E0.out)).1 1 _ rfl, (box_of ((hb.block _ (Array.getElem?_eq_some_iff.1 E1.out).1).trans E1.out)).1 0 _ rfl, (box_of ((hb.block _ (Array.getElem?_eq_some_iff.1 E1.out).1).trans E1.out)).1 1 _ rfl⟩)
    have HW := hide (Below.refl W.heap.size W).drew
    refine wp_region_held_drew (S := fun w' => w'.cell? ⟨w.heap.size, 0, none⟩ = some (.string d.n) ∧ w'.cell? ⟨w.heap.size, 1, none⟩ = some (.string d.t) ∧ w'.cell? ⟨w.heap.size + 1, 0, none⟩ = some (.bool y.r) ∧ w'.cell? ⟨w.heap.size + 1, 1, none⟩ = some (.int .i64 y.n)) (by kernel_rfl) (HCL.out _ HW.out) (fun hHeld => ?_)
    generalize W.drew = Z0 at *
    refine wpAnyH_take (i := 0) (v := ?_) rfl (by kernel_rfl) (by kernel_rfl) (by kernel_rfl) (fun _ _ _ h => h) (Or.inl ⟨by rfl, ?_⟩) (by assumption) ?_
    rotate_left
    · intro w' hSw
      try dsimp only at hSw
      go_simp; try rfl
    simp only [List.getElem_toArray, List.getElem_cons_zero, Act.put, List.setIfInBounds_toArray, List.set_cons_zero, List.set_cons_succ]
    refine wpAnyH_ready (rs := [1]) (by kernel_rfl) (by simp) (AllReadyH.cons rfl (fun K hK => ?_) AllReadyH.nil)
    refine step_callW (some 6) (by kernel_rfl) (by kernel_rfl) 114 _ _ rfl #[.agg #[.bool y.r, .int .i64 y.n]] (by kernel_rfl) (vC _) ?_
    rintro e Z1 ⟨rfl, b9⟩
    replace HW := hide (HW.out.trans (b9.mono HW.out.size))
    clear b9
    refine ⟨_, rfl, ?_⟩
    refine hK.out _ _ (HCL.out _ HW.out) (fun hHeld => ?_)
    clear hK K
    simp only [Act.put, List.setIfInBounds_toArray, List.set_cons_zero, List.set_cons_succ]
    refine wpAnyH_take (i := 2) (v := ?_) rfl (by kernel_rfl) (by kernel_rfl) (by kernel_rfl) (fun _ _ _ h => h) (Or.inl ⟨by rfl, ?_⟩) (by assumption) ?_
    rotate_left
    · intro w' hSw
      try dsimp only at hSw
      go_simp; try rfl
    simp only [List.getElem_toArray, List.getElem_cons_succ, List.getElem_cons_zero, Act.put, List.setIfInBounds_toArray, List.set_cons_zero, List.set_cons_succ]
    refine wpAnyH_take (i := 3) (v := undef) rfl (by kernel_rfl) (by kernel_rfl) (by kernel_rfl) (fun _ _ _ h => h) (Or.inr ⟨by rfl, rfl⟩) (by assumption) ?_
    simp only [List.getElem_toArray, List.getElem_cons_succ, List.getElem_cons_zero, Act.put, List.setIfInBounds_toArray, List.set_cons_zero, List.set_cons_succ]
    refine wpAnyH_take (i := 4) (v := undef) rfl (by kernel_rfl) (by kernel_rfl) (by kernel_rfl) (fun _ _ _ h => h) (Or.inr ⟨by rfl, rfl⟩) (by assumption) ?_
    simp only [List.getElem_toArray, List.getElem_cons_succ, List.getElem_cons_zero, Act.put, List.setIfInBounds_toArray, List.set_cons_zero, List.set_cons_succ]
    refine wpAnyH_take (i := 5) (v := undef) rfl (by kernel_rfl) (by kernel_rfl) (by kernel_rfl) (fun _ _ _ h => h) (Or.inr ⟨by rfl, rfl⟩) (by assumption) ?_
    simp only [List.getElem_toArray, List.getElem_cons_succ, List.getElem_cons_zero, Act.put, List.setIfInBounds_toArray, List.set_cons_zero, List.set_cons_succ]
    refine wpAnyH_take (i := 6) (v := undef) rfl (by kernel_rfl) (by kernel_rfl) (by kernel_rfl) (fun _ _ _ h => h) (Or.inr ⟨by rfl, rfl⟩) (by assumption) ?_
    simp only [List.getElem_toArray, List.getElem_cons_succ, List.getElem_cons_zero, Act.put, List.setIfInBounds_toArray, List.set_cons_zero, List.set_cons_succ]
    refine wpAnyH_take (i := 7) (v := undef) rfl (by kernel_rfl) (by kernel_rfl) (by kernel_rfl) (fun _ _ _ h => h) (Or.inr ⟨by rfl, rfl⟩) (by assumption) ?_
    simp only [List.getElem_toArray, List.getElem_cons_succ, List.getElem_cons_zero, Act.put, List.setIfInBounds_toArray, List.set_cons_zero, List.set_cons_succ]
    refine wpAnyH_take (i := 8) (v := ?_) rfl (by kernel_rfl) (by kernel_rfl) (by kernel_rfl) (fun _ _ _ h => h) (Or.inl ⟨by rfl, ?_⟩) (by assumption) ?_
    rotate_left
    · intro w' hSw
      try dsimp only at hSw
      go_simp; try rfl
    simp only [List.getElem_toArray, List.getElem_cons_succ, List.getElem_cons_zero, Act.put, List.setIfInBounds_toArray, List.set_cons_zero, List.set_cons_succ]
    refine wpAnyH_take (i := 9) (v := ?_) rfl (by kernel_rfl) (by kernel_rfl) (by kernel_rfl) (fun _ _ _ h => h) (Or.inl ⟨by rfl, ?_⟩) (by assumption) ?_
    rotate_left
    · intro w' hSw
      try dsimp only at hSw
      go_simp; try rfl
    simp only [List.getElem_toArray, List.getElem_cons_succ, List.getElem_cons_zero, Act.put, List.setIfInBounds_toArray, List.set_cons_zero, List.set_cons_succ]
    refine wpAnyH_done (by kernel_rfl) ?_ _
    go_wp2
    go_ret
    exact ⟨by rw [HC.out]; rfl, HB.out.trans (HW.out.mono HB.out.size)⟩
  | true =>
    simp only [ci] at vC
    have HC := hide ci
    clear ci
    have HCL : Hid (∀ w', Below W.heap.size W w' → w'.cell? ⟨w.heap.size, 0, none⟩ = some (.string d.n) ∧ w'.cell? ⟨w.heap.size, 1, none⟩ = some (.string d.t) ∧ w'.cell? ⟨w.heap.size + 1, 0, none⟩ = some (.bool y.r) ∧ w'.cell? ⟨w.heap.size + 1, 1, none⟩ = some (.int .i64 y.n)) := hide (fun w' hb => ⟨(box_of ((hb.block _ (Array.getElem?_eq_some_iff.1 E0.out).1).trans E0.out)).1 0 _ rfl, (box_of ((hb.block _ (Array.getElem?_eq_some_iff.1 E0.out).1).trans E0.out)).1 1 _ rfl, (box_of ((hb.block _ (Array.getElem?_eq_some_iff.1 E1.out).1).trans E1.out)).1 0 _ rfl, (box_of ((hb.block _ (Array.getElem?_eq_some_iff.1 E1.out).1).trans E1.out)).1 1 _ rfl⟩)
    have HW := hide (Below.refl W.heap.size W).drew
    refine wp_region_held_drew (S := fun w' => w'.cell? ⟨w.heap.size, 0, none⟩ = some (.string d.n) ∧ w'.cell? ⟨w.heap.size, 1, none⟩ = some (.string d.t) ∧ w'.cell? ⟨w.heap.size + 1, 0, none⟩ = some (.bool y.r) ∧ w'.cell? ⟨w.heap.size + 1, 1, none⟩ = some (.int .i64 y.n)) (by kernel_rfl) (HCL.out _ HW.out) (fun hHeld => ?_)
    generalize W.drew = Z0 at *
    refine wpAnyH_take (i := 0) (v := ?_) rfl (by kernel_rfl) (by kernel_rfl) (by kernel_rfl) (fun _ _ _ h => h) (Or.inl ⟨by rfl, ?_⟩) (by assumption) ?_
    rotate_left
    · intro w' hSw
      try dsimp only at hSw
      go_simp; try rfl
    simp only [List.getElem_toArray, List.getElem_cons_zero, Act.put, List.setIfInBounds_toArray, List.set_cons_zero, List.set_cons_succ]
    refine wpAnyH_ready (rs := [1]) (by kernel_rfl) (by simp) (AllReadyH.cons rfl (fun K hK => ?_) AllReadyH.nil)
    refine step_callW (some 6) (by kernel_rfl) (by kernel_rfl) 114 _ _ rfl #[.agg #[.bool y.r, .int .i64 y.n]] (by kernel_rfl) (vC _) ?_
    rintro e Z1 ⟨rfl, b9⟩
    replace HW := hide (HW.out.trans (b9.mono HW.out.size))
    clear b9
    refine ⟨_, rfl, ?_⟩
    refine hK.out _ _ (HCL.out _ HW.out) (fun hHeld => ?_)
    clear hK K
    simp only [Act.put, List.setIfInBounds_toArray, List.set_cons_zero, List.set_cons_succ]
    refine wpAnyH_take (i := 2) (v := ?_) rfl (by kernel_rfl) (by kernel_rfl) (by kernel_rfl) (fun _ _ _ h => h) (Or.inl ⟨by rfl, ?_⟩) (by assumption) ?_
    rotate_left
    · intro w' hSw
      try dsimp only at hSw
      go_simp; try rfl
    simp only [List.getElem_toArray, List.getElem_cons_succ, List.getElem_cons_zero, Act.put, List.setIfInBounds_toArray, List.set_cons_zero, List.set_cons_succ]
    refine wpAnyH_take (i := 3) (v := ?_) rfl (by kernel_rfl) (by kernel_rfl) (by kernel_rfl) (fun _ _ _ h => h) (Or.inl ⟨by rfl, ?_⟩) (by assumption) ?_
    rotate_left
    · intro w' hSw
      try dsimp only at hSw
      go_simp; try rfl
    simp only [List.getElem_toArray, List.getElem_cons_succ, List.getElem_cons_zero, Act.put, List.setIfInBounds_toArray, List.set_cons_zero, List.set_cons_succ]
    refine wpAnyH_take (i := 4) (v := ?_) rfl (by kernel_rfl) (by kernel_rfl) (by kernel_rfl) (fun _ _ _ h => h) (Or.inl ⟨by rfl, ?_⟩) (by assumption) ?_
    rotate_left
    · intro w' hSw
      try dsimp only at hSw
      go_simp; try rfl
    simp only [List.getElem_toArray, List.getElem_cons_succ, List.getElem_cons_zero, Act.put, List.setIfInBounds_toArray, List.set_cons_zero, List.set_cons_succ]
    refine wpAnyH_take (i := 5) (v := ?_) rfl (by kernel_rfl) (by kernel_rfl) (by kernel_rfl) (fun _ _ _ h => h) (Or.inl ⟨by rfl, ?_⟩) (by assumption) ?_
    rotate_left
    · intro w' hSw
      try dsimp only at hSw
      go_simp; try rfl
    simp only [List.getElem_toArray, List.getElem_cons_succ, List.getElem_cons_zero, Act.put, List.setIfInBounds_toArray, List.set_cons_zero, List.set_cons_succ]
    refine wpAnyH_ready (rs := [6]) (by kernel_rfl) (by simp) (AllReadyH.cons rfl (fun K hK => ?_) AllReadyH.nil)
    refine step_callW (some 11) (by kernel_rfl) (by kernel_rfl) 54 _ _ rfl #[.agg #[.string d.n, .string d.t]] (by kernel_rfl) (rC _) ?_
    rintro e Z2 ⟨rfl, b9⟩
    replace HW := hide (HW.out.trans (b9.mono HW.out.size))
    clear b9
    refine ⟨_, rfl, ?_⟩
    refine hK.out _ _ (HCL.out _ HW.out) (fun hHeld => ?_)
    clear hK K
    simp only [Act.put, List.setIfInBounds_toArray, List.set_cons_zero, List.set_cons_succ]
    refine wpAnyH_take (i := 7) (v := ?_) rfl (by kernel_rfl) (by kernel_rfl) (by kernel_rfl) (fun _ _ _ h => h) (Or.inl ⟨by rfl, ?_⟩) (by assumption) ?_
    rotate_left
    · intro w' hSw
      try dsimp only at hSw
      go_simp; try rfl
    simp only [List.getElem_toArray, List.getElem_cons_succ, List.getElem_cons_zero, Act.put, List.setIfInBounds_toArray, List.set_cons_zero, List.set_cons_succ]
    refine wpAnyH_take (i := 8) (v := ?_) rfl (by kernel_rfl) (by kernel_rfl) (by kernel_rfl) (fun _ _ _ h => h) (Or.inl ⟨by rfl, ?_⟩) (by assumption) ?_
    rotate_left
    · intro w' hSw
      try dsimp only at hSw
      go_simp; try rfl
    simp only [List.getElem_toArray, List.getElem_cons_succ, List.getElem_cons_zero, Act.put, List.setIfInBounds_toArray, List.set_cons_zero, List.set_cons_succ]
    refine wpAnyH_take (i := 9) (v := ?_) rfl (by kernel_rfl) (by kernel_rfl) (by kernel_rfl) (fun _ _ _ h => h) (Or.inl ⟨by rfl, ?_⟩) (by assumption) ?_
    rotate_left
    · intro w' hSw
      try dsimp only at hSw
      go_simp; try rfl
    simp only [List.getElem_toArray, List.getElem_cons_succ, List.getElem_cons_zero, Act.put, List.setIfInBounds_toArray, List.set_cons_zero, List.set_cons_succ]
    refine wpAnyH_done (by kernel_rfl) ?_ _
    go_wp2
    go_ret
    exact ⟨by rw [HC.out]; rfl, HB.out.trans (HW.out.mono HB.out.size)⟩
set_option maxRecDepth 100000 in
set_option maxHeartbeats 8000000 in
theorem equalFuncI (w : World) (fs : List Fd) (vs : List Vl) (u1 u2 : Value) (h1 : Reads w w.heap.size (flds fs) u1) (h2 : Reads w w.heap.size (vls vs) u2) (hm : fs.length ≤ 1048576) :
    Calls Try.prog 99 #[u1, u2, .func (.func 100) #[] #[]] w fun e w' => e = .returned (.bool (fitsT fs vs)) ∧ Below w.heap.size w w' := by
  have HR := hide h1
  have HQ := hide h2
  obtain ⟨a1, c1, e1, _⟩ := h1.shape
  obtain ⟨a2, c2, e2, _⟩ := h2.shape
  subst e1 e2
  clear h1 h2
  obtain ⟨V, hV⟩ : ∃ V, fitsT fs vs = V := ⟨_, rfl⟩
  have HV0 : Hid (¬ fs.length = vs.length → V = false) := hide (fun h => by rw [← hV]; unfold fitsT; rw [decide_eq_false h]; rfl)
  have HV1 : Hid (∀ j, j < fs.length → fitT (fs.getD j default) (vs.getD j default) = false → V = false) := hide (fun j hj h => by
    rw [← hV]; unfold fitsT
    have : (List.range fs.length).all (fun i => fitT (fs.getD i default) (vs.getD i default)) = false := by
      cases c : (List.range fs.length).all (fun i => fitT (fs.getD i default) (vs.getD i default)) with
      | false => rfl
      | true => rw [List.all_eq_true] at c; have := c j (List.mem_range.2 hj); rw [h] at this; cases this
    rw [this, Bool.and_false])
  have HV2 : Hid (fs.length = vs.length → (∀ j, j < fs.length → fitT (fs.getD j default) (vs.getD j default) = true) → V = true) := hide (fun he h => by
    rw [← hV]; unfold fitsT
    rw [decide_eq_true he, Bool.true_and, List.all_eq_true]
    exact fun i hi => h i (List.mem_range.1 hi))
  rw [hV]
  clear hV
  by_cases hne : fs.length = vs.length
  · have HNE := hide hne
    rw [← hne] at HQ
    rw [← hne]
    clear hne
    go_enter Try.func99, Try.ntmps99
    go_wp2
    go_loopw [17] (fun i wr => ∃ j : Nat, j ≤ fs.length ∧ i = .int .i64 (j : Int) ∧ Hid (∀ t, t < j → fitT (fs.getD t default) (vs.getD t default) = true) ∧ Hid (Below w.heap.size w wr)) (fun i _ => fs.length - (intOf i).toNat)
    case atStart => exact ⟨0, Nat.zero_le _, rfl, hide (fun t ht => by omega), hide (Below.refl _ _)⟩
    case round =>
      obtain ⟨j, hj, rfl, HA, HBr⟩ := hrel
      by_cases hlt : j < fs.length
      · obtain ⟨_, _, ea, _, _, hc⟩ := field_at (HR.out.at HBr.out)
        cases ea
        obtain ⟨b, o, rfl, hbb, hcell⟩ := hc (by omega)
        obtain ⟨d0, d1⟩ := hcell j hlt
        obtain ⟨_, _, ea, _, _, hc2⟩ := val_at (HQ.out.at HBr.out)
        obtain ⟨e71, _, e72⟩ : _ ∧ _ ∧ _ := by simpa using ea
        clear ea
        rename_i e73
        clear e73
        subst e71 e72
        obtain ⟨b2, o2, rfl, hbb2, hcell2⟩ := hc2 (by have := HNE.out; omega)
        obtain ⟨f0, f1⟩ := hcell2 j (by have := HNE.out; omega)
        clear hcell hc hcell2 hc2
        have hlt2 : (j : Int) < (fs.length : Int) := by omega
        have HNo := hide (HV1.out j hlt)
        have HA2 : Hid (fitT (fs.getD j default) (vs.getD j default) = true → ∀ t, t < j + 1 → fitT (fs.getD t default) (vs.getD t default) = true) := hide (fun h t ht => by
          rcases Nat.lt_succ_iff_lt_or_eq.1 ht with h1 | rfl
          · exact HA.out t h1
          · exact h)
        obtain ⟨d, hd⟩ : ∃ d, fs.getD j default = d := ⟨_, rfl⟩
        obtain ⟨y, hy⟩ : ∃ y, vs.getD j default = y := ⟨_, rfl⟩
        rw [hd] at d0 d1
        rw [hy] at f0 f1
        rw [hd, hy] at HNo HA2
        clear hd hy
        have g0 : ∀ W', Below wr.heap.size wr W' → W'.cell? ⟨b2, o2 + j * 2, none⟩ = some (.bool y.r) ∧ W'.cell? ⟨b2, o2 + j * 2 + 1, none⟩ = some (.int .i64 y.n) := fun W' hb => ⟨(hb.cell (p := ⟨b2, o2 + j * 2, none⟩) hbb2).trans f0, (hb.cell (p := ⟨b2, o2 + j * 2 + 1, none⟩) hbb2).trans f1⟩
        have bA1 := (Below.refl wr.heap.size wr).alloc (Nat.le_refl _) (.cells #[.string d.n, .string d.t] 95)
        have HG0 := hide (g0 _ bA1)
        have bA2 := bA1.alloc bA1.size (.cells #[.bool y.r, .int .i64 y.n] 59)
        have EF0 := hide (heap_alloc_new wr (.cells #[.string d.n, .string d.t] 95))
        have EF1 := hide (heap_alloc_new (wr.alloc (.cells #[.string d.n, .string d.t] 95)) (.cells #[.bool y.r, .int .i64 y.n] 59))
        have HBw := hide bA2
        have hw0 := HBr.out.size
        clear bA1 bA2 g0 f0 f1
        go_upto_region 6 with fail
        clear d0 d1
        obtain ⟨f0, f1⟩ := HG0.out
        simp only [World.size_alloc] at EF1
        replace EF0 := hide ((Below.heap_alloc _ (.cells #[.bool y.r, .int .i64 y.n] 59) _ (by simp)).trans EF0.out)
        obtain ⟨gf, hgf⟩ : ∃ g, wr.heap.size = g := ⟨_, rfl⟩
        rw [hgf] at EF0 EF1
        have HGF := hide hgf
        rw [hgf]
        clear hgf
        have hsz1 : (wr.alloc (.cells #[.string d.n, .string d.t] 95)).heap.size = gf + 1 := by rw [World.size_alloc, HGF.out]
        go_upto_region 7 with fail
        try rw [hsz1]
        clear f0 f1 HG0 hsz1
        generalize (wr.alloc (.cells #[.string d.n, .string d.t] 95)).alloc (.cells #[.bool y.r, .int .i64 y.n] 59) = W2 at *
        have k0 := (box_of EF0.out).1 0 _ rfl
        have k1 := (box_of EF0.out).1 1 _ rfl
        have l0 := (box_of EF1.out).1 0 _ rfl
        have l1 := (box_of EF1.out).1 1 _ rfl
        go_wp2_with fail
        refine (fieldTakesI _ d y).mono ?_
        rintro e W3 ⟨rfl, b9⟩
        replace HBw := hide (HBw.out.trans (b9.mono HBw.out.size))
        clear b9 k0 k1 l0 l1 EF0 EF1
        cases ci : fitT d y with
        | false =>
          have HF := hide (HNo.out ci)
          clear HNo HA2 HV0 HV1 HV2 HA
          go_wp2
          go_ret
          exact ⟨by rw [HF.out]; rfl, HBr.out.trans (HBw.out.mono hw0)⟩
        | true =>
          have HA3 := hide (HA2.out ci)
          clear HA2 HNo HA ci
          go_wp2
          exact ⟨⟨j + 1, by omega, by go_num, HA3, hide (HBr.out.trans (HBw.out.mono hw0))⟩, by simp [intOf]; omega⟩
      · have he : j = fs.length := by omega
        have HF : Hid (V = true) := hide (HV2.out HNE.out (fun t ht => HA.out t (by omega)))
        go_wp2
        go_ret
        exact ⟨by rw [HF.out]; rfl, HBr.out⟩
  · have hneI : ¬ (fs.length : Int) = (vs.length : Int) := by omega
    have HF := hide (HV0.out hne)
    go_enter Try.func99, Try.ntmps99
    go_wp2
    go_ret
    exact ⟨by rw [HF.out]; rfl, Below.refl _ _⟩
set_option maxRecDepth 100000 in
set_option maxHeartbeats 4000000 in
theorem fieldsTakeI (w : World) (K : Kd) (f1 f2 f3 : Option Addr) (g1 g2 g3 : Nat) (vs : List Vl) (a2 : Option Addr) (c2 : Nat) (h1 : Reads w w.heap.size (flds K.f) (.slice f2 K.f.length g2)) (h2 : Reads w w.heap.size (vls vs) (.slice a2 vs.length c2)) (hm : K.f.length ≤ 1048576) :
    Calls Try.prog 75 #[.agg #[.string K.n, .int .i64 K.s, .slice f1 K.p.length g1, .slice f2 K.f.length g2, .slice f3 K.m.length g3], .slice a2 vs.length c2] w fun e w' => e = .returned (.bool (fitsT K.f vs)) ∧ Below w.heap.size w w' := by
  have bA := (Below.refl w.heap.size w).alloc (Nat.le_refl _) (.cells #[.string K.n, .int .i64 K.s, .slice f1 K.p.length g1, .slice f2 K.f.length g2, .slice f3 K.m.length g3] 93)
  have HR := hide (h1.at bA)
  have HQ := hide (h2.at bA)
  have HB := hide bA
  clear h1 h2 bA
  obtain ⟨fs, hfs⟩ : ∃ fs, K.f = fs := ⟨_, rfl⟩
  rw [hfs] at HR HQ HB hm ⊢
  clear hfs
  go_enter Try.func75, Try.ntmps75
  go_wp2_with fail
  refine (equalFuncI _ fs vs _ _ HR.out HQ.out hm).mono ?_
  rintro e w1 ⟨rfl, b1⟩
  replace HB := hide (HB.out.trans (b1.mono HB.out.size))
  clear b1 HR HQ
  go_wp2
  go_ret
  exact ⟨rfl, HB.out⟩
end Go.Proofs.Ythlaihkpffddcaa
/-
  Objects told by a range over a function that stops early: the teller.
-/
namespace Go.Proofs.Ythlaihkpffddcaa
open Go.RowKit Go.Shelf

attribute [local go_sem] Oper.semAt_some

/-- The objects lie below n, their fields' rows are uf. -/
def ObsAt (n : Nat) (w : World) (u : Value) (xs : List Ob) (uf : Nat → Option Addr × Nat) : Prop :=
  ∃ a cap, u = .slice a xs.length cap ∧ (0 < xs.length → ∃ b o, a = some ⟨b, o, none⟩ ∧ b < n ∧ ∀ j, j < xs.length → w.cell? ⟨b, o + j * 3, none⟩ = some (.int .i64 (xs.getD j default).i) ∧ w.cell? ⟨b, o + j * 3 + 1, none⟩ = some (.int .i64 (xs.getD j default).c) ∧ w.cell? ⟨b, o + j * 3 + 2, none⟩ = some (.slice (uf j).1 (xs.getD j default).f.length (uf j).2))
theorem ObsAt.below {n : Nat} {w w' : World} {u : Value} {xs : List Ob} {uf : Nat → Option Addr × Nat} (h : ObsAt n w u xs uf) (hb : Below n w w') : ObsAt n w' u xs uf := by
  obtain ⟨a, cap, h1, h2⟩ := h
  refine ⟨a, cap, h1, fun hp => ?_⟩
  obtain ⟨b, o, h3, h4, h5⟩ := h2 hp
  refine ⟨b, o, h3, h4, fun j hj => ?_⟩
  obtain ⟨p0, p1, p2⟩ := h5 j hj
  exact ⟨(hb.cell (p := ⟨b, o + j * 3, none⟩) h4).trans p0, (hb.cell (p := ⟨b, o + j * 3 + 1, none⟩) h4).trans p1, (hb.cell (p := ⟨b, o + j * 3 + 2, none⟩) h4).trans p2⟩
theorem ObsAt.of {n : Nat} {w : World} {u : Value} {xs : List Ob} (h : Reads w n (obs xs) u) : ∃ uf, ObsAt n w u xs uf ∧ ∀ j, j < xs.length → Reads w n (vls (xs.getD j default).f) (.slice (uf j).1 (xs.getD j default).f.length (uf j).2) := by
  obtain ⟨a, cap, e, _, _, hc⟩ := object_at h
  by_cases hp : 0 < xs.length
  · obtain ⟨b, o, ea, hb, hcell⟩ := hc hp
    have hx : ∀ j, ∃ p : Option Addr × Nat, j < xs.length → w.cell? ⟨b, o + j * 3 + 2, none⟩ = some (.slice p.1 (xs.getD j default).f.length p.2) ∧ Reads w n (vls (xs.getD j default).f) (.slice p.1 (xs.getD j default).f.length p.2) := fun j => by
      by_cases hj : j < xs.length
      · obtain ⟨pv, _, _, d2, r⟩ := hcell j hj
        obtain ⟨fa, fc, fe, _⟩ := r.shape
        subst fe
        exact ⟨(fa, fc), fun _ => ⟨d2, r⟩⟩
      · exact ⟨(none, 0), fun h => absurd h hj⟩
    refine ⟨fun j => Classical.choose (hx j), ⟨a, cap, e, fun _ => ⟨b, o, ea, hb, fun j hj => ?_⟩⟩, fun j hj => (Classical.choose_spec (hx j) hj).2⟩
    obtain ⟨pv, d0, d1, _, _⟩ := hcell j hj
    exact ⟨d0, d1, (Classical.choose_spec (hx j) hj).1⟩
  · exact ⟨fun _ => (none, 0), ⟨a, cap, e, fun h => absurd h hp⟩, fun j hj => absurd (Nat.lt_of_le_of_lt (Nat.zero_le j) hj) hp⟩
def obE (xs : List Ob) (uf : Nat → Option Addr × Nat) (x : { j : Nat // j < xs.length }) : Array Value := #[.agg #[.int .i64 (xs.getD x.1 default).i, .int .i64 (xs.getD x.1 default).c, .slice (uf x.1).1 (xs.getD x.1 default).f.length (uf x.1).2]]
def Told (xs : List Ob) (k : Nat) (pre : List { j : Nat // j < xs.length }) : Prop := pre.map Subtype.val = List.range k
theorem Told.snoc {xs : List Ob} {pre : List { j : Nat // j < xs.length }} (h : Told xs pre.length pre) (hlt : pre.length < xs.length) : Told xs (pre ++ [(⟨pre.length, hlt⟩ : { j : Nat // j < xs.length })]).length (pre ++ [⟨pre.length, hlt⟩]) := by
  unfold Told at *
  rw [List.map_append, h]
  simp [List.range_succ]

set_option maxRecDepth 100000 in
set_option maxHeartbeats 4000000 in
theorem objects1_in (F : Fence) (n : Nat) (hf : F.fn 98) (hro : F.round = none) (hn : 1 ≤ n) (l Bs n₀ : Nat) (u1 : Value) (xs : List Ob) (uf : Nat → Option Addr × Nat) (hlen : xs.length ≤ 1048576) (J Jx : List { j : Nat // j < xs.length } → World → Prop) (W : World) (hJ : AbidesFrom W.heap.size J) (hn₀ : n₀ ≤ W.heap.size)
    (hY : ∀ pre x W1, J pre W1 → pre.length < xs.length → YieldAt F (n - 1) Try.prog l (obE xs uf x) W1 fun e W' =>
      (e = .returned (.bool true) ∧ J (pre ++ [x]) W' ∧ Below n₀ W1 W') ∨ (e = .returned (.bool false) ∧ Jx (pre ++ [x]) W'))
    (hBs : W.cell? ⟨Bs, 0, none⟩ = some u1) (hO : ObsAt n₀ W u1 xs uf) (h0 : J [] W) :
    CallsIn F n Try.prog 98 #[.func (.yield l) #[] #[], .pointer (some ⟨Bs, 0, none⟩)] W fun e W' => (∃ v, e = .returned v) ∧
      ((∃ ys, Told xs xs.length ys ∧ J ys W') ∨ (∃ pre, (∃ k, k ≤ xs.length ∧ Told xs k pre) ∧ Jx pre W')) := by
  obtain ⟨a, cap, rfl, hc⟩ := hO
  refine callsIn_of_wp Try.func98 rfl hf ?_ hro
  simp only [Try.ntmps98, List.size_toArray, List.length_cons, List.length_nil, Nat.reduceAdd, Nat.reduceSub, Array.replicate_succ, Array.replicate_zero, List.push_toArray, List.append_toArray, List.nil_append, List.cons_append]
  gi_wp2
  gi_loopw [8] (fun i wr => ∃ pre : List { j : Nat // j < xs.length }, pre.length ≤ xs.length ∧ Hid (Told xs pre.length pre) ∧ i = .int .i64 (pre.length : Int) ∧ Hid (J pre wr) ∧ Hid (Below n₀ W wr))
    (fun i _ => xs.length - (intOf i).toNat)
  case atStart => exact ⟨[], Nat.zero_le _, hide rfl, rfl, hide h0, hide (Below.refl _ _)⟩
  case round =>
    obtain ⟨pre, hk, HT, rfl, HJ', HBr⟩ := hrel
    by_cases hlt : pre.length < xs.length
    · obtain ⟨b, o, rfl, hbb, hcell⟩ := hc (by omega)
      obtain ⟨d0, d1, d2⟩ := hcell pre.length hlt
      replace d0 := (HBr.out.cell (p := ⟨b, o + pre.length * 3, none⟩) hbb).trans d0
      replace d1 := (HBr.out.cell (p := ⟨b, o + pre.length * 3 + 1, none⟩) hbb).trans d1
      replace d2 := (HBr.out.cell (p := ⟨b, o + pre.length * 3 + 2, none⟩) hbb).trans d2
      have HS := hide (HT.out.snoc hlt)
      have hJ2 := hJ pre wr (wr.alloc (.cells #[.int .i64 (xs.getD pre.length default).i, .int .i64 (xs.getD pre.length default).c, .slice (uf pre.length).1 (xs.getD pre.length default).f.length (uf pre.length).2] 51)) none HJ'.out (World.grownBy_alloc _ _ none) (fun r e => by cases e)
      obtain ⟨fn, tmps, assign, body, hy, hR⟩ := hY pre ⟨pre.length, hlt⟩ _ hJ2 hlt
      unfold obE at hy
      dsimp only at hy
      have hsz := HBr.out.size
      have HB2 := hide (HBr.out.alloc (Nat.le_trans hn₀ hsz) (.cells #[.int .i64 (xs.getD pre.length default).i, .int .i64 (xs.getD pre.length default).c, .slice (uf pre.length).1 (xs.getD pre.length default).f.length (uf pre.length).2] 51))
      clear hcell hJ2
      generalize xs.getD pre.length default = y at *
      generalize (uf pre.length).1 = ua at *
      generalize (uf pre.length).2 = uc at *
      gi_wp2
      refine hR.mono ?_
      rintro e W3 (⟨rfl, hJ3, hk3⟩ | ⟨rfl, hJx3⟩)
      · gi_wp2
        go_roundw
        case rel => exact ⟨pre ++ [⟨pre.length, hlt⟩], by simp; omega, HS, by simp, hide hJ3, hide (HB2.out.trans hk3)⟩
        case measure => simp [intOf]; omega
      · gi_wp2
        refine bodyPost_ret (results_none rfl _ _ _) rfl ?_
        exact ⟨⟨_, rfl⟩, .inr ⟨_, ⟨_, by rw [List.length_append]; simp; omega, HS.out⟩, hJx3⟩⟩
    · have he : pre.length = xs.length := by omega
      gi_wp2
      go_end0
      exact ⟨⟨_, rfl⟩, .inl ⟨pre, by rw [← he]; exact HT.out, HJ'.out⟩⟩
theorem objects_stops (F : Fence) (n : Nat) (hf : F.fn 98) (hro : F.round = none) (hn : 1 ≤ n) (Bs n₀ : Nat) (u1 : Value) (xs : List Ob) (uf : Nat → Option Addr × Nat) (hlen : xs.length ≤ 1048576) (w : World) (hBs : Bs < w.heap.size) (hn₀ : n₀ ≤ w.heap.size)
    (hc : w.cell? ⟨Bs, 0, none⟩ = some u1) (hO : ObsAt n₀ w u1 xs uf) :
    SeqStopsK F n Try.prog 98 #[.pointer (some ⟨Bs, 0, none⟩)] (obE xs uf) (Below n₀) (Told xs xs.length) (fun pre => ∃ k, k ≤ xs.length ∧ Told xs k pre) xs.length w := fun l J Jx W hW hJ _ hY h0 =>
  objects1_in F n hf hro hn l Bs n₀ u1 xs uf hlen J Jx W hJ (Nat.le_trans hn₀ hW.size) hY ((hW.cell (p := ⟨Bs, 0, none⟩) hBs).trans hc) (hO.below (hW.mono hn₀)) h0
set_option maxHeartbeats 1000000 in
theorem objects_in (F : Fence) (n : Nat) (hf : F.fn 73) (hro : F.round = none) (u1 u2 : Value) (w : World) :
    CallsIn F n Try.prog 73 #[.agg #[u1, u2]] w fun e w' => e = .returned (.func (.func 98) #[] #[.pointer (some ⟨w.heap.size, 0, none⟩)]) ∧ w' = w.alloc (.cells #[u1, u2] 39) := by
  refine callsIn_of_wp Try.func73 rfl hf ?_ hro
  simp only [Try.ntmps73, List.size_toArray, List.length_cons, List.length_nil, Nat.reduceAdd, Nat.reduceSub, Array.replicate_succ, Array.replicate_zero, List.push_toArray, List.append_toArray, List.nil_append, List.cons_append]
  gi_wp2
  go_ret
  exact ⟨rfl, rfl⟩
/-- A block of cells stays where none but blocks that are no cells are turned. -/
theorem blk_own {β : Type} (B : Nat) (t : TypeId) (f : β → Array Value) : Go.Own (fun s W => W.heap[B]? = some (.cells (f s) t (0, 0))) := fun s X Y row hs hg hrow =>
  (hg.block B (Array.getElem?_eq_some_iff.1 hs).1 (fun e => by obtain ⟨o, ho, hc⟩ := hrow B e.symm; rw [hs] at ho; cases ho; cases hc)).trans hs
end Go.Proofs.Ythlaihkpffddcaa
