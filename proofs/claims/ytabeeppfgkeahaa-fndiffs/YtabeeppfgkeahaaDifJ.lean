/-
  What is different, in the program.
-/
import Derived.Test.YtabeeppfgkeahaaDifM
import Derived.Test.YtabeeppfgkeahaaDeepL
import Derived.Test.YtabeeppfgkeahaaDeepTo
import Derived.Test.YtabeeppfgkeahaaBldW
import Derived.Test.YtabeeppfgkeahaaStepX
import Derived.Deep.RegionHeld
namespace Go.Proofs.Ytabeeppfgkeahaa
open Go.RowKit

set_option maxRecDepth 100000 in
set_option maxHeartbeats 8000000 in
theorem differsC (w : World) (xs : List Vl) (y : Vl) (j p : Nat) (a1 : Option Addr) (c1 : Nat) (hp : w.cell? ⟨p, 0, none⟩ = some (.slice a1 xs.length c1)) (hlt0 : p < w.heap.size) (h : Reads w w.heap.size (vls xs) (.slice a1 xs.length c1)) (hj : j < xs.length) (hm : xs.length ≤ 1048576) :
    Calls Try.prog 43 #[.int .i64 (j : Int), vlV y, .pointer (some ⟨p, 0, none⟩)] w fun e w' => e = .returned (.bool (!(eqB (xs.getD j default) y))) ∧ Below w.heap.size w w' := by
  obtain ⟨_, _, ea, _, _, hc⟩ := val_at h
  cases ea
  obtain ⟨b, o, rfl, hb, hcell⟩ := hc (by omega)
  obtain ⟨d0, d1⟩ := hcell j hj
  clear hcell hc h
  have hjI : (j : Int) < (xs.length : Int) := by omega
  obtain ⟨x, hx⟩ : ∃ x, xs.getD j default = x := ⟨_, rfl⟩
  rw [hx] at d0 d1 ⊢
  clear hx
  generalize xs.length = n at *
  have bA := (Below.refl w.heap.size w).alloc (Nat.le_refl _) (.cells #[.bool y.r, .int .i64 y.n] 48)
  have EF := hide (heap_alloc_new w (.cells #[.bool y.r, .int .i64 y.n] 48))
  have q0 := (bA.cell (p := ⟨p, 0, none⟩) hlt0).trans hp
  have q1 := (bA.cell (p := ⟨b, o + j * 2, none⟩) hb).trans d0
  have q2 := (bA.cell (p := ⟨b, o + j * 2 + 1, none⟩) hb).trans d1
  have hl0 := Nat.lt_of_lt_of_le hlt0 bA.size
  have hl1 := Nat.lt_of_lt_of_le hb bA.size
  have hl2 : w.heap.size < (w.alloc (.cells #[.bool y.r, .int .i64 y.n] 48)).heap.size := by simp
  have HB := hide bA
  clear bA d0 d1 hp
  unfold vlV
  go_enter Try.func43, Try.ntmps43
  go_upto_region 1 with fail
  generalize w.alloc (.cells #[.bool y.r, .int .i64 y.n] 48) = W at *
  have f0 := (box_of EF.out).1 0 _ rfl
  have f1 := (box_of EF.out).1 1 _ rfl
  cases er : (x.r == y.r) <;> cases en : (x.n == y.n)
  · have HS : Hid (∀ w', Below W.heap.size W w' → w'.cell? ⟨p, 0, none⟩ = some (.slice (some ⟨b, o, none⟩) n c1) ∧ w'.cell? ⟨b, o + j * 2, none⟩ = some (.bool x.r) ∧ w'.cell? ⟨b, o + j * 2 + 1, none⟩ = some (.int .i64 x.n) ∧ w'.cell? ⟨w.heap.size, 0, none⟩ = some (.bool y.r) ∧ w'.cell? ⟨w.heap.size, 1, none⟩ = some (.int .i64 y.n)) := hide (fun w' hb => ⟨(hb.cell (p := ⟨p, 0, none⟩) hl0).trans q0, (hb.cell (p := ⟨b, o + j * 2, none⟩) hl1).trans q1, (hb.cell (p := ⟨b, o + j * 2 + 1, none⟩) hl1).trans q2, (hb.cell (p := ⟨w.heap.size, 0, none⟩) hl2).trans f0, (hb.cell (p := ⟨w.heap.size, 1, none⟩) hl2).trans f1⟩)
    have HD : Hid (Below W.heap.size W W.drew) := hide (Below.refl W.heap.size W).drew
    refine wp_region_held_drew (S := fun w' => w'.cell? ⟨p, 0, none⟩ = some (.slice (some ⟨b, o, none⟩) n c1) ∧ w'.cell? ⟨b, o + j * 2, none⟩ = some (.bool x.r) ∧ w'.cell? ⟨b, o + j * 2 + 1, none⟩ = some (.int .i64 x.n) ∧ w'.cell? ⟨w.heap.size, 0, none⟩ = some (.bool y.r) ∧ w'.cell? ⟨w.heap.size, 1, none⟩ = some (.int .i64 y.n)) (by kernel_rfl) (HS.out _ HD.out) (fun hHeld => ?_)
    generalize W.drew = x0 at HD hHeld ⊢
    refine wpAnyH_take (i := 0) (v := ?_) rfl (by kernel_rfl) (by kernel_rfl) (by kernel_rfl) (fun _ _ _ h => h) (Or.inl ⟨by rfl, ?_⟩) (by assumption) ?_
    rotate_left
    · intro w' hSw
      try dsimp only at hSw
      go_simp; try rfl
    simp only [List.getElem_toArray, List.getElem_cons_zero, Act.put, List.setIfInBounds_toArray, List.set_cons_zero, List.set_cons_succ]
    refine wpAnyH_take (i := 1) (v := ?_) rfl (by kernel_rfl) (by kernel_rfl) (by kernel_rfl) (fun _ _ _ h => h) (Or.inl ⟨by rfl, ?_⟩) (by assumption) ?_
    rotate_left
    · intro w' hSw
      try dsimp only at hSw
      go_simp; try rfl
    simp only [List.getElem_toArray, List.getElem_cons_succ, List.getElem_cons_zero, Act.put, List.setIfInBounds_toArray, List.set_cons_zero, List.set_cons_succ]
    refine wpAnyH_take (i := 2) (v := ?_) rfl (by kernel_rfl) (by kernel_rfl) (by kernel_rfl) (fun _ _ _ h => h) (Or.inl ⟨by rfl, ?_⟩) (by assumption) ?_
    rotate_left
    · intro w' hSw
      try dsimp only at hSw
      go_simp; try rfl
    simp only [List.getElem_toArray, List.getElem_cons_succ, List.getElem_cons_zero, Act.put, List.setIfInBounds_toArray, List.set_cons_zero, List.set_cons_succ]
    refine wpAnyH_take (i := 3) (v := ?_) rfl (by kernel_rfl) (by kernel_rfl) (by kernel_rfl) (fun _ _ _ h => h) (Or.inl ⟨by rfl, ?_⟩) (by assumption) ?_
    rotate_left
    · intro w' hSw
      try dsimp only at hSw
      go_simp; try rfl
    simp only [List.getElem_toArray, List.getElem_cons_succ, List.getElem_cons_zero, Act.put, List.setIfInBounds_toArray, List.set_cons_zero, List.set_cons_succ]
    refine wpAnyH_take (i := 4) (v := ?_) rfl (by kernel_rfl) (by kernel_rfl) (by kernel_rfl) (fun _ _ _ h => h) (Or.inl ⟨by rfl, ?_⟩) (by assumption) ?_
    rotate_left
    · intro w' hSw
      try dsimp only at hSw
      go_simp; try rfl
    simp only [List.getElem_toArray, List.getElem_cons_succ, List.getElem_cons_zero, Act.put, List.setIfInBounds_toArray, List.set_cons_zero, List.set_cons_succ]
    refine wpAnyH_take (i := 5) (v := ?_) rfl (by kernel_rfl) (by kernel_rfl) (by kernel_rfl) (fun _ _ _ h => h) (Or.inl ⟨by rfl, ?_⟩) (by assumption) ?_
    rotate_left
    · intro w' hSw
      try dsimp only at hSw
      go_simp; try rfl
    simp only [List.getElem_toArray, List.getElem_cons_succ, List.getElem_cons_zero, Act.put, List.setIfInBounds_toArray, List.set_cons_zero, List.set_cons_succ]
    refine wpAnyH_take (i := 6) (v := ?_) rfl (by kernel_rfl) (by kernel_rfl) (by kernel_rfl) (fun _ _ _ h => h) (Or.inl ⟨by rfl, ?_⟩) (by assumption) ?_
    rotate_left
    · intro w' hSw
      try dsimp only at hSw
      go_simp; try rfl
    simp only [List.getElem_toArray, List.getElem_cons_succ, List.getElem_cons_zero, Act.put, List.setIfInBounds_toArray, List.set_cons_zero, List.set_cons_succ]
    refine wpAnyH_done (by kernel_rfl) ?_ _
    have HF := hide (HB.out.trans (HD.out.mono HB.out.size))
    clear HS HD hHeld
    go_wp2
    go_ret
    exact ⟨by unfold eqB; rw [er, en]; rfl, HF.out⟩
  · have HS : Hid (∀ w', Below W.heap.size W w' → w'.cell? ⟨p, 0, none⟩ = some (.slice (some ⟨b, o, none⟩) n c1) ∧ w'.cell? ⟨b, o + j * 2, none⟩ = some (.bool x.r) ∧ w'.cell? ⟨b, o + j * 2 + 1, none⟩ = some (.int .i64 x.n) ∧ w'.cell? ⟨w.heap.size, 0, none⟩ = some (.bool y.r) ∧ w'.cell? ⟨w.heap.size, 1, none⟩ = some (.int .i64 y.n)) := hide (fun w' hb => ⟨(hb.cell (p := ⟨p, 0, none⟩) hl0).trans q0, (hb.cell (p := ⟨b, o + j * 2, none⟩) hl1).trans q1, (hb.cell (p := ⟨b, o + j * 2 + 1, none⟩) hl1).trans q2, (hb.cell (p := ⟨w.heap.size, 0, none⟩) hl2).trans f0, (hb.cell (p := ⟨w.heap.size, 1, none⟩) hl2).trans f1⟩)
    have HD : Hid (Below W.heap.size W W.drew) := hide (Below.refl W.heap.size W).drew
    refine wp_region_held_drew (S := fun w' => w'.cell? ⟨p, 0, none⟩ = some (.slice (some ⟨b, o, none⟩) n c1) ∧ w'.cell? ⟨b, o + j * 2, none⟩ = some (.bool x.r) ∧ w'.cell? ⟨b, o + j * 2 + 1, none⟩ = some (.int .i64 x.n) ∧ w'.cell? ⟨w.heap.size, 0, none⟩ = some (.bool y.r) ∧ w'.cell? ⟨w.heap.size, 1, none⟩ = some (.int .i64 y.n)) (by kernel_rfl) (HS.out _ HD.out) (fun hHeld => ?_)
    generalize W.drew = x0 at HD hHeld ⊢
    refine wpAnyH_take (i := 0) (v := ?_) rfl (by kernel_rfl) (by kernel_rfl) (by kernel_rfl) (fun _ _ _ h => h) (Or.inl ⟨by rfl, ?_⟩) (by assumption) ?_
    rotate_left
    · intro w' hSw
      try dsimp only at hSw
      go_simp; try rfl
    simp only [List.getElem_toArray, List.getElem_cons_zero, Act.put, List.setIfInBounds_toArray, List.set_cons_zero, List.set_cons_succ]
    refine wpAnyH_take (i := 1) (v := ?_) rfl (by kernel_rfl) (by kernel_rfl) (by kernel_rfl) (fun _ _ _ h => h) (Or.inl ⟨by rfl, ?_⟩) (by assumption) ?_
    rotate_left
    · intro w' hSw
      try dsimp only at hSw
      go_simp; try rfl
    simp only [List.getElem_toArray, List.getElem_cons_succ, List.getElem_cons_zero, Act.put, List.setIfInBounds_toArray, List.set_cons_zero, List.set_cons_succ]
    refine wpAnyH_take (i := 2) (v := ?_) rfl (by kernel_rfl) (by kernel_rfl) (by kernel_rfl) (fun _ _ _ h => h) (Or.inl ⟨by rfl, ?_⟩) (by assumption) ?_
    rotate_left
    · intro w' hSw
      try dsimp only at hSw
      go_simp; try rfl
    simp only [List.getElem_toArray, List.getElem_cons_succ, List.getElem_cons_zero, Act.put, List.setIfInBounds_toArray, List.set_cons_zero, List.set_cons_succ]
    refine wpAnyH_take (i := 3) (v := ?_) rfl (by kernel_rfl) (by kernel_rfl) (by kernel_rfl) (fun _ _ _ h => h) (Or.inl ⟨by rfl, ?_⟩) (by assumption) ?_
    rotate_left
    · intro w' hSw
      try dsimp only at hSw
      go_simp; try rfl
    simp only [List.getElem_toArray, List.getElem_cons_succ, List.getElem_cons_zero, Act.put, List.setIfInBounds_toArray, List.set_cons_zero, List.set_cons_succ]
    refine wpAnyH_take (i := 4) (v := ?_) rfl (by kernel_rfl) (by kernel_rfl) (by kernel_rfl) (fun _ _ _ h => h) (Or.inl ⟨by rfl, ?_⟩) (by assumption) ?_
    rotate_left
    · intro w' hSw
      try dsimp only at hSw
      go_simp; try rfl
    simp only [List.getElem_toArray, List.getElem_cons_succ, List.getElem_cons_zero, Act.put, List.setIfInBounds_toArray, List.set_cons_zero, List.set_cons_succ]
    refine wpAnyH_take (i := 5) (v := ?_) rfl (by kernel_rfl) (by kernel_rfl) (by kernel_rfl) (fun _ _ _ h => h) (Or.inl ⟨by rfl, ?_⟩) (by assumption) ?_
    rotate_left
    · intro w' hSw
      try dsimp only at hSw
      go_simp; try rfl
    simp only [List.getElem_toArray, List.getElem_cons_succ, List.getElem_cons_zero, Act.put, List.setIfInBounds_toArray, List.set_cons_zero, List.set_cons_succ]
    refine wpAnyH_take (i := 6) (v := ?_) rfl (by kernel_rfl) (by kernel_rfl) (by kernel_rfl) (fun _ _ _ h => h) (Or.inl ⟨by rfl, ?_⟩) (by assumption) ?_
    rotate_left
    · intro w' hSw
      try dsimp only at hSw
      go_simp; try rfl
    simp only [List.getElem_toArray, List.getElem_cons_succ, List.getElem_cons_zero, Act.put, List.setIfInBounds_toArray, List.set_cons_zero, List.set_cons_succ]
    refine wpAnyH_done (by kernel_rfl) ?_ _
    have HF := hide (HB.out.trans (HD.out.mono HB.out.size))
    clear HS HD hHeld
    go_wp2
    go_ret
    exact ⟨by unfold eqB; rw [er, en]; rfl, HF.out⟩
  · have HS : Hid (∀ w', Below W.heap.size W w' → w'.cell? ⟨p, 0, none⟩ = some (.slice (some ⟨b, o, none⟩) n c1) ∧ w'.cell? ⟨b, o + j * 2, none⟩ = some (.bool x.r) ∧ w'.cell? ⟨b, o + j * 2 + 1, none⟩ = some (.int .i64 x.n) ∧ w'.cell? ⟨w.heap.size, 0, none⟩ = some (.bool y.r) ∧ w'.cell? ⟨w.heap.size, 1, none⟩ = some (.int .i64 y.n)) := hide (fun w' hb => ⟨(hb.cell (p := ⟨p, 0, none⟩) hl0).trans q0, (hb.cell (p := ⟨b, o + j * 2, none⟩) hl1).trans q1, (hb.cell (p := ⟨b, o + j * 2 + 1, none⟩) hl1).trans q2, (hb.cell (p := ⟨w.heap.size, 0, none⟩) hl2).trans f0, (hb.cell (p := ⟨w.heap.size, 1, none⟩) hl2).trans f1⟩)
    have HD : Hid (Below W.heap.size W W.drew) := hide (Below.refl W.heap.size W).drew
    refine wp_region_held_drew (S := fun w' => w'.cell? ⟨p, 0, none⟩ = some (.slice (some ⟨b, o, none⟩) n c1) ∧ w'.cell? ⟨b, o + j * 2, none⟩ = some (.bool x.r) ∧ w'.cell? ⟨b, o + j * 2 + 1, none⟩ = some (.int .i64 x.n) ∧ w'.cell? ⟨w.heap.size, 0, none⟩ = some (.bool y.r) ∧ w'.cell? ⟨w.heap.size, 1, none⟩ = some (.int .i64 y.n)) (by kernel_rfl) (HS.out _ HD.out) (fun hHeld => ?_)
    generalize W.drew = x0 at HD hHeld ⊢
    refine wpAnyH_take (i := 0) (v := ?_) rfl (by kernel_rfl) (by kernel_rfl) (by kernel_rfl) (fun _ _ _ h => h) (Or.inl ⟨by rfl, ?_⟩) (by assumption) ?_
    rotate_left
    · intro w' hSw
      try dsimp only at hSw
      go_simp; try rfl
    simp only [List.getElem_toArray, List.getElem_cons_zero, Act.put, List.setIfInBounds_toArray, List.set_cons_zero, List.set_cons_succ]
    refine wpAnyH_take (i := 1) (v := ?_) rfl (by kernel_rfl) (by kernel_rfl) (by kernel_rfl) (fun _ _ _ h => h) (Or.inl ⟨by rfl, ?_⟩) (by assumption) ?_
    rotate_left
    · intro w' hSw
      try dsimp only at hSw
      go_simp; try rfl
    simp only [List.getElem_toArray, List.getElem_cons_succ, List.getElem_cons_zero, Act.put, List.setIfInBounds_toArray, List.set_cons_zero, List.set_cons_succ]
    refine wpAnyH_take (i := 2) (v := ?_) rfl (by kernel_rfl) (by kernel_rfl) (by kernel_rfl) (fun _ _ _ h => h) (Or.inl ⟨by rfl, ?_⟩) (by assumption) ?_
    rotate_left
    · intro w' hSw
      try dsimp only at hSw
      go_simp; try rfl
    simp only [List.getElem_toArray, List.getElem_cons_succ, List.getElem_cons_zero, Act.put, List.setIfInBounds_toArray, List.set_cons_zero, List.set_cons_succ]
    refine wpAnyH_take (i := 3) (v := ?_) rfl (by kernel_rfl) (by kernel_rfl) (by kernel_rfl) (fun _ _ _ h => h) (Or.inl ⟨by rfl, ?_⟩) (by assumption) ?_
    rotate_left
    · intro w' hSw
      try dsimp only at hSw
      go_simp; try rfl
    simp only [List.getElem_toArray, List.getElem_cons_succ, List.getElem_cons_zero, Act.put, List.setIfInBounds_toArray, List.set_cons_zero, List.set_cons_succ]
    refine wpAnyH_take (i := 4) (v := ?_) rfl (by kernel_rfl) (by kernel_rfl) (by kernel_rfl) (fun _ _ _ h => h) (Or.inl ⟨by rfl, ?_⟩) (by assumption) ?_
    rotate_left
    · intro w' hSw
      try dsimp only at hSw
      go_simp; try rfl
    simp only [List.getElem_toArray, List.getElem_cons_succ, List.getElem_cons_zero, Act.put, List.setIfInBounds_toArray, List.set_cons_zero, List.set_cons_succ]
    refine wpAnyH_take (i := 5) (v := ?_) rfl (by kernel_rfl) (by kernel_rfl) (by kernel_rfl) (fun _ _ _ h => h) (Or.inl ⟨by rfl, ?_⟩) (by assumption) ?_
    rotate_left
    · intro w' hSw
      try dsimp only at hSw
      go_simp; try rfl
    simp only [List.getElem_toArray, List.getElem_cons_succ, List.getElem_cons_zero, Act.put, List.setIfInBounds_toArray, List.set_cons_zero, List.set_cons_succ]
    refine wpAnyH_take (i := 6) (v := ?_) rfl (by kernel_rfl) (by kernel_rfl) (by kernel_rfl) (fun _ _ _ h => h) (Or.inl ⟨by rfl, ?_⟩) (by assumption) ?_
    rotate_left
    · intro w' hSw
      try dsimp only at hSw
      go_simp; try rfl
    simp only [List.getElem_toArray, List.getElem_cons_succ, List.getElem_cons_zero, Act.put, List.setIfInBounds_toArray, List.set_cons_zero, List.set_cons_succ]
    refine wpAnyH_done (by kernel_rfl) ?_ _
    have HF := hide (HB.out.trans (HD.out.mono HB.out.size))
    clear HS HD hHeld
    go_wp2
    go_ret
    exact ⟨by unfold eqB; rw [er, en]; rfl, HF.out⟩
  · have HS : Hid (∀ w', Below W.heap.size W w' → w'.cell? ⟨p, 0, none⟩ = some (.slice (some ⟨b, o, none⟩) n c1) ∧ w'.cell? ⟨b, o + j * 2, none⟩ = some (.bool x.r) ∧ w'.cell? ⟨b, o + j * 2 + 1, none⟩ = some (.int .i64 x.n) ∧ w'.cell? ⟨w.heap.size, 0, none⟩ = some (.bool y.r) ∧ w'.cell? ⟨w.heap.size, 1, none⟩ = some (.int .i64 y.n)) := hide (fun w' hb => ⟨(hb.cell (p := ⟨p, 0, none⟩) hl0).trans q0, (hb.cell (p := ⟨b, o + j * 2, none⟩) hl1).trans q1, (hb.cell (p := ⟨b, o + j * 2 + 1, none⟩) hl1).trans q2, (hb.cell (p := ⟨w.heap.size, 0, none⟩) hl2).trans f0, (hb.cell (p := ⟨w.heap.size, 1, none⟩) hl2).trans f1⟩)
    have HD : Hid (Below W.heap.size W W.drew) := hide (Below.refl W.heap.size W).drew
    refine wp_region_held_drew (S := fun w' => w'.cell? ⟨p, 0, none⟩ = some (.slice (some ⟨b, o, none⟩) n c1) ∧ w'.cell? ⟨b, o + j * 2, none⟩ = some (.bool x.r) ∧ w'.cell? ⟨b, o + j * 2 + 1, none⟩ = some (.int .i64 x.n) ∧ w'.cell? ⟨w.heap.size, 0, none⟩ = some (.bool y.r) ∧ w'.cell? ⟨w.heap.size, 1, none⟩ = some (.int .i64 y.n)) (by kernel_rfl) (HS.out _ HD.out) (fun hHeld => ?_)
    generalize W.drew = x0 at HD hHeld ⊢
    refine wpAnyH_take (i := 0) (v := ?_) rfl (by kernel_rfl) (by kernel_rfl) (by kernel_rfl) (fun _ _ _ h => h) (Or.inl ⟨by rfl, ?_⟩) (by assumption) ?_
    rotate_left
    · intro w' hSw
      try dsimp only at hSw
      go_simp; try rfl
    simp only [List.getElem_toArray, List.getElem_cons_zero, Act.put, List.setIfInBounds_toArray, List.set_cons_zero, List.set_cons_succ]
    refine wpAnyH_take (i := 1) (v := ?_) rfl (by kernel_rfl) (by kernel_rfl) (by kernel_rfl) (fun _ _ _ h => h) (Or.inl ⟨by rfl, ?_⟩) (by assumption) ?_
    rotate_left
    · intro w' hSw
      try dsimp only at hSw
      go_simp; try rfl
    simp only [List.getElem_toArray, List.getElem_cons_succ, List.getElem_cons_zero, Act.put, List.setIfInBounds_toArray, List.set_cons_zero, List.set_cons_succ]
    refine wpAnyH_take (i := 2) (v := ?_) rfl (by kernel_rfl) (by kernel_rfl) (by kernel_rfl) (fun _ _ _ h => h) (Or.inl ⟨by rfl, ?_⟩) (by assumption) ?_
    rotate_left
    · intro w' hSw
      try dsimp only at hSw
      go_simp; try rfl
    simp only [List.getElem_toArray, List.getElem_cons_succ, List.getElem_cons_zero, Act.put, List.setIfInBounds_toArray, List.set_cons_zero, List.set_cons_succ]
    refine wpAnyH_take (i := 3) (v := ?_) rfl (by kernel_rfl) (by kernel_rfl) (by kernel_rfl) (fun _ _ _ h => h) (Or.inl ⟨by rfl, ?_⟩) (by assumption) ?_
    rotate_left
    · intro w' hSw
      try dsimp only at hSw
      go_simp; try rfl
    simp only [List.getElem_toArray, List.getElem_cons_succ, List.getElem_cons_zero, Act.put, List.setIfInBounds_toArray, List.set_cons_zero, List.set_cons_succ]
    refine wpAnyH_take (i := 4) (v := ?_) rfl (by kernel_rfl) (by kernel_rfl) (by kernel_rfl) (fun _ _ _ h => h) (Or.inl ⟨by rfl, ?_⟩) (by assumption) ?_
    rotate_left
    · intro w' hSw
      try dsimp only at hSw
      go_simp; try rfl
    simp only [List.getElem_toArray, List.getElem_cons_succ, List.getElem_cons_zero, Act.put, List.setIfInBounds_toArray, List.set_cons_zero, List.set_cons_succ]
    refine wpAnyH_take (i := 5) (v := ?_) rfl (by kernel_rfl) (by kernel_rfl) (by kernel_rfl) (fun _ _ _ h => h) (Or.inl ⟨by rfl, ?_⟩) (by assumption) ?_
    rotate_left
    · intro w' hSw
      try dsimp only at hSw
      go_simp; try rfl
    simp only [List.getElem_toArray, List.getElem_cons_succ, List.getElem_cons_zero, Act.put, List.setIfInBounds_toArray, List.set_cons_zero, List.set_cons_succ]
    refine wpAnyH_take (i := 6) (v := ?_) rfl (by kernel_rfl) (by kernel_rfl) (by kernel_rfl) (fun _ _ _ h => h) (Or.inl ⟨by rfl, ?_⟩) (by assumption) ?_
    rotate_left
    · intro w' hSw
      try dsimp only at hSw
      go_simp; try rfl
    simp only [List.getElem_toArray, List.getElem_cons_succ, List.getElem_cons_zero, Act.put, List.setIfInBounds_toArray, List.set_cons_zero, List.set_cons_succ]
    refine wpAnyH_done (by kernel_rfl) ?_ _
    have HF := hide (HB.out.trans (HD.out.mono HB.out.size))
    clear HS HD hHeld
    go_wp2
    go_ret
    exact ⟨by unfold eqB; rw [er, en]; rfl, HF.out⟩
theorem cels_snocP (xs : List Cel) (y : Cel) : cels (xs ++ [y]) = .row 50 3 (xs.length + 1) (xs.flatMap celD ++ celD y) := by
  unfold cels
  rw [List.length_append, List.flatMap_append]
  simp
set_option maxRecDepth 100000 in
set_option maxHeartbeats 8000000 in
theorem cellsOfC (w : World) (a b : List Vl) (p : Nat) (a1 : Option Addr) (c1 : Nat) (v2 : Value) (hp : w.cell? ⟨p, 0, none⟩ = some (.slice a1 a.length c1)) (hlt0 : p < w.heap.size) (h1 : Reads w w.heap.size (vls a) (.slice a1 a.length c1)) (h2 : Reads w w.heap.size (vls b) v2) (hl : a.length = b.length) (hm : a.length ≤ 8) :
    Calls Try.prog 30 #[v2, .func (.func 43) #[] #[.pointer (some ⟨p, 0, none⟩)]] w fun e w' => rowP w w' (cels (difN a b a.length)) e := by
  have H1 := hide h1
  have H2 := hide h2
  have HP := hide hp
  obtain ⟨a2, c2, e2, _⟩ := h2.shape
  subst e2
  clear h1 h2 hp
  obtain ⟨i0, hi, hz0, hz1, hz2⟩ := info_parts Try.infoCel
  have HI := hide (And.intro hi (And.intro hz0 (And.intro hz1 hz2)))
  clear hi hz0 hz1 hz2
  rw [hl]
  have HLN := hide hl
  rw [hl] at hm
  clear hl
  go_enter Try.func30, Try.ntmps30
  go_wp2
  go_loopw [5, 10] (fun r i wr => ∃ (j : Nat) (ys : List Cel), j ≤ b.length ∧ Hid (ys = difN a b j) ∧ i = .int .i64 (j : Int) ∧ ∃ (va : Option Addr) (vc : Nat), r = .slice va ys.length vc ∧ Hid (OwnD wr w.heap.size wr.heap.size (cels ys) (.slice va ys.length vc)) ∧ Hid (Below w.heap.size w wr)) (fun _ i _ => b.length - (intOf i).toNat)
  case atStart => exact ⟨0, [], Nat.zero_le _, hide rfl, rfl, _, _, rfl, hide (ownD_nil _ _ _ _ _), hide (Below.refl _ _)⟩
  case round =>
    obtain ⟨j, ys, hj, HYS, rfl, va, vc, rfl, HO, HL⟩ := hrel
    have hgw := HL.out.size
    have hyl : ys.length ≤ 8 := by
      have h1 := difN_len a b j
      rw [← HYS.out] at h1
      omega
    by_cases hlt : j < b.length
    · have hltI : (j : Int) < (b.length : Int) := by omega
      have HS2 : Hid (difN a b (j + 1) = difN a b j ++ (if eqB (a.getD j default) (b.getD j default) = true then [] else [Cel.mk (j : Int) (b.getD j default).r (b.getD j default).n])) := hide rfl
      obtain ⟨_, _, eb, _, _, hcw⟩ := val_at (H2.out.at HL.out)
      cases eb
      obtain ⟨b2, o2, rfl, hb2, hcell2⟩ := hcw (by omega)
      obtain ⟨f0, f1⟩ := hcell2 j (by omega)
      clear hcell2 hcw
      obtain ⟨y, hy⟩ : ∃ y, b.getD j default = y := ⟨_, rfl⟩
      rw [hy] at f0 f1 HS2
      clear hy
      have bA := (Below.refl wr.heap.size wr).alloc (Nat.le_refl _) (.cells #[.bool y.r, .int .i64 y.n] 48)
      have E0 := hide (heap_alloc_new wr (.cells #[.bool y.r, .int .i64 y.n] 48))
      have HBA := hide bA
      have hsA : wr.heap.size < (wr.alloc (.cells #[.bool y.r, .int .i64 y.n] 48)).heap.size := by simp
      clear bA
      go_upto_region 5 with fail
      generalize wr.alloc (.cells #[.bool y.r, .int .i64 y.n] 48) = X at *
      have s0 := (box_of E0.out).1 0 _ rfl
      have s1 := (box_of E0.out).1 1 _ rfl
      have HLX := hide (HL.out.trans (HBA.out.mono hgw))
      go_wp2_with fail
      refine (differsC X a y j p a1 c1 ((HLX.out.cell (p := ⟨p, 0, none⟩) hlt0).trans HP.out) (Nat.lt_of_lt_of_le hlt0 HLX.out.size) (H1.out.at HLX.out) (by have := HLN.out; omega) (by have := HLN.out; omega)).mono ?_
      rintro e x0 ⟨rfl, b9⟩
      clear f0 f1 s0 s1
      replace E0 := hide ((b9.block _ hsA).trans E0.out)
      have HD := hide (HBA.out.trans (b9.mono HBA.out.size))
      clear b9 HBA hsA HLX
      have hbs := HD.out.size
      replace HO := hide (HO.out.below HD.out)
      replace HL := hide (HL.out.trans (HD.out.mono hgw))
      clear HD
      cases k : eqB (a.getD j default) y with
      | true =>
        have HY2 : Hid (difN a b (j + 1) = ys) := hide (by rw [HS2.out, HYS.out, k]; simp)
        clear k HS2 HYS E0
        go_wp2
        exact ⟨⟨j + 1, ys, by omega, hide HY2.out.symm, by go_num, va, vc, rfl, hide (HO.out.up hbs), HL⟩, by simp [intOf]; omega⟩
      | false =>
        have HY2 : Hid (difN a b (j + 1) = ys ++ [Cel.mk (j : Int) y.r y.n]) := hide (by rw [HS2.out, HYS.out, k]; rfl)
        clear k HS2 HYS
        have s0 := (box_of E0.out).1 0 _ rfl
        have s1 := (box_of E0.out).1 1 _ rfl
        have HXa := hide ((Below.refl x0.heap.size x0).alloc (Nat.le_refl _) (.cells #[.int .i64 (j : Int), .bool y.r, .int .i64 y.n] 50))
        have hsX := HXa.out.size
        have hgx : w.heap.size ≤ x0.heap.size := by omega
        have hown := hide (OwnDL.cons ((HO.out.up hbs).below HXa.out) (ownDL_nil _ x0.heap.size x0.heap.size) hgx (Nat.le_refl _))
        have hbx := hide (box_of (heap_alloc_new x0 (.cells #[.int .i64 (j : Int), .bool y.r, .int .i64 y.n] 50))).1
        have HLx := hide (HL.out.trans (HXa.out.mono hgx))
        go_wp2_with (first
          | (at_builtin; refine appL rfl _ _ 24 rfl w.heap.size x0.heap.size x0.heap.size 50 i0 (.agg #[.int .i64 0, .bool false, .int .i64 0]) 3 24 Try.underlying24 HI.out.1 HI.out.2.1 HI.out.2.2.1 HI.out.2.2.2 rfl (by decide) (.slice va ys.length vc) ys.length (ys.flatMap celD) [] [] [] [] rfl hown.out rfl _ _ [.int .i64 (j : Int), .bool y.r, .int .i64 y.n] (celD (Cel.mk (j : Int) y.r y.n)) rfl hbx.out (ownDL_vals _ _ _ [.int .i64 (j : Int), .bool y.r, .int .i64 y.n]) rfl (by simp [Value.oneCell']) (by omega) (by decide) (Nat.le_refl _) (by omega) (by omega) ?_; intro g9 vc9 w9 o9 gr9 hq9; have HO9 := hide (OwnDL.mid (c1 := []) (v1 := []) o9 rfl); have HB9 := hide (HLx.out.grown gr9 (by omega) (fun q hq => (hq9 q hq).1)); clear o9 gr9 hq9)
          | fail)
        refine ⟨⟨j + 1, ys ++ [Cel.mk (j : Int) y.r y.n], by omega, hide HY2.out.symm, by go_num, some ⟨g9, 0, none⟩, vc9, ?_, hide ?_, HB9⟩, ?_⟩
        · rw [List.length_append]; rfl
        · rw [cels_snocP, List.length_append]
          exact HO9.out
        · simp [intOf]; omega
    · obtain rfl : j = b.length := by omega
      have hnI : ¬ (b.length : Int) < (b.length : Int) := by omega
      have HF : Hid (difN a b b.length = ys) := hide HYS.out.symm
      go_wp2
      go_ret
      refine ⟨_, rfl, ?_, HL.out⟩
      rw [HF.out]
      exact HO.out
set_option maxRecDepth 100000 in
set_option maxHeartbeats 8000000 in
theorem differsI (w : World) (a1 : Option Addr) (n c1 : Nat) :
    Calls Try.prog 31 #[.slice a1 n c1] w fun e w' => e = .returned (.func (.func 43) #[] #[.pointer (some ⟨w.heap.size, 0, none⟩)]) ∧ w' = w.alloc (.cells #[.slice a1 n c1] 26) := by
  go_enter Try.func31, Try.ntmps31
  go_wp2
  go_ret
  exact ⟨rfl, rfl⟩
set_option maxRecDepth 100000 in
set_option maxHeartbeats 8000000 in
theorem diffI (w : World) (a b : List Vl) (v1 v2 : Value) (h1 : Reads w w.heap.size (vls a) v1) (h2 : Reads w w.heap.size (vls b) v2) (_ha : vlsG a) (_hb : vlsG b) :
    Calls Try.prog 10 #[v1, v2] w fun e w' => rowP w w' (cels (difX a b)) e := by
  have H1 := hide h1
  have H2 := hide h2
  obtain ⟨a1, c1, e1, _⟩ := h1.shape
  obtain ⟨a2, c2, e2, _⟩ := h2.shape
  subst e1 e2
  clear h1 h2
  have HN : Hid (¬ (a.length = b.length ∧ a.length ≤ 8) → difX a b = []) := hide (fun h => if_neg h)
  have HY : Hid (a.length = b.length ∧ a.length ≤ 8 → difX a b = difN a b a.length) := hide (fun h => if_pos h)
  generalize difX a b = V at *
  go_enter Try.func10, Try.ntmps10
  cases heq : ((a.length : Int) == (b.length : Int)) with
  | false =>
    have hne : ¬ a.length = b.length := fun h => by rw [h] at heq; simp at heq
    have HF := hide (HN.out (fun h => hne h.1))
    go_wp2
    go_ret
    rw [HF.out]
    exact ⟨_, rfl, ownD_nil _ _ _ _ _, Below.refl _ _⟩
  | true =>
    have hee : a.length = b.length := by rw [beq_iff_eq] at heq; omega
    have heI : (a.length : Int) = (b.length : Int) := by omega
    by_cases h8 : (b.length : Int) ≤ 8
    · have HF := hide (HY.out ⟨hee, by omega⟩)
      have HLE := hide hee
      clear hee
      go_wp2_with fail
      refine (differsI _ a1 a.length c1).mono ?_
      rintro e x0 ⟨rfl, rfl⟩
      have bA := (Below.refl w.heap.size w).alloc (Nat.le_refl _) (.cells #[.slice a1 a.length c1] 26)
      have q0 := (box_of (heap_alloc_new w (.cells #[.slice a1 a.length c1] 26))).1 0 _ rfl
      have hsA : w.heap.size < (w.alloc (.cells #[.slice a1 a.length c1] 26)).heap.size := by simp
      replace H1 := hide (H1.out.at bA)
      replace H2 := hide (H2.out.at bA)
      have HB := hide bA
      clear bA
      generalize w.alloc (.cells #[.slice a1 a.length c1] 26) = X at *
      go_wp2_with fail
      refine (cellsOfC X a b w.heap.size a1 c1 _ q0 hsA H1.out H2.out HLE.out (by have := HLE.out; omega)).mono ?_
      rintro e x1 ⟨u, rfl, o9, b9⟩
      have HO := hide o9
      replace HB := hide (HB.out.trans (b9.mono HB.out.size))
      have hsz := HB.out.size
      obtain ⟨pa, pc, pe⟩ := o9.shape
      subst pe
      clear o9 b9 q0
      go_wp2
      go_ret
      rw [HF.out]
      exact ⟨_, rfl, HO.out.mono (by omega), HB.out⟩
    · have HF := hide (HN.out (fun h => h8 (by omega)))
      go_wp2
      go_ret
      rw [HF.out]
      exact ⟨_, rfl, ownD_nil _ _ _ _ _, Below.refl _ _⟩
end Go.Proofs.Ytabeeppfgkeahaa
