/-
  What PutNum does, in the program and in its model: both answer the bytes of the number (none, where it is none) in new memory, and touch nothing that was there.
-/
import Derived.Test.YthagfdcfpffaoaaRows
import Derived.Test.YthagfdcfpffaoaaBytes
import Derived.Test.YthagfdcfpffaoaaInB
import Derived.Maps.AppendAt
namespace Go.Proofs.Ythagfdcfpffaoaa
open Go.RowKit

set_option maxRecDepth 100000 in
set_option maxHeartbeats 400000 in
theorem putNumImpl (n : Int) (w : World) :
    Calls Try.prog 69 #[.int .i64 n] w fun e w' => ∃ v, e = .returned v ∧ Own w' w.heap.size v (pn n) ∧ Below w.heap.size w w' := by
  by_cases hn : n < 0 ∨ 16777215 < n
  · rw [pn_out n hn]
    rcases hn with h | h
    · go_enter Try.func69, Try.ntmps69
      go_wp2
      go_ret
      exact ⟨_, rfl, World.ownsRow_nil _ _ _ _, Below.refl _ _⟩
    · have h' : ¬ n < 0 := by omega
      go_enter Try.func69, Try.ntmps69
      go_wp2
      go_ret
      exact ⟨_, rfl, World.ownsRow_nil _ _ _ _, Below.refl _ _⟩
  · have h0 : 0 ≤ n := by omega
    have h1 : n ≤ 16777215 := by omega
    clear hn
    rw [pn_in n h0 h1]
    obtain ⟨i0, hi, hz0, hz1, hz2⟩ := info_parts Try.info5
    go_enter Try.func69, Try.ntmps69
    go_wp2
    go_loopw [0, 3] (fun s v wr => ∃ (m : Int) (k : Nat) (xs : List Int), 0 ≤ m ∧ m ≤ 16777215 ∧ m ≤ pnB k ∧ s = .int .i64 m ∧ xs.length + k = 3 ∧ Hid (xs ++ pnF k m = pnF 3 n) ∧ Own wr w.heap.size v xs ∧ Below w.heap.size w wr)
      (fun s _ _ => (intOf s).toNat)
    case atStart => exact ⟨n, 3, [], h0, h1, by simp [pnB]; omega, rfl, rfl, rfl, World.ownsRow_nil _ _ _ _, Below.refl _ _⟩
    case round =>
      obtain ⟨m, k, xs, hm0, hm1, hmk, rfl, hxk, HX, hown, hb⟩ := hrel
      have hsize := hb.size
      by_cases hlt : 127 < m
      · go_wp2_with (first
          | (at_builtin; refine wpList_append_own _ rfl _ _ 37 rfl w.heap.size 5 i0 (.int .u8 0) 1 1 Try.underlying37 hi hz0 hz1 hz2 rfl (by decide) _ _ _ rfl (World.ownsRow.alloc hown _) ⟨wr.heap.size, 0, none⟩ 1 1 [.int .u8 (m % 128 + 128)] rfl rfl (cell_one_new _ _ _) (fun x hx => by simp at hx; subst hx; rfl) (by unfold maxLen; omega) (by omega) (by simp; omega) ?_; intro v' w3 hown' hgrow3 hnil3))
        obtain ⟨j, rfl⟩ : ∃ j, k = j + 1 := by
          cases k with
          | zero => simp [pnB] at hmk; omega
          | succ j => exact ⟨j, rfl⟩
        refine ⟨⟨m / 128, j, xs ++ [m % 128 + 128], by omega, by omega, by simp only [pnB] at hmk; omega, rfl, by simp; omega, ?_, own_more hown', below_app hb hsize hown hgrow3⟩, by simp [intOf]; omega⟩
        have := HX.out
        rw [pnF_hi j m hlt] at this
        show _ = _
        rw [← this]; simp
      · go_wp2_with (first
          | (at_builtin; refine wpList_append_own _ rfl _ _ 37 rfl w.heap.size 5 i0 (.int .u8 0) 1 1 Try.underlying37 hi hz0 hz1 hz2 rfl (by decide) _ _ _ rfl (World.ownsRow.alloc hown _) ⟨wr.heap.size, 0, none⟩ 1 1 [.int .u8 m] rfl rfl (cell_one_new _ _ _) (fun x hx => by simp at hx; subst hx; rfl) (by unfold maxLen; omega) (by omega) (by simp; omega) ?_; intro v' w3 hown' hgrow3 hnil3))
        go_ret
        refine ⟨v', rfl, ?_, below_app hb hsize hown hgrow3⟩
        have := HX.out
        rw [pnF_lo k m (by omega)] at this
        rw [← this]
        exact own_more hown'
set_option maxRecDepth 100000 in
set_option maxHeartbeats 400000 in
theorem putNumSpec (n : Int) (w : World) :
    Calls Try.prog 34 #[.int .i64 n] w fun e w' => ∃ v, e = .returned v ∧ Own w' w.heap.size v (pn n) ∧ Below w.heap.size w w' := by
  by_cases hn : n < 0 ∨ 16777215 < n
  · rw [pn_out n hn]
    go_enter Try.func34, Try.ntmps34
    go_wp2_with (go_at_call 50; refine (inNo _ _ _ _ hn).mono ?_; rintro e w' ⟨rfl, rfl⟩)
    go_ret
    exact ⟨_, rfl, own_empty _ _ (Nat.le_refl _), (Below.refl _ _).alloc (Nat.le_refl _) _⟩
  · have h0 : 0 ≤ n := by omega
    have h1 : n ≤ 16777215 := by omega
    clear hn
    rw [pn_in n h0 h1]
    obtain ⟨i0, hi, hz0, hz1, hz2⟩ := info_parts Try.info5
    go_enter Try.func34, Try.ntmps34
    go_wp2_with (go_at_call 50; refine (inYes _ _ _ _ (by omega) (by omega)).mono ?_; rintro e w' ⟨rfl, rfl⟩)
    go_loopw [0, 3] (fun s v wr => ∃ (m : Int) (k : Nat) (xs : List Int), 0 ≤ m ∧ m ≤ 16777215 ∧ m ≤ pnB k ∧ s = .int .i64 m ∧ xs.length + k = 3 ∧ Hid (xs ++ pnF k m = pnF 3 n) ∧ Own wr w.heap.size v xs ∧ Below w.heap.size w wr)
      (fun s _ _ => (intOf s).toNat)
    case atStart => exact ⟨n, 3, [], h0, h1, by simp [pnB]; omega, rfl, rfl, rfl, own_empty _ _ (Nat.le_refl _), (Below.refl _ _).alloc (Nat.le_refl _) _⟩
    case round =>
      obtain ⟨m, k, xs, hm0, hm1, hmk, rfl, hxk, HX, hown, hb⟩ := hrel
      have hsize := hb.size
      by_cases hlt : 127 < m
      · go_wp2_with (first
          | (at_builtin; refine wpList_append_own _ rfl _ _ 37 rfl w.heap.size 5 i0 (.int .u8 0) 1 1 Try.underlying37 hi hz0 hz1 hz2 rfl (by decide) _ _ _ rfl (World.ownsRow.alloc hown _) ⟨wr.heap.size, 0, none⟩ 1 1 [.int .u8 (m % 128 + 128)] rfl rfl (cell_one_new _ _ _) (fun x hx => by simp at hx; subst hx; rfl) (by unfold maxLen; omega) (by omega) (by simp; omega) ?_; intro v' w3 hown' hgrow3 hnil3))
        obtain ⟨j, rfl⟩ : ∃ j, k = j + 1 := by
          cases k with
          | zero => simp [pnB] at hmk; omega
          | succ j => exact ⟨j, rfl⟩
        refine ⟨⟨m / 128, j, xs ++ [m % 128 + 128], by omega, by omega, by simp only [pnB] at hmk; omega, rfl, by simp; omega, ?_, own_more hown', below_app hb hsize hown hgrow3⟩, by simp [intOf]; omega⟩
        have := HX.out
        rw [pnF_hi j m hlt] at this
        show _ = _
        rw [← this]; simp
      · go_wp2_with (first
          | (at_builtin; refine wpList_append_own _ rfl _ _ 37 rfl w.heap.size 5 i0 (.int .u8 0) 1 1 Try.underlying37 hi hz0 hz1 hz2 rfl (by decide) _ _ _ rfl (World.ownsRow.alloc hown _) ⟨wr.heap.size, 0, none⟩ 1 1 [.int .u8 m] rfl rfl (cell_one_new _ _ _) (fun x hx => by simp at hx; subst hx; rfl) (by unfold maxLen; omega) (by omega) (by simp; omega) ?_; intro v' w3 hown' hgrow3 hnil3))
        go_ret
        refine ⟨v', rfl, ?_, below_app hb hsize hown hgrow3⟩
        have := HX.out
        rw [pnF_lo k m (by omega)] at this
        rw [← this]
        exact own_more hown'
end Go.Proofs.Ythagfdcfpffaoaa
