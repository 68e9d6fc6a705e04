/-
  Joined: PutNumW, RoundW, PutWordW.
-/
import Derived.Test.YtkfnpijljpbiaaaDoorRows
import Derived.Test.YtkfnpijljpbiaaaDoorJ1
import Derived.Test.YtkfnpijljpbiaaaDoorJ5
import Derived.Maps.AppendAt
import Derived.WalkKit
import Derived.ProofKit
/-
  What PutNum does, in the program and in its model: both answer the bytes of the number (none, where it is none) in new memory, and touch nothing that was there.
-/
namespace Go.Proofs.YtkfnpijljpbiaaaDoor
open Go.RowKit

set_option maxRecDepth 100000 in
set_option maxHeartbeats 400000 in
theorem putNumImpl (n : Int) (w : World) :
    Calls Tryd.prog 42 #[.int .i64 n] w fun e w' => ∃ v, e = .returned v ∧ Own w' w.heap.size v (pn n) ∧ Below w.heap.size w w' := by
  by_cases hn : n < 0 ∨ 16777215 < n
  · rw [pn_out n hn]
    rcases hn with h | h
    · go_enter Tryd.func42, Tryd.ntmps42
      go_wp2
      go_ret
      exact ⟨_, rfl, World.ownsRow_nil _ _ _ _, Below.refl _ _⟩
    · have h' : ¬ n < 0 := by omega
      go_enter Tryd.func42, Tryd.ntmps42
      go_wp2
      go_ret
      exact ⟨_, rfl, World.ownsRow_nil _ _ _ _, Below.refl _ _⟩
  · have h0 : 0 ≤ n := by omega
    have h1 : n ≤ 16777215 := by omega
    clear hn
    rw [pn_in n h0 h1]
    obtain ⟨i0, hi, hz0, hz1, hz2⟩ := info_parts Tryd.info5
    go_enter Tryd.func42, Tryd.ntmps42
    go_wp2
    go_loopw [0, 3] (fun s v wr => ∃ (m : Int) (k : Nat) (xs : List Int), 0 ≤ m ∧ m ≤ 16777215 ∧ m ≤ pnB k ∧ s = .int .i64 m ∧ xs.length + k = 3 ∧ Hid (xs ++ pnF k m = pnF 3 n) ∧ Own wr w.heap.size v xs ∧ Below w.heap.size w wr)
      (fun s _ _ => (intOf s).toNat)
    case atStart => exact ⟨n, 3, [], h0, h1, by simp [pnB]; omega, rfl, rfl, rfl, World.ownsRow_nil _ _ _ _, Below.refl _ _⟩
    case round =>
      obtain ⟨m, k, xs, hm0, hm1, hmk, rfl, hxk, HX, hown, hb⟩ := hrel
      have hsize := hb.size
      by_cases hlt : 127 < m
      · go_wp2_with (first
          | (at_builtin; refine wpList_append_own _ rfl _ _ 22 rfl w.heap.size 5 i0 (.int .u8 0) 1 1 Tryd.underlying22 hi hz0 hz1 hz2 rfl (by decide) _ _ _ rfl (World.ownsRow.alloc hown _) ⟨wr.heap.size, 0, none⟩ 1 1 [.int .u8 (m % 128 + 128)] rfl rfl (cell_one_new _ _ _) (fun x hx => by simp at hx; subst hx; rfl) (by unfold maxLen; omega) (by omega) (by simp; omega) ?_; intro v' w3 hown' hgrow3 hnil3))
        obtain ⟨j, rfl⟩ : ∃ j, k = j + 1 := by
          cases k with
          | zero => simp [pnB] at hmk; omega
          | succ j => exact ⟨j, rfl⟩
        refine ⟨⟨m / 128, j, xs ++ [m % 128 + 128], by omega, by omega, by simp only [pnB] at hmk; omega, rfl, by simp; omega, ?_, own_more hown', below_app hb hsize hown hgrow3⟩, by simp [intOf]; omega⟩
        have := HX.out
        rw [pnF_hi j m hlt] at this
        show _ = _
        rw [← this]; simp
      · go_wp2_with (first
          | (at_builtin; refine wpList_append_own _ rfl _ _ 22 rfl w.heap.size 5 i0 (.int .u8 0) 1 1 Tryd.underlying22 hi hz0 hz1 hz2 rfl (by decide) _ _ _ rfl (World.ownsRow.alloc hown _) ⟨wr.heap.size, 0, none⟩ 1 1 [.int .u8 m] rfl rfl (cell_one_new _ _ _) (fun x hx => by simp at hx; subst hx; rfl) (by unfold maxLen; omega) (by omega) (by simp; omega) ?_; intro v' w3 hown' hgrow3 hnil3))
        go_ret
        refine ⟨v', rfl, ?_, below_app hb hsize hown hgrow3⟩
        have := HX.out
        rw [pnF_lo k m (by omega)] at this
        rw [← this]
        exact own_more hown'
set_option maxRecDepth 100000 in
set_option maxHeartbeats 400000 in
theorem putNumSpec (n : Int) (w : World) :
    Calls Tryd.prog 22 #[.int .i64 n] w fun e w' => ∃ v, e = .returned v ∧ Own w' w.heap.size v (pn n) ∧ Below w.heap.size w w' := by
  by_cases hn : n < 0 ∨ 16777215 < n
  · rw [pn_out n hn]
    go_enter Tryd.func22, Tryd.ntmps22
    go_wp2_with (go_at_call 35; refine (inNo _ _ _ _ hn).mono ?_; rintro e w' ⟨rfl, rfl⟩)
    go_ret
    exact ⟨_, rfl, own_empty _ _ (Nat.le_refl _), (Below.refl _ _).alloc (Nat.le_refl _) _⟩
  · have h0 : 0 ≤ n := by omega
    have h1 : n ≤ 16777215 := by omega
    clear hn
    rw [pn_in n h0 h1]
    obtain ⟨i0, hi, hz0, hz1, hz2⟩ := info_parts Tryd.info5
    go_enter Tryd.func22, Tryd.ntmps22
    go_wp2_with (go_at_call 35; refine (inYes _ _ _ _ (by omega) (by omega)).mono ?_; rintro e w' ⟨rfl, rfl⟩)
    go_loopw [0, 3] (fun s v wr => ∃ (m : Int) (k : Nat) (xs : List Int), 0 ≤ m ∧ m ≤ 16777215 ∧ m ≤ pnB k ∧ s = .int .i64 m ∧ xs.length + k = 3 ∧ Hid (xs ++ pnF k m = pnF 3 n) ∧ Own wr w.heap.size v xs ∧ Below w.heap.size w wr)
      (fun s _ _ => (intOf s).toNat)
    case atStart => exact ⟨n, 3, [], h0, h1, by simp [pnB]; omega, rfl, rfl, rfl, own_empty _ _ (Nat.le_refl _), (Below.refl _ _).alloc (Nat.le_refl _) _⟩
    case round =>
      obtain ⟨m, k, xs, hm0, hm1, hmk, rfl, hxk, HX, hown, hb⟩ := hrel
      have hsize := hb.size
      by_cases hlt : 127 < m
      · go_wp2_with (first
          | (at_builtin; refine wpList_append_own _ rfl _ _ 22 rfl w.heap.size 5 i0 (.int .u8 0) 1 1 Tryd.underlying22 hi hz0 hz1 hz2 rfl (by decide) _ _ _ rfl (World.ownsRow.alloc hown _) ⟨wr.heap.size, 0, none⟩ 1 1 [.int .u8 (m % 128 + 128)] rfl rfl (cell_one_new _ _ _) (fun x hx => by simp at hx; subst hx; rfl) (by unfold maxLen; omega) (by omega) (by simp; omega) ?_; intro v' w3 hown' hgrow3 hnil3))
        obtain ⟨j, rfl⟩ : ∃ j, k = j + 1 := by
          cases k with
          | zero => simp [pnB] at hmk; omega
          | succ j => exact ⟨j, rfl⟩
        refine ⟨⟨m / 128, j, xs ++ [m % 128 + 128], by omega, by omega, by simp only [pnB] at hmk; omega, rfl, by simp; omega, ?_, own_more hown', below_app hb hsize hown hgrow3⟩, by simp [intOf]; omega⟩
        have := HX.out
        rw [pnF_hi j m hlt] at this
        show _ = _
        rw [← this]; simp
      · go_wp2_with (first
          | (at_builtin; refine wpList_append_own _ rfl _ _ 22 rfl w.heap.size 5 i0 (.int .u8 0) 1 1 Tryd.underlying22 hi hz0 hz1 hz2 rfl (by decide) _ _ _ rfl (World.ownsRow.alloc hown _) ⟨wr.heap.size, 0, none⟩ 1 1 [.int .u8 m] rfl rfl (cell_one_new _ _ _) (fun x hx => by simp at hx; subst hx; rfl) (by unfold maxLen; omega) (by omega) (by simp; omega) ?_; intro v' w3 hown' hgrow3 hnil3))
        go_ret
        refine ⟨v', rfl, ?_, below_app hb hsize hown hgrow3⟩
        have := HX.out
        rw [pnF_lo k m (by omega)] at this
        rw [← this]
        exact own_more hown'
end Go.Proofs.YtkfnpijljpbiaaaDoor
/-
  What Round does, in the program and in its model: both answer the word that a number goes round to, and touch nothing.
-/
namespace Go.Proofs.YtkfnpijljpbiaaaDoor
open Go.RowKit

theorem roundImpl (n : Int) (w : World) :
    Calls Tryd.prog 40 #[.int .i64 n] w fun e w' => e = .returned (.int .i64 (rnd n)) ∧ w' = w := by
  go_enter Tryd.func40, Tryd.ntmps40
  go_wp2
  go_ret
  exact ⟨ret_int (rnd_wrap n), rfl⟩

end Go.Proofs.YtkfnpijljpbiaaaDoor
/-
  What PutWord does, in the program and in its model: both answer the four bytes of the word (none, where it is none) in new memory, and touch nothing that was there.
-/
namespace Go.Proofs.YtkfnpijljpbiaaaDoor
open Go.RowKit

def pw (n : Int) : List Int := if -2147483648 ≤ n ∧ n ≤ 2147483647 then [n % 256, n / 256 % 256, n / 65536 % 256, n / 16777216 % 256] else []
theorem pw_in (n : Int) (h0 : -2147483648 ≤ n) (h1 : n ≤ 2147483647) : pw n = [n % 256, n / 256 % 256, n / 65536 % 256, n / 16777216 % 256] := by simp [pw, h0, h1]
theorem pw_out (n : Int) (h : n < -2147483648 ∨ 2147483647 < n) : pw n = [] := by
  unfold pw; rw [if_neg (by omega)]
theorem pw_len (n : Int) : (pw n).length ≤ 4 := by
  unfold pw
  split <;> simp
theorem rnd_in (n : Int) (h0 : -2147483648 ≤ n) (h1 : n ≤ 2147483647) : (rnd n != n) = false := by
  have : rnd n = n := by unfold rnd; omega
  simp [this]
theorem rnd_out (n : Int) (h : n < -2147483648 ∨ 2147483647 < n) : (rnd n != n) = true := by
  have := rnd_bd n
  rw [bne_iff_ne]; omega

theorem pw_byt (n : Int) : Byt (pw n) := by
  unfold pw
  split
  · intro z hz
    simp at hz
    omega
  · intro z hz; cases hz
theorem wordYes (x : Int) (w : World) (h1 : -2147483648 ≤ x) (h2 : x ≤ 2147483647) :
    Calls Tryd.prog 79 #[.int .i64 x] w fun e w' => e = .returned (.bool true) ∧ w' = w := by
  go_enter Tryd.func79, Tryd.ntmps79
  go_wp2_with (go_at_call 35; refine (inYes _ _ _ _ (by omega) (by omega)).mono ?_; rintro e w' ⟨rfl, rfl⟩)
  go_ret
  exact ⟨rfl, rfl⟩
theorem wordNo (x : Int) (w : World) (h : x < -2147483648 ∨ 2147483647 < x) :
    Calls Tryd.prog 79 #[.int .i64 x] w fun e w' => e = .returned (.bool false) ∧ w' = w := by
  go_enter Tryd.func79, Tryd.ntmps79
  go_wp2_with (go_at_call 35; refine (inNo _ _ _ _ h).mono ?_; rintro e w' ⟨rfl, rfl⟩)
  go_ret
  exact ⟨rfl, rfl⟩

set_option maxRecDepth 100000 in
set_option maxHeartbeats 400000 in
theorem putWordImpl (n : Int) (w : World) :
    Calls Tryd.prog 39 #[.int .i64 n] w fun e w' => ∃ v, e = .returned v ∧ Own w' w.heap.size v (pw n) ∧ Below w.heap.size w w' := by
  by_cases hn : n < -2147483648 ∨ 2147483647 < n
  · rw [pw_out n hn]
    have hr := rnd_out n hn
    go_enter Tryd.func39, Tryd.ntmps39
    go_wp2_with (go_at_call 40; refine (roundImpl _ _).mono ?_; rintro e w' ⟨rfl, rfl⟩)
    go_ret
    exact ⟨_, rfl, World.ownsRow_nil _ _ _ _, Below.refl _ _⟩
  · have h0 : -2147483648 ≤ n := by omega
    have h1 : n ≤ 2147483647 := by omega
    have hr := rnd_in n h0 h1
    rw [pw_in n h0 h1]
    clear hn
    go_enter Tryd.func39, Tryd.ntmps39
    go_wp2_with (go_at_call 40; refine (roundImpl _ _).mono ?_; rintro e w' ⟨rfl, rfl⟩)
    go_ret
    refine ⟨_, rfl, ?_, (Below.refl _ _).alloc (Nat.le_refl _) _⟩
    exact own_four _ _ (Nat.le_refl _) _ _ _ _

set_option maxRecDepth 100000 in
set_option maxHeartbeats 400000 in
theorem putWordSpec (n : Int) (w : World) :
    Calls Tryd.prog 59 #[.int .i64 n] w fun e w' => ∃ v, e = .returned v ∧ Own w' w.heap.size v (pw n) ∧ Below w.heap.size w w' := by
  by_cases hn : n < -2147483648 ∨ 2147483647 < n
  · rw [pw_out n hn]
    go_enter Tryd.func59, Tryd.ntmps59
    go_wp2_with (go_at_call 79; refine (wordNo _ _ hn).mono ?_; rintro e w' ⟨rfl, rfl⟩)
    go_ret
    exact ⟨_, rfl, own_empty _ _ (Nat.le_refl _), (Below.refl _ _).alloc (Nat.le_refl _) _⟩
  · have h0 : -2147483648 ≤ n := by omega
    have h1 : n ≤ 2147483647 := by omega
    rw [pw_in n h0 h1]
    clear hn
    go_enter Tryd.func59, Tryd.ntmps59
    go_wp2_with (go_at_call 79; refine (wordYes _ _ h0 h1).mono ?_; rintro e w' ⟨rfl, rfl⟩)
    go_ret
    refine ⟨_, rfl, ?_, (Below.refl _ _).alloc (Nat.le_refl _) _⟩
    exact own_four _ _ (Nat.le_refl _) _ _ _ _

end Go.Proofs.YtkfnpijljpbiaaaDoor
