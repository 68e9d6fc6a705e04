/-
  Joined: PutWordW, ValW.
-/
import Derived.Test.YtofnpgheppgcaaaJ23
import Derived.Deep.QuietTactic
import Derived.BigQuiet
/-
  What PutWord does, in the program and in its model: both answer the four bytes of the word (none, where it is none) in new memory, and touch nothing that was there.
-/
namespace Go.Proofs.Ytofnpgheppgcaaa
open Go.RowKit

def pw (n : Int) : List Int := if -2147483648 ≤ n ∧ n ≤ 2147483647 then [n % 256, n / 256 % 256, n / 65536 % 256, n / 16777216 % 256] else []
theorem pw_in (n : Int) (h0 : -2147483648 ≤ n) (h1 : n ≤ 2147483647) : pw n = [n % 256, n / 256 % 256, n / 65536 % 256, n / 16777216 % 256] := by simp [pw, h0, h1]
theorem pw_out (n : Int) (h : n < -2147483648 ∨ 2147483647 < n) : pw n = [] := by
  unfold pw; rw [if_neg (by omega)]
theorem pw_len (n : Int) : (pw n).length ≤ 4 := by
  unfold pw
  split <;> simp
theorem rnd_in (n : Int) (h0 : -2147483648 ≤ n) (h1 : n ≤ 2147483647) : (rnd n != n) = false := by
  have : rnd n = n := by unfold rnd; omega
  simp [this]
theorem rnd_out (n : Int) (h : n < -2147483648 ∨ 2147483647 < n) : (rnd n != n) = true := by
  have := rnd_bd n
  rw [bne_iff_ne]; omega

theorem pw_byt (n : Int) : Byt (pw n) := by
  unfold pw
  split
  · intro z hz
    simp at hz
    omega
  · intro z hz; cases hz
theorem wordYes (x : Int) (w : World) (h1 : -2147483648 ≤ x) (h2 : x ≤ 2147483647) :
    Calls Try.prog 88 #[.int .i64 x] w fun e w' => e = .returned (.bool true) ∧ w' = w := by
  go_enter Try.func88, Try.ntmps88
  go_wp2_with (go_at_call 39; refine (inYes _ _ _ _ (by omega) (by omega)).mono ?_; rintro e w' ⟨rfl, rfl⟩)
  go_ret
  exact ⟨rfl, rfl⟩
theorem wordNo (x : Int) (w : World) (h : x < -2147483648 ∨ 2147483647 < x) :
    Calls Try.prog 88 #[.int .i64 x] w fun e w' => e = .returned (.bool false) ∧ w' = w := by
  go_enter Try.func88, Try.ntmps88
  go_wp2_with (go_at_call 39; refine (inNo _ _ _ _ h).mono ?_; rintro e w' ⟨rfl, rfl⟩)
  go_ret
  exact ⟨rfl, rfl⟩

end Go.Proofs.Ytofnpgheppgcaaa
/-
  What a value of a field is, and what ValOk does with it, in the program and in its model.
-/
namespace Go.Proofs.Ytofnpgheppgcaaa
open Go.RowKit

/-- What ValOk says of a value. -/
def vOk (r : Bool) (n : Int) : Bool := bif r then inB n 0 1000000 else inB n (-2147483648) 2147483647

theorem wordSpec (n : Int) (w : World) :
    Calls Try.prog 88 #[.int .i64 n] w fun e w' => e = .returned (.bool (inB n (-2147483648) 2147483647)) ∧ w' = w := by
  cases h : inB n (-2147483648) 2147483647 with
  | true => have := inB_yes h; exact wordYes n w this.1 this.2
  | false => exact wordNo n w (inB_no h)

theorem rnd_eq (n : Int) : (rnd n == n) = inB n (-2147483648) 2147483647 := by
  cases h : inB n (-2147483648) 2147483647 with
  | true => have := inB_yes h; simp [rnd]; omega
  | false => have := inB_no h; simp [rnd]; omega

set_option maxRecDepth 100000 in
set_option maxHeartbeats 400000 in
theorem valSpec (r : Bool) (n : Int) (w : World) :
    Calls Try.prog 76 #[.agg #[.bool r, .int .i64 n]] w fun e w' => e = .returned (.bool (vOk r n)) ∧ Below w.heap.size w w' := by
  cases r with
  | true =>
    go_enter Try.func76, Try.ntmps76
    go_wp2_with (go_at_call 39; refine (inSpec _ _ _ _).mono ?_; rintro e w' ⟨rfl, rfl⟩)
    go_ret
    exact ⟨rfl, (Below.refl _ _).alloc (Nat.le_refl _) _⟩
  | false =>
    go_enter Try.func76, Try.ntmps76
    go_wp2_with (go_at_call 88; refine (wordSpec _ _).mono ?_; rintro e w' ⟨rfl, rfl⟩)
    go_ret
    exact ⟨rfl, (Below.refl _ _).alloc (Nat.le_refl _) _⟩
set_option maxRecDepth 100000 in
set_option maxHeartbeats 400000 in
theorem valImpl (r : Bool) (n : Int) (w : World) :
    Calls Try.prog 92 #[.agg #[.bool r, .int .i64 n]] w fun e w' => e = .returned (.bool (vOk r n)) ∧ Below w.heap.size w w' := by
  cases r with
  | true =>
    go_enter Try.func92, Try.ntmps92
    go_wp2_with (go_at_call 67; refine (inImpl _ _ _ _).mono ?_; rintro e w' ⟨rfl, rfl⟩)
    go_ret
    exact ⟨rfl, (Below.refl _ _).alloc (Nat.le_refl _) _⟩
  | false =>
    have hr := rnd_eq n
    go_enter Try.func92, Try.ntmps92
    go_wp2
    go_quiet ((go_at_call 101; exact Calls.quiet_of_same (roundImpl _ _)))
    go_wp2
    go_ret
    exact ⟨rfl, below_drewN ((Below.refl _ _).alloc (Nat.le_refl _) _) _⟩
end Go.Proofs.Ytofnpgheppgcaaa
