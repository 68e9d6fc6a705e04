/-
  Joined: RoundW, PutWordW.
-/
import Derived.Test.YthlaihkpffddcaaRows
import Derived.Test.YthlaihkpffddcaaJ1
import Derived.WalkKit
import Derived.ProofKit
import Derived.Test.YthlaihkpffddcaaJ32
/-
  What Round does, in the program and in its model: both answer the word that a number goes round to, and touch nothing.
-/
namespace Go.Proofs.Ythlaihkpffddcaa
open Go.RowKit

theorem roundImpl (n : Int) (w : World) :
    Calls Try.prog 122 #[.int .i64 n] w fun e w' => e = .returned (.int .i64 (rnd n)) ∧ w' = w := by
  go_enter Try.func122, Try.ntmps122
  go_wp2
  go_ret
  exact ⟨ret_int (rnd_wrap n), rfl⟩

end Go.Proofs.Ythlaihkpffddcaa
/-
  What PutWord does, in the program and in its model: both answer the four bytes of the word (none, where it is none) in new memory, and touch nothing that was there.
-/
namespace Go.Proofs.Ythlaihkpffddcaa
open Go.RowKit

def pw (n : Int) : List Int := if -2147483648 ≤ n ∧ n ≤ 2147483647 then [n % 256, n / 256 % 256, n / 65536 % 256, n / 16777216 % 256] else []
theorem pw_in (n : Int) (h0 : -2147483648 ≤ n) (h1 : n ≤ 2147483647) : pw n = [n % 256, n / 256 % 256, n / 65536 % 256, n / 16777216 % 256] := by simp [pw, h0, h1]
theorem pw_out (n : Int) (h : n < -2147483648 ∨ 2147483647 < n) : pw n = [] := by
  unfold pw; rw [if_neg (by omega)]
theorem pw_len (n : Int) : (pw n).length ≤ 4 := by
  unfold pw
  split <;> simp
theorem rnd_in (n : Int) (h0 : -2147483648 ≤ n) (h1 : n ≤ 2147483647) : (rnd n != n) = false := by
  have : rnd n = n := by unfold rnd; omega
  simp [this]
theorem rnd_out (n : Int) (h : n < -2147483648 ∨ 2147483647 < n) : (rnd n != n) = true := by
  have := rnd_bd n
  rw [bne_iff_ne]; omega

theorem pw_byt (n : Int) : Byt (pw n) := by
  unfold pw
  split
  · intro z hz
    simp at hz
    omega
  · intro z hz; cases hz
theorem wordYes (x : Int) (w : World) (h1 : -2147483648 ≤ x) (h2 : x ≤ 2147483647) :
    Calls Try.prog 110 #[.int .i64 x] w fun e w' => e = .returned (.bool true) ∧ w' = w := by
  go_enter Try.func110, Try.ntmps110
  go_wp2_with (go_at_call 40; refine (inYes _ _ _ _ (by omega) (by omega)).mono ?_; rintro e w' ⟨rfl, rfl⟩)
  go_ret
  exact ⟨rfl, rfl⟩
theorem wordNo (x : Int) (w : World) (h : x < -2147483648 ∨ 2147483647 < x) :
    Calls Try.prog 110 #[.int .i64 x] w fun e w' => e = .returned (.bool false) ∧ w' = w := by
  go_enter Try.func110, Try.ntmps110
  go_wp2_with (go_at_call 40; refine (inNo _ _ _ _ h).mono ?_; rintro e w' ⟨rfl, rfl⟩)
  go_ret
  exact ⟨rfl, rfl⟩

end Go.Proofs.Ythlaihkpffddcaa
