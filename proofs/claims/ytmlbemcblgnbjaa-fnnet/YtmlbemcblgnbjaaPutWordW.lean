/-
  What PutWord does, in the program and in its model: both answer the four bytes of the word (none, where it is none) in new memory, and touch nothing that was there.
-/
import Derived.Test.YtmlbemcblgnbjaaPutNumW
import Derived.Test.YtmlbemcblgnbjaaRoundW
namespace Go.Proofs.Ytmlbemcblgnbjaa
open Go.RowKit

def pw (n : Int) : List Int := if -2147483648 ≤ n ∧ n ≤ 2147483647 then [n % 256, n / 256 % 256, n / 65536 % 256, n / 16777216 % 256] else []
theorem pw_in (n : Int) (h0 : -2147483648 ≤ n) (h1 : n ≤ 2147483647) : pw n = [n % 256, n / 256 % 256, n / 65536 % 256, n / 16777216 % 256] := by simp [pw, h0, h1]
theorem pw_out (n : Int) (h : n < -2147483648 ∨ 2147483647 < n) : pw n = [] := by
  unfold pw; rw [if_neg (by omega)]
theorem pw_len (n : Int) : (pw n).length ≤ 4 := by
  unfold pw
  split <;> simp
theorem rnd_in (n : Int) (h0 : -2147483648 ≤ n) (h1 : n ≤ 2147483647) : (rnd n != n) = false := by
  have : rnd n = n := by unfold rnd; omega
  simp [this]
theorem rnd_out (n : Int) (h : n < -2147483648 ∨ 2147483647 < n) : (rnd n != n) = true := by
  have := rnd_bd n
  rw [bne_iff_ne]; omega

theorem pw_byt (n : Int) : Byt (pw n) := by
  unfold pw
  split
  · intro z hz
    simp at hz
    omega
  · intro z hz; cases hz
end Go.Proofs.Ytmlbemcblgnbjaa
