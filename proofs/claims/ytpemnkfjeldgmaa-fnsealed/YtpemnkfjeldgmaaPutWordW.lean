/-
  What PutWord does, in the program and in its model: both answer the four bytes of the word (none, where it is none) in new memory, and touch nothing that was there.
-/
import Derived.Test.YtpemnkfjeldgmaaPutNumW
import Derived.Test.YtpemnkfjeldgmaaRoundW
namespace Go.Proofs.Ytpemnkfjeldgmaa
open Go.RowKit

def pw (n : Int) : List Int := if -2147483648 ≤ n ∧ n ≤ 2147483647 then [n % 256, n / 256 % 256, n / 65536 % 256, n / 16777216 % 256] else []
theorem pw_in (n : Int) (h0 : -2147483648 ≤ n) (h1 : n ≤ 2147483647) : pw n = [n % 256, n / 256 % 256, n / 65536 % 256, n / 16777216 % 256] := by simp [pw, h0, h1]
theorem pw_out (n : Int) (h : n < -2147483648 ∨ 2147483647 < n) : pw n = [] := by
  unfold pw; rw [if_neg (by omega)]
theorem pw_len (n : Int) : (pw n).length ≤ 4 := by
  unfold pw
  split <;> simp
theorem rnd_in (n : Int) (h0 : -2147483648 ≤ n) (h1 : n ≤ 2147483647) : (rnd n != n) = false := by
  have : rnd n = n := by unfold rnd; omega
  simp [this]
theorem rnd_out (n : Int) (h : n < -2147483648 ∨ 2147483647 < n) : (rnd n != n) = true := by
  have := rnd_bd n
  rw [bne_iff_ne]; omega

theorem pw_byt (n : Int) : Byt (pw n) := by
  unfold pw
  split
  · intro z hz
    simp at hz
    omega
  · intro z hz; cases hz
set_option maxHeartbeats 400000 in
theorem putWordImpl (n : Int) (w : World) :
    Calls Try.prog 30 #[.int .i64 n] w fun e w' => ∃ v, e = .returned v ∧ Own w' w.heap.size v (pw n) ∧ Below w.heap.size w w' := by
  by_cases hn : n < -2147483648 ∨ 2147483647 < n
  · rw [pw_out n hn]
    have hr := rnd_out n hn
    go_enter Try.func30, Try.ntmps30
    go_wp2_with (go_at_call 31; refine (roundImpl _ _).mono ?_; rintro e w' ⟨rfl, rfl⟩)
    go_ret
    exact ⟨_, rfl, World.ownsRow_nil _ _ _ _, Below.refl _ _⟩
  · have h0 : -2147483648 ≤ n := by omega
    have h1 : n ≤ 2147483647 := by omega
    have hr := rnd_in n h0 h1
    rw [pw_in n h0 h1]
    clear hn
    go_enter Try.func30, Try.ntmps30
    go_wp2_with (go_at_call 31; refine (roundImpl _ _).mono ?_; rintro e w' ⟨rfl, rfl⟩)
    go_ret
    refine ⟨_, rfl, ?_, (Below.refl _ _).alloc (Nat.le_refl _) _⟩
    exact own_four _ _ (Nat.le_refl _) _ _ _ _

end Go.Proofs.Ytpemnkfjeldgmaa
