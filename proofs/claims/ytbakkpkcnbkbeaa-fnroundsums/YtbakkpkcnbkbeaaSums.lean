/-
  Words go round together as they do one by one; and what big answers of a row that is not.
-/
import Derived.Test.YtbakkpkcnbkbeaaRows
import Derived.Test.YtbakkpkcnbkbeaaNum
import Derived.WalkKit
import Derived.ProofKit
namespace Go.Proofs.Ytbakkpkcnbkbeaa
open Go.RowKit

theorem rnd_congr {s t : Int} (h : s % 4294967296 = t % 4294967296) : rnd s = rnd t := by unfold rnd; omega
theorem wrap64_mod (t : Int) : wrap64 t % 4294967296 = t % 4294967296 := by unfold wrap64; omega
theorem rnd_mod (t : Int) : rnd t % 4294967296 = t % 4294967296 := by unfold rnd; omega
theorem sum_eq (a b : Int) : (rnd (rnd a + rnd b) == rnd (wrap64 (a + b))) = true := by
  have h := rnd_congr (s := rnd a + rnd b) (t := wrap64 (a + b)) (by have := rnd_mod a; have := rnd_mod b; have := wrap64_mod (a + b); omega)
  simp [h]
theorem dif_eq (a b : Int) : (rnd (rnd a - rnd b) == rnd (wrap64 (a - b))) = true := by
  have h := rnd_congr (s := rnd a - rnd b) (t := wrap64 (a - b)) (by have := rnd_mod a; have := rnd_mod b; have := wrap64_mod (a - b); omega)
  simp [h]
theorem mul_eq (a b : Int) : (rnd (wrap64 (rnd a * rnd b)) == rnd (wrap64 (a * b))) = true := by
  have h := rnd_congr (s := wrap64 (rnd a * rnd b)) (t := wrap64 (a * b)) (by
    rw [wrap64_mod, wrap64_mod, Int.mul_emod, rnd_mod a, rnd_mod b, ← Int.mul_emod])
  simp [h]

theorem bigNo (w : World) (a : Option Addr) (len cap : Nat) (h : (len : Int) ≤ 1048576) :
    Calls Try.prog 8 #[.slice a len cap] w fun e w' => e = .returned (.bool false) ∧ w' = w := by
  go_enter Try.func8, Try.ntmps8
  go_wp2
  go_ret
  exact ⟨ret_bool (by simp; omega), rfl⟩
end Go.Proofs.Ytbakkpkcnbkbeaa
