/-
  What at and big answer.
-/
import Derived.Test.YtebilohcdpecoabBytes
namespace Go.Proofs.Ytebilohcdpecoab
open Go.RowKit

theorem bigNo (w : World) (a : Option Addr) (len cap : Nat) (h : (len : Int) ≤ 1048576) :
    Calls Try.prog 7 #[.slice a len cap] w fun e w' => e = .returned (.bool false) ∧ w' = w := by
  go_enter Try.func7, Try.ntmps7
  go_wp2
  go_ret
  exact ⟨ret_bool (by simp; omega), rfl⟩
theorem bigYes (w : World) (a : Option Addr) (len cap : Nat) (h : 1048576 < (len : Int)) :
    Calls Try.prog 7 #[.slice a len cap] w fun e w' => e = .returned (.bool true) ∧ w' = w := by
  go_enter Try.func7, Try.ntmps7
  go_wp2
  go_ret
  exact ⟨ret_bool (by simp), rfl⟩

end Go.Proofs.Ytebilohcdpecoab
