/-
  Types and flows held against each other.
-/
import Derived.Test.YtcocipbcoplmdaaTypD
import Derived.Test.YtcocipbcoplmdaaRecE
namespace Go.Proofs.Ytcocipbcoplmdaa
open Go.ChangeShapes Go.WideShapes Go.RowKit

set_option maxRecDepth 100000 in
set_option maxHeartbeats 4000000 in
theorem eqTy (w : World) (x : Ty) : Calls Try.prog 15 #[tyV x, tyV x] w fun e w' => e = .returned (.bool true) ∧ Below w.heap.size w w' := by
  have n_k : (x.k != x.k) = false := by simp
  have n_c : (x.c != x.c) = false := by simp
  unfold tyV
  go_enter Try.func15, Try.ntmps15
  go_wp2
  go_ret
  exact ⟨rfl, ((Below.refl _ _).alloc (Nat.le_refl _) _).alloc (by simp) _⟩
end Go.Proofs.Ytcocipbcoplmdaa
