/-
  Whether a number is that of an object, in the program.
-/
import Derived.Test.YtebilohcdpecoaaInB
namespace Go.Proofs.Ytebilohcdpecoaa
open Go.RowKit

set_option maxHeartbeats 1000000 in
theorem objNoI (w : World) (n : Int) : Calls Try.prog 40 #[.int .i64 n] w fun e w' => e = .returned (.bool (inB n 1 1000000)) ∧ w' = w := by
  go_enter Try.func40, Try.ntmps40
  go_wp2_with fail
  refine (inImpl _ _ _ _).mono ?_
  rintro e x2 ⟨rfl, hx2⟩
  rw [hx2]
  clear hx2 x2
  go_wp2
  go_ret
  exact ⟨rfl, rfl⟩
end Go.Proofs.Ytebilohcdpecoaa
