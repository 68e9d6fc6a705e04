/-
  What Round does, in the program and in its model: both answer the word that a number goes round to, and touch nothing.
-/
import Derived.Test.YtgkglebgpbehbaaRows
import Derived.Test.YtgkglebgpbehbaaNum
import Derived.WalkKit
import Derived.ProofKit
namespace Go.Proofs.Ytgkglebgpbehbaa
open Go.RowKit

theorem roundImpl (n : Int) (w : World) :
    Calls Try.prog 61 #[.int .i64 n] w fun e w' => e = .returned (.int .i64 (rnd n)) ∧ w' = w := by
  go_enter Try.func61, Try.ntmps61
  go_wp2
  go_ret
  exact ⟨ret_int (rnd_wrap n), rfl⟩

end Go.Proofs.Ytgkglebgpbehbaa
