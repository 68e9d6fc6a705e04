/-
  What Round does, in the program and in its model: both answer the word that a number goes round to, and touch nothing.
-/
import Derived.Test.YthagfdcfpffaoaaRows
import Derived.Test.YthagfdcfpffaoaaNum
import Derived.WalkKit
import Derived.ProofKit
namespace Go.Proofs.Ythagfdcfpffaoaa
open Go.RowKit

theorem roundImpl (n : Int) (w : World) :
    Calls Try.prog 96 #[.int .i64 n] w fun e w' => e = .returned (.int .i64 (rnd n)) ∧ w' = w := by
  go_enter Try.func96, Try.ntmps96
  go_wp2
  go_ret
  exact ⟨ret_int (rnd_wrap n), rfl⟩

end Go.Proofs.Ythagfdcfpffaoaa
