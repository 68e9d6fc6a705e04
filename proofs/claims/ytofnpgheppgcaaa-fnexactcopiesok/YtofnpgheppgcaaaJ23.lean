/-
  Joined: PutNumW, RoundW.
-/
import Derived.Test.YtofnpgheppgcaaaRows
import Derived.Test.YtofnpgheppgcaaaJ1
import Derived.Test.YtofnpgheppgcaaaJ16
import Derived.Maps.AppendAt
import Derived.WalkKit
import Derived.ProofKit
/-
  What PutNum does, in the program and in its model: both answer the bytes of the number (none, where it is none) in new memory, and touch nothing that was there.
-/
namespace Go.Proofs.Ytofnpgheppgcaaa
open Go.RowKit

end Go.Proofs.Ytofnpgheppgcaaa
/-
  What Round does, in the program and in its model: both answer the word that a number goes round to, and touch nothing.
-/
namespace Go.Proofs.Ytofnpgheppgcaaa
open Go.RowKit

theorem roundImpl (n : Int) (w : World) :
    Calls Try.prog 101 #[.int .i64 n] w fun e w' => e = .returned (.int .i64 (rnd n)) ∧ w' = w := by
  go_enter Try.func101, Try.ntmps101
  go_wp2
  go_ret
  exact ⟨ret_int (rnd_wrap n), rfl⟩

end Go.Proofs.Ytofnpgheppgcaaa
