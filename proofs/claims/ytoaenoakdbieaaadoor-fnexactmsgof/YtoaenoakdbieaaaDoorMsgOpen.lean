/-
  Values, notes, cells and messages that come in, as the walks take them.
-/
import Derived.Test.YtoaenoakdbieaaaDoorRowv
namespace Go.Proofs.YtoaenoakdbieaaaDoor
open Go.ChangeShapes Go.WideShapes Go.RowKit

/-- The cells of a note. -/
def noteC (x : Int × Int) : List Value := [.int .i64 x.1, .int .i64 x.2]
/-- The cells of a cell: its place, whether it is a number of an object, the number. -/
def cellC (x : Int × Bool × Int) : List Value := [.int .i64 x.1, .bool x.2.1, .int .i64 x.2.2]
theorem noteC_len (x : Int × Int) : (noteC x).length = 2 := rfl
theorem cellC_len (x : Int × Bool × Int) : (cellC x).length = 3 := rfl

end Go.Proofs.YtoaenoakdbieaaaDoor
