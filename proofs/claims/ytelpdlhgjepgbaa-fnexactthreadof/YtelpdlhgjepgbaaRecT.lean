/-
  Rows of texts, places, consts and fields copied, in one form.
-/
import Derived.Test.YtelpdlhgjepgbaaRecD
import Derived.Test.YtelpdlhgjepgbaaKfTo
import Derived.Test.YtelpdlhgjepgbaaInsTo
namespace Go.Proofs.Ytelpdlhgjepgbaa
open Go.ChangeShapes Go.WideShapes Go.RowKit

theorem toStrsR (w : World) (v : Value) (xs : List ByteArray) (h : Reads w w.heap.size (strs xs) v) (hg : strsG xs) :
    Calls Try.prog 74 #[v] w fun e w' => ∃ v', e = .returned v' ∧ OwnD w' w.heap.size w'.heap.size (strs xs) v' ∧ Below w.heap.size w w' := toStrs w v xs h hg.1
theorem toInssR (w : World) (v : Value) (xs : List Isn) (h : Reads w w.heap.size (inss xs) v) (hg : inssG xs) :
    Calls Try.prog 75 #[v] w fun e w' => ∃ v', e = .returned v' ∧ OwnD w' w.heap.size w'.heap.size (inss xs) v' ∧ Below w.heap.size w w' := toIns w v xs h hg.1
theorem toPoolR (w : World) (v : Value) (xs : List Kc) (h : Reads w w.heap.size (pool xs) v) (hg : poolG xs) :
    Calls Try.prog 51 #[v] w fun e w' => ∃ v', e = .returned v' ∧ OwnD w' w.heap.size w'.heap.size (pool xs) v' ∧ Below w.heap.size w w' := toKcs w v xs h hg.1
theorem toFldsR (w : World) (v : Value) (xs : List Fd) (h : Reads w w.heap.size (flds xs) v) (hg : fldsG xs) :
    Calls Try.prog 52 #[v] w fun e w' => ∃ v', e = .returned v' ∧ OwnD w' w.heap.size w'.heap.size (flds xs) v' ∧ Below w.heap.size w w' := toFds w v xs h hg.1
end Go.Proofs.Ytelpdlhgjepgbaa
