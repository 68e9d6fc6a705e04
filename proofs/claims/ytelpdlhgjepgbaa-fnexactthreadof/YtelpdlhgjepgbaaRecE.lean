/-
  Rows of texts, places, consts and fields held against each other, in one form.
-/
import Derived.Test.YtelpdlhgjepgbaaRecD
import Derived.Test.YtelpdlhgjepgbaaKfEq
import Derived.Test.YtelpdlhgjepgbaaInsTo
namespace Go.Proofs.Ytelpdlhgjepgbaa
open Go.ChangeShapes Go.WideShapes Go.RowKit

theorem eqStrsR (w : World) (v1 v2 : Value) (xs : List ByteArray) (h1 : Reads w w.heap.size (strs xs) v1) (h2 : Reads w w.heap.size (strs xs) v2) (hg : strsG xs) :
    Calls Try.prog 76 #[v1, v2] w fun e w' => e = .returned (.bool true) ∧ Below w.heap.size w w' := (eqSt w v1 v2 xs h1 h2 hg.1).mono (by rintro e w1 ⟨a, q, rfl⟩; exact ⟨a, below_drewN (Below.refl _ _) q⟩)
theorem eqInssR (w : World) (v1 v2 : Value) (xs : List Isn) (h1 : Reads w w.heap.size (inss xs) v1) (h2 : Reads w w.heap.size (inss xs) v2) (hg : inssG xs) :
    Calls Try.prog 77 #[v1, v2] w fun e w' => e = .returned (.bool true) ∧ Below w.heap.size w w' := eqInss w v1 v2 xs h1 h2 hg.1
theorem eqPoolR (w : World) (v1 v2 : Value) (xs : List Kc) (h1 : Reads w w.heap.size (pool xs) v1) (h2 : Reads w w.heap.size (pool xs) v2) (hg : poolG xs) :
    Calls Try.prog 56 #[v1, v2] w fun e w' => e = .returned (.bool true) ∧ Below w.heap.size w w' := eqKcs w v1 v2 xs h1 h2 hg.1
theorem eqFldsR (w : World) (v1 v2 : Value) (xs : List Fd) (h1 : Reads w w.heap.size (flds xs) v1) (h2 : Reads w w.heap.size (flds xs) v2) (hg : fldsG xs) :
    Calls Try.prog 57 #[v1, v2] w fun e w' => e = .returned (.bool true) ∧ Below w.heap.size w w' := eqFds w v1 v2 xs h1 h2 hg.1
end Go.Proofs.Ytelpdlhgjepgbaa
