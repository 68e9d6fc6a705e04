/-
  Numbers that ascend; cmp.Compare.
-/
import Derived.Test.YtofnpgheppgcaaaJ16
namespace Go.Proofs.Ytofnpgheppgcaaa
open Go.RowKit

def ascB : List Int → Int → Bool
  | [], _ => true
  | x :: xs, l => inB x l 1000000 && ascB xs (x + 1)
theorem drop_getD {α : Type} [Inhabited α] {xs : List α} {j : Nat} (h : j < xs.length) : xs.drop j = xs.getD j default :: xs.drop (j + 1) := by
  rw [List.drop_eq_getElem_cons h, List.getD_eq_getElem?_getD, List.getElem?_eq_getElem h, Option.getD_some]
def cmpX (x y : Int) : Int := if x < y then -1 else if y < x then 1 else 0
end Go.Proofs.Ytofnpgheppgcaaa
