/-
  Whether a number lies from one to another, asked by the program and by its model.
-/
import Derived.Test.YtfmlgiakmoadhaaRows
import Derived.Test.YtfmlgiakmoadhaaBytes
namespace Go.Proofs.Ytfmlgiakmoadhaa
open Go.RowKit

/-- n lies from a to b. -/
def inB (n a b : Int) : Bool := decide (a ≤ n ∧ n ≤ b)
theorem inB_yes {n a b : Int} (h : inB n a b = true) : a ≤ n ∧ n ≤ b := of_decide_eq_true h
theorem inB_no {n a b : Int} (h : inB n a b = false) : n < a ∨ b < n := by
  have := of_decide_eq_false h
  omega
theorem inB_mk {n a b : Int} (h1 : a ≤ n) (h2 : n ≤ b) : inB n a b = true := decide_eq_true ⟨h1, h2⟩
theorem inB_not {n a b : Int} (h : n < a ∨ b < n) : inB n a b = false := decide_eq_false (by omega)

end Go.Proofs.Ytfmlgiakmoadhaa
