/-
  Joined: ListU, VlB.
-/
import Derived.Test.YtofnpgheppgcaaaJ16
import Derived.Test.YtofnpgheppgcaaaJ15
import Derived.Test.YtofnpgheppgcaaaJ24
/-
  Lists: all of them, or one that is not.
-/
namespace Go.Proofs.Ytofnpgheppgcaaa

theorem allNo {α : Type} [Inhabited α] {p : α → Bool} {l : List α} {j : Nat} (hj : j < l.length) (h : p (l.getD j default) = false) : l.all p = false := by
  cases c : l.all p with
  | false => rfl
  | true =>
    rw [List.all_eq_true] at c
    have := c (l.getD j default) (by rw [List.getD_eq_getElem?_getD, List.getElem?_eq_getElem hj]; exact List.getElem_mem hj)
    rw [h] at this
    cases this
theorem allYes {α : Type} [Inhabited α] {p : α → Bool} {l : List α} (h : ∀ i, i < l.length → p (l.getD i default) = true) : l.all p = true := by
  rw [List.all_eq_true]
  intro x hx
  obtain ⟨i, hi, rfl⟩ := List.getElem_of_mem hx
  have := h i hi
  rwa [List.getD_eq_getElem?_getD, List.getElem?_eq_getElem hi] at this
end Go.Proofs.Ytofnpgheppgcaaa
/-
  Values: what is right.
-/
namespace Go.Proofs.Ytofnpgheppgcaaa
open Go.RowKit

def vlB (v : Vl) : Bool := vOk v.r v.n
end Go.Proofs.Ytofnpgheppgcaaa
