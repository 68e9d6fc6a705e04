/-
  Events: what is right, what clashes.
-/
import Derived.Test.YtllghgcancennaaEvR
import Derived.Test.YtllghgcancennaaInB
namespace Go.Proofs.Ytllghgcancennaa
open Go.RowKit

def evAt (y : Evt) : Bool := inB y.w 1 1000000 && (inB y.k 0 6 && (inB y.i 0 1000000 && inB y.a 0 7))
def evB (xs : List Evt) : Bool := xs.all evAt && decide (xs.length ≤ 3000)
theorem evB_no {xs : List Evt} {j : Nat} (hj : j < xs.length) (h : evAt (xs.getD j default) = false) : evB xs = false := by
  unfold evB
  cases c : xs.all evAt with
  | false => rfl
  | true =>
    rw [List.all_eq_true] at c
    have := c (xs.getD j default) (by rw [List.getD_eq_getElem?_getD, List.getElem?_eq_getElem hj]; exact List.getElem_mem hj)
    rw [h] at this
    cases this
theorem evB_yes {xs : List Evt} (h : ∀ i, i < xs.length → evAt (xs.getD i default) = true) : evB xs = decide (xs.length ≤ 3000) := by
  unfold evB
  have : xs.all evAt = true := by
    rw [List.all_eq_true]
    intro y hy
    obtain ⟨i, hi, rfl⟩ := List.getElem_of_mem hy
    have := h i hi
    rwa [List.getD_eq_getElem?_getD, List.getElem?_eq_getElem hi] at this
  rw [this, Bool.true_and]
def rwB (k : Int) : Bool := decide (k = 1) || decide (k = 2)
def clashB (a b : Evt) : Bool := !decide (a.w = b.w) && (decide (a.i = b.i) && (decide (a.a = b.a) && (rwB a.k && (rwB b.k && (decide (a.k = 2) || decide (b.k = 2))))))
end Go.Proofs.Ytllghgcancennaa
