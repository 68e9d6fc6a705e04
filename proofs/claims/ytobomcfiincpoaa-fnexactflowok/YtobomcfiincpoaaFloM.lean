/-
  Flows: what is right, where they meet.
-/
import Derived.Test.YtobomcfiincpoaaTypM
namespace Go.Proofs.Ytobomcfiincpoaa
open Go.RowKit

def flB (ks : List Kd) (f : Fl) : Bool := f.lo.all (tyB ks) && (f.st.all (tyB ks) && (decide (f.lo.length ≤ 6) && (decide (f.st.length ≤ 6) && inB f.h 0 4)))
theorem all_hit {α : Type} [Inhabited α] {p : α → Bool} {l : List α} {j : Nat} (hj : j < l.length) (h : p (l.getD j default) = false) : l.all p = false := by
  cases c : l.all p with
  | false => rfl
  | true =>
    rw [List.all_eq_true] at c
    have := c (l.getD j default) (by rw [List.getD_eq_getElem?_getD, List.getElem?_eq_getElem hj]; exact List.getElem_mem hj)
    rw [h] at this
    cases this
theorem all_yes {α : Type} [Inhabited α] {p : α → Bool} {l : List α} (h : ∀ i, i < l.length → p (l.getD i default) = true) : l.all p = true := by
  rw [List.all_eq_true]
  intro x hx
  obtain ⟨i, hi, rfl⟩ := List.getElem_of_mem hx
  have := h i hi
  rwa [List.getD_eq_getElem?_getD, List.getElem?_eq_getElem hi] at this
def joinE (ks : List Kd) (a b : List Ty) : List Ty := List.zipWith (joinX ks) a b
/-- Where two flows meet, and the code. -/
def meetF (ks : List Kd) (a b : Fl) : Fl := if a.lo.length = b.lo.length ∧ a.st.length = b.st.length ∧ a.h = b.h then ⟨joinE ks a.lo b.lo, joinE ks a.st b.st, a.h⟩ else ⟨[], [], 0⟩
def meetC (a b : Fl) : Int := if a.lo.length = b.lo.length ∧ a.st.length = b.st.length then (if a.h = b.h then 0 else 4) else 1
end Go.Proofs.Ytobomcfiincpoaa
