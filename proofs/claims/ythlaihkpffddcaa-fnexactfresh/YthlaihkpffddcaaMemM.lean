/-
  One memory: where an object stands, what is read.
-/
import Derived.Test.YthlaihkpffddcaaMmR
import Derived.Test.YthlaihkpffddcaaInB
namespace Go.Proofs.Ythlaihkpffddcaa
open Go.RowKit

def obAt : List Ob → Int → Nat → Int
  | [], _, _ => -1
  | y :: ys, q, n => if y.i = q then (n : Int) else obAt ys q (n + 1)
theorem obAt_hit {q : Int} : ∀ {xs : List Ob} {j n : Nat}, j < xs.length → (xs.getD j default).i = q → (∀ i, i < j → ¬ (xs.getD i default).i = q) → obAt xs q n = ((n + j : Nat) : Int)
  | [], j, n, h, _, _ => by simp at h
  | y :: ys, 0, n, _, h, _ => by
    rw [List.getD_cons_zero] at h
    unfold obAt
    rw [if_pos h]; rfl
  | y :: ys, j + 1, n, h, h1, h2 => by
    have h0 := h2 0 (by omega)
    rw [List.getD_cons_zero] at h0
    rw [List.getD_cons_succ] at h1
    unfold obAt
    rw [if_neg h0, obAt_hit (j := j) (by simpa using h) h1 (fun i hi => by have := h2 (i + 1) (by omega); rwa [List.getD_cons_succ] at this)]
    congr 1; omega
theorem obAt_no {q : Int} : ∀ {xs : List Ob} {n : Nat}, (∀ i, i < xs.length → ¬ (xs.getD i default).i = q) → obAt xs q n = -1
  | [], n, _ => rfl
  | y :: ys, n, h => by
    have h0 := h 0 (by simp)
    rw [List.getD_cons_zero] at h0
    unfold obAt
    rw [if_neg h0]
    exact obAt_no (fun i hi => by have := h (i + 1) (by simpa using hi); rwa [List.getD_cons_succ] at this)
theorem obAt_lt {q : Int} : ∀ {xs : List Ob} {n : Nat}, obAt xs q n = -1 ∨ ((n : Int) ≤ obAt xs q n ∧ obAt xs q n < ((n + xs.length : Nat) : Int))
  | [], n => .inl rfl
  | y :: ys, n => by
    unfold obAt
    split
    · refine .inr ⟨Int.le_refl _, ?_⟩
      simp only [List.length_cons]; omega
    · rcases obAt_lt (q := q) (xs := ys) (n := n + 1) with h | ⟨h1, h2⟩
      · exact .inl h
      · exact .inr ⟨by omega, by simp only [List.length_cons]; omega⟩
def atM (m : Mm) (q : Int) : Int := obAt m.o q 0
def fieldsM (m : Mm) (q : Int) : List Vl := (m.o.getD (atM m q).toNat default).f
/-- Whether the object q and its field at are there. -/
def hasF (m : Mm) (q at' : Int) : Bool := decide (0 ≤ atM m q) && inB at' 0 ((fieldsM m q).length - 1)
def readV (m : Mm) (q at' : Int) : Vl := if hasF m q at' = true then (fieldsM m q).getD at'.toNat default else ⟨false, 0⟩
end Go.Proofs.Ythlaihkpffddcaa
