/-
  What is looked up in a program by its name: what it is, and what the model and the program do.
-/
import Derived.Test.YtofnpgheppgcaaaPrgD
import Derived.Test.YtofnpgheppgcaaaInB
namespace Go.Proofs.Ytofnpgheppgcaaa
open Go.RowKit

/-- The first of a row that is so; -1. -/
def atFst {α : Type} (f : α → Bool) (xs : List α) : Int := match xs.findIdx? f with | some i => (i : Int) | none => -1
theorem atFst_hit {α : Type} [Inhabited α] {f : α → Bool} {xs : List α} {j : Nat} (hj : j < xs.length) (h : f (xs.getD j default) = true) (h0 : ∀ i, i < j → f (xs.getD i default) = false) : atFst f xs = (j : Int) := by
  have e : xs.findIdx? f = some j := by
    rw [List.findIdx?_eq_some_iff_getElem]
    refine ⟨hj, ?_, fun i hi => ?_⟩
    · simpa [hj] using h
    · have := h0 i hi
      have hi' : i < xs.length := by omega
      simpa [hi'] using this
  unfold atFst
  rw [e]
theorem atFst_no {α : Type} [Inhabited α] {f : α → Bool} {xs : List α} (h0 : ∀ i, i < xs.length → f (xs.getD i default) = false) : atFst f xs = -1 := by
  have e : xs.findIdx? f = none := by
    rw [List.findIdx?_eq_none_iff]
    exact fun y hy => all_of_getD (Q := fun y => f y = false) h0 y hy
  unfold atFst
  rw [e]
theorem atFst_le {α : Type} (f : α → Bool) (xs : List α) : -1 ≤ atFst f xs ∧ atFst f xs < xs.length := by
  unfold atFst
  split
  · rename_i i h
    obtain ⟨h, _⟩ := List.findIdx?_eq_some_iff_getElem.1 h
    omega
  · omega
def kindX (ks : List Kd) (s : ByteArray) : Int := atFst (fun y => y.n.toList == s.toList) ks
def fieldX (fs : List Fd) (s : ByteArray) : Int := atFst (fun y => y.n.toList == s.toList) fs
def methX (ms : List Co) (s : ByteArray) : Int := atFst (fun y => y.n.toList == s.toList) ms
def fieldOfX (ks : List Kd) (k : Int) (s : ByteArray) : Int := if inB k 0 ((ks.length : Int) - 1) then fieldX (ks.getD k.toNat default).f s else -1
def methOfX (ks : List Kd) (k : Int) (s : ByteArray) : Int := if inB k 0 ((ks.length : Int) - 1) then methX (ks.getD k.toNat default).m s else -1
/-- From a up to b in n steps. -/
def subL (ks : List Kd) (b : Int) : Nat → Int → Bool
  | 0, _ => false
  | n + 1, a => if inB a 0 ((ks.length : Int) - 1) then (if a = b then true else subL ks b n (ks.getD a.toNat default).s) else false
def subX (ks : List Kd) (a b : Int) : Bool := subL ks b 7 a
theorem subL_no {ks : List Kd} {b : Int} (h : inB b 0 ((ks.length : Int) - 1) = false) : ∀ (n : Nat) (a : Int), subL ks b n a = false
  | 0, _ => rfl
  | n + 1, a => by
    unfold subL
    split
    · rename_i h1
      split
      · rename_i h2
        subst h2
        rw [h] at h1
        cases h1
      · exact subL_no h n _
    · rfl
end Go.Proofs.Ytofnpgheppgcaaa
