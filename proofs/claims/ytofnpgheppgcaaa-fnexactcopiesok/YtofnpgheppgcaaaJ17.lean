/-
  Joined: PrgF, CpM.
-/
import Derived.Test.YtofnpgheppgcaaaJ6
import Derived.Test.YtofnpgheppgcaaaJ16
import Derived.Test.YtofnpgheppgcaaaJ15
/-
  What is looked up in a program by its name: what it is, and what the model and the program do.
-/
namespace Go.Proofs.Ytofnpgheppgcaaa
open Go.RowKit

/-- The first of a row that is so; -1. -/
def atFst {α : Type} (f : α → Bool) (xs : List α) : Int := match xs.findIdx? f with | some i => (i : Int) | none => -1
theorem atFst_hit {α : Type} [Inhabited α] {f : α → Bool} {xs : List α} {j : Nat} (hj : j < xs.length) (h : f (xs.getD j default) = true) (h0 : ∀ i, i < j → f (xs.getD i default) = false) : atFst f xs = (j : Int) := by
  have e : xs.findIdx? f = some j := by
    rw [List.findIdx?_eq_some_iff_getElem]
    refine ⟨hj, ?_, fun i hi => ?_⟩
    · simpa [hj] using h
    · have := h0 i hi
      have hi' : i < xs.length := by omega
      simpa [hi'] using this
  unfold atFst
  rw [e]
theorem atFst_no {α : Type} [Inhabited α] {f : α → Bool} {xs : List α} (h0 : ∀ i, i < xs.length → f (xs.getD i default) = false) : atFst f xs = -1 := by
  have e : xs.findIdx? f = none := by
    rw [List.findIdx?_eq_none_iff]
    exact fun y hy => all_of_getD (Q := fun y => f y = false) h0 y hy
  unfold atFst
  rw [e]
theorem atFst_le {α : Type} (f : α → Bool) (xs : List α) : -1 ≤ atFst f xs ∧ atFst f xs < xs.length := by
  unfold atFst
  split
  · rename_i i h
    obtain ⟨h, _⟩ := List.findIdx?_eq_some_iff_getElem.1 h
    omega
  · omega
def kindX (ks : List Kd) (s : ByteArray) : Int := atFst (fun y => y.n.toList == s.toList) ks
def fieldX (fs : List Fd) (s : ByteArray) : Int := atFst (fun y => y.n.toList == s.toList) fs
def methX (ms : List Co) (s : ByteArray) : Int := atFst (fun y => y.n.toList == s.toList) ms
def fieldOfX (ks : List Kd) (k : Int) (s : ByteArray) : Int := if inB k 0 ((ks.length : Int) - 1) then fieldX (ks.getD k.toNat default).f s else -1
def methOfX (ks : List Kd) (k : Int) (s : ByteArray) : Int := if inB k 0 ((ks.length : Int) - 1) then methX (ks.getD k.toNat default).m s else -1
/-- From a up to b in n steps. -/
def subL (ks : List Kd) (b : Int) : Nat → Int → Bool
  | 0, _ => false
  | n + 1, a => if inB a 0 ((ks.length : Int) - 1) then (if a = b then true else subL ks b n (ks.getD a.toNat default).s) else false
def subX (ks : List Kd) (a b : Int) : Bool := subL ks b 7 a
theorem subL_no {ks : List Kd} {b : Int} (h : inB b 0 ((ks.length : Int) - 1) = false) : ∀ (n : Nat) (a : Int), subL ks b n a = false
  | 0, _ => rfl
  | n + 1, a => by
    unfold subL
    split
    · rename_i h1
      split
      · rename_i h2
        subst h2
        rw [h] at h1
        cases h1
      · exact subL_no h n _
    · rfl
end Go.Proofs.Ytofnpgheppgcaaa
/-
  Copies at a node: where one stands, what is read, written, stale, dirty, clean.
-/
namespace Go.Proofs.Ytofnpgheppgcaaa
open Go.RowKit

def isC (q : Int) (y : Cpy) : Bool := y.i == q
def atC (xs : List Cpy) (q : Int) : Int := atFst (isC q) xs
theorem atC_lt (xs : List Cpy) (q : Int) : atC xs q = -1 ∨ (0 ≤ atC xs q ∧ (atC xs q).toNat < xs.length) := by
  have h := atFst_le (isC q) xs
  have e : atC xs q = atFst (isC q) xs := rfl
  rw [e]
  by_cases h0 : 0 ≤ atFst (isC q) xs
  · exact .inr ⟨h0, by omega⟩
  · exact .inl (by omega)
def noCpy : Cpy := ⟨0, 0, 0, false, [], []⟩
def foundC (xs : List Cpy) (q : Int) : Bool := decide (0 ≤ atC xs q)
def copyC (xs : List Cpy) (q : Int) : Cpy := if 0 ≤ atC xs q then xs.getD (atC xs q).toNat default else noCpy
theorem copyC_ok {xs : List Cpy} {q : Int} (hg : cpysG xs) : CpyG (copyC xs q) := by
  unfold copyC
  split
  · rename_i h
    rcases atC_lt xs q with h1 | ⟨_, h1⟩
    · omega
    · exact getD_mem hg.2 _ h1
  · exact ⟨by decide, by decide, by decide, ⟨by decide, fun y hy => by simp [noCpy] at hy⟩, ⟨by decide, fun y hy => by simp [noCpy] at hy⟩⟩
theorem copyC_w (xs : List Cpy) (q : Int) : cpyW (copyC xs q) ≤ cpysW xs := by
  unfold copyC
  split
  · rename_i h
    rcases atC_lt xs q with h1 | ⟨_, h1⟩
    · omega
    · have h2 : xs.getD (atC xs q).toNat default ∈ xs := by
        rw [List.getD_eq_getElem?_getD, List.getElem?_eq_getElem h1]
        exact List.getElem_mem h1
      have h3 := tot_mem cpyW h2
      unfold cpysW
      omega
  · have e : cpyW noCpy = 0 := rfl
    omega
/-- Whether the copy q is there, is valid, and has the field p. -/
def hasC (xs : List Cpy) (q p : Int) : Bool := foundC xs q && ((copyC xs q).v && inB p 0 (((copyC xs q).f.length : Int) - 1))
def readC (xs : List Cpy) (q p : Int) : Vl := if hasC xs q p = true then (copyC xs q).f.getD p.toNat default else ⟨false, 0⟩
def wrOne (y : Cpy) (p : Int) (v : Vl) : Cpy := ⟨y.i, y.c, y.n, y.v, y.f.set p.toNat v, if y.t = [] then y.f else y.t⟩
def writeC (xs : List Cpy) (q p : Int) (v : Vl) : List Cpy := if hasC xs q p = true then xs.set (atC xs q).toNat (wrOne (copyC xs q) p v) else xs
def dirtB (y : Cpy) : Bool := decide (0 < y.t.length)
def dirtyC (xs : List Cpy) : List Int := (xs.filter dirtB).map (·.i)
def clOne (y : Cpy) : Cpy := ⟨y.i, y.c, y.n, y.v, y.f, []⟩
def cleanC (xs : List Cpy) (q : Int) : List Cpy := if 0 ≤ atC xs q then xs.set (atC xs q).toNat (clOne (copyC xs q)) else xs
end Go.Proofs.Ytofnpgheppgcaaa
