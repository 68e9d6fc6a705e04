/-
  Copies at a node: where one stands, what is read, written, stale, dirty, clean.
-/
import Derived.Test.YtofnpgheppgcaaaCpR
import Derived.Test.YtofnpgheppgcaaaIntR
import Derived.Test.YtofnpgheppgcaaaPrgF
namespace Go.Proofs.Ytofnpgheppgcaaa
open Go.RowKit

def isC (q : Int) (y : Cpy) : Bool := y.i == q
def atC (xs : List Cpy) (q : Int) : Int := atFst (isC q) xs
theorem atC_lt (xs : List Cpy) (q : Int) : atC xs q = -1 ∨ (0 ≤ atC xs q ∧ (atC xs q).toNat < xs.length) := by
  have h := atFst_le (isC q) xs
  have e : atC xs q = atFst (isC q) xs := rfl
  rw [e]
  by_cases h0 : 0 ≤ atFst (isC q) xs
  · exact .inr ⟨h0, by omega⟩
  · exact .inl (by omega)
def noCpy : Cpy := ⟨0, 0, 0, false, [], []⟩
def foundC (xs : List Cpy) (q : Int) : Bool := decide (0 ≤ atC xs q)
def copyC (xs : List Cpy) (q : Int) : Cpy := if 0 ≤ atC xs q then xs.getD (atC xs q).toNat default else noCpy
theorem copyC_ok {xs : List Cpy} {q : Int} (hg : cpysG xs) : CpyG (copyC xs q) := by
  unfold copyC
  split
  · rename_i h
    rcases atC_lt xs q with h1 | ⟨_, h1⟩
    · omega
    · exact getD_mem hg.2 _ h1
  · exact ⟨by decide, by decide, by decide, ⟨by decide, fun y hy => by simp [noCpy] at hy⟩, ⟨by decide, fun y hy => by simp [noCpy] at hy⟩⟩
theorem copyC_w (xs : List Cpy) (q : Int) : cpyW (copyC xs q) ≤ cpysW xs := by
  unfold copyC
  split
  · rename_i h
    rcases atC_lt xs q with h1 | ⟨_, h1⟩
    · omega
    · have h2 : xs.getD (atC xs q).toNat default ∈ xs := by
        rw [List.getD_eq_getElem?_getD, List.getElem?_eq_getElem h1]
        exact List.getElem_mem h1
      have h3 := tot_mem cpyW h2
      unfold cpysW
      omega
  · have e : cpyW noCpy = 0 := rfl
    omega
/-- Whether the copy q is there, is valid, and has the field p. -/
def hasC (xs : List Cpy) (q p : Int) : Bool := foundC xs q && ((copyC xs q).v && inB p 0 (((copyC xs q).f.length : Int) - 1))
def readC (xs : List Cpy) (q p : Int) : Vl := if hasC xs q p = true then (copyC xs q).f.getD p.toNat default else ⟨false, 0⟩
def wrOne (y : Cpy) (p : Int) (v : Vl) : Cpy := ⟨y.i, y.c, y.n, y.v, y.f.set p.toNat v, if y.t = [] then y.f else y.t⟩
def writeC (xs : List Cpy) (q p : Int) (v : Vl) : List Cpy := if hasC xs q p = true then xs.set (atC xs q).toNat (wrOne (copyC xs q) p v) else xs
def dirtB (y : Cpy) : Bool := decide (0 < y.t.length)
def dirtyC (xs : List Cpy) : List Int := (xs.filter dirtB).map (·.i)
def clOne (y : Cpy) : Cpy := ⟨y.i, y.c, y.n, y.v, y.f, []⟩
def cleanC (xs : List Cpy) (q : Int) : List Cpy := if 0 ≤ atC xs q then xs.set (atC xs q).toNat (clOne (copyC xs q)) else xs
end Go.Proofs.Ytofnpgheppgcaaa
