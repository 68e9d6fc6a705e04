/-
  Rows of texts, places, consts and fields: their ranges and weights, in one form.
-/
import Derived.Test.YtofnpgheppgcaaaKfSz
import Derived.Test.YtofnpgheppgcaaaInsD
namespace Go.Proofs.Ytofnpgheppgcaaa
open Go.ChangeShapes Go.WideShapes Go.RowKit

def strsR (xs : List ByteArray) : Prop := xs.length ≤ maxLen ∧ ∀ y ∈ xs, y.size ≤ maxLen
def strsW (xs : List ByteArray) : Nat := xs.length + tot ByteArray.size xs
def strsG (xs : List ByteArray) : Prop := xs.length ≤ 1048576 ∧ ∀ y ∈ xs, y.size ≤ 1048576
theorem strsG_of {xs : List ByteArray} (_hr : strsR xs) (hw : strsW xs ≤ 1048576) : strsG xs := by
  unfold strsW at hw
  exact ⟨by omega, fun y hy => by have := tot_mem ByteArray.size hy; omega⟩
def inssR (xs : List Isn) : Prop := xs.length ≤ maxLen ∧ ∀ y ∈ xs, InR y
def inssW (xs : List Isn) : Nat := xs.length
def inssG (xs : List Isn) : Prop := xs.length ≤ 1048576 ∧ ∀ y ∈ xs, InR y
theorem inssG_of {xs : List Isn} (hr : inssR xs) (hw : inssW xs ≤ 1048576) : inssG xs := ⟨hw, hr.2⟩
def poolR (xs : List Kc) : Prop := xs.length ≤ maxLen ∧ ∀ y ∈ xs, KcR y
def poolW (xs : List Kc) : Nat := xs.length + tot kcW xs
def poolG (xs : List Kc) : Prop := xs.length ≤ 1048576 ∧ ∀ y ∈ xs, y.a.size ≤ 1048576 ∧ y.b.size ≤ 1048576
theorem poolG_of {xs : List Kc} (_hr : poolR xs) (hw : poolW xs ≤ 1048576) : poolG xs := by
  unfold poolW at hw
  exact ⟨by omega, fun y hy => by have := tot_mem kcW hy; have e : kcW y = y.a.size + y.b.size := rfl; omega⟩
def fldsR (xs : List Fd) : Prop := xs.length ≤ maxLen ∧ ∀ y ∈ xs, FdR y
def fldsW (xs : List Fd) : Nat := xs.length + tot fdW xs
def fldsG (xs : List Fd) : Prop := xs.length ≤ 1048576 ∧ ∀ y ∈ xs, y.n.size ≤ 1048576 ∧ y.t.size ≤ 1048576
theorem fldsG_of {xs : List Fd} (_hr : fldsR xs) (hw : fldsW xs ≤ 1048576) : fldsG xs := by
  unfold fldsW at hw
  exact ⟨by omega, fun y hy => by have := tot_mem fdW hy; have e : fdW y = y.n.size + y.t.size := rfl; omega⟩
end Go.Proofs.Ytofnpgheppgcaaa
