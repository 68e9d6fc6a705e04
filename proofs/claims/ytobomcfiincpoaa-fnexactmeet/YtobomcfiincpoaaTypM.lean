/-
  Types: what is right, what fits, what is joined.
-/
import Derived.Test.YtobomcfiincpoaaPrgH
import Derived.Test.YtobomcfiincpoaaTypD
namespace Go.Proofs.Ytobomcfiincpoaa
open Go.RowKit

def tyB (ks : List Kd) (t : Ty) : Bool := if t.k = 3 then inB t.c 0 ((ks.length : Int) - 1) else inB t.k 0 2 && (t.c == 0)
def tyOf (ks : List Kd) (s : ByteArray) : Ty := if s.toList = [73] then ⟨1, 0⟩ else if kindX ks s < 0 then ⟨0, 0⟩ else ⟨3, kindX ks s⟩
def tyEq (a b : Ty) : Bool := a.k == b.k && a.c == b.c
def fitR (ks : List Kd) (a b : Ty) : Bool := b.k == 0 || (tyEq a b || (b.k == 3 && (a.k == 2 || (a.k == 3 && subX ks a.c b.c))))
def fitsB (ks : List Kd) (a b : Ty) : Bool := if tyB ks a = true then (if tyB ks b = true then fitR ks a b else false) else false
/-- The nearest class above of which c is a Sub. -/
def joinL (ks : List Kd) (c : Int) : Nat → Int → Ty
  | 0, _ => ⟨0, 0⟩
  | n + 1, k => if inB k 0 ((ks.length : Int) - 1) then (if subX ks c k = true then ⟨3, k⟩ else joinL ks c n (ks.getD k.toNat default).s) else ⟨0, 0⟩
def joinX (ks : List Kd) (a b : Ty) : Ty := if fitsB ks a b = true then b else if fitsB ks b a = true then a else if tyB ks a = true ∧ tyB ks b = true ∧ a.k = 3 ∧ b.k = 3 then joinL ks b.c 6 (ks.getD a.c.toNat default).s else ⟨0, 0⟩
end Go.Proofs.Ytobomcfiincpoaa
