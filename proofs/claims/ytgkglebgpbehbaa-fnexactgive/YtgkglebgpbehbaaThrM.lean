/-
  Threads: what is right, what is given.
-/
import Derived.Test.YtgkglebgpbehbaaThR
import Derived.Test.YtgkglebgpbehbaaPrgD
import Derived.Test.YtgkglebgpbehbaaValW
import Derived.Test.YtgkglebgpbehbaaListU
namespace Go.Proofs.Ytgkglebgpbehbaa
open Go.RowKit

def vlB (v : Vl) : Bool := vOk v.r v.n
def mthB (ks : List Kd) (k m : Int) : Bool := inB k 0 ((ks.length : Int) - 1) && inB m 0 (((ks.getD k.toNat default).m.length : Int) - 1)
def frB (ks : List Kd) (f : Fr) : Bool :=
  mthB ks f.k f.m && (decide (((ks.getD f.k.toNat default).m.getD f.m.toNat default).o = f.k) && (inB f.p 0 ((((ks.getD f.k.toNat default).m.getD f.m.toNat default).is.length : Int) - 1) &&
    (decide ((f.l.length : Int) = ((ks.getD f.k.toNat default).m.getD f.m.toNat default).l) && (decide (f.s.length ≤ 6) && (f.l.all vlB && f.s.all vlB)))))
def thB (ks : List Kd) (t : Th) : Bool :=
  t.f.all (frB ks) && (inB t.i 1 1000000 && (decide (t.f.length ≤ 8) && ((decide (0 < t.f.length) || !decide (t.s = 0)) && (inB t.s 0 5 && inB t.d 0 15))))
def puts (x : Fr) (v : Vl) : Fr := ⟨x.k, x.m, x.p, x.l, if x.s.length < 6 then x.s ++ [v] else x.s⟩
/-- v on the stack of the last frame. -/
def giveX (t : Th) (v : Vl) : Th := ⟨t.i, if 0 < t.f.length then t.f.set (t.f.length - 1) (puts (t.f.getD (t.f.length - 1) default) v) else t.f, t.s, t.d⟩
end Go.Proofs.Ytgkglebgpbehbaa
