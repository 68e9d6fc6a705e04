/-
  What the laws over classes lean on.
-/
import Derived.Test.YthagfdcfpffaoaaClsEq
import Derived.Test.YthagfdcfpffaoaaClsSz
import Derived.Test.YthagfdcfpffaoaaClsM
namespace Go.Proofs.Ythagfdcfpffaoaa
open Go.RowKit

theorem clG_of {x : Cl} (hr : ClR x) (hw : clW x ≤ 1048576) : ClG x := by
  obtain ⟨_, _, _, _, _, _, _, h9⟩ := hr
  unfold clW at hw
  refine ⟨by omega, by omega, by omega, by omega, by omega, fun y hy => ?_, fun y hy => ?_, fun y hy => ?_⟩
  · have := tot_mem kcW hy
    have e : kcW y = y.a.size + y.b.size := rfl
    omega
  · have := tot_mem fdW hy
    have e : fdW y = y.n.size + y.t.size := rfl
    omega
  · have h1 := tot_mem meW hy
    obtain ⟨_, _, _, _, _, hb, hl⟩ := h9 y hy
    have e : meW y = y.n.size + (y.ps.length + tot ByteArray.size y.ps) + y.r.size + y.c.length := rfl
    exact ⟨by omega, by omega, ⟨by omega, by omega, hb⟩, fun s hs => by have := tot_mem ByteArray.size hs; omega, hl⟩
theorem clD_reads {w : World} {B : Nat} {x : Cl} {a b u1 u2 u3 : Value} (h : ReadsL w B (clD x) [a, b, u1, u2, u3]) : Reads w B (pool x.p) u1 ∧ Reads w B (flds x.f) u2 ∧ Reads w B (mets x.m) u3 := by
  obtain ⟨_, _, e, _, h⟩ := readsL_cons h
  cases e
  obtain ⟨_, _, e, _, h⟩ := readsL_cons h
  cases e
  obtain ⟨_, _, e, h1, h⟩ := readsL_cons h
  cases e
  obtain ⟨_, _, e, h2, h⟩ := readsL_cons h
  cases e
  obtain ⟨_, _, e, h3, h⟩ := readsL_cons h
  cases e
  exact ⟨h1, h2, h3⟩
theorem clD_own {w : World} {b hi : Nat} {x : Cl} {s t u1 u2 u3 : Value} (h : OwnDL w b hi (clD x) [s, t, u1, u2, u3]) : Reads w w.heap.size (pool x.p) u1 ∧ Reads w w.heap.size (flds x.f) u2 ∧ Reads w w.heap.size (mets x.m) u3 := clD_reads (h.rd (Nat.le_refl _))
end Go.Proofs.Ythagfdcfpffaoaa
