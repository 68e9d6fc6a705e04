/-
  An interval of blocks changed: carried on.
-/
import Derived.Test.YtgkglebgpbehbaaDeepCh
namespace Go.Proofs.Ytgkglebgpbehbaa
open Go.RowKit

theorem ChgI.ofBelow {b hi : Nat} {w Z Z' : World} (h : ChgI b hi w Z) (k : Below Z.heap.size Z Z') : ChgI b hi w Z' :=
  ⟨k.os.trans h.os, k.tape.trans h.tape, k.output.trans h.output, Nat.le_trans h.size k.size, fun q hq hr => (k.block q (Nat.lt_of_lt_of_le hq h.size)).trans (h.block q hq hr)⟩
theorem ChgI.grow {b hi : Nat} {w Z Z' : World} {own : Option Nat} (h : ChgI b hi w Z) (k : Z.grownBy Z' own) (hq : ∀ q, own = some q → b ≤ q ∧ q < hi) : ChgI b hi w Z' :=
  ⟨k.os.trans h.os, k.tape.trans h.tape, k.output.trans h.output, Nat.le_trans h.size k.size, fun q hw hr => (k.block q (Nat.lt_of_lt_of_le hw h.size) (fun e => by have := hq q e.symm; omega)).trans (h.block q hw hr)⟩
theorem ChgI.set {b hi : Nat} {w Z : World} (h : ChgI b hi w Z) (p : Addr) (v : Value) (hg : b ≤ p.block) (hg2 : p.block < hi) : ChgI b hi w (Z.setCell p v) :=
  ⟨h.os, h.tape, h.output, by simpa using h.size, fun q hw hr => (heap_setCell_other _ _ _ _ (by omega)).trans (h.block q hw hr)⟩
theorem ChgI.of {b hi : Nat} {w Z : World} (k : Below w.heap.size w Z) : ChgI b hi w Z := ⟨k.os, k.tape, k.output, k.size, fun q hq _ => k.block q hq⟩
end Go.Proofs.Ytgkglebgpbehbaa
