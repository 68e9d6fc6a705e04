/-
  What the laws over programs lean on.
-/
import Derived.Test.YtelpdlhgjepgbaaPrgSz
import Derived.Test.YtelpdlhgjepgbaaPrgTo
import Derived.Test.YtelpdlhgjepgbaaPrgEq
namespace Go.Proofs.Ytelpdlhgjepgbaa
open Go.RowKit

theorem pgD_reads {w : World} {B : Nat} {x : Pg} {u1 : Value} (h : ReadsL w B (pgD x) [u1]) : Reads w B (kins x.k) u1 := by
  obtain ⟨_, _, e, h1, h⟩ := readsL_cons h
  cases e
  exact h1
theorem pgD_own {w : World} {b hi : Nat} {x : Pg} {u1 : Value} (h : OwnDL w b hi (pgD x) [u1]) : Reads w w.heap.size (kins x.k) u1 := pgD_reads (h.rd (Nat.le_refl _))
end Go.Proofs.Ytelpdlhgjepgbaa
