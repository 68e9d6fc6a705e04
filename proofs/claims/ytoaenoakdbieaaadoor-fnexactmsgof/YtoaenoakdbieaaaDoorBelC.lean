/-
  What stands below stays, where a cursor goes on.
-/
import Derived.Test.YtoaenoakdbieaaaDoorBytes
namespace Go.Proofs.YtoaenoakdbieaaaDoor
open Go.RowKit

theorem below_cur {B : Nat} {w w1 w2 : World} {g : Nat} (h : Below B w w1) (hg : w1.grownBy w2 (some g)) (hB : B ≤ g) (hs : B ≤ w1.heap.size) : Below B w w2 := h.grown hg hs (fun q e => by cases e; exact hB)
end Go.Proofs.YtoaenoakdbieaaaDoor
