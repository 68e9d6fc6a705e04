/-
  What the laws over senders lean on: boxes that stay.
-/
import Derived.Test.YtoaenoakdbieaaaSndMark
namespace Go.Proofs.Ytoaenoakdbieaaa
open Go.RowKit

/-- The block g holds just these cells. -/
def Bx (w : World) (g : Nat) (vs : Array Value) (T : TypeId) : Prop := w.heap[g]? = some (.cells vs T (0, 0))
theorem Bx.lt {w : World} {g : Nat} {vs : Array Value} {T : TypeId} (h : Bx w g vs T) : g < w.heap.size := (Array.getElem?_eq_some_iff.1 h).1
theorem Bx.below {w w' : World} {g : Nat} {vs : Array Value} {T : TypeId} (h : Bx w g vs T) (hb : Below w.heap.size w w') : Bx w' g vs T := (hb.block g h.lt).trans h
theorem Bx.out {w w' : World} {g c d : Nat} {vs : Array Value} {T : TypeId} (h : Bx w g vs T) (ho : Out c d w w') (hd : g < c ∨ d ≤ g) : Bx w' g vs T := (ho.block g h.lt hd).trans h
theorem Bx.drewN {w : World} {g : Nat} {vs : Array Value} {T : TypeId} (h : Bx w g vs T) (q : Nat) : Bx (w.drewN q) g vs T := h
theorem Bx.new (w : World) (vs : Array Value) (T : TypeId) : Bx (w.alloc (.cells vs T)) w.heap.size vs T := heap_alloc_new w _
end Go.Proofs.Ytoaenoakdbieaaa
