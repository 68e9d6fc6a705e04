/-
  A statement whose order is open and that only reads and calls what makes new memory alone: one walk in the order of the text serves every order.
-/
import Derived.Test.YthagfdcfpffaoaaRowv
import Derived.Deep.QuietTactic
import Derived.BigQuiet
namespace Go.Proofs.Ythagfdcfpffaoaa
open Go.RowKit

/-- A world in which all that lay in w lies as it did. -/
structure Lo (w : World) where
  v : World
  b : Below w.heap.size w v

instance (w : World) : Nonempty (Lo w) := ⟨⟨w, Below.refl _ _⟩⟩

theorem Lo.cell {w : World} {a : Addr} {x : Value} (m : Lo w) (h : w.cell? a = some x) : m.v.cell? a = some x :=
  (m.b.cell (World.block_lt_of_cell? w _ h)).trans h

theorem low_same {P : Program} {f : FuncId} {args : Array Value} {w : World} {v : Value} {m : Lo w}
    (h : Calls P f args m.v fun e w' => e = .returned v ∧ w' = m.v) : Calls P f args m.v fun e w'' => e = .returned v ∧ ∃ m' : Lo w, w'' = m'.v :=
  h.mono fun _ _ ⟨he, hm⟩ => ⟨he, m, hm⟩
theorem low_below {P : Program} {f : FuncId} {args : Array Value} {w : World} {v : Value} {m : Lo w}
    (h : Calls P f args m.v fun e w' => e = .returned v ∧ Below m.v.heap.size m.v w') : Calls P f args m.v fun e w'' => e = .returned v ∧ ∃ m' : Lo w, w'' = m'.v :=
  h.mono fun _ w' ⟨he, hb⟩ => ⟨he, ⟨w', m.b.trans (hb.mono m.b.size)⟩, rfl⟩

theorem wp_region_low {P : Program} {id : Nat} {Q : Exit → Act → World → Prop} {a : Act} {w : World} {l : List Oper} (hm : P.follows .mixedOrders = true) (hB : Region.lexB .any l.toArray = true)
    (h : wpQuiet P l.toArray (fun w' => ∃ m : Lo w, w' = m.v) (fun a' => ∀ w', (∃ m : Lo w, w' = m.v) → Q .normal a' w') l a) : (Code.region id l.toArray true).wp P Q a w :=
  wp_region_quiet (C := fun w' => ∃ m : Lo w, w' = m.v) hm hB ⟨⟨{ w with drawn := w.drawn + 1 }, Below.mk (w := w) rfl rfl rfl (Nat.le_refl _) (fun _ _ => rfl)⟩, rfl⟩ (by simpa using h)
end Go.Proofs.Ythagfdcfpffaoaa
