/-
  Rows of texts, places, consts and fields copied, in one form.
-/
import Derived.Test.YtobomcfiincpoaaRecD
import Derived.Test.YtobomcfiincpoaaKfTo
import Derived.Test.YtobomcfiincpoaaInsTo
namespace Go.Proofs.Ytobomcfiincpoaa
open Go.ChangeShapes Go.WideShapes Go.RowKit

theorem putN1 {w : World} {g : Nat} {T : TypeId} {a0 : Value} (h : w.heap[g]? = some (.cells #[a0] T (0, 0))) (b0 : Value) :
    (w.setCell ⟨g, 0, none⟩ b0).heap[g]? = some (.cells #[b0] T (0, 0)) := by
  exact heap_setCell_same _ g 0 _ T b0 h
theorem putN3 {w : World} {g : Nat} {T : TypeId} {a0 a1 a2 : Value} (h : w.heap[g]? = some (.cells #[a0, a1, a2] T (0, 0))) (b0 b1 b2 : Value) :
    (((w.setCell ⟨g, 0, none⟩ b0).setCell ⟨g, 1, none⟩ b1).setCell ⟨g, 2, none⟩ b2).heap[g]? = some (.cells #[b0, b1, b2] T (0, 0)) := by
  have h0 : (w.setCell ⟨g, 0, none⟩ b0).heap[g]? = some (.cells #[b0, a1, a2] T (0, 0)) := heap_setCell_same _ g 0 _ T b0 h
  have h1 : ((w.setCell ⟨g, 0, none⟩ b0).setCell ⟨g, 1, none⟩ b1).heap[g]? = some (.cells #[b0, b1, a2] T (0, 0)) := heap_setCell_same _ g 1 _ T b1 h0
  exact heap_setCell_same _ g 2 _ T b2 h1
theorem putN6 {w : World} {g : Nat} {T : TypeId} {a0 a1 a2 a3 a4 a5 : Value} (h : w.heap[g]? = some (.cells #[a0, a1, a2, a3, a4, a5] T (0, 0))) (b0 b1 b2 b3 b4 b5 : Value) :
    ((((((w.setCell ⟨g, 0, none⟩ b0).setCell ⟨g, 1, none⟩ b1).setCell ⟨g, 2, none⟩ b2).setCell ⟨g, 3, none⟩ b3).setCell ⟨g, 4, none⟩ b4).setCell ⟨g, 5, none⟩ b5).heap[g]? = some (.cells #[b0, b1, b2, b3, b4, b5] T (0, 0)) := by
  have h0 : (w.setCell ⟨g, 0, none⟩ b0).heap[g]? = some (.cells #[b0, a1, a2, a3, a4, a5] T (0, 0)) := heap_setCell_same _ g 0 _ T b0 h
  have h1 : ((w.setCell ⟨g, 0, none⟩ b0).setCell ⟨g, 1, none⟩ b1).heap[g]? = some (.cells #[b0, b1, a2, a3, a4, a5] T (0, 0)) := heap_setCell_same _ g 1 _ T b1 h0
  have h2 : (((w.setCell ⟨g, 0, none⟩ b0).setCell ⟨g, 1, none⟩ b1).setCell ⟨g, 2, none⟩ b2).heap[g]? = some (.cells #[b0, b1, b2, a3, a4, a5] T (0, 0)) := heap_setCell_same _ g 2 _ T b2 h1
  have h3 : ((((w.setCell ⟨g, 0, none⟩ b0).setCell ⟨g, 1, none⟩ b1).setCell ⟨g, 2, none⟩ b2).setCell ⟨g, 3, none⟩ b3).heap[g]? = some (.cells #[b0, b1, b2, b3, a4, a5] T (0, 0)) := heap_setCell_same _ g 3 _ T b3 h2
  have h4 : (((((w.setCell ⟨g, 0, none⟩ b0).setCell ⟨g, 1, none⟩ b1).setCell ⟨g, 2, none⟩ b2).setCell ⟨g, 3, none⟩ b3).setCell ⟨g, 4, none⟩ b4).heap[g]? = some (.cells #[b0, b1, b2, b3, b4, a5] T (0, 0)) := heap_setCell_same _ g 4 _ T b4 h3
  exact heap_setCell_same _ g 5 _ T b5 h4
theorem toStrsR (w : World) (v : Value) (xs : List ByteArray) (h : Reads w w.heap.size (strs xs) v) (hg : strsG xs) :
    Calls Try.prog 76 #[v] w fun e w' => ∃ v', e = .returned v' ∧ OwnD w' w.heap.size w'.heap.size (strs xs) v' ∧ Below w.heap.size w w' := toStrs w v xs h hg.1
theorem toInssR (w : World) (v : Value) (xs : List Isn) (h : Reads w w.heap.size (inss xs) v) (hg : inssG xs) :
    Calls Try.prog 77 #[v] w fun e w' => ∃ v', e = .returned v' ∧ OwnD w' w.heap.size w'.heap.size (inss xs) v' ∧ Below w.heap.size w w' := toIns w v xs h hg.1
theorem toPoolR (w : World) (v : Value) (xs : List Kc) (h : Reads w w.heap.size (pool xs) v) (hg : poolG xs) :
    Calls Try.prog 51 #[v] w fun e w' => ∃ v', e = .returned v' ∧ OwnD w' w.heap.size w'.heap.size (pool xs) v' ∧ Below w.heap.size w w' := toKcs w v xs h hg.1
theorem toFldsR (w : World) (v : Value) (xs : List Fd) (h : Reads w w.heap.size (flds xs) v) (hg : fldsG xs) :
    Calls Try.prog 52 #[v] w fun e w' => ∃ v', e = .returned v' ∧ OwnD w' w.heap.size w'.heap.size (flds xs) v' ∧ Below w.heap.size w w' := toFds w v xs h hg.1
end Go.Proofs.Ytobomcfiincpoaa
