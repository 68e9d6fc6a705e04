/-
  Messages: copied into new memory, held against each other, how great they are.
-/
import Derived.Test.YtoaenoakdbieaaaDoorCellRows
import Derived.Test.YtoaenoakdbieaaaDoorMsgM
namespace Go.Proofs.YtoaenoakdbieaaaDoor
open Go.RowKit

/-- The seven cells of a variable, stored one behind the other. -/
theorem put7 {w : World} {g : Nat} {T : TypeId} {a0 a1 a2 a3 a4 a5 a6 : Value} (h : w.heap[g]? = some (.cells #[a0, a1, a2, a3, a4, a5, a6] T (0, 0))) (b0 b1 b2 b3 b4 b5 b6 : Value) :
    (((((((w.setCell ⟨g, 0, none⟩ b0).setCell ⟨g, 1, none⟩ b1).setCell ⟨g, 2, none⟩ b2).setCell ⟨g, 3, none⟩ b3).setCell ⟨g, 4, none⟩ b4).setCell ⟨g, 5, none⟩ b5).setCell ⟨g, 6, none⟩ b6).heap[g]? = some (.cells #[b0, b1, b2, b3, b4, b5, b6] T (0, 0)) := by
  have h0 : (w.setCell ⟨g, 0, none⟩ b0).heap[g]? = some (.cells #[b0, a1, a2, a3, a4, a5, a6] T (0, 0)) := heap_setCell_same _ g 0 _ T b0 h
  have h1 : ((w.setCell ⟨g, 0, none⟩ b0).setCell ⟨g, 1, none⟩ b1).heap[g]? = some (.cells #[b0, b1, a2, a3, a4, a5, a6] T (0, 0)) := heap_setCell_same _ g 1 _ T b1 h0
  have h2 : (((w.setCell ⟨g, 0, none⟩ b0).setCell ⟨g, 1, none⟩ b1).setCell ⟨g, 2, none⟩ b2).heap[g]? = some (.cells #[b0, b1, b2, a3, a4, a5, a6] T (0, 0)) := heap_setCell_same _ g 2 _ T b2 h1
  have h3 : ((((w.setCell ⟨g, 0, none⟩ b0).setCell ⟨g, 1, none⟩ b1).setCell ⟨g, 2, none⟩ b2).setCell ⟨g, 3, none⟩ b3).heap[g]? = some (.cells #[b0, b1, b2, b3, a4, a5, a6] T (0, 0)) := heap_setCell_same _ g 3 _ T b3 h2
  have h4 : (((((w.setCell ⟨g, 0, none⟩ b0).setCell ⟨g, 1, none⟩ b1).setCell ⟨g, 2, none⟩ b2).setCell ⟨g, 3, none⟩ b3).setCell ⟨g, 4, none⟩ b4).heap[g]? = some (.cells #[b0, b1, b2, b3, b4, a5, a6] T (0, 0)) := heap_setCell_same _ g 4 _ T b4 h3
  have h5 : ((((((w.setCell ⟨g, 0, none⟩ b0).setCell ⟨g, 1, none⟩ b1).setCell ⟨g, 2, none⟩ b2).setCell ⟨g, 3, none⟩ b3).setCell ⟨g, 4, none⟩ b4).setCell ⟨g, 5, none⟩ b5).heap[g]? = some (.cells #[b0, b1, b2, b3, b4, b5, a6] T (0, 0)) := heap_setCell_same _ g 5 _ T b5 h4
  have h6 : (((((((w.setCell ⟨g, 0, none⟩ b0).setCell ⟨g, 1, none⟩ b1).setCell ⟨g, 2, none⟩ b2).setCell ⟨g, 3, none⟩ b3).setCell ⟨g, 4, none⟩ b4).setCell ⟨g, 5, none⟩ b5).setCell ⟨g, 6, none⟩ b6).heap[g]? = some (.cells #[b0, b1, b2, b3, b4, b5, b6] T (0, 0)) := heap_setCell_same _ g 6 _ T b6 h5
  exact h6
theorem own_put8 {w : World} {base e sz n : Nat} {v : Value} {cs : List Value} (h : w.ownsRow base e sz v n cs) {g1 g2 : Nat} (h1 : g1 < base) (h2 : g2 < base) (x0 x1 x2 x3 x4 x5 x6 x7 : Value) :
    ((((((((w.setCell ⟨g1, 6, none⟩ x0).setCell ⟨g2, 0, none⟩ x1).setCell ⟨g2, 1, none⟩ x2).setCell ⟨g2, 2, none⟩ x3).setCell ⟨g2, 3, none⟩ x4).setCell ⟨g2, 4, none⟩ x5).setCell ⟨g2, 5, none⟩ x6).setCell ⟨g2, 6, none⟩ x7).ownsRow base e sz v n cs := (ownsRow_setCell_below (ownsRow_setCell_below (ownsRow_setCell_below (ownsRow_setCell_below (ownsRow_setCell_below (ownsRow_setCell_below (ownsRow_setCell_below (ownsRow_setCell_below h (a := ⟨g1, 6, none⟩) h1 x0) (a := ⟨g2, 0, none⟩) h2 x1) (a := ⟨g2, 1, none⟩) h2 x2) (a := ⟨g2, 2, none⟩) h2 x3) (a := ⟨g2, 3, none⟩) h2 x4) (a := ⟨g2, 4, none⟩) h2 x5) (a := ⟨g2, 5, none⟩) h2 x6) (a := ⟨g2, 6, none⟩) h2 x7)
theorem below_put8 {B : Nat} {w0 w : World} (h : Below B w0 w) {g1 g2 : Nat} (h1 : B ≤ g1) (h2 : B ≤ g2) (x0 x1 x2 x3 x4 x5 x6 x7 : Value) :
    Below B w0 ((((((((w.setCell ⟨g1, 6, none⟩ x0).setCell ⟨g2, 0, none⟩ x1).setCell ⟨g2, 1, none⟩ x2).setCell ⟨g2, 2, none⟩ x3).setCell ⟨g2, 3, none⟩ x4).setCell ⟨g2, 4, none⟩ x5).setCell ⟨g2, 5, none⟩ x6).setCell ⟨g2, 6, none⟩ x7) := ((((((((h.setCell (p := ⟨g1, 6, none⟩) h1 x0).setCell (p := ⟨g2, 0, none⟩) h2 x1).setCell (p := ⟨g2, 1, none⟩) h2 x2).setCell (p := ⟨g2, 2, none⟩) h2 x3).setCell (p := ⟨g2, 3, none⟩) h2 x4).setCell (p := ⟨g2, 4, none⟩) h2 x5).setCell (p := ⟨g2, 5, none⟩) h2 x6).setCell (p := ⟨g2, 6, none⟩) h2 x7)
theorem load7 {w : World} {g : Nat} {a0 a1 a2 a3 a4 a5 a6 : Value} (h : w.heap[g]? = some (.cells #[a0, a1, a2, a3, a4, a5, a6] 27 (0, 0))) : (loadVar 27 ⟨g, 0, none⟩).run Tryd.prog w = .ok (.agg #[a0, a1, a2, a3, a4, a5, a6]) w :=
  run_loadVar_row w g 27 27 #[a0, a1, a2, a3, a4, a5, a6] (0, 0) _ h Tryd.underlying27 rfl (by kernel_rfl)

set_option maxRecDepth 100000 in
set_option maxHeartbeats 4000000 in
theorem eqMsg (w : World) (k i u c n : Int) (cv nv cv' nv' : Value) (cs : List (Int × Bool × Int)) (ns : List (Int × Int)) (hc : Rd w w.heap.size 3 cv cs.length (cs.flatMap cellC)) (hn : Rd w w.heap.size 2 nv ns.length (ns.flatMap noteC))
    (hc' : Rd w w.heap.size 3 cv' cs.length (cs.flatMap cellC)) (hn' : Rd w w.heap.size 2 nv' ns.length (ns.flatMap noteC)) (hmc : cs.length ≤ 1048576) (hmn : ns.length ≤ 1048576) :
    Calls Tryd.prog 40 #[msgV k i u c n cv nv, msgV k i u c n cv' nv'] w fun e w' => e = .returned (.bool true) ∧ Below w.heap.size w w' := by
  have HC := hide hc
  have HN := hide hn
  have HC' := hide hc'
  have HN' := hide hn'
  obtain ⟨a5, cap5, rfl, _⟩ := cells_at hc
  obtain ⟨a6, cap6, rfl, _⟩ := notes_at hn
  obtain ⟨a7, cap7, rfl, _⟩ := cells_at hc'
  obtain ⟨a8, cap8, rfl, _⟩ := notes_at hn'
  clear hc hn hc' hn'
  have n0 : (k != k) = false := by simp
  have n1 : (i != i) = false := by simp
  have n2 : (u != u) = false := by simp
  have n3 : (c != c) = false := by simp
  have n4 : (n != n) = false := by simp
  unfold msgV
  go_enter Tryd.func40, Tryd.ntmps40
  go_wp2_with fail
  have G0 := heap_alloc_new w (.cells #[.int .i64 k, .int .i64 i, .int .i64 u, .int .i64 c, .int .i64 n, .slice a5 cs.length cap5, .slice a6 ns.length cap6] 27)
  have G1 := heap_alloc_new (w.alloc (.cells #[.int .i64 k, .int .i64 i, .int .i64 u, .int .i64 c, .int .i64 n, .slice a5 cs.length cap5, .slice a6 ns.length cap6] 27)) (.cells #[.int .i64 k, .int .i64 i, .int .i64 u, .int .i64 c, .int .i64 n, .slice a7 cs.length cap7, .slice a8 ns.length cap8] 27)
  simp only [World.size_alloc] at G1
  have HB := hide (((Below.refl w.heap.size w).alloc (Nat.le_refl _) (.cells #[.int .i64 k, .int .i64 i, .int .i64 u, .int .i64 c, .int .i64 n, .slice a5 cs.length cap5, .slice a6 ns.length cap6] 27)).alloc (by simp) (.cells #[.int .i64 k, .int .i64 i, .int .i64 u, .int .i64 c, .int .i64 n, .slice a7 cs.length cap7, .slice a8 ns.length cap8] 27))
  refine (eqCells _ _ _ _ _ _ (HC.out.at HB.out) (HC'.out.at HB.out) (Nat.le_refl _) (Nat.le_refl _) hmc).mono ?_
  rintro e w1 ⟨rfl, b1⟩
  have E0 := (b1.block w.heap.size (by simp; omega)).trans ((Below.heap_alloc _ _ _ (by simp)).trans G0)
  have E1 := (b1.block (w.heap.size + 1) (by simp)).trans G1
  replace HB := hide (HB.out.trans (b1.mono HB.out.size))
  clear b1 G0 G1
  have f6 := (box_of E0).1 6 _ rfl
  have g6 := (box_of E1).1 6 _ rfl
  clear E0 E1
  go_wp2_with fail
  refine (eqNotes _ _ _ _ _ _ (HN.out.at HB.out) (HN'.out.at HB.out) (Nat.le_refl _) (Nat.le_refl _) hmn).mono ?_
  rintro e w2 ⟨rfl, b2⟩
  replace HB := hide (HB.out.trans (b2.mono HB.out.size))
  clear b2
  go_wp2
  go_ret
  exact ⟨rfl, HB.out⟩
end Go.Proofs.YtoaenoakdbieaaaDoor
