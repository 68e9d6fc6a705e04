/-
  Messages: copied into new memory, held against each other, how great they are.
-/
import Derived.Test.YtoaenoakdbieaaaCellRows
import Derived.Test.YtoaenoakdbieaaaMsgM
namespace Go.Proofs.Ytoaenoakdbieaaa
open Go.RowKit

/-- The seven cells of a variable, stored one behind the other. -/
theorem put7 {w : World} {g : Nat} {T : TypeId} {a0 a1 a2 a3 a4 a5 a6 : Value} (h : w.heap[g]? = some (.cells #[a0, a1, a2, a3, a4, a5, a6] T (0, 0))) (b0 b1 b2 b3 b4 b5 b6 : Value) :
    (((((((w.setCell ⟨g, 0, none⟩ b0).setCell ⟨g, 1, none⟩ b1).setCell ⟨g, 2, none⟩ b2).setCell ⟨g, 3, none⟩ b3).setCell ⟨g, 4, none⟩ b4).setCell ⟨g, 5, none⟩ b5).setCell ⟨g, 6, none⟩ b6).heap[g]? = some (.cells #[b0, b1, b2, b3, b4, b5, b6] T (0, 0)) := by
  have h0 : (w.setCell ⟨g, 0, none⟩ b0).heap[g]? = some (.cells #[b0, a1, a2, a3, a4, a5, a6] T (0, 0)) := heap_setCell_same _ g 0 _ T b0 h
  have h1 : ((w.setCell ⟨g, 0, none⟩ b0).setCell ⟨g, 1, none⟩ b1).heap[g]? = some (.cells #[b0, b1, a2, a3, a4, a5, a6] T (0, 0)) := heap_setCell_same _ g 1 _ T b1 h0
  have h2 : (((w.setCell ⟨g, 0, none⟩ b0).setCell ⟨g, 1, none⟩ b1).setCell ⟨g, 2, none⟩ b2).heap[g]? = some (.cells #[b0, b1, b2, a3, a4, a5, a6] T (0, 0)) := heap_setCell_same _ g 2 _ T b2 h1
  have h3 : ((((w.setCell ⟨g, 0, none⟩ b0).setCell ⟨g, 1, none⟩ b1).setCell ⟨g, 2, none⟩ b2).setCell ⟨g, 3, none⟩ b3).heap[g]? = some (.cells #[b0, b1, b2, b3, a4, a5, a6] T (0, 0)) := heap_setCell_same _ g 3 _ T b3 h2
  have h4 : (((((w.setCell ⟨g, 0, none⟩ b0).setCell ⟨g, 1, none⟩ b1).setCell ⟨g, 2, none⟩ b2).setCell ⟨g, 3, none⟩ b3).setCell ⟨g, 4, none⟩ b4).heap[g]? = some (.cells #[b0, b1, b2, b3, b4, a5, a6] T (0, 0)) := heap_setCell_same _ g 4 _ T b4 h3
  have h5 : ((((((w.setCell ⟨g, 0, none⟩ b0).setCell ⟨g, 1, none⟩ b1).setCell ⟨g, 2, none⟩ b2).setCell ⟨g, 3, none⟩ b3).setCell ⟨g, 4, none⟩ b4).setCell ⟨g, 5, none⟩ b5).heap[g]? = some (.cells #[b0, b1, b2, b3, b4, b5, a6] T (0, 0)) := heap_setCell_same _ g 5 _ T b5 h4
  have h6 : (((((((w.setCell ⟨g, 0, none⟩ b0).setCell ⟨g, 1, none⟩ b1).setCell ⟨g, 2, none⟩ b2).setCell ⟨g, 3, none⟩ b3).setCell ⟨g, 4, none⟩ b4).setCell ⟨g, 5, none⟩ b5).setCell ⟨g, 6, none⟩ b6).heap[g]? = some (.cells #[b0, b1, b2, b3, b4, b5, b6] T (0, 0)) := heap_setCell_same _ g 6 _ T b6 h5
  exact h6
theorem own_put8 {w : World} {base e sz n : Nat} {v : Value} {cs : List Value} (h : w.ownsRow base e sz v n cs) {g1 g2 : Nat} (h1 : g1 < base) (h2 : g2 < base) (x0 x1 x2 x3 x4 x5 x6 x7 : Value) :
    ((((((((w.setCell ⟨g1, 6, none⟩ x0).setCell ⟨g2, 0, none⟩ x1).setCell ⟨g2, 1, none⟩ x2).setCell ⟨g2, 2, none⟩ x3).setCell ⟨g2, 3, none⟩ x4).setCell ⟨g2, 4, none⟩ x5).setCell ⟨g2, 5, none⟩ x6).setCell ⟨g2, 6, none⟩ x7).ownsRow base e sz v n cs := (ownsRow_setCell_below (ownsRow_setCell_below (ownsRow_setCell_below (ownsRow_setCell_below (ownsRow_setCell_below (ownsRow_setCell_below (ownsRow_setCell_below (ownsRow_setCell_below h (a := ⟨g1, 6, none⟩) h1 x0) (a := ⟨g2, 0, none⟩) h2 x1) (a := ⟨g2, 1, none⟩) h2 x2) (a := ⟨g2, 2, none⟩) h2 x3) (a := ⟨g2, 3, none⟩) h2 x4) (a := ⟨g2, 4, none⟩) h2 x5) (a := ⟨g2, 5, none⟩) h2 x6) (a := ⟨g2, 6, none⟩) h2 x7)
theorem below_put8 {B : Nat} {w0 w : World} (h : Below B w0 w) {g1 g2 : Nat} (h1 : B ≤ g1) (h2 : B ≤ g2) (x0 x1 x2 x3 x4 x5 x6 x7 : Value) :
    Below B w0 ((((((((w.setCell ⟨g1, 6, none⟩ x0).setCell ⟨g2, 0, none⟩ x1).setCell ⟨g2, 1, none⟩ x2).setCell ⟨g2, 2, none⟩ x3).setCell ⟨g2, 3, none⟩ x4).setCell ⟨g2, 4, none⟩ x5).setCell ⟨g2, 5, none⟩ x6).setCell ⟨g2, 6, none⟩ x7) := ((((((((h.setCell (p := ⟨g1, 6, none⟩) h1 x0).setCell (p := ⟨g2, 0, none⟩) h2 x1).setCell (p := ⟨g2, 1, none⟩) h2 x2).setCell (p := ⟨g2, 2, none⟩) h2 x3).setCell (p := ⟨g2, 3, none⟩) h2 x4).setCell (p := ⟨g2, 4, none⟩) h2 x5).setCell (p := ⟨g2, 5, none⟩) h2 x6).setCell (p := ⟨g2, 6, none⟩) h2 x7)
theorem load7 {w : World} {g : Nat} {a0 a1 a2 a3 a4 a5 a6 : Value} (h : w.heap[g]? = some (.cells #[a0, a1, a2, a3, a4, a5, a6] 65 (0, 0))) : (loadVar 65 ⟨g, 0, none⟩).run Try.prog w = .ok (.agg #[a0, a1, a2, a3, a4, a5, a6]) w :=
  run_loadVar_row w g 65 65 #[a0, a1, a2, a3, a4, a5, a6] (0, 0) _ h Try.underlying65 rfl (by kernel_rfl)

set_option maxRecDepth 100000 in
set_option maxHeartbeats 4000000 in
theorem toMsg (w : World) (k i u c n : Int) (cv nv : Value) (cs : List (Int × Bool × Int)) (ns : List (Int × Int)) (hc : Rd w w.heap.size 3 cv cs.length (cs.flatMap cellC)) (hn : Rd w w.heap.size 2 nv ns.length (ns.flatMap noteC))
    (hmc : cs.length ≤ 1048576) (hmn : ns.length ≤ 1048576) :
    Calls Try.prog 30 #[msgV k i u c n cv nv] w fun e w' => ∃ v5 v6, e = .returned (msgV k i u c n v5 v6) ∧ OwnC w' w.heap.size v5 cs ∧ OwnN w' w.heap.size v6 ns ∧ Below w.heap.size w w' ∧ (∀ b, v5.ownBlock = some b → ∀ b', v6.ownBlock = some b' → b < b') := by
  have HC := hide hc
  have HN := hide hn
  obtain ⟨a5, cap5, rfl, _⟩ := cells_at hc
  obtain ⟨a6, cap6, rfl, _⟩ := notes_at hn
  clear hc hn
  unfold msgV
  go_enter Try.func30, Try.ntmps30
  go_wp2_with fail
  have G0 := heap_alloc_new w (.cells #[.int .i64 k, .int .i64 i, .int .i64 u, .int .i64 c, .int .i64 n, .slice a5 cs.length cap5, .slice a6 ns.length cap6] 58)
  have G1 := heap_alloc_new (w.alloc (.cells #[.int .i64 k, .int .i64 i, .int .i64 u, .int .i64 c, .int .i64 n, .slice a5 cs.length cap5, .slice a6 ns.length cap6] 58)) (.cells #[.int .i64 0, .int .i64 0, .int .i64 0, .int .i64 0, .int .i64 0, .slice none 0 0, .slice none 0 0] 65)
  have G2 := heap_alloc_new ((w.alloc (.cells #[.int .i64 k, .int .i64 i, .int .i64 u, .int .i64 c, .int .i64 n, .slice a5 cs.length cap5, .slice a6 ns.length cap6] 58)).alloc (.cells #[.int .i64 0, .int .i64 0, .int .i64 0, .int .i64 0, .int .i64 0, .slice none 0 0, .slice none 0 0] 65)) (.cells #[.int .i64 k, .int .i64 i, .int .i64 u, .int .i64 c, .int .i64 n, .slice none 0 0, .slice none 0 0] 65)
  simp only [World.size_alloc] at G1 G2
  refine (toCells _ _ _ (HC.out.at ((((Below.refl _ _).alloc (Nat.le_refl _) _).alloc (by simp) _).alloc (by simp; omega) _)) hmc).mono ?_
  rintro e w1 ⟨v5, rfl, o5, b1⟩
  have HO5 := hide o5
  obtain ⟨a7, c7, rfl, _⟩ := cells_at (o5.rd (Nat.le_refl _))
  have E0 := (b1.block w.heap.size (by simp; omega)).trans ((Below.heap_alloc _ _ _ (by simp; omega)).trans ((Below.heap_alloc _ _ _ (by simp)).trans G0))
  have E1 := (b1.block (w.heap.size + 1) (by simp)).trans ((Below.heap_alloc _ _ _ (by simp)).trans G1)
  have E2 := (b1.block (w.heap.size + 1 + 1) (by simp)).trans G2
  have HB := hide (((((Below.refl w.heap.size w).alloc (Nat.le_refl _) _).alloc (by simp) _).alloc (by simp; omega) _).trans (b1.mono (by simp; omega)))
  have hs1 := b1.size
  simp only [World.size_alloc] at hs1
  clear b1 o5 G0 G1 G2
  have X0 := box_of E0
  have X2 := box_of E2
  have f6 := X0.1 6 _ rfl
  have f25 := X2.1 5 _ rfl
  have z25 := X2.2 5
  have HE := hide (And.intro E1 E2)
  clear X0 X2 E0 E1 E2
  go_wp2_with fail
  clear f6 f25 z25
  replace HB := hide (HB.out.setCell (p := ⟨w.heap.size + 1 + 1, 5, none⟩) (Nat.le_add_right _ 2) (.slice a7 cs.length c7))
  have E2 := heap_setCell_same w1 (w.heap.size + 1 + 1) 5 _ 65 (.slice a7 cs.length c7) HE.out.2
  have E1 := (heap_setCell_other w1 ⟨w.heap.size + 1 + 1, 5, none⟩ (w.heap.size + 1) (.slice a7 cs.length c7) (by simp)).trans HE.out.1
  refine (toNotes _ _ _ (HN.out.at HB.out) hmn).mono ?_
  rintro e w2 ⟨v6, rfl, o6, b2⟩
  have l5 := HO5.out.lt
  have H5 := hide (OwnC.below (ownsRow_setCell_below HO5.out (a := ⟨w.heap.size + 1 + 1, 5, none⟩) (by simp) (.slice a7 cs.length c7)) b2)
  have H6 := hide o6
  obtain ⟨a8, c8, rfl, _⟩ := notes_at (o6.rd (Nat.le_refl _))
  have hlt : Hid (∀ b, (Value.slice a7 cs.length c7).ownBlock = some b → ∀ b', (Value.slice a8 ns.length c8).ownBlock = some b' → b < b') := hide fun b hb b' hb' => Nat.lt_of_lt_of_le (l5 b hb).2 (by have := (o6.lt b' hb').1; simpa using this)
  replace E2 := (b2.block (w.heap.size + 1 + 1) (by simp; omega)).trans E2
  replace E1 := (b2.block (w.heap.size + 1) (by simp; omega)).trans E1
  simp at E2
  have hs2 := b2.size
  simp only [World.size_setCell] at hs2
  replace HB := hide (HB.out.trans (b2.mono HB.out.size))
  have X2 := box_of E2
  have X1 := box_of E1
  have z26 := X2.2 6
  have HX2 := hide X2.1
  have HX1 := hide X1.1
  have zz := X1.2
  have g0 := HX2.out 0 _ rfl
  have g1 := HX2.out 1 _ rfl
  have g2 := HX2.out 2 _ rfl
  have g3 := HX2.out 3 _ rfl
  have g4 := HX2.out 4 _ rfl
  have g5 := HX2.out 5 _ rfl
  have g6 := HX2.out 6 _ rfl
  have r0 := HX1.out 0 _ rfl
  have r1 := HX1.out 1 _ rfl
  have r2 := HX1.out 2 _ rfl
  have r3 := HX1.out 3 _ rfl
  have r4 := HX1.out 4 _ rfl
  have r5 := HX1.out 5 _ rfl
  have r6 := HX1.out 6 _ rfl
  have H1 := hide E1
  clear b2 o6 l5 HO5 X1 X2 E1 E2 HE
  go_wp2
  refine bodyPost_ret (v := .agg #[.int .i64 k, .int .i64 i, .int .i64 u, .int .i64 c, .int .i64 n, .slice a7 cs.length c7, .slice a8 ns.length c8]) (results_one Try.results30 _ _ _ rfl (load7 (put7 ((heap_setCell_other _ _ _ _ (by simp)).trans H1.out) _ _ _ _ _ _ _))) rfl ⟨_, _, rfl, ?_, ?_, ?_, hlt.out⟩
  · exact OwnC.mono (own_put8 (OwnC.mono (b' := w.heap.size + 1 + 1 + 1) H5.out (by simp)) (Nat.lt_succ_self _) (Nat.lt_succ_of_lt (Nat.lt_succ_self _)) _ _ _ _ _ _ _ _) (Nat.le_add_right _ 3)
  · exact OwnN.mono (own_put8 (OwnN.mono (b' := w.heap.size + 1 + 1 + 1) H6.out (by simp; omega)) (Nat.lt_succ_self _) (Nat.lt_succ_of_lt (Nat.lt_succ_self _)) _ _ _ _ _ _ _ _) (Nat.le_add_right _ 3)
  · exact below_put8 HB.out (Nat.le_add_right _ 2) (Nat.le_add_right _ 1) _ _ _ _ _ _ _ _
set_option maxRecDepth 100000 in
set_option maxHeartbeats 4000000 in
theorem eqMsg (w : World) (k i u c n : Int) (cv nv cv' nv' : Value) (cs : List (Int × Bool × Int)) (ns : List (Int × Int)) (hc : Rd w w.heap.size 3 cv cs.length (cs.flatMap cellC)) (hn : Rd w w.heap.size 2 nv ns.length (ns.flatMap noteC))
    (hc' : Rd w w.heap.size 3 cv' cs.length (cs.flatMap cellC)) (hn' : Rd w w.heap.size 2 nv' ns.length (ns.flatMap noteC)) (hmc : cs.length ≤ 1048576) (hmn : ns.length ≤ 1048576) :
    Calls Try.prog 32 #[msgV k i u c n cv nv, msgV k i u c n cv' nv'] w fun e w' => e = .returned (.bool true) ∧ Below w.heap.size w w' := by
  have HC := hide hc
  have HN := hide hn
  have HC' := hide hc'
  have HN' := hide hn'
  obtain ⟨a5, cap5, rfl, _⟩ := cells_at hc
  obtain ⟨a6, cap6, rfl, _⟩ := notes_at hn
  obtain ⟨a7, cap7, rfl, _⟩ := cells_at hc'
  obtain ⟨a8, cap8, rfl, _⟩ := notes_at hn'
  clear hc hn hc' hn'
  have n0 : (k != k) = false := by simp
  have n1 : (i != i) = false := by simp
  have n2 : (u != u) = false := by simp
  have n3 : (c != c) = false := by simp
  have n4 : (n != n) = false := by simp
  unfold msgV
  go_enter Try.func32, Try.ntmps32
  go_wp2_with fail
  have G0 := heap_alloc_new w (.cells #[.int .i64 k, .int .i64 i, .int .i64 u, .int .i64 c, .int .i64 n, .slice a5 cs.length cap5, .slice a6 ns.length cap6] 65)
  have G1 := heap_alloc_new (w.alloc (.cells #[.int .i64 k, .int .i64 i, .int .i64 u, .int .i64 c, .int .i64 n, .slice a5 cs.length cap5, .slice a6 ns.length cap6] 65)) (.cells #[.int .i64 k, .int .i64 i, .int .i64 u, .int .i64 c, .int .i64 n, .slice a7 cs.length cap7, .slice a8 ns.length cap8] 65)
  simp only [World.size_alloc] at G1
  have HB := hide (((Below.refl w.heap.size w).alloc (Nat.le_refl _) (.cells #[.int .i64 k, .int .i64 i, .int .i64 u, .int .i64 c, .int .i64 n, .slice a5 cs.length cap5, .slice a6 ns.length cap6] 65)).alloc (by simp) (.cells #[.int .i64 k, .int .i64 i, .int .i64 u, .int .i64 c, .int .i64 n, .slice a7 cs.length cap7, .slice a8 ns.length cap8] 65))
  refine (eqCells _ _ _ _ _ _ (HC.out.at HB.out) (HC'.out.at HB.out) (Nat.le_refl _) (Nat.le_refl _) hmc).mono ?_
  rintro e w1 ⟨rfl, b1⟩
  have E0 := (b1.block w.heap.size (by simp; omega)).trans ((Below.heap_alloc _ _ _ (by simp)).trans G0)
  have E1 := (b1.block (w.heap.size + 1) (by simp)).trans G1
  replace HB := hide (HB.out.trans (b1.mono HB.out.size))
  clear b1 G0 G1
  have f6 := (box_of E0).1 6 _ rfl
  have g6 := (box_of E1).1 6 _ rfl
  clear E0 E1
  go_wp2_with fail
  refine (eqNotes _ _ _ _ _ _ (HN.out.at HB.out) (HN'.out.at HB.out) (Nat.le_refl _) (Nat.le_refl _) hmn).mono ?_
  rintro e w2 ⟨rfl, b2⟩
  replace HB := hide (HB.out.trans (b2.mono HB.out.size))
  clear b2
  go_wp2
  go_ret
  exact ⟨rfl, HB.out⟩
set_option maxRecDepth 100000 in
theorem szMsg (k i u c n : Int) (a5 a6 : Option Addr) (l5 c5 l6 c6 : Nat) (w : World) (h5 : l5 ≤ maxLen) (h6 : l6 ≤ maxLen) :
    Calls Try.prog 28 #[msgV k i u c n (.slice a5 l5 c5) (.slice a6 l6 c6), .int .i64 1048576] w fun e w' => ∃ r : Int, e = .returned (.int .i64 r) ∧ (0 ≤ r → l5 ≤ 1048576 ∧ l6 ≤ 1048576) ∧ Below w.heap.size w w' := by
  have HZ := hide (szCells a5 l5 c5 1048576 (w.alloc (.cells #[.int .i64 k, .int .i64 i, .int .i64 u, .int .i64 c, .int .i64 n, .slice a5 l5 c5, .slice a6 l6 c6] 58)) (by omega) (by omega) h5)
  unfold msgV
  by_cases hb5 : (1048576 : Int) < (l5 : Int)
  · rw [if_pos hb5] at HZ
    go_enter Try.func28, Try.ntmps28
    go_wp2_with fail
    refine (unhide HZ).mono ?_
    rintro e w1 ⟨rfl, rfl⟩
    go_wp2
    go_ret
    exact ⟨-1, rfl, fun h => by omega, (Below.refl _ _).alloc (Nat.le_refl _) _⟩
  · rw [if_neg hb5] at HZ
    have hl : ¬ (1048576 : Int) - (l5 : Int) < 0 := by omega
    have HY := hide (szNotes a6 l6 c6 (1048576 - l5) (w.alloc (.cells #[.int .i64 k, .int .i64 i, .int .i64 u, .int .i64 c, .int .i64 n, .slice a5 l5 c5, .slice a6 l6 c6] 58)) (by omega) (by omega) h6)
    by_cases hb6 : (1048576 : Int) - l5 < (l6 : Int)
    · rw [if_pos hb6] at HY
      go_enter Try.func28, Try.ntmps28
      go_wp2_with fail
      refine (unhide HZ).mono ?_
      rintro e w1 ⟨rfl, rfl⟩
      go_wp2_with fail
      refine (unhide HY).mono ?_
      rintro e w2 ⟨rfl, rfl⟩
      go_wp2
      go_ret
      exact ⟨-1, rfl, fun h => by omega, (Below.refl _ _).alloc (Nat.le_refl _) _⟩
    · rw [if_neg hb6] at HY
      have hl6 : ¬ (1048576 : Int) - (l5 : Int) - (l6 : Int) < 0 := by omega
      go_enter Try.func28, Try.ntmps28
      go_wp2_with fail
      refine (unhide HZ).mono ?_
      rintro e w1 ⟨rfl, rfl⟩
      go_wp2_with fail
      refine (unhide HY).mono ?_
      rintro e w2 ⟨rfl, rfl⟩
      go_wp2
      go_ret
      exact ⟨_, rfl, fun h => ⟨by omega, by omega⟩, (Below.refl _ _).alloc (Nat.le_refl _) _⟩
end Go.Proofs.Ytoaenoakdbieaaa
