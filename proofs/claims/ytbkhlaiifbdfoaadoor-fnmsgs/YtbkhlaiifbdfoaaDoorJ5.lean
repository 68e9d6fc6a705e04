/-
  Joined: MsgM, MsgRows, CellB, MsgBI, RMath, RMsg, Marks, TakeC, TakeD.
-/
import Derived.Test.YtbkhlaiifbdfoaaDoorJ4
import Derived.Test.YtbkhlaiifbdfoaaDoorJ3
import Derived.Test.YtbkhlaiifbdfoaaDoorJ2
/-
  MsgOk says what its model says.
-/
namespace Go.Proofs.YtbkhlaiifbdfoaaDoor
open Go.RowKit

theorem cOk_nil {cs : List (Int × Bool × Int)} (h : ((cs.length : Int) == 0) = true) : cOk cs = true := by
  have : cs = [] := List.eq_nil_of_length_eq_zero (by simpa using h)
  subst this; rfl
theorem nOk_nil {ns : List (Int × Int)} (h : ((ns.length : Int) == 0) = true) : nOk ns = true := by
  have : ns = [] := List.eq_nil_of_length_eq_zero (by simpa using h)
  subst this; rfl
theorem in_zero (c b : Int) (hb : 0 ≤ b) : (inB c 0 b || c == 0) = inB c 0 b := by
  by_cases h : c = 0
  · subst h; rw [inB_mk (by omega) hb]; rfl
  · rw [show (c == 0) = false from by simpa using h, Bool.or_false]

theorem bool1 (a b c d e f g h : Bool) (h1 : g = true → b = true) (h2 : h = true → c = true) : (true && a && b && c && (d && e && f && (false || g) && (false || h))) = (a && true && (d && e && f && g && h)) := by
  revert h1 h2; revert a b c d e f g h; decide
theorem bool2 (a b c d e f g h : Bool) (h2 : h = true → c = true) : (true && a && b && c && (d && e && f && (true || g) && (false || h))) = (a && (e && f && b) && (d && true && true && true && h)) := by
  revert h2; revert a b c d e f g h; decide
theorem bool3 (a b c d e f g h : Bool) (h2 : h = true → c = true) : (true && a && b && c && (d && e && f && (true || g) && (false || h))) = (a && b && (d && e && f && true && h)) := by
  revert h2; revert a b c d e f g h; decide
theorem bool4 (a b c d e f g h : Bool) (h1 : g = true → b = true) (h2 : h = true → c = true) : (true && a && b && c && (d && e && f && (false || g) && (false || h))) = (a && f && (d && e && true && g && h)) := by
  revert h1 h2; revert a b c d e f g h; decide
theorem bool5 (a b c d e f g h : Bool) (h1 : g = true → b = true) (h2 : h = true → c = true) : (true && a && b && c && (d && e && f && (false || g) && (false || h))) = (a && d && (true && e && f && g && h)) := by
  revert h1 h2; revert a b c d e f g h; decide
theorem bool6 (a b c d e f g h : Bool) (h1 : g = true → b = true) : (true && a && b && c && (d && e && f && (false || g) && (true || h))) = (a && (d && c) && (true && e && f && g && true)) := by
  revert h1; revert a b c d e f g h; decide

theorem mOk_spec (k i u c n : Int) (cs : List (Int × Bool × Int)) (ns : List (Int × Int)) : mSpec k i u c n cs ns = mOk k i u c n cs ns := by
  have h1 := @cOk_nil cs
  have h2 := @nOk_nil ns
  have e255 := in_zero c 255 (by omega)
  have eMax := in_zero n 16777215 (by omega)
  have e0 : ∀ x : Int, (x == x) = true := fun x => by simp
  cases hk : inB k 1 10 with
  | false =>
    unfold mSpec mOk
    rw [hk, pOk_none (inB_no hk)]
    simp
  | true =>
    unfold mSpec
    rw [hk]
    rcases kinds hk with rfl | rfl | rfl | rfl | rfl | rfl | rfl | rfl | rfl | rfl
    · exact bool1 _ _ _ _ _ _ _ _ h1 h2
    · show (true && inB i 1 1000000 && cOk cs && nOk ns && ((u == 0) && (inB c 0 255 || c == 0) && (inB n 0 16777215 || n == 0) && (true || _) && (false || _))) = (inB i 1 1000000 && (inB c 0 255 && inB n 0 16777215 && cOk cs) && ((u == 0) && (c == c) && (n == n) && ((cs.length : Int) == (cs.length : Int)) && ((ns.length : Int) == 0)))
      rw [e255, eMax, e0, e0, e0]
      exact bool2 _ _ _ _ _ _ _ _ h2
    · show _ = (inB i 1 1000000 && cOk cs && ((u == 0) && (c == 0) && (n == 0) && ((cs.length : Int) == (cs.length : Int)) && ((ns.length : Int) == 0)))
      rw [e0]
      exact bool3 _ _ _ _ _ _ _ _ h2
    · show (true && inB i 1 1000000 && cOk cs && nOk ns && ((u == 0) && (c == 0) && (inB n 0 16777215 || n == 0) && (false || _) && (false || _))) = (inB i 1 1000000 && inB n 0 16777215 && ((u == 0) && (c == 0) && (n == n) && ((cs.length : Int) == 0) && ((ns.length : Int) == 0)))
      rw [eMax, e0]
      exact bool4 _ _ _ _ _ _ _ _ h1 h2
    · show _ = (inB i 1 1000000 && inB u 1 1000000 && ((u == u) && (c == 0) && (n == 0) && ((cs.length : Int) == 0) && ((ns.length : Int) == 0)))
      rw [e0]
      exact bool5 _ _ _ _ _ _ _ _ h1 h2
    · show _ = (inB i 1 1000000 && (inB u 1 1000000 && nOk ns) && ((u == u) && (c == 0) && (n == 0) && ((cs.length : Int) == 0) && ((ns.length : Int) == (ns.length : Int))))
      rw [e0, e0]
      exact bool6 _ _ _ _ _ _ _ _ h1
    · show _ = (inB i 1 1000000 && (inB u 1 1000000 && nOk ns) && ((u == u) && (c == 0) && (n == 0) && ((cs.length : Int) == 0) && ((ns.length : Int) == (ns.length : Int))))
      rw [e0, e0]
      exact bool6 _ _ _ _ _ _ _ _ h1
    · show _ = (inB i 1 1000000 && (inB u 1 1000000 && nOk ns) && ((u == u) && (c == 0) && (n == 0) && ((cs.length : Int) == 0) && ((ns.length : Int) == (ns.length : Int))))
      rw [e0, e0]
      exact bool6 _ _ _ _ _ _ _ _ h1
    · show _ = (inB i 1 1000000 && inB u 1 1000000 && ((u == u) && (c == 0) && (n == 0) && ((cs.length : Int) == 0) && ((ns.length : Int) == 0)))
      rw [e0]
      exact bool5 _ _ _ _ _ _ _ _ h1 h2
    · show _ = (inB i 1 1000000 && (inB u 1 1000000 && nOk ns) && ((u == u) && (c == 0) && (n == 0) && ((cs.length : Int) == 0) && ((ns.length : Int) == (ns.length : Int))))
      rw [e0, e0]
      exact bool6 _ _ _ _ _ _ _ _ h1
end Go.Proofs.YtbkhlaiifbdfoaaDoor
/-
  Messages: copied into new memory, held against each other, how great they are.
-/
namespace Go.Proofs.YtbkhlaiifbdfoaaDoor
open Go.RowKit

/-- The seven cells of a variable, stored one behind the other. -/
theorem put7 {w : World} {g : Nat} {T : TypeId} {a0 a1 a2 a3 a4 a5 a6 : Value} (h : w.heap[g]? = some (.cells #[a0, a1, a2, a3, a4, a5, a6] T (0, 0))) (b0 b1 b2 b3 b4 b5 b6 : Value) :
    (((((((w.setCell ⟨g, 0, none⟩ b0).setCell ⟨g, 1, none⟩ b1).setCell ⟨g, 2, none⟩ b2).setCell ⟨g, 3, none⟩ b3).setCell ⟨g, 4, none⟩ b4).setCell ⟨g, 5, none⟩ b5).setCell ⟨g, 6, none⟩ b6).heap[g]? = some (.cells #[b0, b1, b2, b3, b4, b5, b6] T (0, 0)) := by
  have h0 : (w.setCell ⟨g, 0, none⟩ b0).heap[g]? = some (.cells #[b0, a1, a2, a3, a4, a5, a6] T (0, 0)) := heap_setCell_same _ g 0 _ T b0 h
  have h1 : ((w.setCell ⟨g, 0, none⟩ b0).setCell ⟨g, 1, none⟩ b1).heap[g]? = some (.cells #[b0, b1, a2, a3, a4, a5, a6] T (0, 0)) := heap_setCell_same _ g 1 _ T b1 h0
  have h2 : (((w.setCell ⟨g, 0, none⟩ b0).setCell ⟨g, 1, none⟩ b1).setCell ⟨g, 2, none⟩ b2).heap[g]? = some (.cells #[b0, b1, b2, a3, a4, a5, a6] T (0, 0)) := heap_setCell_same _ g 2 _ T b2 h1
  have h3 : ((((w.setCell ⟨g, 0, none⟩ b0).setCell ⟨g, 1, none⟩ b1).setCell ⟨g, 2, none⟩ b2).setCell ⟨g, 3, none⟩ b3).heap[g]? = some (.cells #[b0, b1, b2, b3, a4, a5, a6] T (0, 0)) := heap_setCell_same _ g 3 _ T b3 h2
  have h4 : (((((w.setCell ⟨g, 0, none⟩ b0).setCell ⟨g, 1, none⟩ b1).setCell ⟨g, 2, none⟩ b2).setCell ⟨g, 3, none⟩ b3).setCell ⟨g, 4, none⟩ b4).heap[g]? = some (.cells #[b0, b1, b2, b3, b4, a5, a6] T (0, 0)) := heap_setCell_same _ g 4 _ T b4 h3
  have h5 : ((((((w.setCell ⟨g, 0, none⟩ b0).setCell ⟨g, 1, none⟩ b1).setCell ⟨g, 2, none⟩ b2).setCell ⟨g, 3, none⟩ b3).setCell ⟨g, 4, none⟩ b4).setCell ⟨g, 5, none⟩ b5).heap[g]? = some (.cells #[b0, b1, b2, b3, b4, b5, a6] T (0, 0)) := heap_setCell_same _ g 5 _ T b5 h4
  have h6 : (((((((w.setCell ⟨g, 0, none⟩ b0).setCell ⟨g, 1, none⟩ b1).setCell ⟨g, 2, none⟩ b2).setCell ⟨g, 3, none⟩ b3).setCell ⟨g, 4, none⟩ b4).setCell ⟨g, 5, none⟩ b5).setCell ⟨g, 6, none⟩ b6).heap[g]? = some (.cells #[b0, b1, b2, b3, b4, b5, b6] T (0, 0)) := heap_setCell_same _ g 6 _ T b6 h5
  exact h6
theorem own_put8 {w : World} {base e sz n : Nat} {v : Value} {cs : List Value} (h : w.ownsRow base e sz v n cs) {g1 g2 : Nat} (h1 : g1 < base) (h2 : g2 < base) (x0 x1 x2 x3 x4 x5 x6 x7 : Value) :
    ((((((((w.setCell ⟨g1, 6, none⟩ x0).setCell ⟨g2, 0, none⟩ x1).setCell ⟨g2, 1, none⟩ x2).setCell ⟨g2, 2, none⟩ x3).setCell ⟨g2, 3, none⟩ x4).setCell ⟨g2, 4, none⟩ x5).setCell ⟨g2, 5, none⟩ x6).setCell ⟨g2, 6, none⟩ x7).ownsRow base e sz v n cs := (ownsRow_setCell_below (ownsRow_setCell_below (ownsRow_setCell_below (ownsRow_setCell_below (ownsRow_setCell_below (ownsRow_setCell_below (ownsRow_setCell_below (ownsRow_setCell_below h (a := ⟨g1, 6, none⟩) h1 x0) (a := ⟨g2, 0, none⟩) h2 x1) (a := ⟨g2, 1, none⟩) h2 x2) (a := ⟨g2, 2, none⟩) h2 x3) (a := ⟨g2, 3, none⟩) h2 x4) (a := ⟨g2, 4, none⟩) h2 x5) (a := ⟨g2, 5, none⟩) h2 x6) (a := ⟨g2, 6, none⟩) h2 x7)
theorem below_put8 {B : Nat} {w0 w : World} (h : Below B w0 w) {g1 g2 : Nat} (h1 : B ≤ g1) (h2 : B ≤ g2) (x0 x1 x2 x3 x4 x5 x6 x7 : Value) :
    Below B w0 ((((((((w.setCell ⟨g1, 6, none⟩ x0).setCell ⟨g2, 0, none⟩ x1).setCell ⟨g2, 1, none⟩ x2).setCell ⟨g2, 2, none⟩ x3).setCell ⟨g2, 3, none⟩ x4).setCell ⟨g2, 4, none⟩ x5).setCell ⟨g2, 5, none⟩ x6).setCell ⟨g2, 6, none⟩ x7) := ((((((((h.setCell (p := ⟨g1, 6, none⟩) h1 x0).setCell (p := ⟨g2, 0, none⟩) h2 x1).setCell (p := ⟨g2, 1, none⟩) h2 x2).setCell (p := ⟨g2, 2, none⟩) h2 x3).setCell (p := ⟨g2, 3, none⟩) h2 x4).setCell (p := ⟨g2, 4, none⟩) h2 x5).setCell (p := ⟨g2, 5, none⟩) h2 x6).setCell (p := ⟨g2, 6, none⟩) h2 x7)
theorem load7 {w : World} {g : Nat} {a0 a1 a2 a3 a4 a5 a6 : Value} (h : w.heap[g]? = some (.cells #[a0, a1, a2, a3, a4, a5, a6] 27 (0, 0))) : (loadVar 27 ⟨g, 0, none⟩).run Tryd.prog w = .ok (.agg #[a0, a1, a2, a3, a4, a5, a6]) w :=
  run_loadVar_row w g 27 27 #[a0, a1, a2, a3, a4, a5, a6] (0, 0) _ h Tryd.underlying27 rfl (by kernel_rfl)

set_option maxRecDepth 100000 in
set_option maxHeartbeats 4000000 in
theorem eqMsg (w : World) (k i u c n : Int) (cv nv cv' nv' : Value) (cs : List (Int × Bool × Int)) (ns : List (Int × Int)) (hc : Rd w w.heap.size 3 cv cs.length (cs.flatMap cellC)) (hn : Rd w w.heap.size 2 nv ns.length (ns.flatMap noteC))
    (hc' : Rd w w.heap.size 3 cv' cs.length (cs.flatMap cellC)) (hn' : Rd w w.heap.size 2 nv' ns.length (ns.flatMap noteC)) (hmc : cs.length ≤ 1048576) (hmn : ns.length ≤ 1048576) :
    Calls Tryd.prog 23 #[msgV k i u c n cv nv, msgV k i u c n cv' nv'] w fun e w' => e = .returned (.bool true) ∧ Below w.heap.size w w' := by
  have HC := hide hc
  have HN := hide hn
  have HC' := hide hc'
  have HN' := hide hn'
  obtain ⟨a5, cap5, rfl, _⟩ := cells_at hc
  obtain ⟨a6, cap6, rfl, _⟩ := notes_at hn
  obtain ⟨a7, cap7, rfl, _⟩ := cells_at hc'
  obtain ⟨a8, cap8, rfl, _⟩ := notes_at hn'
  clear hc hn hc' hn'
  have n0 : (k != k) = false := by simp
  have n1 : (i != i) = false := by simp
  have n2 : (u != u) = false := by simp
  have n3 : (c != c) = false := by simp
  have n4 : (n != n) = false := by simp
  unfold msgV
  go_enter Tryd.func23, Tryd.ntmps23
  go_wp2_with fail
  have G0 := heap_alloc_new w (.cells #[.int .i64 k, .int .i64 i, .int .i64 u, .int .i64 c, .int .i64 n, .slice a5 cs.length cap5, .slice a6 ns.length cap6] 27)
  have G1 := heap_alloc_new (w.alloc (.cells #[.int .i64 k, .int .i64 i, .int .i64 u, .int .i64 c, .int .i64 n, .slice a5 cs.length cap5, .slice a6 ns.length cap6] 27)) (.cells #[.int .i64 k, .int .i64 i, .int .i64 u, .int .i64 c, .int .i64 n, .slice a7 cs.length cap7, .slice a8 ns.length cap8] 27)
  simp only [World.size_alloc] at G1
  have HB := hide (((Below.refl w.heap.size w).alloc (Nat.le_refl _) (.cells #[.int .i64 k, .int .i64 i, .int .i64 u, .int .i64 c, .int .i64 n, .slice a5 cs.length cap5, .slice a6 ns.length cap6] 27)).alloc (by simp) (.cells #[.int .i64 k, .int .i64 i, .int .i64 u, .int .i64 c, .int .i64 n, .slice a7 cs.length cap7, .slice a8 ns.length cap8] 27))
  refine (eqCells _ _ _ _ _ _ (HC.out.at HB.out) (HC'.out.at HB.out) (Nat.le_refl _) (Nat.le_refl _) hmc).mono ?_
  rintro e w1 ⟨rfl, b1⟩
  have E0 := (b1.block w.heap.size (by simp; omega)).trans ((Below.heap_alloc _ _ _ (by simp)).trans G0)
  have E1 := (b1.block (w.heap.size + 1) (by simp)).trans G1
  replace HB := hide (HB.out.trans (b1.mono HB.out.size))
  clear b1 G0 G1
  have f6 := (box_of E0).1 6 _ rfl
  have g6 := (box_of E1).1 6 _ rfl
  clear E0 E1
  go_wp2_with fail
  refine (eqNotes _ _ _ _ _ _ (HN.out.at HB.out) (HN'.out.at HB.out) (Nat.le_refl _) (Nat.le_refl _) hmn).mono ?_
  rintro e w2 ⟨rfl, b2⟩
  replace HB := hide (HB.out.trans (b2.mono HB.out.size))
  clear b2
  go_wp2
  go_ret
  exact ⟨rfl, HB.out⟩
end Go.Proofs.YtbkhlaiifbdfoaaDoor
/-
  What cellBytes does.
-/
namespace Go.Proofs.YtbkhlaiifbdfoaaDoor
open Go.RowKit

theorem cellB_yes (x y : Int) : cellB (x, true, y) = pn x ++ pn 1 ++ pn y := rfl
theorem cellB_no (x y : Int) : cellB (x, false, y) = pn x ++ pn 0 ++ pw y := rfl

set_option maxRecDepth 100000 in
set_option maxHeartbeats 1000000 in
theorem cellBytesTrue (x y : Int) (w : World) :
    Calls Tryd.prog 31 #[.agg #[.int .i64 x, .bool true, .int .i64 y]] w fun e w' => ∃ v, e = .returned v ∧ Own w' w.heap.size v (cellB (x, true, y)) ∧ Below w.heap.size w w' := by
  rw [cellB_yes]
  have hlx := pn_len x
  have HX := hide (Box.new w #[.int .i64 x, .bool true, .int .i64 y] 50)
  have HW := hide ((Below.refl w.heap.size w).alloc (Nat.le_refl _) (.cells #[.int .i64 x, .bool true, .int .i64 y] 50))
  have hg : Hid (w.heap.size < (w.alloc (.cells #[.int .i64 x, .bool true, .int .i64 y] 50)).heap.size) := hide (by simp)
  go_enter Tryd.func31, Tryd.ntmps31
  go_wp2_with fail
  generalize w.alloc (.cells #[.int .i64 x, .bool true, .int .i64 y] 50) = W0 at *
  refine (putNumImpl _ _).mono ?_
  rintro e w1 ⟨v1, rfl, o1, b1⟩
  have HP := hide b1
  have HO := hide o1
  clear b1 o1
  have f0 := (HX.out.below hg.out HP.out) 0 _ rfl
  have f1 := (HX.out.below hg.out HP.out) 1 _ rfl
  have f2 := (HX.out.below hg.out HP.out) 2 _ rfl
  go_wp2_with fail
  clear f0 f1 f2
  refine (putNumImpl _ _).mono ?_
  rintro e w2 ⟨v2, rfl, o2, b2⟩
  have HU2 := hide o2
  replace HO := hide (HO.out.below b2)
  replace HP := hide (HP.out.trans (b2.mono HP.out.size))
  have s2 := HP.out.size
  clear o2 b2
  go_wp2_with (at_builtin; refine app_own rfl _ _ rfl W0.heap.size _ _ _ (pn x) (pn 1) rfl HO.out rfl HU2.out (pn_byt _) (Nat.le_trans (pn_len _) (by omega)) (by omega) s2 ?_; intro v3 w3 o3 g3 n3; have HP3 := hide (HP.out.grown g3 s2 (fun q hq => (HO.out.lt q hq).1)); have HO3 := hide o3; clear o3 g3 n3; have f0 := (HX.out.below hg.out HP3.out) 0 _ rfl; have f1 := (HX.out.below hg.out HP3.out) 1 _ rfl; have f2 := (HX.out.below hg.out HP3.out) 2 _ rfl)
  clear f0 f1 f2
  refine (putNumImpl _ _).mono ?_
  rintro e w4 ⟨v4, rfl, o4, b4⟩
  have HU4 := hide o4
  replace HO := hide (HO3.out.below b4)
  replace HP := hide (HP3.out.trans (b4.mono HP3.out.size))
  have s4 := HP.out.size
  have hl1 := pn_len 1
  clear o4 b4 HO3 HP3
  go_wp2_with (at_builtin; refine app_own rfl _ _ rfl W0.heap.size _ _ _ (pn x ++ pn 1) (pn y) rfl HO.out rfl HU4.out (pn_byt _) (Nat.le_trans (pn_len _) (by omega)) (by simp; omega) s4 ?_; intro v5 w5 o5 g5 n5; have HP5 := hide (HP.out.grown g5 s4 (fun q hq => (HO.out.lt q hq).1)); have HO5 := hide o5; clear o5 g5 n5)
  go_ret
  exact ⟨_, rfl, HO5.out.mono HW.out.size, HW.out.trans (HP5.out.mono HW.out.size)⟩

set_option maxRecDepth 100000 in
set_option maxHeartbeats 1000000 in
theorem cellBytesFalse (x y : Int) (w : World) :
    Calls Tryd.prog 31 #[.agg #[.int .i64 x, .bool false, .int .i64 y]] w fun e w' => ∃ v, e = .returned v ∧ Own w' w.heap.size v (cellB (x, false, y)) ∧ Below w.heap.size w w' := by
  rw [cellB_no]
  have hlx := pn_len x
  have HX := hide (Box.new w #[.int .i64 x, .bool false, .int .i64 y] 50)
  have HW := hide ((Below.refl w.heap.size w).alloc (Nat.le_refl _) (.cells #[.int .i64 x, .bool false, .int .i64 y] 50))
  have hg : Hid (w.heap.size < (w.alloc (.cells #[.int .i64 x, .bool false, .int .i64 y] 50)).heap.size) := hide (by simp)
  go_enter Tryd.func31, Tryd.ntmps31
  go_wp2_with fail
  generalize w.alloc (.cells #[.int .i64 x, .bool false, .int .i64 y] 50) = W0 at *
  refine (putNumImpl _ _).mono ?_
  rintro e w1 ⟨v1, rfl, o1, b1⟩
  have HP := hide b1
  have HO := hide o1
  clear b1 o1
  have f0 := (HX.out.below hg.out HP.out) 0 _ rfl
  have f1 := (HX.out.below hg.out HP.out) 1 _ rfl
  have f2 := (HX.out.below hg.out HP.out) 2 _ rfl
  go_wp2_with fail
  clear f0 f1 f2
  refine (putNumImpl _ _).mono ?_
  rintro e w2 ⟨v2, rfl, o2, b2⟩
  have HU2 := hide o2
  replace HO := hide (HO.out.below b2)
  replace HP := hide (HP.out.trans (b2.mono HP.out.size))
  have s2 := HP.out.size
  clear o2 b2
  go_wp2_with (at_builtin; refine app_own rfl _ _ rfl W0.heap.size _ _ _ (pn x) (pn 0) rfl HO.out rfl HU2.out (pn_byt _) (Nat.le_trans (pn_len _) (by omega)) (by omega) s2 ?_; intro v3 w3 o3 g3 n3; have HP3 := hide (HP.out.grown g3 s2 (fun q hq => (HO.out.lt q hq).1)); have HO3 := hide o3; clear o3 g3 n3; have f0 := (HX.out.below hg.out HP3.out) 0 _ rfl; have f1 := (HX.out.below hg.out HP3.out) 1 _ rfl; have f2 := (HX.out.below hg.out HP3.out) 2 _ rfl)
  clear f0 f1 f2
  refine (putWordImpl _ _).mono ?_
  rintro e w4 ⟨v4, rfl, o4, b4⟩
  have HU4 := hide o4
  replace HO := hide (HO3.out.below b4)
  replace HP := hide (HP3.out.trans (b4.mono HP3.out.size))
  have s4 := HP.out.size
  have hl1 := pn_len 0
  clear o4 b4 HO3 HP3
  go_wp2_with (at_builtin; refine app_own rfl _ _ rfl W0.heap.size _ _ _ (pn x ++ pn 0) (pw y) rfl HO.out rfl HU4.out (pw_byt _) (Nat.le_trans (pw_len _) (by omega)) (by simp; omega) s4 ?_; intro v5 w5 o5 g5 n5; have HP5 := hide (HP.out.grown g5 s4 (fun q hq => (HO.out.lt q hq).1)); have HO5 := hide o5; clear o5 g5 n5)
  go_ret
  exact ⟨_, rfl, HO5.out.mono HW.out.size, HW.out.trans (HP5.out.mono HW.out.size)⟩

theorem cellBytes (x : Int) (r : Bool) (y : Int) (w : World) :
    Calls Tryd.prog 31 #[.agg #[.int .i64 x, .bool r, .int .i64 y]] w fun e w' => ∃ v, e = .returned v ∧ Own w' w.heap.size v (cellB (x, r, y)) ∧ Below w.heap.size w w' := by
  cases r
  · exact cellBytesFalse x y w
  · exact cellBytesTrue x y w
end Go.Proofs.YtbkhlaiifbdfoaaDoor
/-
  What MsgBytes does, in the program.
-/
namespace Go.Proofs.YtbkhlaiifbdfoaaDoor
open Go.RowKit

theorem Box.grown {w w' : World} {g : Nat} {row : Option Nat} {vs : List Value} (h : Box w g vs) (hg : g < w.heap.size) (hgr : w.grownBy w' row) (hne : ∀ q, row = some q → q < g) : Box w' g vs :=
  fun j v hv => (World.cell?_of_block (w := w) (hgr.block g hg (fun e => by have := hne g e.symm; omega))).trans (h j v hv)
/-- What MsgBytes answers. -/
def mBytes (k i u c n : Int) (cs : List (Int × Bool × Int)) (ns : List (Int × Int)) : List Int := bif mOk k i u c n cs ns then msgB k i u c n cs ns else []

theorem mOk_lens {k i u c n : Int} {cs : List (Int × Bool × Int)} {ns : List (Int × Int)} (h : mOk k i u c n cs ns = true) : cs.length ≤ 8 ∧ ns.length ≤ 130 := by
  rw [← mOk_spec] at h
  unfold mSpec at h
  simp only [Bool.and_eq_true] at h
  have h1 := h.1.1.2
  have h2 := h.1.2
  unfold cOk at h1
  unfold nOk at h2
  simp only [Bool.and_eq_true, decide_eq_true_eq] at h1 h2
  exact ⟨h1.1, h2.1⟩
theorem mBytes_len (k i u c n : Int) (cs : List (Int × Bool × Int)) (ns : List (Int × Int)) : (mBytes k i u c n cs ns).length ≤ 1200 := by
  unfold mBytes
  cases h : mOk k i u c n cs ns
  · simp
  · exact msgB_len k i u c n cs ns (mOk_lens h).1 (mOk_lens h).2
theorem mBytes_byt (k i u c n : Int) (cs : List (Int × Bool × Int)) (ns : List (Int × Int)) : Byt (mBytes k i u c n cs ns) := by
  unfold mBytes
  cases h : mOk k i u c n cs ns
  · intro z hz; cases hz
  · exact msgB_byt k i u c n cs ns

def hdL (k i u c n : Int) : List Int := [k, i, u, c, n]
theorem hdL_all (k i u c n : Int) : (hdL k i u c n).flatMap pn = headB k i u c n := by simp [hdL, headB]
theorem hdL_len (k i u c n : Int) (j : Nat) : (((hdL k i u c n).take j).flatMap pn).length ≤ 20 := by
  have h1 := flatB_len pn 4 pn_len ((hdL k i u c n).take j)
  have h2 : ((hdL k i u c n).take j).length ≤ 5 := by simp [hdL]; omega
  omega

set_option maxRecDepth 100000 in
set_option maxHeartbeats 4000000 in
theorem msgBytesImpl (w : World) (k i u c n : Int) (cv nv : Value) (cs : List (Int × Bool × Int)) (ns : List (Int × Int)) (hc : Rd w w.heap.size 3 cv cs.length (cs.flatMap cellC)) (hn : Rd w w.heap.size 2 nv ns.length (ns.flatMap noteC))
    (hmc : cs.length ≤ 1048576) (hmn : ns.length ≤ 1048576) :
    Calls Tryd.prog 7 #[msgV k i u c n cv nv] w fun e w' => ∃ v, e = .returned v ∧ Own w' w.heap.size v (mBytes k i u c n cs ns) ∧ Below w.heap.size w w' := by
  have HC := hide hc
  have HN := hide hn
  obtain ⟨a5, cap5, rfl, _⟩ := cells_at hc
  obtain ⟨a6, cap6, rfl, _⟩ := notes_at hn
  clear hc hn
  have HX := hide (Box.new w #[.int .i64 k, .int .i64 i, .int .i64 u, .int .i64 c, .int .i64 n, .slice a5 cs.length cap5, .slice a6 ns.length cap6] 27)
  have HW := hide ((Below.refl w.heap.size w).alloc (Nat.le_refl _) (.cells #[.int .i64 k, .int .i64 i, .int .i64 u, .int .i64 c, .int .i64 n, .slice a5 cs.length cap5, .slice a6 ns.length cap6] 27))
  have hg : Hid (w.heap.size < (w.alloc (.cells #[.int .i64 k, .int .i64 i, .int .i64 u, .int .i64 c, .int .i64 n, .slice a5 cs.length cap5, .slice a6 ns.length cap6] 27)).heap.size) := hide (by simp)
  unfold msgV
  go_enter Tryd.func7, Tryd.ntmps7
  go_wp2_with fail
  generalize w.alloc (.cells #[.int .i64 k, .int .i64 i, .int .i64 u, .int .i64 c, .int .i64 n, .slice a5 cs.length cap5, .slice a6 ns.length cap6] 27) = W0 at *
  refine (msgImpl _ k i u c n _ _ cs ns (HC.out.at HW.out) (HN.out.at HW.out) hmc hmn).mono ?_
  rintro e w1 ⟨rfl, b1⟩
  have HP := hide b1
  clear b1
  cases hm : mOk k i u c n cs ns with
  | false =>
    have HM : Hid (mBytes k i u c n cs ns = []) := hide (by unfold mBytes; rw [hm]; rfl)
    go_wp2
    go_ret
    exact ⟨_, rfl, by rw [HM.out]; exact World.ownsRow_nil _ _ _ _, HW.out.trans (HP.out.mono HW.out.size)⟩
  | true =>
    have HM : Hid (mBytes k i u c n cs ns = msgB k i u c n cs ns) := hide (by unfold mBytes; rw [hm]; rfl)
    obtain ⟨hl5, hl6⟩ := mOk_lens hm
    clear hm hmc hmn
    have f0 := (HX.out.below hg.out HP.out) 0 _ rfl
    have f1 := (HX.out.below hg.out HP.out) 1 _ rfl
    have f2 := (HX.out.below hg.out HP.out) 2 _ rfl
    have f3 := (HX.out.below hg.out HP.out) 3 _ rfl
    have f4 := (HX.out.below hg.out HP.out) 4 _ rfl
    go_wp2
    clear f0 f1 f2 f3 f4
    go_loopw [3, 24] (fun out x wr => ∃ j : Nat, j ≤ 5 ∧ x = .int .i64 (j : Int) ∧ Hid (Own wr W0.heap.size out (((hdL k i u c n).take j).flatMap pn)) ∧ Hid (Below W0.heap.size W0 wr)) (fun _ x _ => 5 - (intOf x).toNat)
    case atStart => exact ⟨0, by omega, rfl, hide (World.ownsRow_nil _ _ _ _), HP⟩
    case round =>
      obtain ⟨j, hj, rfl, HO, HP⟩ := hrel
      have hlen := hdL_len k i u c n j
      have i0 : ∀ w, (Instr.index 47 (.agg #[.int .i64 k, .int .i64 i, .int .i64 u, .int .i64 c, .int .i64 n]) (.int .i64 0)).run Tryd.prog w = .ok (.int .i64 k) w := fun _ => by kernel_rfl
      have i1 : ∀ w, (Instr.index 47 (.agg #[.int .i64 k, .int .i64 i, .int .i64 u, .int .i64 c, .int .i64 n]) (.int .i64 1)).run Tryd.prog w = .ok (.int .i64 i) w := fun _ => by kernel_rfl
      have i2 : ∀ w, (Instr.index 47 (.agg #[.int .i64 k, .int .i64 i, .int .i64 u, .int .i64 c, .int .i64 n]) (.int .i64 2)).run Tryd.prog w = .ok (.int .i64 u) w := fun _ => by kernel_rfl
      have i3 : ∀ w, (Instr.index 47 (.agg #[.int .i64 k, .int .i64 i, .int .i64 u, .int .i64 c, .int .i64 n]) (.int .i64 3)).run Tryd.prog w = .ok (.int .i64 c) w := fun _ => by kernel_rfl
      have i4 : ∀ w, (Instr.index 47 (.agg #[.int .i64 k, .int .i64 i, .int .i64 u, .int .i64 c, .int .i64 n]) (.int .i64 4)).run Tryd.prog w = .ok (.int .i64 n) w := fun _ => by kernel_rfl
      by_cases hj5 : j = 5
      · subst hj5
        clear i0 i1 i2 i3 i4 hlen
        have hh := headB_len k i u c n
        replace HO : Hid (Own wr W0.heap.size _ (headB k i u c n)) := hide (by have := HO.out; rwa [show (hdL k i u c n).take 5 = hdL k i u c n from rfl, hdL_all] at this)
        have f5 := (HX.out.below hg.out HP.out) 5 _ rfl
        go_wp2_with fail
        refine (putNumImpl _ _).mono ?_
        rintro e w2 ⟨v2, rfl, o2, b2⟩
        have HU2 := hide o2
        replace HO := hide (HO.out.below b2)
        replace HP := hide (HP.out.trans (b2.mono HP.out.size))
        have s2 := HP.out.size
        clear o2 b2 f5
        go_wp2_with (at_builtin; refine app_own rfl _ _ rfl W0.heap.size _ _ _ _ (pn cs.length) rfl HO.out rfl HU2.out (pn_byt _) (Nat.le_trans (pn_len _) (by omega)) (by omega) s2 ?_; intro v3 w3 o3 g3 n3; have HP3 := hide (HP.out.grown g3 s2 (fun q hq => (HO.out.lt q hq).1)); have HO3 := hide o3; clear o3 g3 n3; have f5 := (HX.out.below hg.out HP3.out) 5 _ rfl)
        clear f5 HO HP HU2 s2
        have hp5 := pn_len cs.length
        generalize hA : headB k i u c n ++ pn cs.length = A at *
        have hAl : A.length ≤ 24 := by rw [← hA, List.length_append]; omega
        have HA := hide hA
        clear hA hh hp5
        go_loopw [3, 41] (fun out x wr => ∃ j : Nat, j ≤ cs.length ∧ x = .int .i64 (j : Int) ∧ Hid (Own wr W0.heap.size out (A ++ (cs.take j).flatMap cellB)) ∧ Hid (Below W0.heap.size W0 wr)) (fun _ x _ => cs.length - (intOf x).toNat)
        case atStart => exact ⟨0, by omega, rfl, hide (by simpa using HO3.out), HP3⟩
        case round =>
          obtain ⟨j, hj, rfl, HO, HP⟩ := hrel
          clear HO3 HP3
          have hfl : ((cs.take j).flatMap cellB).length ≤ 96 := by
            have h1 := flatB_len cellB 12 cellB_len (cs.take j)
            have h2 : (cs.take j).length ≤ 8 := by simp; omega
            omega
          by_cases hlt : j < cs.length
          · obtain ⟨a', cap', ea, hx⟩ := cells_at ((HC.out.at HW.out).at HP.out)
            cases ea
            obtain ⟨b, o, rfl, hb, hc⟩ := hx (by omega)
            have e1 := (hc j hlt).1
            have e2 := (hc j hlt).2.1
            have e3 := (hc j hlt).2.2
            have HS := hide (flatB_snoc cellB cs (0, false, 0) j hlt)
            clear hx hc
            generalize cs.getD j (0, false, 0) = z at *
            obtain ⟨x, r, y⟩ := z
            simp only at e1 e2 e3
            have bA := (Below.refl wr.heap.size wr).alloc (Nat.le_refl _) (.cells #[.int .i64 x, .bool r, .int .i64 y] 50)
            replace HO := hide (HO.out.below bA)
            replace HP := hide (HP.out.trans (bA.mono HP.out.size))
            clear bA
            go_wp2_with fail
            refine (cellBytes _ _ _ _).mono ?_
            rintro e w2 ⟨v2, rfl, o2, b2⟩
            have HU2 := hide o2
            replace HO := hide (HO.out.below b2)
            replace HP := hide (HP.out.trans (b2.mono HP.out.size))
            have s2 := HP.out.size
            clear o2 b2 e1 e2 e3
            go_wp2_with (at_builtin; refine app_own rfl _ _ rfl W0.heap.size _ _ _ _ (cellB (x, r, y)) rfl HO.out rfl HU2.out (cellB_byt _) (Nat.le_trans (cellB_len _) (by omega)) (by simp only [List.length_append]; omega) s2 ?_; intro v3 w3 o3 g3 n3; have HP3 := hide (HP.out.grown g3 s2 (fun q hq => (HO.out.lt q hq).1)); have HO3 := hide o3; clear o3 g3 n3)
            exact ⟨⟨j + 1, by omega, by go_num, hide (by have := HO3.out; rwa [List.append_assoc, ← HS.out] at this), HP3⟩, by simp [intOf]; omega⟩
          · obtain rfl : j = cs.length := by omega
            replace HO : Hid (Own wr W0.heap.size _ (A ++ cs.flatMap cellB)) := hide (by have := HO.out; rwa [List.take_length] at this)
            rw [List.take_length] at hfl
            have f6 := (HX.out.below hg.out HP.out) 6 _ rfl
            go_wp2_with fail
            refine (putNumImpl _ _).mono ?_
            rintro e w2 ⟨v2, rfl, o2, b2⟩
            have HU2 := hide o2
            replace HO := hide (HO.out.below b2)
            replace HP := hide (HP.out.trans (b2.mono HP.out.size))
            have s2 := HP.out.size
            clear o2 b2 f6
            go_wp2_with (at_builtin; refine app_own rfl _ _ rfl W0.heap.size _ _ _ _ (pn ns.length) rfl HO.out rfl HU2.out (pn_byt _) (Nat.le_trans (pn_len _) (by omega)) (by simp only [List.length_append]; omega) s2 ?_; intro v3 w3 o3 g3 n3; have HP3 := hide (HP.out.grown g3 s2 (fun q hq => (HO.out.lt q hq).1)); have HO3 := hide o3; clear o3 g3 n3; have f6 := (HX.out.below hg.out HP3.out) 6 _ rfl)
            clear f6 HO HP HU2 s2
            have hp6 := pn_len ns.length
            generalize hD : A ++ cs.flatMap cellB ++ pn ns.length = D at *
            have hDl : D.length ≤ 124 := by rw [← hD, List.length_append, List.length_append]; omega
            have HD := hide hD
            clear hD hfl hp6
            go_loopw [3, 59] (fun out x wr => ∃ j : Nat, j ≤ ns.length ∧ x = .int .i64 (j : Int) ∧ Hid (Own wr W0.heap.size out (D ++ (ns.take j).flatMap noteB)) ∧ Hid (Below W0.heap.size W0 wr)) (fun _ x _ => ns.length - (intOf x).toNat)
            case atStart => exact ⟨0, by omega, rfl, hide (by simpa using HO3.out), HP3⟩
            case round =>
              obtain ⟨j, hj, rfl, HO, HP⟩ := hrel
              clear HO3 HP3
              have hfl : ((ns.take j).flatMap noteB).length ≤ 1040 := by
                have h1 := flatB_len noteB 8 noteB_len (ns.take j)
                have h2 : (ns.take j).length ≤ 130 := by simp; omega
                omega
              by_cases hlt : j < ns.length
              · obtain ⟨a', cap', ea, hx⟩ := notes_at ((HN.out.at HW.out).at HP.out)
                cases ea
                obtain ⟨b, o, rfl, hb, hc⟩ := hx (by omega)
                have e1 := (hc j hlt).1
                have e2 := (hc j hlt).2
                have HS := hide (flatB_snoc noteB ns (0, 0) j hlt)
                clear hx hc
                generalize ns.getD j (0, 0) = z at *
                obtain ⟨x, y⟩ := z
                simp only at e1 e2
                have hx4 := pn_len x
                have bA := (Below.refl wr.heap.size wr).alloc (Nat.le_refl _) (.cells #[.int .i64 x, .int .i64 y] 53)
                have HY := hide (Box.new wr #[.int .i64 x, .int .i64 y] 53)
                have hgr : Hid (wr.heap.size < (wr.alloc (.cells #[.int .i64 x, .int .i64 y] 53)).heap.size) := hide (by simp)
                have HL := hide fun q hq => (HO.out.lt q hq).2
                replace HO := hide (HO.out.below bA)
                have hsr := HP.out.size
                replace HP := hide (HP.out.trans (bA.mono HP.out.size))
                clear bA
                go_wp2_with fail
                clear e1 e2
                refine (putNumImpl _ _).mono ?_
                rintro e w2 ⟨v2, rfl, o2, b2⟩
                have HU2 := hide o2
                replace HY := hide (HY.out.below hgr.out b2)
                replace hgr := hide (Nat.lt_of_lt_of_le hgr.out b2.size)
                replace HO := hide (HO.out.below b2)
                replace HP := hide (HP.out.trans (b2.mono HP.out.size))
                have s2 := HP.out.size
                clear o2 b2
                go_wp2_with (at_builtin; refine app_own rfl _ _ rfl W0.heap.size _ _ _ _ (pn x) rfl HO.out rfl HU2.out (pn_byt _) (Nat.le_trans (pn_len _) (by omega)) (by simp only [List.length_append]; omega) s2 ?_; intro v3 w3 o3 g3 n3; have HP3 := hide (HP.out.grown g3 s2 (fun q hq => (HO.out.lt q hq).1)); have HO3 := hide o3; have f1 := (HY.out.grown hgr.out g3 HL.out) 1 _ rfl; clear o3 g3 n3)
                clear f1 HO HP HU2 s2
                refine (putNumImpl _ _).mono ?_
                rintro e w4 ⟨v4, rfl, o4, b4⟩
                have HU4 := hide o4
                have HO := hide (HO3.out.below b4)
                have HP := hide (HP3.out.trans (b4.mono HP3.out.size))
                have s4 := HP.out.size
                clear o4 b4 HO3 HP3
                go_wp2_with (at_builtin; refine app_own rfl _ _ rfl W0.heap.size _ _ _ _ (pn y) rfl HO.out rfl HU4.out (pn_byt _) (Nat.le_trans (pn_len _) (by omega)) (by simp only [List.length_append]; omega) s4 ?_; intro v5 w5 o5 g5 n5; have HP5 := hide (HP.out.grown g5 s4 (fun q hq => (HO.out.lt q hq).1)); have HO5 := hide o5; clear o5 g5 n5)
                exact ⟨⟨j + 1, by omega, by go_num, hide (by have := HO5.out; rw [HS.out]; rw [List.append_assoc, List.append_assoc] at this; exact this), HP5⟩, by simp [intOf]; omega⟩
              · obtain rfl : j = ns.length := by omega
                have HF : Hid (Own wr W0.heap.size _ (mBytes k i u c n cs ns)) := hide (by
                  have := HO.out
                  rw [List.take_length] at this
                  rw [HM.out]
                  unfold msgB
                  rw [HA.out, HD.out]
                  exact this)
                go_wp2
                go_ret
                exact ⟨_, rfl, HF.out.mono HW.out.size, HW.out.trans (HP.out.mono HW.out.size)⟩
      · have hj4 : j = 0 ∨ j = 1 ∨ j = 2 ∨ j = 3 ∨ j = 4 := by omega
        rcases hj4 with rfl | rfl | rfl | rfl | rfl
        · go_wp2_with fail
          refine (putNumImpl _ _).mono ?_
          rintro e w2 ⟨v2, rfl, o2, b2⟩
          have HU2 := hide o2
          replace HO := hide (HO.out.below b2)
          replace HP := hide (HP.out.trans (b2.mono HP.out.size))
          have s2 := HP.out.size
          clear o2 b2
          go_wp2_with (at_builtin; refine app_own rfl _ _ rfl W0.heap.size _ _ _ _ (pn k) rfl HO.out rfl HU2.out (pn_byt _) (Nat.le_trans (pn_len _) (by omega)) (by omega) s2 ?_; intro v3 w3 o3 g3 n3; have HP3 := hide (HP.out.grown g3 s2 (fun q hq => (HO.out.lt q hq).1)); have HO3 := hide o3; clear o3 g3 n3)
          exact ⟨⟨1, by omega, rfl, hide (by simpa [hdL] using HO3.out), HP3⟩, by simp [intOf]⟩
        · go_wp2_with fail
          refine (putNumImpl _ _).mono ?_
          rintro e w2 ⟨v2, rfl, o2, b2⟩
          have HU2 := hide o2
          replace HO := hide (HO.out.below b2)
          replace HP := hide (HP.out.trans (b2.mono HP.out.size))
          have s2 := HP.out.size
          clear o2 b2
          go_wp2_with (at_builtin; refine app_own rfl _ _ rfl W0.heap.size _ _ _ _ (pn i) rfl HO.out rfl HU2.out (pn_byt _) (Nat.le_trans (pn_len _) (by omega)) (by omega) s2 ?_; intro v3 w3 o3 g3 n3; have HP3 := hide (HP.out.grown g3 s2 (fun q hq => (HO.out.lt q hq).1)); have HO3 := hide o3; clear o3 g3 n3)
          exact ⟨⟨2, by omega, rfl, hide (by simpa [hdL] using HO3.out), HP3⟩, by simp [intOf]⟩
        · go_wp2_with fail
          refine (putNumImpl _ _).mono ?_
          rintro e w2 ⟨v2, rfl, o2, b2⟩
          have HU2 := hide o2
          replace HO := hide (HO.out.below b2)
          replace HP := hide (HP.out.trans (b2.mono HP.out.size))
          have s2 := HP.out.size
          clear o2 b2
          go_wp2_with (at_builtin; refine app_own rfl _ _ rfl W0.heap.size _ _ _ _ (pn u) rfl HO.out rfl HU2.out (pn_byt _) (Nat.le_trans (pn_len _) (by omega)) (by omega) s2 ?_; intro v3 w3 o3 g3 n3; have HP3 := hide (HP.out.grown g3 s2 (fun q hq => (HO.out.lt q hq).1)); have HO3 := hide o3; clear o3 g3 n3)
          exact ⟨⟨3, by omega, rfl, hide (by simpa [hdL] using HO3.out), HP3⟩, by simp [intOf]⟩
        · go_wp2_with fail
          refine (putNumImpl _ _).mono ?_
          rintro e w2 ⟨v2, rfl, o2, b2⟩
          have HU2 := hide o2
          replace HO := hide (HO.out.below b2)
          replace HP := hide (HP.out.trans (b2.mono HP.out.size))
          have s2 := HP.out.size
          clear o2 b2
          go_wp2_with (at_builtin; refine app_own rfl _ _ rfl W0.heap.size _ _ _ _ (pn c) rfl HO.out rfl HU2.out (pn_byt _) (Nat.le_trans (pn_len _) (by omega)) (by omega) s2 ?_; intro v3 w3 o3 g3 n3; have HP3 := hide (HP.out.grown g3 s2 (fun q hq => (HO.out.lt q hq).1)); have HO3 := hide o3; clear o3 g3 n3)
          exact ⟨⟨4, by omega, rfl, hide (by simpa [hdL] using HO3.out), HP3⟩, by simp [intOf]⟩
        · go_wp2_with fail
          refine (putNumImpl _ _).mono ?_
          rintro e w2 ⟨v2, rfl, o2, b2⟩
          have HU2 := hide o2
          replace HO := hide (HO.out.below b2)
          replace HP := hide (HP.out.trans (b2.mono HP.out.size))
          have s2 := HP.out.size
          clear o2 b2
          go_wp2_with (at_builtin; refine app_own rfl _ _ rfl W0.heap.size _ _ _ _ (pn n) rfl HO.out rfl HU2.out (pn_byt _) (Nat.le_trans (pn_len _) (by omega)) (by omega) s2 ?_; intro v3 w3 o3 g3 n3; have HP3 := hide (HP.out.grown g3 s2 (fun q hq => (HO.out.lt q hq).1)); have HO3 := hide o3; clear o3 g3 n3)
          exact ⟨⟨5, by omega, rfl, hide (by simpa [hdL] using HO3.out), HP3⟩, by simp [intOf]⟩
end Go.Proofs.YtbkhlaiifbdfoaaDoor
/-
  Messages read from bytes: what is put is got; what is got was put.
-/
namespace Go.Proofs.YtbkhlaiifbdfoaaDoor
open Go.RowKit

/-- From place k on zs begins with bs. -/
def Pre (zs : List Int) (k : Nat) (bs : List Int) : Prop := ∃ r, zs.drop k = bs ++ r

theorem Pre.app {zs : List Int} {k : Nat} {a b : List Int} : Pre zs k (a ++ b) ↔ Pre zs k a ∧ Pre zs (k + a.length) b := by
  constructor
  · rintro ⟨r, h⟩
    refine ⟨⟨b ++ r, by rw [h, List.append_assoc]⟩, ⟨r, ?_⟩⟩
    rw [← List.drop_drop, h, List.append_assoc, List.drop_left]
  · rintro ⟨⟨r, h⟩, ⟨s, h'⟩⟩
    rw [← List.drop_drop, h, List.drop_left] at h'
    exact ⟨s, by rw [h, h', List.append_assoc]⟩
theorem Pre.nil (zs : List Int) (k : Nat) : Pre zs k [] := ⟨zs.drop k, rfl⟩
theorem Pre.len {zs : List Int} {k : Nat} {bs : List Int} (h : Pre zs k bs) (hb : 0 < bs.length) : k + bs.length ≤ zs.length := by
  obtain ⟨r, h⟩ := h
  have := congrArg List.length h
  simp only [List.length_drop, List.length_append] at this
  omega
theorem Pre.get {zs : List Int} {k : Nat} {bs : List Int} (h : Pre zs k bs) (i : Nat) (hi : i < bs.length) : zs.getD (k + i) 0 = bs.getD i 0 := by
  obtain ⟨r, h⟩ := h
  have h1 : (zs.drop k)[i]? = bs[i]? := by rw [h, List.getElem?_append_left hi]
  rw [List.getElem?_drop] at h1
  rw [List.getD_eq_getElem?_getD, List.getD_eq_getElem?_getD, h1]
theorem Pre.of_take {zs : List Int} {k : Nat} {bs : List Int} (h : (zs.drop k).take bs.length = bs) : Pre zs k bs :=
  ⟨(zs.drop k).drop bs.length, by conv => rhs; lhs; rw [← h]
                                  rw [List.take_append_drop]⟩
theorem Pre.all {zs bs : List Int} (h : Pre zs 0 bs) (hl : bs.length = zs.length) : zs = bs := by
  obtain ⟨r, h⟩ := h
  rw [List.drop_zero] at h
  have := congrArg List.length h
  simp only [List.length_append] at this
  have hr : r = [] := List.eq_nil_of_length_eq_zero (by omega)
  rw [h, hr, List.append_nil]

theorem num_put {zs : List Int} {k : Nat} {x : Int} (h0 : 0 ≤ x) (h1 : x ≤ 16777215) (h : Pre zs k (pn x)) : gnF zs 4 k 0 1 = some (x, k + (pn x).length) := by
  have := gn_pn zs k x h0 h1 (h.len (pn_pos x h0 h1)) (fun i hi => h.get i hi)
  unfold gn at this
  rwa [if_pos (by omega), Int.toNat_natCast] at this
theorem num_back {zs : List Int} (hB : Byt zs) {k nx : Nat} {x : Int} (h : gnF zs 4 k 0 1 = some (x, nx)) : 0 ≤ x ∧ x ≤ 16777215 ∧ Pre zs k (pn x) ∧ nx = k + (pn x).length ∧ nx ≤ zs.length := by
  have h' : gn zs (k : Int) = some (x, nx) := by unfold gn; rw [if_pos (by omega), Int.toNat_natCast]; exact h
  obtain ⟨_, h1, h2, h3, h4, h5⟩ := gn_back zs hB k x nx h'
  rw [Int.toNat_natCast] at h3 h4
  refine ⟨h1, h2, Pre.of_take ?_, h4, h5⟩
  rw [show nx - k = (pn x).length from by omega] at h3
  exact h3
theorem word_put {zs : List Int} {k : Nat} {x : Int} (h0 : -2147483648 ≤ x) (h1 : x ≤ 2147483647) (h : Pre zs k (pw x)) : gw zs (k : Int) = some (x, k + (pw x).length) := by
  have e := pw_in x h0 h1
  have hl := h.len (by rw [e]; simp)
  have g := h.get
  rw [e] at hl g ⊢
  have g0 := g 0 (by simp)
  have g1 := g 1 (by simp)
  have g2 := g 2 (by simp)
  have g3 := g 3 (by simp)
  simp at g0 g1 g2 g3 hl
  unfold gw
  rw [if_pos ⟨by omega, by rw [Int.toNat_natCast]; exact hl⟩, Int.toNat_natCast]
  simp [ws]
  rw [g0, g1, g2, g3]
  unfold rnd
  omega
theorem word_back {zs : List Int} (hB : Byt zs) {k nx : Nat} {x : Int} (h : gw zs (k : Int) = some (x, nx)) : -2147483648 ≤ x ∧ x ≤ 2147483647 ∧ Pre zs k (pw x) ∧ nx = k + (pw x).length ∧ nx ≤ zs.length := by
  unfold gw at h
  rw [Int.toNat_natCast] at h
  by_cases hc : 0 ≤ (k : Int) ∧ k + 4 ≤ zs.length
  · rw [if_pos hc] at h
    simp only [Option.some.injEq, Prod.mk.injEq] at h
    obtain ⟨h1, h2⟩ := h
    have hb := rnd_bd (ws zs k 4)
    have z0 := hB.at k (by omega)
    have z1 := hB.at (k + 1) (by omega)
    have z2 := hB.at (k + 2) (by omega)
    have z3 := hB.at (k + 3) (by omega)
    rw [h1] at hb
    have e := pw_in x hb.1 hb.2
    refine ⟨hb.1, hb.2, Pre.of_take ?_, by rw [e]; simp; omega, by omega⟩
    have hd : (zs.drop k).take 4 = [zs.getD k 0, zs.getD (k + 1) 0, zs.getD (k + 2) 0, zs.getD (k + 3) 0] := by
      refine List.ext_getElem (by simp; omega) fun j h1 h2 => ?_
      have hj : j = 0 ∨ j = 1 ∨ j = 2 ∨ j = 3 := by simp at h2; omega
      rcases hj with rfl | rfl | rfl | rfl
      · simp [show k < zs.length from by omega]
      · simp [show k + 1 < zs.length from by omega]
      · simp [show k + 2 < zs.length from by omega]
      · simp [show k + 3 < zs.length from by omega]
    rw [e, show ([x % 256, x / 256 % 256, x / 65536 % 256, x / 16777216 % 256] : List Int).length = 4 from rfl, hd]
    simp only [ws] at h1
    generalize zs.getD k 0 = a at *
    generalize zs.getD (k + 1) 0 = b at *
    generalize zs.getD (k + 2) 0 = c at *
    generalize zs.getD (k + 3) 0 = d at *
    unfold rnd at h1
    simp only [List.cons.injEq, and_true]
    refine ⟨?_, ?_, ?_, ?_⟩ <;> omega
  · rw [if_neg hc] at h; cases h

/-- A cell that is read. -/
def rCell (zs : List Int) (k : Nat) : Option ((Int × Bool × Int) × Nat) :=
  (gnF zs 4 k 0 1).bind fun a => (gnF zs 4 a.2 0 1).bind fun f =>
    if 1 < f.1 then none else if f.1 = 1 then (gnF zs 4 f.2 0 1).bind fun y => some ((a.1, true, y.1), y.2) else (gw zs (f.2 : Int)).bind fun y => some ((a.1, false, y.1), y.2)
/-- A note that is read. -/
def rNote (zs : List Int) (k : Nat) : Option ((Int × Int) × Nat) :=
  (gnF zs 4 k 0 1).bind fun a => (gnF zs 4 a.2 0 1).bind fun b => some ((a.1, b.1), b.2)
/-- So many, one behind the other. -/
def rList {α : Type} (f : Nat → Option (α × Nat)) : Nat → Nat → Option (List α × Nat)
  | 0, k => some ([], k)
  | n + 1, k => (f k).bind fun x => (rList f n x.2).bind fun xs => some (x.1 :: xs.1, xs.2)
def rMany {α : Type} (zs : List Int) (f : Nat → Option (α × Nat)) (most : Int) (k : Nat) : Option (List α × Nat) :=
  (gnF zs 4 k 0 1).bind fun n => if most < n.1 then none else rList f n.1.toNat n.2

structure M where
  k : Int
  i : Int
  u : Int
  c : Int
  n : Int
  cs : List (Int × Bool × Int)
  ns : List (Int × Int)
def rMsg (zs : List Int) (p : Nat) : Option (M × Nat) :=
  (gnF zs 4 p 0 1).bind fun k => (gnF zs 4 k.2 0 1).bind fun i => (gnF zs 4 i.2 0 1).bind fun u => (gnF zs 4 u.2 0 1).bind fun c => (gnF zs 4 c.2 0 1).bind fun n =>
    (rMany zs (rCell zs) 8 n.2).bind fun cs => (rMany zs (rNote zs) 130 cs.2).bind fun ns => some (⟨k.1, i.1, u.1, c.1, n.1, cs.1, ns.1⟩, ns.2)

theorem cell_put {zs : List Int} {k : Nat} {x : Int × Bool × Int} (h1 : inB x.1 0 7 = true) (h2 : vOk x.2.1 x.2.2 = true) (h : Pre zs k (cellB x)) : rCell zs k = some (x, k + (cellB x).length) := by
  obtain ⟨x, r, y⟩ := x
  have hx := inB_yes h1
  simp only at h1 h2 hx
  cases r with
  | true =>
    have hy := inB_yes (show inB y 0 1000000 = true from h2)
    rw [cellB_yes] at h ⊢
    obtain ⟨ha, hc⟩ := Pre.app.1 h
    obtain ⟨ha, hb⟩ := Pre.app.1 ha
    unfold rCell
    rw [num_put hx.1 (by omega) ha]
    simp only [Option.bind_some]
    rw [num_put (by omega) (by omega) hb]
    simp only [Option.bind_some]
    rw [if_neg (by omega), if_pos (by trivial)]
    rw [List.length_append, ← Nat.add_assoc] at hc
    rw [num_put hy.1 (by omega) hc]
    simp [Nat.add_assoc]
  | false =>
    have hy := inB_yes (show inB y (-2147483648) 2147483647 = true from h2)
    rw [cellB_no] at h ⊢
    obtain ⟨ha, hc⟩ := Pre.app.1 h
    obtain ⟨ha, hb⟩ := Pre.app.1 ha
    unfold rCell
    rw [num_put hx.1 (by omega) ha]
    simp only [Option.bind_some]
    rw [num_put (by omega) (by omega) hb]
    simp only [Option.bind_some]
    rw [if_neg (by omega), if_neg (by omega)]
    rw [List.length_append, ← Nat.add_assoc] at hc
    rw [word_put hy.1 hy.2 hc]
    simp [Nat.add_assoc]
theorem cell_back {zs : List Int} (hB : Byt zs) {k nx : Nat} {x : Int × Bool × Int} (h : rCell zs k = some (x, nx)) : Pre zs k (cellB x) ∧ nx = k + (cellB x).length ∧ nx ≤ zs.length := by
  unfold rCell at h
  obtain ⟨⟨a, ka⟩, ha, h⟩ := Option.bind_eq_some_iff.1 h
  obtain ⟨⟨f, kf⟩, hf, h⟩ := Option.bind_eq_some_iff.1 h
  obtain ⟨a0, a1, a2, a3, a4⟩ := num_back hB ha
  obtain ⟨f0, f1, f2, f3, f4⟩ := num_back hB hf
  simp only at h f2 f3
  by_cases hf1 : 1 < f
  · rw [if_pos hf1] at h; cases h
  · rw [if_neg hf1] at h
    by_cases hfe : f = 1
    · rw [if_pos hfe] at h
      obtain ⟨⟨y, ky⟩, hy, h⟩ := Option.bind_eq_some_iff.1 h
      obtain ⟨y0, y1, y2, y3, y4⟩ := num_back hB hy
      simp only [Option.some.injEq, Prod.mk.injEq] at h
      obtain ⟨rfl, rfl⟩ := h
      subst hfe
      rw [cellB_yes]
      subst a3 f3 y3
      refine ⟨Pre.app.2 ⟨Pre.app.2 ⟨a2, f2⟩, ?_⟩, by simp [Nat.add_assoc], y4⟩
      rw [List.length_append, ← Nat.add_assoc]; exact y2
    · rw [if_neg hfe] at h
      obtain ⟨⟨y, ky⟩, hy, h⟩ := Option.bind_eq_some_iff.1 h
      obtain ⟨y0, y1, y2, y3, y4⟩ := word_back hB hy
      simp only [Option.some.injEq, Prod.mk.injEq] at h
      obtain ⟨rfl, rfl⟩ := h
      obtain rfl : f = 0 := by omega
      rw [cellB_no]
      subst a3 f3 y3
      refine ⟨Pre.app.2 ⟨Pre.app.2 ⟨a2, f2⟩, ?_⟩, by simp [Nat.add_assoc], y4⟩
      rw [List.length_append, ← Nat.add_assoc]; exact y2
theorem note_put {zs : List Int} {k : Nat} {x : Int × Int} (h1 : inB x.1 1 1000000 = true) (h2 : inB x.2 1 16777215 = true) (h : Pre zs k (noteB x)) : rNote zs k = some (x, k + (noteB x).length) := by
  have hx := inB_yes h1
  have hy := inB_yes h2
  unfold noteB at h ⊢
  obtain ⟨ha, hb⟩ := Pre.app.1 h
  unfold rNote
  rw [num_put (by omega) (by omega) ha]
  simp only [Option.bind_some]
  rw [num_put (by omega) (by omega) hb]
  simp [Nat.add_assoc]
theorem note_back {zs : List Int} (hB : Byt zs) {k nx : Nat} {x : Int × Int} (h : rNote zs k = some (x, nx)) : Pre zs k (noteB x) ∧ nx = k + (noteB x).length ∧ nx ≤ zs.length := by
  unfold rNote at h
  obtain ⟨⟨a, ka⟩, ha, h⟩ := Option.bind_eq_some_iff.1 h
  obtain ⟨⟨f, kf⟩, hf, h⟩ := Option.bind_eq_some_iff.1 h
  obtain ⟨a0, a1, a2, a3, a4⟩ := num_back hB ha
  obtain ⟨f0, f1, f2, f3, f4⟩ := num_back hB hf
  simp only [Option.some.injEq, Prod.mk.injEq] at h
  obtain ⟨rfl, rfl⟩ := h
  simp only at f2 f3
  subst a3 f3
  unfold noteB
  exact ⟨Pre.app.2 ⟨a2, f2⟩, by simp [Nat.add_assoc], f4⟩

theorem list_put {α : Type} {zs : List Int} {f : Nat → Option (α × Nat)} {B : α → List Int} : ∀ (xs : List α) (k : Nat), (∀ x ∈ xs, ∀ k, Pre zs k (B x) → f k = some (x, k + (B x).length)) → Pre zs k (xs.flatMap B) → rList f xs.length k = some (xs, k + (xs.flatMap B).length)
  | [], k, _, _ => by simp [rList]
  | x :: xs, k, hf, h => by
    rw [List.flatMap_cons] at h ⊢
    obtain ⟨ha, hb⟩ := Pre.app.1 h
    rw [List.length_cons, rList, hf x (by simp) k ha]
    simp only [Option.bind_some]
    rw [list_put xs _ (fun y hy => hf y (by simp [hy])) hb]
    simp [Nat.add_assoc]
theorem list_back {α : Type} {zs : List Int} {f : Nat → Option (α × Nat)} {B : α → List Int} (hf : ∀ k nx x, f k = some (x, nx) → Pre zs k (B x) ∧ nx = k + (B x).length ∧ nx ≤ zs.length) : ∀ (n k e : Nat) (xs : List α), rList f n k = some (xs, e) → xs.length = n ∧ Pre zs k (xs.flatMap B) ∧ e = k + (xs.flatMap B).length
  | 0, k, e, xs, h => by
    simp only [rList, Option.some.injEq, Prod.mk.injEq] at h
    obtain ⟨rfl, rfl⟩ := h
    exact ⟨rfl, Pre.nil _ _, by simp⟩
  | n + 1, k, e, xs, h => by
    rw [rList] at h
    obtain ⟨⟨x, kx⟩, hx, h⟩ := Option.bind_eq_some_iff.1 h
    obtain ⟨⟨ys, ky⟩, hy, h⟩ := Option.bind_eq_some_iff.1 h
    simp only [Option.some.injEq, Prod.mk.injEq] at h
    obtain ⟨rfl, rfl⟩ := h
    obtain ⟨h1, h2, h3⟩ := hf k kx x hx
    obtain ⟨h4, h5, h6⟩ := list_back hf n kx ky ys hy
    subst h2
    rw [List.flatMap_cons]
    exact ⟨by simp [h4], Pre.app.2 ⟨h1, h5⟩, by rw [h6]; simp [Nat.add_assoc]⟩
end Go.Proofs.YtbkhlaiifbdfoaaDoor
/-
  A message is read just where its bytes lie.
-/
namespace Go.Proofs.YtbkhlaiifbdfoaaDoor
open Go.RowKit

def M.ok (m : M) : Bool := mOk m.k m.i m.u m.c m.n m.cs m.ns
def M.b (m : M) : List Int := msgB m.k m.i m.u m.c m.n m.cs m.ns

theorem mOk_parts {k i u c n : Int} {cs : List (Int × Bool × Int)} {ns : List (Int × Int)} (h : mOk k i u c n cs ns = true) :
    (1 ≤ k ∧ k ≤ 10) ∧ (1 ≤ i ∧ i ≤ 1000000) ∧ (0 ≤ u ∧ u ≤ 1000000) ∧ (0 ≤ c ∧ c ≤ 255) ∧ (0 ≤ n ∧ n ≤ 16777215) ∧ cOk cs = true ∧ nOk ns = true := by
  rw [← mOk_spec] at h
  unfold mSpec at h
  simp only [Bool.and_eq_true] at h
  obtain ⟨⟨⟨⟨hk, hi⟩, hc⟩, hn⟩, ⟨⟨⟨hw, hl⟩, hv⟩, _⟩, _⟩ := h
  refine ⟨inB_yes hk, inB_yes hi, ?_, ?_, ?_, hc, hn⟩
  · unfold whoB at hw
    cases hf : flg k 1 with
    | true => rw [hf] at hw; have := inB_yes (show inB u 1 1000000 = true from hw); omega
    | false => rw [hf] at hw; have : u = 0 := by simpa using hw
               omega
  · unfold clsB at hl
    rw [in_zero c 255 (by omega)] at hl
    cases hf : flg k 2 with
    | true => rw [hf] at hl; exact inB_yes (show inB c 0 255 = true from hl)
    | false => rw [hf] at hl; have : c = 0 := by simpa using hl
               omega
  · unfold verB at hv
    rw [in_zero n 16777215 (by omega)] at hv
    cases hf : flg k 4 with
    | true => rw [hf] at hv; exact inB_yes (show inB n 0 16777215 = true from hv)
    | false => rw [hf] at hv; have : n = 0 := by simpa using hv
               omega
theorem cOk_each {cs : List (Int × Bool × Int)} (h : cOk cs = true) : ∀ x ∈ cs, inB x.1 0 7 = true ∧ vOk x.2.1 x.2.2 = true := by
  intro x hx
  obtain ⟨j, hj, rfl⟩ := List.getElem_of_mem hx
  unfold cOk at h
  simp only [Bool.and_eq_true, List.all_eq_true, List.mem_range] at h
  have := h.2 j hj
  unfold goodC at this
  simp only [Bool.and_eq_true] at this
  have e : cs.getD j (0, false, 0) = cs[j] := by simp [hj]
  rw [e] at this
  exact ⟨this.1.1, this.1.2⟩
theorem nOk_each {ns : List (Int × Int)} (h : nOk ns = true) : ∀ x ∈ ns, inB x.1 1 1000000 = true ∧ inB x.2 1 16777215 = true := by
  intro x hx
  obtain ⟨j, hj, rfl⟩ := List.getElem_of_mem hx
  unfold nOk at h
  simp only [Bool.and_eq_true, List.all_eq_true, List.mem_range] at h
  have := h.2 j hj
  unfold goodN at this
  simp only [Bool.and_eq_true] at this
  have e : ns.getD j (0, 0) = ns[j] := by simp [hj]
  rw [e] at this
  exact ⟨this.1.1, this.1.2⟩

theorem msg_put {zs : List Int} {m : M} (hm : m.ok = true) (h : Pre zs 0 m.b) : rMsg zs 0 = some (m, m.b.length) := by
  obtain ⟨k, i, u, c, n, cs, ns⟩ := m
  unfold M.ok at hm
  unfold M.b at h ⊢
  simp only at hm h ⊢
  obtain ⟨h1, h2, h3, h4, h5, hc, hn⟩ := mOk_parts hm
  obtain ⟨l5, l6⟩ := mOk_lens hm
  unfold msgB headB at h ⊢
  obtain ⟨h, p9⟩ := Pre.app.1 h
  obtain ⟨h, p8⟩ := Pre.app.1 h
  obtain ⟨h, p7⟩ := Pre.app.1 h
  obtain ⟨h, p6⟩ := Pre.app.1 h
  obtain ⟨h, p5⟩ := Pre.app.1 h
  obtain ⟨h, p4⟩ := Pre.app.1 h
  obtain ⟨h, p3⟩ := Pre.app.1 h
  obtain ⟨p1, p2⟩ := Pre.app.1 h
  simp only [List.length_append, ← Nat.add_assoc] at p3 p4 p5 p6 p7 p8 p9
  unfold rMsg
  rw [num_put (by omega) (by omega) p1]
  simp only [Option.bind_some]
  rw [num_put (by omega) (by omega) p2]
  simp only [Option.bind_some]
  rw [num_put (by omega) (by omega) p3]
  simp only [Option.bind_some]
  rw [num_put (by omega) (by omega) p4]
  simp only [Option.bind_some]
  rw [num_put (by omega) (by omega) p5]
  simp only [Option.bind_some]
  unfold rMany
  rw [num_put (by omega) (by omega) p6]
  simp only [Option.bind_some]
  rw [if_neg (by omega), Int.toNat_natCast, list_put cs _ (fun x hx k hk => cell_put (cOk_each hc x hx).1 (cOk_each hc x hx).2 hk) p7]
  simp only [Option.bind_some]
  rw [num_put (by omega) (by omega) p8]
  simp only [Option.bind_some]
  rw [if_neg (by omega), Int.toNat_natCast, list_put ns _ (fun x hx k hk => note_put (nOk_each hn x hx).1 (nOk_each hn x hx).2 hk) p9]
  simp [Nat.add_assoc]

theorem many_back {α : Type} {zs : List Int} (hB : Byt zs) {f : Nat → Option (α × Nat)} {B : α → List Int} (hf : ∀ k nx x, f k = some (x, nx) → Pre zs k (B x) ∧ nx = k + (B x).length ∧ nx ≤ zs.length) {most : Int} {k e : Nat} {xs : List α}
    (h : rMany zs f most k = some (xs, e)) : Pre zs k (pn xs.length ++ xs.flatMap B) ∧ e = k + (pn xs.length ++ xs.flatMap B).length := by
  unfold rMany at h
  obtain ⟨⟨n, kn⟩, hn, h⟩ := Option.bind_eq_some_iff.1 h
  obtain ⟨n0, n1, n2, n3, n4⟩ := num_back hB hn
  simp only at h
  by_cases hm : most < n
  · rw [if_pos hm] at h; cases h
  · rw [if_neg hm] at h
    obtain ⟨h1, h2, h3⟩ := list_back hf _ _ _ _ h
    have e1 : (xs.length : Int) = n := by omega
    rw [e1]
    subst n3
    exact ⟨Pre.app.2 ⟨n2, h2⟩, by rw [h3]; simp [Nat.add_assoc]⟩

theorem msg_back {zs : List Int} (hB : Byt zs) {m : M} {e : Nat} (h : rMsg zs 0 = some (m, e)) : Pre zs 0 m.b ∧ e = m.b.length := by
  unfold rMsg at h
  obtain ⟨⟨k, kk⟩, hk, h⟩ := Option.bind_eq_some_iff.1 h
  obtain ⟨⟨i, ki⟩, hi, h⟩ := Option.bind_eq_some_iff.1 h
  obtain ⟨⟨u, ku⟩, hu, h⟩ := Option.bind_eq_some_iff.1 h
  obtain ⟨⟨c, kc⟩, hc, h⟩ := Option.bind_eq_some_iff.1 h
  obtain ⟨⟨n, kn⟩, hn, h⟩ := Option.bind_eq_some_iff.1 h
  obtain ⟨⟨cs, k5⟩, h5, h⟩ := Option.bind_eq_some_iff.1 h
  obtain ⟨⟨ns, k6⟩, h6, h⟩ := Option.bind_eq_some_iff.1 h
  simp only [Option.some.injEq, Prod.mk.injEq] at h
  obtain ⟨rfl, rfl⟩ := h
  obtain ⟨_, _, a2, a3, _⟩ := num_back hB hk
  obtain ⟨_, _, b2, b3, _⟩ := num_back hB hi
  obtain ⟨_, _, c2, c3, _⟩ := num_back hB hu
  obtain ⟨_, _, d2, d3, _⟩ := num_back hB hc
  obtain ⟨_, _, e2, e3, _⟩ := num_back hB hn
  obtain ⟨f2, f3⟩ := many_back hB (fun k nx x => cell_back hB) h5
  obtain ⟨g2, g3⟩ := many_back hB (fun k nx x => note_back hB) h6
  simp only at b2 b3 c2 c3 d2 d3 e2 e3 f2 f3 g2 g3
  subst a3 b3 c3 d3 e3 f3 g3
  unfold M.b msgB headB
  simp only
  obtain ⟨f2, f2'⟩ := Pre.app.1 f2
  obtain ⟨g2, g2'⟩ := Pre.app.1 g2
  refine ⟨Pre.app.2 ⟨Pre.app.2 ⟨Pre.app.2 ⟨Pre.app.2 ⟨Pre.app.2 ⟨Pre.app.2 ⟨Pre.app.2 ⟨Pre.app.2 ⟨a2, b2⟩, ?_⟩, ?_⟩, ?_⟩, ?_⟩, ?_⟩, ?_⟩, ?_⟩, by simp [Nat.add_assoc]⟩
  all_goals
    simp only [List.length_append, ← Nat.add_assoc] at f2 f2' g2 g2' ⊢
    assumption

/-- What MsgOf answers. -/
def mOf (zs : List Int) : Option M := (rMsg zs 0).bind fun r => if r.2 = zs.length ∧ r.1.ok = true then some r.1 else none
theorem mOf_iff {zs : List Int} (hB : Byt zs) (m : M) : mOf zs = some m ↔ m.ok = true ∧ zs = m.b := by
  unfold mOf
  constructor
  · intro h
    obtain ⟨⟨m', e⟩, h1, h2⟩ := Option.bind_eq_some_iff.1 h
    simp only at h2
    by_cases hc : e = zs.length ∧ m'.ok = true
    · rw [if_pos hc] at h2
      cases h2
      obtain ⟨hp, he⟩ := msg_back hB h1
      exact ⟨hc.2, hp.all (by omega)⟩
    · rw [if_neg hc] at h2; cases h2
  · rintro ⟨h1, h2⟩
    rw [msg_put h1 ⟨[], by rw [List.drop_zero, List.append_nil]; exact h2⟩]
    simp only [Option.bind_some]
    rw [if_pos ⟨by rw [← h2], h1⟩]
end Go.Proofs.YtbkhlaiifbdfoaaDoor
/-
  What markCellS, markNoteS and markMsg leave in rows of one's own.
-/
namespace Go.Proofs.YtbkhlaiifbdfoaaDoor
open Go.RowKit

def markC1 (k : Int) : Int × Bool × Int := (k, (k + 1) % 3 == 0, k + 1 + 1)
def markN1 (k : Int) : Int × Int := (k, k + 1)
def marksC (k : Int) (n : Nat) : List (Int × Bool × Int) := (List.range n).map fun (j : Nat) => markC1 (k + 3 * (j : Int))
def marksN (k : Int) (n : Nat) : List (Int × Int) := (List.range n).map fun (j : Nat) => markN1 (k + 2 * (j : Int))
theorem marksC_len (k : Int) (n : Nat) : (marksC k n).length = n := by simp [marksC]
theorem marksN_len (k : Int) (n : Nat) : (marksN k n).length = n := by simp [marksN]
theorem marksC_get (k : Int) (n j : Nat) (h : j < n) : (marksC k n).getD j (0, false, 0) = markC1 (k + 3 * (j : Int)) := by simp [marksC, h]
theorem marksN_get (k : Int) (n j : Nat) (h : j < n) : (marksN k n).getD j (0, 0) = markN1 (k + 2 * (j : Int)) := by simp [marksN, h]
theorem markC_step (k : Int) (j : Nat) (cs : List (Int × Bool × Int)) (h : j < cs.length) : (marksC k j ++ cs.drop j).set j (markC1 (k + 3 * (j : Int))) = marksC k (j + 1) ++ cs.drop (j + 1) := by
  rw [List.drop_eq_getElem_cons h, List.set_append_right _ _ (by simp [marksC_len]), marksC_len, Nat.sub_self, List.set_cons_zero]
  unfold marksC
  rw [List.range_succ, List.map_append, List.append_assoc]
  rfl
theorem markN_step (k : Int) (j : Nat) (cs : List (Int × Int)) (h : j < cs.length) : (marksN k j ++ cs.drop j).set j (markN1 (k + 2 * (j : Int))) = marksN k (j + 1) ++ cs.drop (j + 1) := by
  rw [List.drop_eq_getElem_cons h, List.set_append_right _ _ (by simp [marksN_len]), marksN_len, Nat.sub_self, List.set_cons_zero]
  unfold marksN
  rw [List.range_succ, List.map_append, List.append_assoc]
  rfl
theorem markC_len (k : Int) (j : Nat) (cs : List (Int × Bool × Int)) (h : j ≤ cs.length) : (marksC k j ++ cs.drop j).length = cs.length := by simp [marksC_len]; omega
theorem markN_len (k : Int) (j : Nat) (cs : List (Int × Int)) (h : j ≤ cs.length) : (marksN k j ++ cs.drop j).length = cs.length := by simp [marksN_len]; omega


theorem OwnC.shape {w : World} {b : Nat} {v : Value} {cs : List (Int × Bool × Int)} (h : OwnC w b v cs) : (cs = [] ∧ ∃ a c, v = .slice a 0 c) ∨ (0 < cs.length ∧ ∃ g c, v = .slice (some ⟨g, 0, none⟩) cs.length c) := by
  rcases h.2 with ⟨rfl, h0⟩ | ⟨g, c, cur, rfl, _⟩
  · exact .inl ⟨List.eq_nil_of_length_eq_zero h0, _, _, rfl⟩
  · by_cases hz : cs.length = 0
    · exact .inl ⟨List.eq_nil_of_length_eq_zero hz, _, _, by rw [hz]⟩
    · exact .inr ⟨by omega, g, c, rfl⟩
theorem OwnN.shape {w : World} {b : Nat} {v : Value} {cs : List (Int × Int)} (h : OwnN w b v cs) : (cs = [] ∧ ∃ a c, v = .slice a 0 c) ∨ (0 < cs.length ∧ ∃ g c, v = .slice (some ⟨g, 0, none⟩) cs.length c) := by
  rcases h.2 with ⟨rfl, h0⟩ | ⟨g, c, cur, rfl, _⟩
  · exact .inl ⟨List.eq_nil_of_length_eq_zero h0, _, _, rfl⟩
  · by_cases hz : cs.length = 0
    · exact .inl ⟨List.eq_nil_of_length_eq_zero hz, _, _, by rw [hz]⟩
    · exact .inr ⟨by omega, g, c, rfl⟩

set_option maxRecDepth 100000 in
set_option maxHeartbeats 2000000 in
theorem markCells (w : World) (b : Nat) (k : Int) (v : Value) (cs : List (Int × Bool × Int)) (h : OwnC w b v cs) (hk0 : 0 ≤ k) (hk : k ≤ 100000000) (hl : cs.length ≤ 1048576) :
    Calls Tryd.prog 59 #[v, .int .i64 k] w fun e w' => e = .returned (.int .i64 (k + 3 * (cs.length : Int))) ∧ OwnC w' b v (marksC k cs.length) ∧ w.grownBy w' v.ownBlock := by
  rcases h.shape with ⟨rfl, a, c, rfl⟩ | ⟨hp, g, c, rfl⟩
  · have HO := hide h
    clear h
    go_enter Tryd.func59, Tryd.ntmps59
    go_wp2
    go_loopw [1, 5] (fun q i wr => q = .int .i64 k ∧ i = .int .i64 0 ∧ wr = w) (fun _ _ _ => 0)
    case atStart => exact ⟨rfl, rfl, rfl⟩
    case round =>
      obtain ⟨rfl, rfl, rfl⟩ := hrel
      go_wp2
      go_ret
      exact ⟨ret_int (by simp), HO.out, World.grownBy.refl _ _⟩
  · generalize hn : cs.length = n at *
    have HO := hide h
    clear h
    go_enter Tryd.func59, Tryd.ntmps59
    go_wp2
    go_loopw [1, 5] (fun q i wr => ∃ j : Nat, j ≤ n ∧ q = .int .i64 (k + 3 * (j : Int)) ∧ i = .int .i64 (j : Int) ∧ Hid (OwnC wr b (.slice (some ⟨g, 0, none⟩) n c) (marksC k j ++ cs.drop j)) ∧ Hid (w.grownBy wr (some g))) (fun _ i _ => n - (intOf i).toNat)
    case atStart => exact ⟨0, Nat.zero_le _, by simp, rfl, HO, hide (World.grownBy.refl _ _)⟩
    case round =>
      clear HO
      obtain ⟨j, hj, rfl, rfl, HO, HG⟩ := hrel
      have hml := markC_len k j cs (by omega)
      by_cases hlt : j < n
      · obtain ⟨⟨u0, hu0⟩, ⟨u1, hu1⟩, ⟨u2, hu2⟩, hf0, hf1, hf2, ho2⟩ := OwnC.put HO.out (by rw [hml]; exact hn) j hlt (k + 3 * (j : Int)) ((k + 3 * (j : Int) + 1) % 3 == 0) (k + 3 * (j : Int) + 1 + 1)
        have ho3 := ho2
        rw [show (k + 3 * (j : Int), (k + 3 * (j : Int) + 1) % 3 == 0, k + 3 * (j : Int) + 1 + 1) = markC1 (k + 3 * (j : Int)) from rfl, markC_step k j cs (by omega)] at ho3
        have HO2 := hide ho3
        have HG2 := hide (grown_set (grown_set (grown_set HG.out (j * 3) (.int .i64 (k + 3 * (j : Int)))) (j * 3 + 1) (.bool ((k + 3 * (j : Int) + 1) % 3 == 0))) (j * 3 + 2) (.int .i64 (k + 3 * (j : Int) + 1 + 1)))
        clear ho2 ho3 HO HG hml
        go_wp2
        exact ⟨⟨j + 1, by omega, by go_num, by go_num, HO2, HG2⟩, by simp [intOf]; omega⟩
      · obtain rfl : j = n := by omega
        have HF : Hid (OwnC wr b (.slice (some ⟨g, 0, none⟩) j c) (marksC k j)) := hide (by have := HO.out; rwa [← hn, List.drop_length, List.append_nil, hn] at this)
        go_wp2
        go_ret
        exact ⟨rfl, HF.out, HG.out⟩
set_option maxRecDepth 100000 in
set_option maxHeartbeats 2000000 in
theorem markNotes (w : World) (b : Nat) (k : Int) (v : Value) (cs : List (Int × Int)) (h : OwnN w b v cs) (hk0 : 0 ≤ k) (hk : k ≤ 100000000) (hl : cs.length ≤ 1048576) :
    Calls Tryd.prog 60 #[v, .int .i64 k] w fun e w' => e = .returned (.int .i64 (k + 2 * (cs.length : Int))) ∧ OwnN w' b v (marksN k cs.length) ∧ w.grownBy w' v.ownBlock := by
  rcases h.shape with ⟨rfl, a, c, rfl⟩ | ⟨hp, g, c, rfl⟩
  · have HO := hide h
    clear h
    go_enter Tryd.func60, Tryd.ntmps60
    go_wp2
    go_loopw [1, 5] (fun q i wr => q = .int .i64 k ∧ i = .int .i64 0 ∧ wr = w) (fun _ _ _ => 0)
    case atStart => exact ⟨rfl, rfl, rfl⟩
    case round =>
      obtain ⟨rfl, rfl, rfl⟩ := hrel
      go_wp2
      go_ret
      exact ⟨ret_int (by simp), HO.out, World.grownBy.refl _ _⟩
  · generalize hn : cs.length = n at *
    have HO := hide h
    clear h
    go_enter Tryd.func60, Tryd.ntmps60
    go_wp2
    go_loopw [1, 5] (fun q i wr => ∃ j : Nat, j ≤ n ∧ q = .int .i64 (k + 2 * (j : Int)) ∧ i = .int .i64 (j : Int) ∧ Hid (OwnN wr b (.slice (some ⟨g, 0, none⟩) n c) (marksN k j ++ cs.drop j)) ∧ Hid (w.grownBy wr (some g))) (fun _ i _ => n - (intOf i).toNat)
    case atStart => exact ⟨0, Nat.zero_le _, by simp, rfl, HO, hide (World.grownBy.refl _ _)⟩
    case round =>
      clear HO
      obtain ⟨j, hj, rfl, rfl, HO, HG⟩ := hrel
      have hml := markN_len k j cs (by omega)
      by_cases hlt : j < n
      · obtain ⟨⟨u0, hu0⟩, ⟨u1, hu1⟩, hf0, hf1, ho2⟩ := OwnN.put HO.out (by rw [hml]; exact hn) j hlt (k + 2 * (j : Int)) (k + 2 * (j : Int) + 1)
        have ho3 := ho2
        rw [show (k + 2 * (j : Int), k + 2 * (j : Int) + 1) = markN1 (k + 2 * (j : Int)) from rfl, markN_step k j cs (by omega)] at ho3
        have HO2 := hide ho3
        have HG2 := hide (grown_set (grown_set HG.out (j * 2) (.int .i64 (k + 2 * (j : Int)))) (j * 2 + 1) (.int .i64 (k + 2 * (j : Int) + 1)))
        clear ho2 ho3 HO HG hml
        go_wp2
        exact ⟨⟨j + 1, by omega, by go_num, by go_num, HO2, HG2⟩, by simp [intOf]; omega⟩
      · obtain rfl : j = n := by omega
        have HF : Hid (OwnN wr b (.slice (some ⟨g, 0, none⟩) j c) (marksN k j)) := hide (by have := HO.out; rwa [← hn, List.drop_length, List.append_nil, hn] at this)
        go_wp2
        go_ret
        exact ⟨rfl, HF.out, HG.out⟩
theorem OwnC.kept {w w' : World} {b : Nat} {v : Value} {row : Option Nat} {cs : List (Int × Bool × Int)} (h : OwnC w b v cs) (hg : w.grownBy w' row) (hne : ∀ q, v.ownBlock = some q → row ≠ some q) : OwnC w' b v cs := by
  refine World.ownsRow.kept h hg ?_
  cases hv : v.ownBlock with
  | none => exact .inl rfl
  | some q => exact .inr (fun e => hne q hv e.symm)
theorem OwnN.kept {w w' : World} {b : Nat} {v : Value} {row : Option Nat} {cs : List (Int × Int)} (h : OwnN w b v cs) (hg : w.grownBy w' row) (hne : ∀ q, v.ownBlock = some q → row ≠ some q) : OwnN w' b v cs := by
  refine World.ownsRow.kept h hg ?_
  cases hv : v.ownBlock with
  | none => exact .inl rfl
  | some q => exact .inr (fun e => hne q hv e.symm)

set_option maxRecDepth 100000 in
set_option maxHeartbeats 2000000 in
theorem markMsg (w : World) (b5 b6 : Nat) (k i u c n : Int) (v5 v6 : Value) (cs : List (Int × Bool × Int)) (ns : List (Int × Int)) (h5 : OwnC w b5 v5 cs) (h6 : OwnN w b6 v6 ns) (hne : ∀ q, v5.ownBlock = some q → ∀ r, v6.ownBlock = some r → q < r) (hmc : cs.length ≤ 1048576) (hmn : ns.length ≤ 1048576) :
    Calls Tryd.prog 26 #[msgV k i u c n v5 v6, .int .i64 1] w fun e w' => e = .returned (.int .i64 (1 + 3 * (cs.length : Int) + 2 * (ns.length : Int))) ∧ OwnC w' b5 v5 (marksC 1 cs.length) ∧ OwnN w' b6 v6 (marksN (1 + 3 * (cs.length : Int)) ns.length) ∧ ∃ w1, w.grownBy w1 v5.ownBlock ∧ w1.grownBy w' v6.ownBlock := by
  have H5 := hide h5
  have H6 := hide h6
  obtain ⟨a5, c5, rfl, _⟩ := cells_at (h5.rd (Nat.le_refl _))
  obtain ⟨a6, c6, rfl, _⟩ := notes_at (h6.rd (Nat.le_refl _))
  clear h5 h6
  unfold msgV
  have bA := (Below.refl w.heap.size w).alloc (Nat.le_refl _) (.cells #[.int .i64 k, .int .i64 i, .int .i64 u, .int .i64 c, .int .i64 n, .slice a5 cs.length c5, .slice a6 ns.length c6] 27)
  have HX := hide (Box.new w #[.int .i64 k, .int .i64 i, .int .i64 u, .int .i64 c, .int .i64 n, .slice a5 cs.length c5, .slice a6 ns.length c6] 27)
  have L5 := hide H5.out.lt
  have HN := hide hne
  replace H5 := hide (H5.out.below bA)
  replace H6 := hide (H6.out.below bA)
  have HA := hide (grown_of_below bA)
  clear bA hne
  go_enter Tryd.func26, Tryd.ntmps26
  go_wp2_with fail
  refine (markCells _ _ _ _ _ H5.out (by omega) (by omega) hmc).mono ?_
  rintro e w1 ⟨rfl, o5, g1⟩
  have f6 : w1.cell? ⟨w.heap.size, 6, none⟩ = some (.slice a6 ns.length c6) := (World.cell?_of_block (w := w.alloc (.cells #[.int .i64 k, .int .i64 i, .int .i64 u, .int .i64 c, .int .i64 n, .slice a5 cs.length c5, .slice a6 ns.length c6] 27)) (g1.block w.heap.size (by simp) (fun e => by have := (L5.out _ e.symm).2; omega))).trans (HX.out 6 _ rfl)
  replace H5 := hide o5
  replace H6 := hide (H6.out.kept g1 (fun q hq e => by have := HN.out q e q hq; omega))
  have G1 := hide (alloc_grown g1)
  clear o5 g1 HA
  go_wp2_with fail
  refine (markNotes _ _ _ _ _ H6.out (by omega) (by omega) hmn).mono ?_
  rintro e w2 ⟨rfl, o6, g2⟩
  replace H6 := hide o6
  replace H5 := hide (H5.out.kept g2 (fun q hq e => by have := HN.out q hq q e; omega))
  have G2 := hide g2
  clear o6 g2 f6
  go_wp2
  go_ret
  exact ⟨rfl, H5.out, H6.out, w1, G1.out, G2.out⟩
end Go.Proofs.YtbkhlaiifbdfoaaDoor
/-
  What takeFlag, takeCell and takeNote do: what begins at the place, and the place behind it; or a panic, where there is none.
-/
namespace Go.Proofs.YtbkhlaiifbdfoaaDoor
open Go.RowKit

/-- A reader's bytes, its place, and what it panics with. -/
structure Rdr (w : World) (B : Nat) (a : Option Addr) (len : Nat) (zs : List Int) (p k : Nat) (t : TypeId) (v : Value) : Prop where
  inp : In w B a len zs
  hB : B ≤ p
  hp0 : 0 < p
  err : Err w t v
  pl : w.heap[p]? = some (.cells #[.int .i64 (k : Int)] 3 (0, 0))

theorem Rdr.lt {w : World} {B : Nat} {a : Option Addr} {len : Nat} {zs : List Int} {p k : Nat} {t : TypeId} {v : Value} (h : Rdr w B a len zs p k t v) : p < w.heap.size := (Array.getElem?_eq_some_iff.1 h.pl).1
theorem Rdr.next {w w' : World} {B : Nat} {a : Option Addr} {len : Nat} {zs : List Int} {p k k' : Nat} {t : TypeId} {v : Value} (h : Rdr w B a len zs p k t v) (hg : w.grownBy w' (some p)) (hp : w'.heap[p]? = some (.cells #[.int .i64 (k' : Int)] 3 (0, 0))) : Rdr w' B a len zs p k' t v :=
  ⟨h.inp.out hg h.hB h.lt, h.hB, h.hp0, h.err.out hg h.hp0, hp⟩
theorem Rdr.far {w w' : World} {B : Nat} {a : Option Addr} {len : Nat} {zs : List Int} {p k : Nat} {t : TypeId} {v : Value} {row : Option Nat} (h : Rdr w B a len zs p k t v) (hg : w.grownBy w' row) (hne : ∀ q, row = some q → p < q) : Rdr w' B a len zs p k t v := by
  have hl := h.lt
  have hB := h.hB
  have h0 := h.hp0
  refine ⟨h.inp.kept (fun q hq => hg.block q (by omega) (fun e => by have := hne q e.symm; omega)), hB, h0, ?_, (hg.block p hl (fun e => by have := hne p e.symm; omega)).trans h.pl⟩
  exact hg.cell h.err (fun e => by have := hne 0 e.symm; omega)
theorem Rdr.alloc {w : World} {B : Nat} {a : Option Addr} {len : Nat} {zs : List Int} {p k : Nat} {t : TypeId} {v : Value} (h : Rdr w B a len zs p k t v) (o : Obj) : Rdr (w.alloc o) B a len zs p k t v :=
  h.far (World.grownBy_alloc w o none) (fun q e => by cases e)
theorem Rdr.set {w : World} {B : Nat} {a : Option Addr} {len : Nat} {zs : List Int} {p k : Nat} {t : TypeId} {v : Value} (h : Rdr w B a len zs p k t v) {g : Nat} (hg : p < g) (o : Nat) (u : Value) : Rdr (w.setCell ⟨g, o, none⟩ u) B a len zs p k t v :=
  h.far (grown_set (World.grownBy.refl w _) o u) (fun q e => by cases e; exact hg)

/-- What is taken. -/
def tookG {α : Type} (Val : α → Value) (w : World) (p : Nat) (t : TypeId) (v : Value) (r : Option (α × Nat)) (e : Ending) (w' : World) : Prop :=
  ((∃ x nx, r = some (x, nx) ∧ e = .returned (Val x) ∧ w'.heap[p]? = some (.cells #[.int .i64 ((nx : Nat) : Int)] 3 (0, 0))) ∨
   (r = none ∧ e = .panicked [{ v := .iface t v, recovered := false }])) ∧ w.grownBy w' (some p)

theorem rdNum {w : World} {B : Nat} {a : Option Addr} {len : Nat} {zs : List Int} {p k : Nat} {t : TypeId} {v : Value} (cap : Nat) (h : Rdr w B a len zs p k t v) :
    Calls Tryd.prog 66 #[.slice a len cap, .pointer (some ⟨p, 0, none⟩)] w (took w p t v (gnF zs 4 k 0 1)) :=
  takeNum w a len cap zs B p k t v h.inp h.hB h.hp0 h.err h.pl
theorem rdWord {w : World} {B : Nat} {a : Option Addr} {len : Nat} {zs : List Int} {p k : Nat} {t : TypeId} {v : Value} (cap : Nat) (h : Rdr w B a len zs p k t v) :
    Calls Tryd.prog 80 #[.slice a len cap, .pointer (some ⟨p, 0, none⟩)] w (took w p t v (gw zs (k : Int))) :=
  takeWord w a len cap zs B p k t v h.inp h.hB h.hp0 h.err h.pl

def rFlag (zs : List Int) (k : Nat) : Option (Bool × Nat) := (gnF zs 4 k 0 1).bind fun f => if 1 < f.1 then none else some (f.1 == 1, f.2)

set_option maxHeartbeats 1000000 in
theorem rdFlag {w : World} {B : Nat} {a : Option Addr} {len : Nat} {zs : List Int} {p k : Nat} {t : TypeId} {v : Value} (cap : Nat) (h : Rdr w B a len zs p k t v) :
    Calls Tryd.prog 79 #[.slice a len cap, .pointer (some ⟨p, 0, none⟩)] w (tookG Value.bool w p t v (rFlag zs k)) := by
  have HR := hide h
  clear h
  go_enter Tryd.func79, Tryd.ntmps79
  go_wp2_with fail
  refine (rdNum cap HR.out).mono ?_
  rintro e w1 ⟨hres, hg⟩
  have HG := hide hg
  clear hg
  rcases hres with ⟨n, nx, hr, rfl, hp1⟩ | ⟨hr, rfl⟩
  · have HP := hide hp1
    have hE : w1.cell? ⟨0, 0, none⟩ = some (.iface t v) := (HR.out.next HG.out hp1).err
    clear hp1
    by_cases hn : 1 < n
    · have HN : Hid (rFlag zs k = none) := hide (by unfold rFlag; rw [hr]; simp [hn])
      clear hr
      go_wp2
      exact ⟨rfl, .inr ⟨HN.out, rfl⟩, HG.out⟩
    · have HN : Hid (rFlag zs k = some (n == 1, nx)) := hide (by unfold rFlag; rw [hr]; simp [hn])
      clear hr hE
      go_wp2
      go_ret
      exact ⟨.inl ⟨_, _, HN.out, rfl, HP.out⟩, HG.out⟩
  · have HN : Hid (rFlag zs k = none) := hide (by unfold rFlag; rw [hr]; rfl)
    clear hr
    go_wp2
    exact ⟨rfl, .inr ⟨HN.out, rfl⟩, HG.out⟩

def cellV (x : Int × Bool × Int) : Value := .agg #[.int .i64 x.1, .bool x.2.1, .int .i64 x.2.2]
def noteV (x : Int × Int) : Value := .agg #[.int .i64 x.1, .int .i64 x.2]

theorem rCell_flag (zs : List Int) (k : Nat) : rCell zs k = (gnF zs 4 k 0 1).bind fun a => (rFlag zs a.2).bind fun f => if f.1 = true then (gnF zs 4 f.2 0 1).bind fun y => some ((a.1, true, y.1), y.2) else (gw zs (f.2 : Int)).bind fun y => some ((a.1, false, y.1), y.2) := by
  unfold rCell
  congr 1
  funext a
  unfold rFlag
  rw [Option.bind_assoc]
  congr 1
  funext f
  by_cases h : 1 < f.1
  · rw [if_pos h, if_pos h]; rfl
  · rw [if_neg h, if_neg h]
    simp only [Option.bind_some, beq_iff_eq]

theorem load3 {w : World} {g : Nat} {x y z : Value} (h : w.heap[g]? = some (.cells #[x, y, z] 50 (0, 0))) : (loadVar 50 ⟨g, 0, none⟩).run Tryd.prog w = .ok (.agg #[x, y, z]) w :=
  run_loadVar_row w g 50 50 #[x, y, z] (0, 0) _ h Tryd.underlying50 rfl (by kernel_rfl)
theorem load2 {w : World} {g : Nat} {x y : Value} (h : w.heap[g]? = some (.cells #[x, y] 53 (0, 0))) : (loadVar 53 ⟨g, 0, none⟩).run Tryd.prog w = .ok (.agg #[x, y]) w :=
  run_loadVar_row w g 53 53 #[x, y] (0, 0) _ h Tryd.underlying53 rfl (by kernel_rfl)
theorem put3 {w : World} {g : Nat} {T : TypeId} {a0 a1 a2 : Value} (h : w.heap[g]? = some (.cells #[a0, a1, a2] T (0, 0))) (b0 b1 b2 : Value) :
    (((w.setCell ⟨g, 0, none⟩ b0).setCell ⟨g, 1, none⟩ b1).setCell ⟨g, 2, none⟩ b2).heap[g]? = some (.cells #[b0, b1, b2] T (0, 0)) := by
  have h0 : (w.setCell ⟨g, 0, none⟩ b0).heap[g]? = some (.cells #[b0, a1, a2] T (0, 0)) := heap_setCell_same w g 0 _ T b0 h
  have h1 : ((w.setCell ⟨g, 0, none⟩ b0).setCell ⟨g, 1, none⟩ b1).heap[g]? = some (.cells #[b0, b1, a2] T (0, 0)) := heap_setCell_same _ g 1 _ T b1 h0
  exact heap_setCell_same _ g 2 _ T b2 h1
theorem put2 {w : World} {g : Nat} {T : TypeId} {a0 a1 : Value} (h : w.heap[g]? = some (.cells #[a0, a1] T (0, 0))) (b0 b1 : Value) :
    ((w.setCell ⟨g, 0, none⟩ b0).setCell ⟨g, 1, none⟩ b1).heap[g]? = some (.cells #[b0, b1] T (0, 0)) := by
  have h0 : (w.setCell ⟨g, 0, none⟩ b0).heap[g]? = some (.cells #[b0, a1] T (0, 0)) := heap_setCell_same w g 0 _ T b0 h
  exact heap_setCell_same _ g 1 _ T b1 h0
theorem grown_new {w wr : World} {p g : Nat} (h : w.grownBy wr (some p)) (hg : w.heap.size ≤ g) (o : Nat) (v : Value) : w.grownBy (wr.setCell ⟨g, o, none⟩ v) (some p) :=
  grown_step h (grown_set (World.grownBy.refl wr _) o v) (fun k e => by cases e; exact .inr hg)
theorem set_place {w : World} {g p : Nat} (h : p < g) (o : Nat) (u : Value) : (w.setCell ⟨g, o, none⟩ u).heap[p]? = w.heap[p]? := heap_setCell_other w ⟨g, o, none⟩ p u (by simp; omega)
end Go.Proofs.YtbkhlaiifbdfoaaDoor
/-
  What takeCell and takeNote do.
-/
namespace Go.Proofs.YtbkhlaiifbdfoaaDoor
open Go.RowKit

set_option maxRecDepth 100000 in
set_option maxHeartbeats 2000000 in
theorem rdNote {w : World} {B : Nat} {a : Option Addr} {len : Nat} {zs : List Int} {p k : Nat} {t : TypeId} {v : Value} (cap : Nat) (h : Rdr w B a len zs p k t v) :
    Calls Tryd.prog 70 #[.slice a len cap, .pointer (some ⟨p, 0, none⟩)] w (tookG noteV w p t v (rNote zs k)) := by
  have hlt := h.lt
  have HR := hide (h.alloc (.cells #[.int .i64 0, .int .i64 0] 53))
  have HA := hide (World.grownBy_alloc w (.cells #[.int .i64 0, .int .i64 0] 53) (some p))
  have HE := hide (heap_alloc_new w (.cells #[.int .i64 0, .int .i64 0] 53))
  clear h
  go_enter Tryd.func70, Tryd.ntmps70
  go_wp2_with fail
  refine (rdNum cap HR.out).mono ?_
  rintro e w1 ⟨hres, g1⟩
  have HG := hide (grownBy_trans HA.out g1)
  rcases hres with ⟨x, k1, hr1, rfl, hp1⟩ | ⟨hr1, rfl⟩
  · have HR1 := hide (HR.out.next g1 hp1)
    have HE1 := hide ((g1.block w.heap.size (by simp) (fun e => by cases e; omega)).trans HE.out)
    have H1 := hide hr1
    clear g1 hp1 hr1 HR HE HA
    go_wp2_with fail
    refine (rdNum cap HR1.out).mono ?_
    rintro e w2 ⟨hres, g2⟩
    have hs1 : w.heap.size < w1.heap.size := (Array.getElem?_eq_some_iff.1 HE1.out).1
    replace HG := hide (grownBy_trans HG.out g2)
    rcases hres with ⟨y, k2, hr2, rfl, hp2⟩ | ⟨hr2, rfl⟩
    · have HE2 := hide ((g2.block w.heap.size hs1 (fun e => by cases e; omega)).trans HE1.out)
      have HN : Hid (rNote zs k = some ((x, y), k2)) := hide (by unfold rNote; rw [H1.out]; simp only [Option.bind_some]; rw [hr2]; rfl)
      have HP := hide hp2
      have X := box_of HE2.out
      have f0 := X.1 0 _ rfl
      have f1 := X.1 1 _ rfl
      have z0 := X.2 0
      have z1 := X.2 1
      clear g2 hp2 hr2 HE1 HR1 X
      go_wp2
      refine bodyPost_ret (v := .agg #[.int .i64 x, .int .i64 y]) (results_one Tryd.results70 _ _ _ rfl (load2 (put2 HE2.out _ _))) rfl ⟨.inl ⟨_, _, HN.out, rfl, ?_⟩, grown_new (grown_new HG.out (Nat.le_refl _) _ _) (Nat.le_refl _) _ _⟩
      rw [set_place hlt, set_place hlt]
      exact HP.out
    · have HN : Hid (rNote zs k = none) := hide (by unfold rNote; rw [H1.out]; simp only [Option.bind_some]; rw [hr2]; rfl)
      clear g2 hr2 HE1 HR1
      go_wp2
      exact ⟨rfl, .inr ⟨HN.out, rfl⟩, HG.out⟩
  · have HN : Hid (rNote zs k = none) := hide (by unfold rNote; rw [hr1]; rfl)
    clear g1 hr1
    go_wp2
    exact ⟨rfl, .inr ⟨HN.out, rfl⟩, HG.out⟩

set_option maxRecDepth 100000 in
set_option maxHeartbeats 4000000 in
theorem rdCell {w : World} {B : Nat} {a : Option Addr} {len : Nat} {zs : List Int} {p k : Nat} {t : TypeId} {v : Value} (cap : Nat) (h : Rdr w B a len zs p k t v) :
    Calls Tryd.prog 68 #[.slice a len cap, .pointer (some ⟨p, 0, none⟩)] w (tookG cellV w p t v (rCell zs k)) := by
  rw [rCell_flag]
  have hlt := h.lt
  have HR := hide (h.alloc (.cells #[.int .i64 0, .bool false, .int .i64 0] 50))
  have HA := hide (World.grownBy_alloc w (.cells #[.int .i64 0, .bool false, .int .i64 0] 50) (some p))
  have HE := hide (heap_alloc_new w (.cells #[.int .i64 0, .bool false, .int .i64 0] 50))
  clear h
  generalize hG : (gnF zs 4 k 0 1).bind _ = G
  have HGG := hide hG
  clear hG
  go_enter Tryd.func68, Tryd.ntmps68
  go_wp2_with fail
  refine (rdNum cap HR.out).mono ?_
  rintro e w1 ⟨hres, g1⟩
  have HG := hide (grownBy_trans HA.out g1)
  rcases hres with ⟨x, k1, hr1, rfl, hp1⟩ | ⟨hr1, rfl⟩
  · have HR1 := hide (HR.out.next g1 hp1)
    have HE1 := hide ((g1.block w.heap.size (by simp) (fun e => by cases e; omega)).trans HE.out)
    rw [hr1] at HGG
    clear g1 hp1 hr1 HR HE HA
    go_wp2_with fail
    refine (rdFlag cap HR1.out).mono ?_
    rintro e w2 ⟨hres, g2⟩
    have hs1 : w.heap.size < w1.heap.size := (Array.getElem?_eq_some_iff.1 HE1.out).1
    replace HG := hide (grownBy_trans HG.out g2)
    rcases hres with ⟨f, k2, hr2, rfl, hp2⟩ | ⟨hr2, rfl⟩
    · have HR2 := hide (HR1.out.next g2 hp2)
      have HE2 := hide ((g2.block w.heap.size hs1 (fun e => by cases e; omega)).trans HE1.out)
      have H2 := hide hr2
      have hs2 : w.heap.size < w2.heap.size := (Array.getElem?_eq_some_iff.1 HE2.out).1
      clear g2 hp2 hr2 HE1 HR1
      cases f with
      | true =>
        go_wp2_with fail
        refine (rdNum cap HR2.out).mono ?_
        rintro e w3 ⟨hres, g3⟩
        replace HG := hide (grownBy_trans HG.out g3)
        rcases hres with ⟨y, k3, hr3, rfl, hp3⟩ | ⟨hr3, rfl⟩
        · have HE3 := hide ((g3.block w.heap.size hs2 (fun e => by cases e; omega)).trans HE2.out)
          have HN : Hid (G = some ((x, true, y), k3)) := hide (by rw [← HGG.out]; simp only [Option.bind_some]; rw [H2.out]; simp only [Option.bind_some, if_true]; rw [hr3]; rfl)
          have HP := hide hp3
          have X := box_of HE3.out
          have f0 := X.1 0 _ rfl
          have f1 := X.1 1 _ rfl
          have f2 := X.1 2 _ rfl
          have z0 := X.2 0
          have z1 := X.2 1
          have z2 := X.2 2
          clear g3 hp3 hr3 HE2 HR2 X
          go_wp2
          refine bodyPost_ret (v := .agg #[.int .i64 x, .bool true, .int .i64 y]) (results_one Tryd.results68 _ _ _ rfl (load3 (put3 HE3.out _ _ _))) rfl ⟨.inl ⟨_, _, HN.out, rfl, ?_⟩, grown_new (grown_new (grown_new HG.out (Nat.le_refl _) _ _) (Nat.le_refl _) _ _) (Nat.le_refl _) _ _⟩
          rw [set_place hlt, set_place hlt, set_place hlt]
          exact HP.out
        · have HN : Hid (G = none) := hide (by rw [← HGG.out]; simp only [Option.bind_some]; rw [H2.out]; simp only [Option.bind_some, if_true]; rw [hr3]; rfl)
          clear g3 hr3 HE2 HR2
          go_wp2
          exact ⟨rfl, .inr ⟨HN.out, rfl⟩, HG.out⟩
      | false =>
        go_wp2_with fail
        refine (rdWord cap HR2.out).mono ?_
        rintro e w3 ⟨hres, g3⟩
        replace HG := hide (grownBy_trans HG.out g3)
        rcases hres with ⟨y, k3, hr3, rfl, hp3⟩ | ⟨hr3, rfl⟩
        · have HE3 := hide ((g3.block w.heap.size hs2 (fun e => by cases e; omega)).trans HE2.out)
          have HN : Hid (G = some ((x, false, y), k3)) := hide (by rw [← HGG.out]; simp only [Option.bind_some]; rw [H2.out]; simp only [Option.bind_some, Bool.false_eq_true, if_false]; rw [hr3]; rfl)
          have HP := hide hp3
          have X := box_of HE3.out
          have f0 := X.1 0 _ rfl
          have f1 := X.1 1 _ rfl
          have f2 := X.1 2 _ rfl
          have z0 := X.2 0
          have z1 := X.2 1
          have z2 := X.2 2
          clear g3 hp3 hr3 HE2 HR2 X
          go_wp2
          refine bodyPost_ret (v := .agg #[.int .i64 x, .bool false, .int .i64 y]) (results_one Tryd.results68 _ _ _ rfl (load3 (put3 HE3.out _ _ _))) rfl ⟨.inl ⟨_, _, HN.out, rfl, ?_⟩, grown_new (grown_new (grown_new HG.out (Nat.le_refl _) _ _) (Nat.le_refl _) _ _) (Nat.le_refl _) _ _⟩
          rw [set_place hlt, set_place hlt, set_place hlt]
          exact HP.out
        · have HN : Hid (G = none) := hide (by rw [← HGG.out]; simp only [Option.bind_some]; rw [H2.out]; simp only [Option.bind_some, Bool.false_eq_true, if_false]; rw [hr3]; rfl)
          clear g3 hr3 HE2 HR2
          go_wp2
          exact ⟨rfl, .inr ⟨HN.out, rfl⟩, HG.out⟩
    · have HN : Hid (G = none) := hide (by rw [← HGG.out]; simp only [Option.bind_some]; rw [hr2]; rfl)
      clear g2 hr2 HE1 HR1
      go_wp2
      exact ⟨rfl, .inr ⟨HN.out, rfl⟩, HG.out⟩
  · have HN : Hid (G = none) := hide (by rw [← HGG.out, hr1]; rfl)
    clear g1 hr1
    go_wp2
    exact ⟨rfl, .inr ⟨HN.out, rfl⟩, HG.out⟩
end Go.Proofs.YtbkhlaiifbdfoaaDoor
