/-
  What cellBytes does.
-/
import Derived.Test.YtoaenoakdbieaaaDoorMsgB
import Derived.Test.YtoaenoakdbieaaaDoorMsgRows
namespace Go.Proofs.YtoaenoakdbieaaaDoor
open Go.RowKit

theorem cellB_yes (x y : Int) : cellB (x, true, y) = pn x ++ pn 1 ++ pn y := rfl
theorem cellB_no (x y : Int) : cellB (x, false, y) = pn x ++ pn 0 ++ pw y := rfl

set_option maxRecDepth 100000 in
set_option maxHeartbeats 1000000 in
theorem cellBytesTrue (x y : Int) (w : World) :
    Calls Tryd.prog 48 #[.agg #[.int .i64 x, .bool true, .int .i64 y]] w fun e w' => ∃ v, e = .returned v ∧ Own w' w.heap.size v (cellB (x, true, y)) ∧ Below w.heap.size w w' := by
  rw [cellB_yes]
  have hlx := pn_len x
  have HX := hide (Box.new w #[.int .i64 x, .bool true, .int .i64 y] 74)
  have HW := hide ((Below.refl w.heap.size w).alloc (Nat.le_refl _) (.cells #[.int .i64 x, .bool true, .int .i64 y] 74))
  have hg : Hid (w.heap.size < (w.alloc (.cells #[.int .i64 x, .bool true, .int .i64 y] 74)).heap.size) := hide (by simp)
  go_enter Tryd.func48, Tryd.ntmps48
  go_wp2_with fail
  generalize w.alloc (.cells #[.int .i64 x, .bool true, .int .i64 y] 74) = W0 at *
  refine (putNumImpl _ _).mono ?_
  rintro e w1 ⟨v1, rfl, o1, b1⟩
  have HP := hide b1
  have HO := hide o1
  clear b1 o1
  have f0 := (HX.out.below hg.out HP.out) 0 _ rfl
  have f1 := (HX.out.below hg.out HP.out) 1 _ rfl
  have f2 := (HX.out.below hg.out HP.out) 2 _ rfl
  go_wp2_with fail
  clear f0 f1 f2
  refine (putNumImpl _ _).mono ?_
  rintro e w2 ⟨v2, rfl, o2, b2⟩
  have HU2 := hide o2
  replace HO := hide (HO.out.below b2)
  replace HP := hide (HP.out.trans (b2.mono HP.out.size))
  have s2 := HP.out.size
  clear o2 b2
  go_wp2_with (at_builtin; refine app_own rfl _ _ rfl W0.heap.size _ _ _ (pn x) (pn 1) rfl HO.out rfl HU2.out (pn_byt _) (Nat.le_trans (pn_len _) (by omega)) (by omega) s2 ?_; intro v3 w3 o3 g3 n3; have HP3 := hide (HP.out.grown g3 s2 (fun q hq => (HO.out.lt q hq).1)); have HO3 := hide o3; clear o3 g3 n3; have f0 := (HX.out.below hg.out HP3.out) 0 _ rfl; have f1 := (HX.out.below hg.out HP3.out) 1 _ rfl; have f2 := (HX.out.below hg.out HP3.out) 2 _ rfl)
  clear f0 f1 f2
  refine (putNumImpl _ _).mono ?_
  rintro e w4 ⟨v4, rfl, o4, b4⟩
  have HU4 := hide o4
  replace HO := hide (HO3.out.below b4)
  replace HP := hide (HP3.out.trans (b4.mono HP3.out.size))
  have s4 := HP.out.size
  have hl1 := pn_len 1
  clear o4 b4 HO3 HP3
  go_wp2_with (at_builtin; refine app_own rfl _ _ rfl W0.heap.size _ _ _ (pn x ++ pn 1) (pn y) rfl HO.out rfl HU4.out (pn_byt _) (Nat.le_trans (pn_len _) (by omega)) (by simp; omega) s4 ?_; intro v5 w5 o5 g5 n5; have HP5 := hide (HP.out.grown g5 s4 (fun q hq => (HO.out.lt q hq).1)); have HO5 := hide o5; clear o5 g5 n5)
  go_ret
  exact ⟨_, rfl, HO5.out.mono HW.out.size, HW.out.trans (HP5.out.mono HW.out.size)⟩

set_option maxRecDepth 100000 in
set_option maxHeartbeats 1000000 in
theorem cellBytesFalse (x y : Int) (w : World) :
    Calls Tryd.prog 48 #[.agg #[.int .i64 x, .bool false, .int .i64 y]] w fun e w' => ∃ v, e = .returned v ∧ Own w' w.heap.size v (cellB (x, false, y)) ∧ Below w.heap.size w w' := by
  rw [cellB_no]
  have hlx := pn_len x
  have HX := hide (Box.new w #[.int .i64 x, .bool false, .int .i64 y] 74)
  have HW := hide ((Below.refl w.heap.size w).alloc (Nat.le_refl _) (.cells #[.int .i64 x, .bool false, .int .i64 y] 74))
  have hg : Hid (w.heap.size < (w.alloc (.cells #[.int .i64 x, .bool false, .int .i64 y] 74)).heap.size) := hide (by simp)
  go_enter Tryd.func48, Tryd.ntmps48
  go_wp2_with fail
  generalize w.alloc (.cells #[.int .i64 x, .bool false, .int .i64 y] 74) = W0 at *
  refine (putNumImpl _ _).mono ?_
  rintro e w1 ⟨v1, rfl, o1, b1⟩
  have HP := hide b1
  have HO := hide o1
  clear b1 o1
  have f0 := (HX.out.below hg.out HP.out) 0 _ rfl
  have f1 := (HX.out.below hg.out HP.out) 1 _ rfl
  have f2 := (HX.out.below hg.out HP.out) 2 _ rfl
  go_wp2_with fail
  clear f0 f1 f2
  refine (putNumImpl _ _).mono ?_
  rintro e w2 ⟨v2, rfl, o2, b2⟩
  have HU2 := hide o2
  replace HO := hide (HO.out.below b2)
  replace HP := hide (HP.out.trans (b2.mono HP.out.size))
  have s2 := HP.out.size
  clear o2 b2
  go_wp2_with (at_builtin; refine app_own rfl _ _ rfl W0.heap.size _ _ _ (pn x) (pn 0) rfl HO.out rfl HU2.out (pn_byt _) (Nat.le_trans (pn_len _) (by omega)) (by omega) s2 ?_; intro v3 w3 o3 g3 n3; have HP3 := hide (HP.out.grown g3 s2 (fun q hq => (HO.out.lt q hq).1)); have HO3 := hide o3; clear o3 g3 n3; have f0 := (HX.out.below hg.out HP3.out) 0 _ rfl; have f1 := (HX.out.below hg.out HP3.out) 1 _ rfl; have f2 := (HX.out.below hg.out HP3.out) 2 _ rfl)
  clear f0 f1 f2
  refine (putWordImpl _ _).mono ?_
  rintro e w4 ⟨v4, rfl, o4, b4⟩
  have HU4 := hide o4
  replace HO := hide (HO3.out.below b4)
  replace HP := hide (HP3.out.trans (b4.mono HP3.out.size))
  have s4 := HP.out.size
  have hl1 := pn_len 0
  clear o4 b4 HO3 HP3
  go_wp2_with (at_builtin; refine app_own rfl _ _ rfl W0.heap.size _ _ _ (pn x ++ pn 0) (pw y) rfl HO.out rfl HU4.out (pw_byt _) (Nat.le_trans (pw_len _) (by omega)) (by simp; omega) s4 ?_; intro v5 w5 o5 g5 n5; have HP5 := hide (HP.out.grown g5 s4 (fun q hq => (HO.out.lt q hq).1)); have HO5 := hide o5; clear o5 g5 n5)
  go_ret
  exact ⟨_, rfl, HO5.out.mono HW.out.size, HW.out.trans (HP5.out.mono HW.out.size)⟩

theorem cellBytes (x : Int) (r : Bool) (y : Int) (w : World) :
    Calls Tryd.prog 48 #[.agg #[.int .i64 x, .bool r, .int .i64 y]] w fun e w' => ∃ v, e = .returned v ∧ Own w' w.heap.size v (cellB (x, r, y)) ∧ Below w.heap.size w w' := by
  cases r
  · exact cellBytesFalse x y w
  · exact cellBytesTrue x y w
end Go.Proofs.YtoaenoakdbieaaaDoor
