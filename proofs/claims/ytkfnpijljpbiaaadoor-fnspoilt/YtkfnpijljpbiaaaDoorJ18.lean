/-
  Joined: LineLaw, LineR, GnMath.
-/
import Derived.Test.YtkfnpijljpbiaaaDoorJ17
import Derived.Test.YtkfnpijljpbiaaaDoorJ2
/-
  What the laws over lines lean on: boxes that stay, packets whose bytes lie between two blocks.
-/
namespace Go.Proofs.YtkfnpijljpbiaaaDoor
open Go.RowKit

/-- The block g holds just these cells. -/
def Bx (w : World) (g : Nat) (vs : Array Value) (T : TypeId) : Prop := w.heap[g]? = some (.cells vs T (0, 0))
theorem Bx.lt {w : World} {g : Nat} {vs : Array Value} {T : TypeId} (h : Bx w g vs T) : g < w.heap.size := (Array.getElem?_eq_some_iff.1 h).1
theorem Bx.below {w w' : World} {g : Nat} {vs : Array Value} {T : TypeId} (h : Bx w g vs T) (hb : Below w.heap.size w w') : Bx w' g vs T := (hb.block g h.lt).trans h
theorem Bx.out {w w' : World} {g c d : Nat} {vs : Array Value} {T : TypeId} (h : Bx w g vs T) (ho : Out c d w w') (hd : g < c ∨ d ≤ g) : Bx w' g vs T := (ho.block g h.lt hd).trans h
theorem Bx.drewN {w : World} {g : Nat} {vs : Array Value} {T : TypeId} (h : Bx w g vs T) (q : Nat) : Bx (w.drewN q) g vs T := h
theorem Bx.new (w : World) (vs : Array Value) (T : TypeId) : Bx (w.alloc (.cells vs T)) w.heap.size vs T := heap_alloc_new w _

/-- Bytes of one's own, from block b on up to hi. -/
def OwnB (w : World) (b hi : Nat) (v : Value) (zs : List Int) : Prop := Own w b v zs ∧ ∀ q, v.ownBlock = some q → q < hi
theorem OwnB.of {w : World} {b : Nat} {v : Value} {zs : List Int} (h : Own w b v zs) : OwnB w b w.heap.size v zs := ⟨h, fun q hq => (h.lt q hq).2⟩
theorem OwnB.below {w w' : World} {b hi : Nat} {v : Value} {zs : List Int} (h : OwnB w b hi v zs) (hb : Below w.heap.size w w') : OwnB w' b hi v zs := ⟨h.1.below hb, h.2⟩
theorem OwnB.out {w w' : World} {b hi c d : Nat} {v : Value} {zs : List Int} (h : OwnB w b hi v zs) (ho : Out c d w w') (hd : hi ≤ c ∨ d ≤ b) : OwnB w' b hi v zs :=
  ⟨h.1.out ho (by
    rcases hd with hd | hd
    · exact .inl (fun q hq => Nat.lt_of_lt_of_le (h.2 q hq) hd)
    · exact .inr hd), h.2⟩
theorem OwnB.bt {w : World} {b hi : Nat} {v : Value} {zs : List Int} (h : OwnB w b hi v zs) (hl : zs.length ≤ 1048576 ∧ Byt zs) : Bt w w.heap.size v zs := bt_own h.1 hl.1 hl.2 (Nat.le_refl _)
theorem OwnB.shape {w : World} {b hi : Nat} {v : Value} {zs : List Int} (h : OwnB w b hi v zs) : ∃ a c, v = .slice a zs.length c := own_shape h.1

theorem ansK_b {w w' : World} {R : Pk × Bool} {e : Ending} (h : ansK w R e w') : ∃ v, e = .returned (.tuple #[pkV R.1 v, .bool R.2]) ∧ OwnB w' w.heap.size w'.heap.size v R.1.b ∧ Below w.heap.size w w' := by
  obtain ⟨v, h1, h2, h3⟩ := h
  exact ⟨v, h1, OwnB.of h2, h3⟩
theorem sealed_good {zs : List Int} (h : zs.length ≤ 2000) (hz : Byt zs) : (sealed zs).length ≤ 1048576 ∧ Byt (sealed zs) := by
  refine ⟨?_, hz.append (four_byt _)⟩
  unfold sealed
  rw [List.length_append, four_len]; omega
theorem nodK_good (f t base got : Int) (ms : List Ms) : (nodK f t base got ms).1.b.length ≤ 1048576 ∧ Byt (nodK f t base got ms).1.b := by
  unfold nodK
  cases lnOk f t base got ms
  · exact ⟨by simp [noK], by intro z hz; simp [noK] at hz⟩
  · exact sealed_good (Nat.le_trans (nodB_len got) (by omega)) (nodB_byt got)
end Go.Proofs.YtkfnpijljpbiaaaDoor
/-
  What Wrap does, in the program and in its model.
-/
namespace Go.Proofs.YtkfnpijljpbiaaaDoor
open Go.RowKit

def msB (m : Ms) : List Int := mBytes m.k m.i m.u m.c m.n m.cs m.ns
def wrapB (num got : Int) (m : Ms) : List Int := pn 1 ++ pn num ++ pn got ++ msB m
def wrOk (f t base got i : Int) (ms : List Ms) : Bool := lnOk f t base got ms && inB i 0 ((ms.length : Int) - 1)
/-- What Wrap answers. -/
def wrapK (f t base got i : Int) (ms : List Ms) : Pk × Bool := bif wrOk f t base got i ms then (⟨f, t, sealed (wrapB (base + i) got (ms.getD i.toNat default)), false⟩, true) else noK
theorem wrapB_len (num got : Int) (m : Ms) : (wrapB num got m).length ≤ 1300 := by
  have h1 := pn_len 1
  have h2 := pn_len got
  have h3 := pn_len num
  have h4 := mBytes_len m.k m.i m.u m.c m.n m.cs m.ns
  unfold wrapB msB
  simp only [List.length_append]; omega
theorem wrapB_byt (num got : Int) (m : Ms) : Byt (wrapB num got m) := (((pn_byt _).append (pn_byt _)).append (pn_byt _)).append (mBytes_byt _ _ _ _ _ _ _)
theorem wrapK_good (f t base got i : Int) (ms : List Ms) : (wrapK f t base got i ms).1.b.length ≤ 1048576 ∧ Byt (wrapK f t base got i ms).1.b := by
  unfold wrapK
  cases wrOk f t base got i ms
  · exact ⟨by simp [noK], by intro z hz; simp [noK] at hz⟩
  · exact sealed_good (Nat.le_trans (wrapB_len _ _ _) (by omega)) (wrapB_byt _ _ _)
theorem wrOk_at {f t base got i : Int} {ms : List Ms} (h : wrOk f t base got i ms = true) : ∃ j : Nat, i = (j : Int) ∧ j < ms.length ∧ (0 ≤ got ∧ got ≤ 16777215) ∧ (0 ≤ base ∧ base + (ms.length : Int) ≤ 16777215) ∧ msOk (ms.getD j default) = true := by
  unfold wrOk at h
  rw [Bool.and_eq_true] at h
  obtain ⟨h1, h2⟩ := lnOk_all h.1
  have h3 := inB_yes h.2
  have h4 := sOk_all h2
  refine ⟨i.toNat, by omega, by omega, h1, ⟨h4.1.1, h4.2.2.1⟩, h4.2.2.2 _ ?_⟩
  have hj : i.toNat < ms.length := by omega
  have : ms.getD i.toNat default = ms[i.toNat] := by simp [hj]
  rw [this]; exact List.getElem_mem _
theorem msB_pos {m : Ms} (h : msOk m = true) : 0 < (msB m).length := by
  unfold msB mBytes
  rw [show mOk m.k m.i m.u m.c m.n m.cs m.ns = true from h]
  show 0 < (msgB _ _ _ _ _ _ _).length
  have h1 : inB m.i 1 1000000 = true := by
    have h2 : mOk m.k m.i m.u m.c m.n m.cs m.ns = true := h
    unfold mOk at h2
    simp only [Bool.and_eq_true] at h2
    exact h2.1.1
  have h3 := inB_yes h1
  have h4 := pn_pos m.i (by omega) (by omega)
  unfold msgB headB
  simp only [List.length_append]; omega

set_option maxRecDepth 100000 in
set_option maxHeartbeats 4000000 in
theorem letterWrap (w : World) (num got : Int) (m : Ms) (cv nv : Value) (h : Mt w w.heap.size (m, cv, nv)) (hg : GoodM m) (hm : msOk m = true) (h0 : 0 ≤ num ∧ num ≤ 16777215) (h1 : 0 ≤ got ∧ got ≤ 16777215) :
    Calls Tryd.prog 19 #[.agg #[.bool true, .int .i64 num, .int .i64 got, .int .i64 m.k, .int .i64 m.i, .int .i64 m.u, .int .i64 m.c, .int .i64 m.n, cv, nv]] w fun e w' => ∃ v, e = .returned v ∧ Own w' w.heap.size v (wrapB num got m) ∧ Below w.heap.size w w' := by
  have HM := hide h
  obtain ⟨a5, c5, e5, _⟩ := cells_at h.1
  obtain ⟨a6, c6, e6, _⟩ := notes_at h.2
  simp only at e5 e6
  subst e5 e6
  clear h
  have HX := hide (Box.new w #[.bool true, .int .i64 num, .int .i64 got, .int .i64 m.k, .int .i64 m.i, .int .i64 m.u, .int .i64 m.c, .int .i64 m.n, .slice a5 m.cs.length c5, .slice a6 m.ns.length c6] 52)
  have HW := hide ((Below.refl w.heap.size w).alloc (Nat.le_refl _) (.cells #[.bool true, .int .i64 num, .int .i64 got, .int .i64 m.k, .int .i64 m.i, .int .i64 m.u, .int .i64 m.c, .int .i64 m.n, .slice a5 m.cs.length c5, .slice a6 m.ns.length c6] 52))
  have hg1 : w.heap.size < (w.alloc (.cells #[.bool true, .int .i64 num, .int .i64 got, .int .i64 m.k, .int .i64 m.i, .int .i64 m.u, .int .i64 m.c, .int .i64 m.n, .slice a5 m.cs.length c5, .slice a6 m.ns.length c6] 52)).heap.size := by simp
  have hp := pn_pos num h0.1 h0.2
  have hp2 := pn_pos got h1.1 h1.2
  have hp3 := msB_pos hm
  have hl0 := pn_len 1
  have hl1 := pn_len num
  have hl2 := pn_len got
  have hl3 := mBytes_len m.k m.i m.u m.c m.n m.cs m.ns
  go_enter Tryd.func19, Tryd.ntmps19
  go_wp2_with fail
  generalize w.alloc (.cells #[.bool true, .int .i64 num, .int .i64 got, .int .i64 m.k, .int .i64 m.i, .int .i64 m.u, .int .i64 m.c, .int .i64 m.n, .slice a5 m.cs.length c5, .slice a6 m.ns.length c6] 52) = W0 at *
  have HS : Hid (∀ w', Below W0.heap.size W0 w' → w'.cell? ⟨w.heap.size, 1, none⟩ = some (.int .i64 num)) := hide (fun w' hw => (hw.cell (p := ⟨w.heap.size, 1, none⟩) hg1).trans (HX.out 1 _ rfl))
  have HD0 : Hid (Below W0.heap.size W0 W0.drew) := hide (Below.refl W0.heap.size W0).drew
  go_region_held_law (fun w' => w'.cell? ⟨w.heap.size, 1, none⟩ = some (.int .i64 num))
    (first | exact HS.out _ HD3.out | exact HS.out _ HD2.out | exact HS.out _ HD1.out | exact HS.out _ HD0.out)
    (first
      | (refine step_callB (some 12) rfl rfl 42 _ _ rfl #[.int .i64 1] (by kernel_rfl) (putNumImpl 1 _) ?_; rintro e x1 ⟨v1, rfl, o1, b1⟩; refine ⟨_, rfl, ?_⟩; have HD1 : Hid (Below W0.heap.size W0 x1) := hide (HD0.out.trans (b1.mono HD0.out.size)); have HO1 : Hid (Own x1 W0.heap.size v1 (pn 1)) := hide o1; clear b1 o1)
      | (refine step_callB (some 15) rfl rfl 42 _ _ rfl #[.int .i64 num] (by kernel_rfl) (putNumImpl num _) ?_; rintro e x2 ⟨v2, rfl, o2, b2⟩; refine ⟨_, rfl, ?_⟩; have HD2 : Hid (Below W0.heap.size W0 x2) := hide (HD1.out.trans (b2.mono HD1.out.size)); have HO2 := hide (HO1.out.below b2); have HU2 := hide o2; clear b2 o2)
      | (refine step_appB (some 16) rfl rfl _ _ rfl W0.heap.size _ v1 v2 (pn 1) (pn num) (by rfl) (by rfl) HO2.out HU2.out (pn_byt _) hp (by omega) (by omega) HD2.out.size ?_; intro v3 x3 o3 g3; have HD3 : Hid (Below W0.heap.size W0 x3) := hide (HD2.out.grown g3 HD2.out.size (fun q hq => (HO2.out.lt q hq).1)); have HO3 := hide o3; clear o3 g3)
      | fail)
  clear HS HD0 HD1 HD2 HO1 HO2 HU2
  have f2 := (HX.out.below hg1 HD3.out) 2 _ rfl
  go_wp2_with fail
  clear f2
  refine (putNumImpl _ _).mono ?_
  rintro e w4 ⟨v4, rfl, o4, b4⟩
  have HU := hide o4
  have HP := hide (HD3.out.trans (b4.mono HD3.out.size))
  have HO := hide (HO3.out.below b4)
  have s4 := HP.out.size
  clear o4 b4 HO3 HD3
  go_wp2_with (at_builtin; refine app_own rfl _ _ rfl W0.heap.size _ _ _ (pn 1 ++ pn num) (pn got) rfl HO.out rfl HU.out (pn_byt _) (Nat.le_trans (pn_len _) (by omega)) (by simp; omega) s4 ?_; intro v5 w5 o5 g5 n5; have HP5 := hide (HP.out.grown g5 s4 (fun q hq => (HO.out.lt q hq).1)); have HO5 := hide o5; clear o5 g5 n5; have y3 := (HX.out.below hg1 HP5.out) 3 _ rfl; have y4 := (HX.out.below hg1 HP5.out) 4 _ rfl; have y5 := (HX.out.below hg1 HP5.out) 5 _ rfl; have y6 := (HX.out.below hg1 HP5.out) 6 _ rfl; have y7 := (HX.out.below hg1 HP5.out) 7 _ rfl; have y8 := (HX.out.below hg1 HP5.out) 8 _ rfl; have y9 := (HX.out.below hg1 HP5.out) 9 _ rfl)
  clear y3 y4 y5 y6 y7 y8 y9
  have HM5 := hide ((HM.out.at HW.out).at HP5.out)
  refine (msgBytesImpl _ m.k m.i m.u m.c m.n _ _ m.cs m.ns HM5.out.1 HM5.out.2 hg.1 hg.2).mono ?_
  rintro e w6 ⟨v6, rfl, o6, b6⟩
  have HU6 := hide o6
  replace HP := hide (HP5.out.trans (b6.mono HP5.out.size))
  replace HO := hide (HO5.out.below b6)
  have s6 := HP.out.size
  clear o6 b6 HO5 HP5 HM5
  go_wp2_with (at_builtin; refine app_own rfl _ _ rfl W0.heap.size _ _ _ (pn 1 ++ pn num ++ pn got) (mBytes m.k m.i m.u m.c m.n m.cs m.ns) rfl HO.out rfl HU6.out (mBytes_byt _ _ _ _ _ _ _) (by omega) (by simp; omega) s6 ?_; intro v7 w7 o7 g7 n7; have HP7 := hide (HP.out.grown g7 s6 (fun q hq => (HO.out.lt q hq).1)); have HO7 := hide o7; clear o7 g7 n7)
  go_ret
  exact ⟨_, rfl, HO7.out.mono HW.out.size, HW.out.trans (HP7.out.mono HW.out.size)⟩
set_option maxRecDepth 100000 in
set_option maxHeartbeats 1000000 in
theorem queueHas (w : World) (base i : Int) (a : Option Addr) (n cap : Nat) (hn : n ≤ 2000000) :
    Calls Tryd.prog 34 #[.agg #[.int .i64 base, .slice a n cap], .int .i64 i] w fun e w' => e = .returned (.bool (inB i 0 ((n : Int) - 1))) ∧ Below w.heap.size w w' := by
  have HB := hide ((Below.refl w.heap.size w).alloc (Nat.le_refl _) (.cells #[.int .i64 base, .slice a n cap] 62))
  go_enter Tryd.func34, Tryd.ntmps34
  go_wp2_with (go_at_call 38; refine (inImpl _ _ _ _).mono ?_; rintro e w' ⟨rfl, rfl⟩)
  go_ret
  exact ⟨rfl, HB.out⟩

set_option maxRecDepth 100000 in
set_option maxHeartbeats 4000000 in
theorem wrapImpl (w : World) (f t base got i : Int) (v : Value) (ms : List Ms) (h : RdS w w.heap.size v ms) (hm : ms.length ≤ 2000000) (hgd : GoodS ms) :
    Calls Tryd.prog 13 #[.int .i64 f, .int .i64 t, lnV base got v, .int .i64 i] w (ansK w (wrapK f t base got i ms)) := by
  have HR := hide h
  obtain ⟨a, cap, rfl, _⟩ := ms_at h
  clear h
  unfold lnV
  have bA := ((Below.refl w.heap.size w).alloc (Nat.le_refl _) (.cells #[.int .i64 base, .slice a ms.length cap, .int .i64 got] 28)).alloc (by simp) (.cells #[.int .i64 0, .int .i64 0, .slice none 0 0, .bool false] 32)
  have HE0 := hide ((Below.heap_alloc (w.alloc (.cells #[.int .i64 base, .slice a ms.length cap, .int .i64 got] 28)) (.cells #[.int .i64 0, .int .i64 0, .slice none 0 0, .bool false] 32) w.heap.size (by simp)).trans (heap_alloc_new w (.cells #[.int .i64 base, .slice a ms.length cap, .int .i64 got] 28)))
  have HE1 := hide (heap_alloc_new (w.alloc (.cells #[.int .i64 base, .slice a ms.length cap, .int .i64 got] 28)) (.cells #[.int .i64 0, .int .i64 0, .slice none 0 0, .bool false] 32))
  simp only [World.size_alloc] at HE1
  have HB := hide bA
  clear bA
  go_enter Tryd.func13, Tryd.ntmps13
  go_wp2_with fail
  refine (endsImpl _ f t base got _ ms _ (HR.out.at HB.out) (Nat.le_refl _) hm hgd).mono ?_
  rintro e w1 ⟨rfl, b1⟩
  have E0 := (b1.block w.heap.size (by simp; omega)).trans HE0.out
  have E1 := (b1.block (w.heap.size + 1) (by simp)).trans HE1.out
  have hs1 : w.heap.size + 1 + 1 ≤ w1.heap.size := by have := b1.size; simp at this; omega
  replace HB := hide (HB.out.trans (b1.mono HB.out.size))
  clear b1 HE0 HE1
  have f0 := (box_of E0).1 0 _ rfl
  have f1 := (box_of E0).1 1 _ rfl
  have r0 := (box_of E1).1 0 _ rfl
  have r1 := (box_of E1).1 1 _ rfl
  have r2 := (box_of E1).1 2 _ rfl
  have r3 := (box_of E1).1 3 _ rfl
  have z1 := (box_of E1).2
  have H1 := hide E1
  have H0 := hide E0
  clear E0 E1
  cases hok : lnOk f t base got ms with
  | false =>
    have hno : wrOk f t base got i ms = false := by unfold wrOk; rw [hok]; rfl
    go_wp2
    exact bodyPost_ret (v := .tuple #[.agg #[.int .i64 0, .int .i64 0, .slice none 0 0, .bool false], .bool false]) (results_ct Tryd.results13 _ _ _ rfl (load4 (put4 H1.out _ _ _ _))) rfl (show ansK w (wrapK f t base got i ms) _ _ from by
      unfold wrapK
      rw [hno]
      exact ⟨_, rfl, World.ownsRow_nil _ _ _ _, (((HB.out.setCell (by simp) _).setCell (by simp) _).setCell (by simp) _).setCell (by simp) _⟩)
  | true =>
    go_wp2_with fail
    clear f0 f1 r0 r1 r2 r3 z1
    refine (queueOf _ base a ms.length cap).mono ?_
    rintro e w2 ⟨rfl, b2⟩
    have hs2 : w.heap.size + 1 + 1 ≤ w2.heap.size := Nat.le_trans hs1 b2.size
    replace H0 := hide ((b2.block w.heap.size (by omega)).trans H0.out)
    replace H1 := hide ((b2.block (w.heap.size + 1) (by omega)).trans H1.out)
    replace HB := hide (HB.out.trans (b2.mono HB.out.size))
    clear b2 hs1
    go_wp2_with fail
    refine (queueHas _ base i a ms.length cap hm).mono ?_
    rintro e w3 ⟨rfl, b3⟩
    have hs3 : w.heap.size + 1 + 1 ≤ w3.heap.size := Nat.le_trans hs2 b3.size
    replace H0 := hide ((b3.block w.heap.size (by omega)).trans H0.out)
    replace H1 := hide ((b3.block (w.heap.size + 1) (by omega)).trans H1.out)
    replace HB := hide (HB.out.trans (b3.mono HB.out.size))
    clear b3 hs2
    have r0 := (box_of H1.out).1 0 _ rfl
    have r1 := (box_of H1.out).1 1 _ rfl
    have r2 := (box_of H1.out).1 2 _ rfl
    have r3 := (box_of H1.out).1 3 _ rfl
    have z1 := (box_of H1.out).2
    cases hin : inB i 0 ((ms.length : Int) - 1) with
    | false =>
      have hno : wrOk f t base got i ms = false := by unfold wrOk; rw [hok, hin]; rfl
      go_wp2
      exact bodyPost_ret (v := .tuple #[.agg #[.int .i64 0, .int .i64 0, .slice none 0 0, .bool false], .bool false]) (results_ct Tryd.results13 _ _ _ rfl (load4 (put4 H1.out _ _ _ _))) rfl (show ansK w (wrapK f t base got i ms) _ _ from by
        unfold wrapK
        rw [hno]
        exact ⟨_, rfl, World.ownsRow_nil _ _ _ _, (((HB.out.setCell (by simp) _).setCell (by simp) _).setCell (by simp) _).setCell (by simp) _⟩)
    | true =>
      have hyes : wrOk f t base got i ms = true := by unfold wrOk; rw [hok, hin]; rfl
      obtain ⟨j, rfl, hj, hgt, hbs, hmo⟩ := wrOk_at hyes
      have HV : Hid (wrapK f t base got (j : Int) ms = (⟨f, t, sealed (wrapB (base + (j : Int)) got (ms.getD j default)), false⟩, true)) := hide (by unfold wrapK; rw [hyes]; simp)
      obtain ⟨a', cap', ea, _, _, hx⟩ := ms_at (HR.out.at HB.out)
      cases ea
      obtain ⟨b, o, rfl, hb, hc⟩ := hx (by omega)
      obtain ⟨cv, nv, e0, e1, e2, e3, e4, e5, e6, hmt⟩ := hc j hj
      have HGj := hide (hgd.at hj)
      have HMj := hide hmt
      obtain ⟨a5, c5, ec, _⟩ := cells_at hmt.1
      obtain ⟨a6, c6, en, _⟩ := notes_at hmt.2
      simp only at ec en
      subst ec en
      clear hc hx hmt hin hok hyes hgd r0 r1 r2 r3 z1
      generalize ms.getD j default = p at *
      have f0 := (box_of H0.out).1 0 _ rfl
      have f1 := (box_of H0.out).1 1 _ rfl
      have f2 := (box_of H0.out).1 2 _ rfl
      go_wp2_with fail
      have HD0 : Hid (Below w3.heap.size w3 w3.drew) := hide (Below.refl w3.heap.size w3).drew
      go_region_held_law (fun w' => w'.cell? ⟨w.heap.size, 0, none⟩ = some (.int .i64 base) ∧ w'.cell? ⟨w.heap.size, 1, none⟩ = some (.slice (some ⟨b, o, none⟩) ms.length cap) ∧ w'.cell? ⟨w.heap.size, 2, none⟩ = some (.int .i64 got) ∧ w'.cell? ⟨b, o + j * 7, none⟩ = some (.int .i64 p.k) ∧ w'.cell? ⟨b, o + j * 7 + 1, none⟩ = some (.int .i64 p.i) ∧ w'.cell? ⟨b, o + j * 7 + 2, none⟩ = some (.int .i64 p.u) ∧ w'.cell? ⟨b, o + j * 7 + 3, none⟩ = some (.int .i64 p.c) ∧ w'.cell? ⟨b, o + j * 7 + 4, none⟩ = some (.int .i64 p.n) ∧ w'.cell? ⟨b, o + j * 7 + 5, none⟩ = some (.slice a5 p.cs.length c5) ∧ w'.cell? ⟨b, o + j * 7 + 6, none⟩ = some (.slice a6 p.ns.length c6))
        (go_keep)
        (fail)
      have hwr : IntKind.i64.wrap (base + (j : Int)) = base + (j : Int) := by rw [IntKind.wrap_i64]; omega
      rw [hwr]
      have bD : Below w3.heap.size w3 (w3.alloc (.cells #[.bool true, .int .i64 (base + (j : Int)), .int .i64 got, .int .i64 p.k, .int .i64 p.i, .int .i64 p.u, .int .i64 p.c, .int .i64 p.n, .slice a5 p.cs.length c5, .slice a6 p.ns.length c6] 52)).drew := ((Below.refl w3.heap.size w3).alloc (Nat.le_refl _) _).drew
      have HL := hide (show (w3.alloc (.cells #[.bool true, .int .i64 (base + (j : Int)), .int .i64 got, .int .i64 p.k, .int .i64 p.i, .int .i64 p.u, .int .i64 p.c, .int .i64 p.n, .slice a5 p.cs.length c5, .slice a6 p.ns.length c6] 52)).drew.heap[w3.heap.size]? = some (.cells #[.bool true, .int .i64 (base + (j : Int)), .int .i64 got, .int .i64 p.k, .int .i64 p.i, .int .i64 p.u, .int .i64 p.c, .int .i64 p.n, .slice a5 p.cs.length c5, .slice a6 p.ns.length c6] 52 (0, 0)) from heap_alloc_new w3 _)
      replace HMj := hide (HMj.out.at bD)
      replace H1 := hide ((bD.block (w.heap.size + 1) (by omega)).trans H1.out)
      have hs4 := bD.size
      replace HB := hide (HB.out.trans (bD.mono HB.out.size))
      clear bD f0 f1 f2 e0 e1 e2 e3 e4 e5 e6 HD0 H0 hwr
      generalize (w3.alloc (.cells #[.bool true, .int .i64 (base + (j : Int)), .int .i64 got, .int .i64 p.k, .int .i64 p.i, .int .i64 p.u, .int .i64 p.c, .int .i64 p.n, .slice a5 p.cs.length c5, .slice a6 p.ns.length c6] 52)).drew = w4 at *
      have HLX := hide (box_of HL.out).1
      have l0 := HLX.out 0 _ rfl
      have l1 := HLX.out 1 _ rfl
      have l2 := HLX.out 2 _ rfl
      have l3 := HLX.out 3 _ rfl
      have l4 := HLX.out 4 _ rfl
      have l5 := HLX.out 5 _ rfl
      have l6 := HLX.out 6 _ rfl
      have l7 := HLX.out 7 _ rfl
      have l8 := HLX.out 8 _ rfl
      have l9 := HLX.out 9 _ rfl
      clear HLX
      go_wp2_with fail
      clear l0 l1 l2 l3 l4 l5 l6 l7 l8 l9
      refine (letterWrap _ (base + (j : Int)) got p _ _ HMj.out HGj.out hmo (by omega) hgt).mono ?_
      rintro e w5 ⟨v5, rfl, o5, b5⟩
      obtain ⟨a7, c7, rfl, i7, hc7⟩ := own_in o5 (Nat.le_trans (wrapB_len _ got p) (by omega)) (wrapB_byt _ got p) (Nat.le_refl _)
      have HI7 := hide i7
      replace H1 := hide ((b5.block (w.heap.size + 1) (by omega)).trans H1.out)
      have hs5 : w.heap.size + 1 + 1 ≤ w5.heap.size := Nat.le_trans (Nat.le_trans hs3 hs4) b5.size
      replace HB := hide (HB.out.trans (b5.mono HB.out.size))
      clear b5 o5 i7
      go_wp2_with fail
      refine (sealImpl _ _ _ _ _ HI7.out hc7).mono ?_
      rintro e w6 ⟨v6, rfl, o6, b6⟩
      obtain ⟨a8, c8, rfl⟩ := own_shape o6
      have HO := hide o6
      replace H1 := hide ((b6.block (w.heap.size + 1) (by omega)).trans H1.out)
      replace HB := hide (HB.out.trans (b6.mono HB.out.size))
      have r0 := (box_of H1.out).1 0 _ rfl
      have r1 := (box_of H1.out).1 1 _ rfl
      have r2 := (box_of H1.out).1 2 _ rfl
      have r3 := (box_of H1.out).1 3 _ rfl
      have z1 := (box_of H1.out).2
      clear b6 o6 HI7
      go_wp2
      refine bodyPost_ret (v := .tuple #[.agg #[.int .i64 f, .int .i64 t, .slice a8 (sealed (wrapB (base + (j : Int)) got p)).length c8, .bool false], .bool true]) (results_ct Tryd.results13 _ _ _ rfl (load4 (put4 H1.out _ _ _ _))) rfl (show ansK w (wrapK f t base got (j : Int) ms) _ _ from by
        rw [HV.out]
        refine ⟨_, rfl, ?_, (((HB.out.setCell (by simp) _).setCell (by simp) _).setCell (by simp) _).setCell (by simp) _⟩
        exact Own.mono (b := w5.heap.size) (own_set (own_set (own_set (own_set HO.out (by omega) _ _) (by omega) _ _) (by omega) _ _) (by omega) _ _) (by omega))
set_option maxRecDepth 100000 in
set_option maxHeartbeats 4000000 in
theorem wrapSpec (w : World) (f t base got i : Int) (v : Value) (ms : List Ms) (h : RdS w w.heap.size v ms) (hm : ms.length ≤ 2000000) (hgd : GoodS ms) :
    Calls Tryd.prog 14 #[.int .i64 f, .int .i64 t, lnV base got v, .int .i64 i] w (ansK w (wrapK f t base got i ms)) := by
  have HR := hide h
  obtain ⟨a, cap, rfl, _⟩ := ms_at h
  clear h
  unfold lnV
  have bA := ((Below.refl w.heap.size w).alloc (Nat.le_refl _) (.cells #[.int .i64 base, .slice a ms.length cap, .int .i64 got] 28)).alloc (by simp) (.cells #[.int .i64 0, .int .i64 0, .slice none 0 0, .bool false] 32)
  have HE0 := hide ((Below.heap_alloc (w.alloc (.cells #[.int .i64 base, .slice a ms.length cap, .int .i64 got] 28)) (.cells #[.int .i64 0, .int .i64 0, .slice none 0 0, .bool false] 32) w.heap.size (by simp)).trans (heap_alloc_new w (.cells #[.int .i64 base, .slice a ms.length cap, .int .i64 got] 28)))
  have HE1 := hide (heap_alloc_new (w.alloc (.cells #[.int .i64 base, .slice a ms.length cap, .int .i64 got] 28)) (.cells #[.int .i64 0, .int .i64 0, .slice none 0 0, .bool false] 32))
  simp only [World.size_alloc] at HE1
  have HB := hide bA
  clear bA
  go_enter Tryd.func14, Tryd.ntmps14
  go_wp2_with fail
  refine (endsSpec _ f t base got _ ms _ (HR.out.at HB.out) (Nat.le_refl _) hm hgd).mono ?_
  rintro e w3 ⟨rfl, b1⟩
  have E0 := (b1.block w.heap.size (by simp; omega)).trans HE0.out
  have E1 := (b1.block (w.heap.size + 1) (by simp)).trans HE1.out
  have hs3 : w.heap.size + 1 + 1 ≤ w3.heap.size := by have := b1.size; simp at this; omega
  replace HB := hide (HB.out.trans (b1.mono HB.out.size))
  clear b1 HE0 HE1
  have f1 := (box_of E0).1 1 _ rfl
  have r0 := (box_of E1).1 0 _ rfl
  have r1 := (box_of E1).1 1 _ rfl
  have r2 := (box_of E1).1 2 _ rfl
  have r3 := (box_of E1).1 3 _ rfl
  have z1 := (box_of E1).2
  have H1 := hide E1
  have H0 := hide E0
  clear E0 E1
  cases hok : lnOk f t base got ms with
  | false =>
    have hno : wrOk f t base got i ms = false := by unfold wrOk; rw [hok]; rfl
    go_wp2
    exact bodyPost_ret (v := .tuple #[.agg #[.int .i64 0, .int .i64 0, .slice none 0 0, .bool false], .bool false]) (results_ct Tryd.results14 _ _ _ rfl (load4 (put4 H1.out _ _ _ _))) rfl (show ansK w (wrapK f t base got i ms) _ _ from by
      unfold wrapK
      rw [hno]
      exact ⟨_, rfl, World.ownsRow_nil _ _ _ _, (((HB.out.setCell (by simp) _).setCell (by simp) _).setCell (by simp) _).setCell (by simp) _⟩)
  | true =>
    cases hin : inB i 0 ((ms.length : Int) - 1) with
    | false =>
      have hno : wrOk f t base got i ms = false := by unfold wrOk; rw [hok, hin]; rfl
      go_wp2_with (go_at_call 35; refine (inSpec _ _ _ _).mono ?_; rintro e w9 ⟨rfl, hw9⟩; subst w9; simp only [hin])
      exact bodyPost_ret (v := .tuple #[.agg #[.int .i64 0, .int .i64 0, .slice none 0 0, .bool false], .bool false]) (results_ct Tryd.results14 _ _ _ rfl (load4 (put4 H1.out _ _ _ _))) rfl (show ansK w (wrapK f t base got i ms) _ _ from by
        unfold wrapK
        rw [hno]
        exact ⟨_, rfl, World.ownsRow_nil _ _ _ _, (((HB.out.setCell (by simp) _).setCell (by simp) _).setCell (by simp) _).setCell (by simp) _⟩)
    | true =>
      have hyes : wrOk f t base got i ms = true := by unfold wrOk; rw [hok, hin]; rfl
      obtain ⟨j, rfl, hj, hgt, hbs, hmo⟩ := wrOk_at hyes
      have HV : Hid (wrapK f t base got (j : Int) ms = (⟨f, t, sealed (wrapB (base + (j : Int)) got (ms.getD j default)), false⟩, true)) := hide (by unfold wrapK; rw [hyes]; simp)
      obtain ⟨a', cap', ea, _, _, hx⟩ := ms_at (HR.out.at HB.out)
      cases ea
      obtain ⟨b, o, rfl, hb, hc⟩ := hx (by omega)
      obtain ⟨cv, nv, e0, e1, e2, e3, e4, e5, e6, hmt⟩ := hc j hj
      have HGj := hide (hgd.at hj)
      have HMj := hide hmt
      obtain ⟨a5, c5, ec, _⟩ := cells_at hmt.1
      obtain ⟨a6, c6, en, _⟩ := notes_at hmt.2
      simp only at ec en
      subst ec en
      have hwr : IntKind.i64.wrap (base + (j : Int)) = base + (j : Int) := by rw [IntKind.wrap_i64]; omega
      clear hc hx hmt hok hyes hgd r0 r1 r2 r3 z1
      generalize ms.getD j default = p at *
      have HEM := hide (And.intro e0 (And.intro e1 (And.intro e2 (And.intro e3 (And.intro e4 (And.intro e5 e6))))))
      clear e0 e1 e2 e3 e4 e5 e6
      have hp := pn_pos (base + (j : Int)) (by omega) (by omega)
      have hl0 := pn_len 1
      have hl1 := pn_len (base + (j : Int))
      have hl2 := pn_len got
      have hl3 := mBytes_len p.k p.i p.u p.c p.n p.cs p.ns
      have hrn : base + (j : Int) ≤ 16777215 ∧ 0 ≤ base + (j : Int) := by omega
      go_wp2_with (go_at_call 35; refine (inSpec _ _ _ _).mono ?_; rintro e w9 ⟨rfl, hw9⟩; subst w9; simp only [hin])
      clear f1
      have HS : Hid (∀ w', Below w3.heap.size w3 w' → w'.cell? ⟨w.heap.size, 0, none⟩ = some (.int .i64 base)) := hide (fun w' hw => (hw.cell (p := ⟨w.heap.size, 0, none⟩) (by dsimp only; omega)).trans ((box_of H0.out).1 0 _ rfl))
      have HD0 : Hid (Below w3.heap.size w3 w3.drew) := hide (Below.refl w3.heap.size w3).drew
      go_region_held_law (fun w' => w'.cell? ⟨w.heap.size, 0, none⟩ = some (.int .i64 base))
        (first | exact HS.out _ HD3.out | exact HS.out _ HD2.out | exact HS.out _ HD1.out | exact HS.out _ HD0.out)
        (first
          | (refine step_callB (some 27) rfl rfl 22 _ _ rfl #[.int .i64 1] (by kernel_rfl) (putNumSpec 1 _) ?_; rintro e x1 ⟨v1, rfl, o1, b1⟩; refine ⟨_, rfl, ?_⟩; have HD1 : Hid (Below w3.heap.size w3 x1) := hide (HD0.out.trans (b1.mono HD0.out.size)); have HO1 : Hid (Own x1 w3.heap.size v1 (pn 1)) := hide o1; clear b1 o1)
          | ((try rw [hwr]); refine step_callB (some 33) rfl rfl 22 _ _ rfl #[.int .i64 (base + (j : Int))] (by kernel_rfl) (putNumSpec (base + (j : Int)) _) ?_; rintro e x2 ⟨v2, rfl, o2, b2⟩; refine ⟨_, rfl, ?_⟩; have HD2 : Hid (Below w3.heap.size w3 x2) := hide (HD1.out.trans (b2.mono HD1.out.size)); have HO2 := hide (HO1.out.below b2); have HU2 := hide o2; clear b2 o2)
          | (refine step_appB (some 34) rfl rfl _ _ rfl w3.heap.size _ v1 v2 (pn 1) (pn (base + (j : Int))) (by rfl) (by rfl) HO2.out HU2.out (pn_byt _) hp (by omega) (by omega) HD2.out.size ?_; intro v3 x3 o3 g3; have HD3 : Hid (Below w3.heap.size w3 x3) := hide (HD2.out.grown g3 HD2.out.size (fun q hq => (HO2.out.lt q hq).1)); have HO3 := hide o3; clear o3 g3)
          | fail)
      clear HS HD0 HD1 HD2 HO1 HO2 HU2 hwr
      have f2 := (HD3.out.cell (p := ⟨w.heap.size, 2, none⟩) (by dsimp only; omega)).trans ((box_of H0.out).1 2 _ rfl)
      go_wp2_with fail
      clear f2
      refine (putNumSpec _ _).mono ?_
      rintro e w4 ⟨v4, rfl, o4, b4⟩
      have HU := hide o4
      have HP := hide (HD3.out.trans (b4.mono HD3.out.size))
      have HO := hide (HO3.out.below b4)
      have s4 := HP.out.size
      clear o4 b4 HO3 HD3
      go_wp2_with (at_builtin; refine app_own rfl _ _ rfl w3.heap.size _ _ _ (pn 1 ++ pn (base + (j : Int))) (pn got) rfl HO.out rfl HU.out (pn_byt _) (Nat.le_trans (pn_len _) (by omega)) (by simp; omega) s4 ?_; intro v5 w5 o5 g5 n5; have HP5 := hide (HP.out.grown g5 s4 (fun q hq => (HO.out.lt q hq).1)); have HO5 := hide o5; clear o5 g5 n5; have y1 := (HP5.out.cell (p := ⟨w.heap.size, 1, none⟩) (by dsimp only; omega)).trans ((box_of H0.out).1 1 _ rfl); have d0 := (HP5.out.cell (p := ⟨b, o + j * 7, none⟩) hb).trans HEM.out.1; have d1 := (HP5.out.cell (p := ⟨b, o + j * 7 + 1, none⟩) hb).trans HEM.out.2.1; have d2 := (HP5.out.cell (p := ⟨b, o + j * 7 + 2, none⟩) hb).trans HEM.out.2.2.1; have d3 := (HP5.out.cell (p := ⟨b, o + j * 7 + 3, none⟩) hb).trans HEM.out.2.2.2.1; have d4 := (HP5.out.cell (p := ⟨b, o + j * 7 + 4, none⟩) hb).trans HEM.out.2.2.2.2.1; have d5 := (HP5.out.cell (p := ⟨b, o + j * 7 + 5, none⟩) hb).trans HEM.out.2.2.2.2.2.1; have d6 := (HP5.out.cell (p := ⟨b, o + j * 7 + 6, none⟩) hb).trans HEM.out.2.2.2.2.2.2)
      clear y1 d0 d1 d2 d3 d4 d5 d6
      have HM5 := hide (HMj.out.at HP5.out)
      refine (msgBytesSpec _ p.k p.i p.u p.c p.n _ _ p.cs p.ns HM5.out.1 HM5.out.2 HGj.out.1 HGj.out.2).mono ?_
      rintro e w6 ⟨v6, rfl, o6, b6⟩
      have HU6 := hide o6
      replace HP := hide (HP5.out.trans (b6.mono HP5.out.size))
      replace HO := hide (HO5.out.below b6)
      have s6 := HP.out.size
      clear o6 b6 HO5 HP5 HM5
      go_wp2_with (at_builtin; refine app_own rfl _ _ rfl w3.heap.size _ _ _ (pn 1 ++ pn (base + (j : Int)) ++ pn got) (mBytes p.k p.i p.u p.c p.n p.cs p.ns) rfl HO.out rfl HU6.out (mBytes_byt _ _ _ _ _ _ _) (by omega) (by simp; omega) s6 ?_; intro v7 w7 o7 g7 n7; have HP7 := hide (HP.out.grown g7 s6 (fun q hq => (HO.out.lt q hq).1)); obtain ⟨a7, c7, e7, i7, hc7⟩ := own_in (show Own w7 w3.heap.size v7 (wrapB (base + (j : Int)) got p) from o7) (Nat.le_trans (wrapB_len _ got p) (by omega)) (wrapB_byt _ got p) (Nat.le_refl _); subst e7; have HI7 := hide i7; clear o7 g7 n7 i7)
      refine (sealSpec _ _ _ _ _ HI7.out hc7).mono ?_
      rintro e w8 ⟨v8, rfl, o8, b8⟩
      obtain ⟨a8, c8, rfl⟩ := own_shape o8
      have HO8 := hide o8
      have hs7 := HP7.out.size
      have HD := hide (HP7.out.trans (b8.mono HP7.out.size))
      replace H1 := hide ((HD.out.block (w.heap.size + 1) (by omega)).trans H1.out)
      replace HB := hide (HB.out.trans (HD.out.mono HB.out.size))
      have r0 := (box_of H1.out).1 0 _ rfl
      have r1 := (box_of H1.out).1 1 _ rfl
      have r2 := (box_of H1.out).1 2 _ rfl
      have r3 := (box_of H1.out).1 3 _ rfl
      have z1 := (box_of H1.out).2
      clear b8 o8 HI7 HD
      go_wp2
      refine bodyPost_ret (v := .tuple #[.agg #[.int .i64 f, .int .i64 t, .slice a8 (sealed (wrapB (base + (j : Int)) got p)).length c8, .bool false], .bool true]) (results_ct Tryd.results14 _ _ _ rfl (load4 (put4 H1.out _ _ _ _))) rfl (show ansK w (wrapK f t base got (j : Int) ms) _ _ from by
        rw [HV.out]
        refine ⟨_, rfl, ?_, (((HB.out.setCell (by simp) _).setCell (by simp) _).setCell (by simp) _).setCell (by simp) _⟩
        exact Own.mono (b := w7.heap.size) (own_set (own_set (own_set (own_set HO8.out (by omega) _ _) (by omega) _ _) (by omega) _ _) (by omega) _ _) (by omega))
end Go.Proofs.YtkfnpijljpbiaaaDoor
/-
  Numbers as bytes: what is put is got; what is got is what was put.
-/
namespace Go.Proofs.YtkfnpijljpbiaaaDoor
open Go.RowKit

theorem mul_part (m wt : Int) : m % 128 * wt + m / 128 * (wt * 128) = m * wt := by
  have h : m = 128 * (m / 128) + m % 128 := by omega
  generalize m / 128 = q at *
  generalize m % 128 = r at *
  subst h
  grind

/-- The bytes of a number, wherever they lie, are read as that number. -/
theorem gnF_pnF (zs : List Int) : ∀ (j k : Nat) (m n wt : Int), 0 ≤ m → m ≤ pnB j → 1 ≤ wt → (m ≠ 0 ∨ wt = 1) → n + m * wt ≤ 16777215 →
    k + (pnF j m).length ≤ zs.length → (∀ i, i < (pnF j m).length → zs.getD (k + i) 0 = (pnF j m).getD i 0) →
    gnF zs (j + 1) k n wt = some (n + m * wt, k + (pnF j m).length)
  | 0, k, m, n, wt, h0, h1, hw, hz, hb, hl, hc => by
    simp only [pnB] at h1
    have e := pnF_lo 0 m h1
    rw [e] at hl hc ⊢
    simp only [List.length_cons, List.length_nil] at hl hc ⊢
    have hz0 := hc 0 (by omega)
    simp only [Nat.add_zero, List.getD_cons_zero] at hz0
    have hmod : m % 128 = m := by omega
    rw [gnF_yes zs 0 k n wt (by omega) (by rw [hz0]; omega) (by rw [hz0, hmod]; omega), hz0, hmod]
  | j + 1, k, m, n, wt, h0, h1, hw, hz, hb, hl, hc => by
    by_cases hm : 127 < m
    · have e := pnF_hi j m hm
      rw [e] at hl hc ⊢
      simp only [List.length_cons] at hl hc ⊢
      have hz0 := hc 0 (by omega)
      simp only [Nat.add_zero, List.getD_cons_zero] at hz0
      have hmod : (m % 128 + 128) % 128 = m % 128 := by omega
      rw [gnF_on zs (j + 1) k n wt (by omega) (by rw [hz0]; omega), hz0, hmod]
      have hmul := mul_part m wt
      rw [gnF_pnF zs j (k + 1) (m / 128) (n + m % 128 * wt) (wt * 128) (by omega) (by simp only [pnB] at h1; omega) (by omega) (.inl (by omega)) (by omega) (by omega) (fun i hi => by
        have := hc (i + 1) (by omega)
        rw [List.getD_cons_succ] at this
        rw [show k + 1 + i = k + (i + 1) from by omega]
        exact this)]
      simp only [Option.some.injEq, Prod.mk.injEq]
      omega
    · have e := pnF_lo (j + 1) m (by omega)
      rw [e] at hl hc ⊢
      simp only [List.length_cons, List.length_nil] at hl hc ⊢
      have hz0 := hc 0 (by omega)
      simp only [Nat.add_zero, List.getD_cons_zero] at hz0
      have hmod : m % 128 = m := by omega
      rw [gnF_yes zs (j + 1) k n wt (by omega) (by rw [hz0]; omega) (by rw [hz0, hmod]; omega), hz0, hmod]

/-- What is read as a number are that number's bytes. -/
theorem gnF_back (zs : List Int) (hB : Byt zs) : ∀ (f k : Nat) (n wt r : Int) (nx : Nat), 1 ≤ wt → gnF zs f k n wt = some (r, nx) →
    ∃ (m : Int) (j : Nat), 0 ≤ m ∧ r = n + m * wt ∧ r ≤ 16777215 ∧ (m ≠ 0 ∨ wt = 1) ∧ f = j + 1 ∧ (zs.drop k).take (nx - k) = pnF j m ∧ nx = k + (pnF j m).length ∧ nx ≤ zs.length
  | 0, k, n, wt, r, nx, hw, h => by simp [gnF] at h
  | f + 1, k, n, wt, r, nx, hw, h => by
    by_cases hk : k < zs.length
    · have hz := hB.at k hk
      have hd : zs.drop k = zs.getD k 0 :: zs.drop (k + 1) := by rw [List.drop_eq_getElem_cons hk]; simp [hk]
      generalize hzz : zs.getD k 0 = z at *
      by_cases h128 : z < 128
      · by_cases hb : 16777215 < n + z % 128 * wt ∨ (z = 0 ∧ 1 < wt)
        · rw [gnF_no zs f k n wt hk (by omega) (by rw [hzz]; exact hb)] at h; cases h
        · rw [gnF_yes zs f k n wt hk (by omega) (by rw [hzz]; exact hb)] at h
          simp only [Option.some.injEq, Prod.mk.injEq] at h
          obtain ⟨h1, h2⟩ := h
          have hmod : z % 128 = z := by omega
          rw [hzz, hmod] at h1
          rw [hmod] at hb
          refine ⟨z, f, hz.1, h1.symm, by omega, by omega, rfl, ?_, ?_, by omega⟩
          · rw [pnF_lo f z (by omega), hd, show nx - k = 1 from by omega]; simp
          · rw [pnF_lo f z (by omega)]; simp; omega
      · rw [gnF_on zs f k n wt hk (by omega), hzz] at h
        obtain ⟨m, j, hm0, hr, hr', hm1, hf, ht, hn, hl⟩ := gnF_back zs hB f (k + 1) (n + z % 128 * wt) (wt * 128) r nx (by omega) h
        have hm : m ≠ 0 := by omega
        have hmm : 127 < z % 128 + 128 * m := by omega
        have e1 : (z % 128 + 128 * m) % 128 = z % 128 := by omega
        have e2 : (z % 128 + 128 * m) / 128 = m := by omega
        refine ⟨z % 128 + 128 * m, f, by omega, ?_, hr', .inl (by omega), rfl, ?_, ?_, hl⟩
        · have := mul_part (z % 128 + 128 * m) wt
          rw [e1, e2] at this
          omega
        · subst hf
          rw [pnF_hi j _ hmm, e1, e2, hd, show nx - k = (nx - (k + 1)) + 1 from by omega, List.take_succ_cons, ht, show z % 128 + 128 = z from by omega]
        · subst hf
          rw [pnF_hi j _ hmm, e1, e2]
          simp only [List.length_cons]
          omega
    · rw [gnF_end zs (f + 1) k n wt (by omega)] at h; cases h

/-- What is put is got. -/
theorem gn_pn (zs : List Int) (k : Nat) (x : Int) (h0 : 0 ≤ x) (h1 : x ≤ 16777215) (hl : k + (pn x).length ≤ zs.length) (hc : ∀ i, i < (pn x).length → zs.getD (k + i) 0 = (pn x).getD i 0) :
    gn zs (k : Int) = some (x, k + (pn x).length) := by
  unfold gn
  rw [if_pos (by omega), Int.toNat_natCast]
  rw [pn_in x h0 h1] at hl hc ⊢
  have := gnF_pnF zs 3 k x 0 1 h0 (by simp [pnB]; omega) (by omega) (.inr rfl) (by omega) hl hc
  simpa using this

/-- What is got was put. -/
theorem gn_back (zs : List Int) (hB : Byt zs) (k r : Int) (nx : Nat) (h : gn zs k = some (r, nx)) : 0 ≤ k ∧ 0 ≤ r ∧ r ≤ 16777215 ∧ (zs.drop k.toNat).take (nx - k.toNat) = pn r ∧ nx = k.toNat + (pn r).length ∧ nx ≤ zs.length := by
  unfold gn at h
  by_cases hk : 0 ≤ k
  · rw [if_pos hk] at h
    obtain ⟨m, j, hm0, hr, hr', _, hf, ht, hn, hl⟩ := gnF_back zs hB 4 k.toNat 0 1 r nx (by omega) h
    have e : r = m := by omega
    have hj : j = 3 := by omega
    subst e hj
    refine ⟨hk, hm0, hr', ?_, ?_, hl⟩
    · rw [pn_in r hm0 hr']; exact ht
    · rw [pn_in r hm0 hr']; exact hn
  · rw [if_neg hk] at h; cases h
end Go.Proofs.YtkfnpijljpbiaaaDoor
