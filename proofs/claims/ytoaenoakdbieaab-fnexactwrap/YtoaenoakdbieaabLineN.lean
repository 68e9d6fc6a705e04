/-
  What Nod does, in the program and in its model.
-/
import Derived.Test.YtoaenoakdbieaabLineW
namespace Go.Proofs.Ytoaenoakdbieaab
open Go.RowKit

/-- A packet with bytes of its own, and whether there is one. -/
def ansK (w : World) (R : Pk × Bool) (e : Ending) (w' : World) : Prop := ∃ v, e = .returned (.tuple #[pkV R.1 v, .bool R.2]) ∧ Own w' w.heap.size v R.1.b ∧ Below w.heap.size w w'
def noK : Pk × Bool := (⟨0, 0, [], false⟩, false)
def nodB (got : Int) : List Int := pn 0 ++ pn got
/-- What Nod answers. -/
def nodK (f t base got : Int) (ms : List Ms) : Pk × Bool := bif lnOk f t base got ms then (⟨f, t, sealed (nodB got), false⟩, true) else noK
theorem nodB_len (got : Int) : (nodB got).length ≤ 8 := by
  have h1 := pn_len 0
  have h2 := pn_len got
  unfold nodB
  rw [List.length_append]; omega
theorem nodB_byt (got : Int) : Byt (nodB got) := (pn_byt _).append (pn_byt _)

set_option maxRecDepth 100000 in
set_option maxHeartbeats 2000000 in
theorem letterNod (w : World) (got : Int) (h0 : 0 ≤ got) (h1 : got ≤ 16777215) :
    Calls Try.prog 45 #[.agg #[.bool false, .int .i64 0, .int .i64 got, .int .i64 0, .int .i64 0, .int .i64 0, .int .i64 0, .int .i64 0, .slice none 0 0, .slice none 0 0]] w fun e w' => ∃ v, e = .returned v ∧ Own w' w.heap.size v (nodB got) ∧ Below w.heap.size w w' := by
  have HX := hide (Box.new w #[.bool false, .int .i64 0, .int .i64 got, .int .i64 0, .int .i64 0, .int .i64 0, .int .i64 0, .int .i64 0, .slice none 0 0, .slice none 0 0] 75)
  have HW := hide ((Below.refl w.heap.size w).alloc (Nat.le_refl _) (.cells #[.bool false, .int .i64 0, .int .i64 got, .int .i64 0, .int .i64 0, .int .i64 0, .int .i64 0, .int .i64 0, .slice none 0 0, .slice none 0 0] 75))
  have hg : w.heap.size < (w.alloc (.cells #[.bool false, .int .i64 0, .int .i64 got, .int .i64 0, .int .i64 0, .int .i64 0, .int .i64 0, .int .i64 0, .slice none 0 0, .slice none 0 0] 75)).heap.size := by simp
  have hp := pn_pos got h0 h1
  have hl0 := pn_len 0
  have hl1 := pn_len got
  go_enter Try.func45, Try.ntmps45
  go_wp2_with fail
  generalize w.alloc (.cells #[.bool false, .int .i64 0, .int .i64 got, .int .i64 0, .int .i64 0, .int .i64 0, .int .i64 0, .int .i64 0, .slice none 0 0, .slice none 0 0] 75) = W0 at *
  have HS : Hid (∀ w', Below W0.heap.size W0 w' → w'.cell? ⟨w.heap.size, 2, none⟩ = some (.int .i64 got)) := hide (fun w' hw => (hw.cell (p := ⟨w.heap.size, 2, none⟩) hg).trans (HX.out 2 _ rfl))
  have HD0 : Hid (Below W0.heap.size W0 W0.drew) := hide (Below.refl W0.heap.size W0).drew
  go_region_held_law (fun w' => w'.cell? ⟨w.heap.size, 2, none⟩ = some (.int .i64 got))
    (first | exact HS.out _ HD3.out | exact HS.out _ HD2.out | exact HS.out _ HD1.out | exact HS.out _ HD0.out)
    (first
      | (refine step_callB (some 7) rfl rfl 69 _ _ rfl #[.int .i64 0] (by kernel_rfl) (putNumImpl 0 _) ?_; rintro e x1 ⟨v1, rfl, o1, b1⟩; refine ⟨_, rfl, ?_⟩; have HD1 : Hid (Below W0.heap.size W0 x1) := hide (HD0.out.trans (b1.mono HD0.out.size)); have HO1 : Hid (Own x1 W0.heap.size v1 (pn 0)) := hide o1; clear b1 o1)
      | (refine step_callB (some 10) rfl rfl 69 _ _ rfl #[.int .i64 got] (by kernel_rfl) (putNumImpl got _) ?_; rintro e x2 ⟨v2, rfl, o2, b2⟩; refine ⟨_, rfl, ?_⟩; have HD2 : Hid (Below W0.heap.size W0 x2) := hide (HD1.out.trans (b2.mono HD1.out.size)); have HO2 := hide (HO1.out.below b2); have HU2 := hide o2; clear b2 o2)
      | (refine step_appB (some 11) rfl rfl _ _ rfl W0.heap.size _ v1 v2 (pn 0) (pn got) (by rfl) (by rfl) HO2.out HU2.out (pn_byt _) hp (by omega) (by omega) HD2.out.size ?_; intro v3 x3 o3 g3; have HD3 : Hid (Below W0.heap.size W0 x3) := hide (HD2.out.grown g3 HD2.out.size (fun q hq => (HO2.out.lt q hq).1)); have HO3 := hide o3; clear o3 g3)
      | fail)
  clear HS HD0 HD1 HD2 HO1 HO2 HU2
  go_wp2
  go_ret
  exact ⟨_, rfl, HO3.out.mono HW.out.size, HW.out.trans (HD3.out.mono HW.out.size)⟩
set_option maxRecDepth 100000 in
set_option maxHeartbeats 4000000 in
theorem nodImpl (w : World) (f t base got : Int) (v : Value) (ms : List Ms) (h : RdS w w.heap.size v ms) (hm : ms.length ≤ 2000000) (hgd : GoodS ms) :
    Calls Try.prog 23 #[.int .i64 f, .int .i64 t, lnV base got v] w (ansK w (nodK f t base got ms)) := by
  have HR := hide h
  obtain ⟨a, cap, rfl, _⟩ := ms_at h
  clear h
  unfold lnV
  have bA := ((Below.refl w.heap.size w).alloc (Nat.le_refl _) (.cells #[.int .i64 base, .slice a ms.length cap, .int .i64 got] 43)).alloc (by simp) (.cells #[.int .i64 0, .int .i64 0, .slice none 0 0, .bool false] 39)
  have HE0 := hide ((Below.heap_alloc (w.alloc (.cells #[.int .i64 base, .slice a ms.length cap, .int .i64 got] 43)) (.cells #[.int .i64 0, .int .i64 0, .slice none 0 0, .bool false] 39) w.heap.size (by simp)).trans (heap_alloc_new w (.cells #[.int .i64 base, .slice a ms.length cap, .int .i64 got] 43)))
  have HE1 := hide (heap_alloc_new (w.alloc (.cells #[.int .i64 base, .slice a ms.length cap, .int .i64 got] 43)) (.cells #[.int .i64 0, .int .i64 0, .slice none 0 0, .bool false] 39))
  simp only [World.size_alloc] at HE1
  have HB := hide bA
  clear bA
  go_enter Try.func23, Try.ntmps23
  go_wp2_with fail
  refine (endsImpl _ f t base got _ ms _ (HR.out.at HB.out) (Nat.le_refl _) hm hgd).mono ?_
  rintro e w1 ⟨rfl, b1⟩
  have E0 := (b1.block w.heap.size (by simp; omega)).trans HE0.out
  have E1 := (b1.block (w.heap.size + 1) (by simp)).trans HE1.out
  have hs1 : w.heap.size + 1 + 1 ≤ w1.heap.size := by have := b1.size; simp at this; omega
  replace HB := hide (HB.out.trans (b1.mono HB.out.size))
  clear b1 HE0 HE1
  have f2 := (box_of E0).1 2 _ rfl
  have r0 := (box_of E1).1 0 _ rfl
  have r1 := (box_of E1).1 1 _ rfl
  have r2 := (box_of E1).1 2 _ rfl
  have r3 := (box_of E1).1 3 _ rfl
  have z1 := (box_of E1).2
  have H1 := hide E1
  clear E0 E1
  cases hok : lnOk f t base got ms with
  | false =>
    go_wp2
    exact bodyPost_ret (v := .tuple #[.agg #[.int .i64 0, .int .i64 0, .slice none 0 0, .bool false], .bool false]) (results_ct Try.results23 _ _ _ rfl (load4 (put4 H1.out _ _ _ _))) rfl (show ansK w (nodK f t base got ms) _ _ from by
      unfold nodK
      rw [hok]
      exact ⟨_, rfl, World.ownsRow_nil _ _ _ _, (((HB.out.setCell (by simp) _).setCell (by simp) _).setCell (by simp) _).setCell (by simp) _⟩)
  | true =>
    have hgt := (lnOk_all hok).1
    go_wp2_with fail
    clear f2 r0 r1 r2 r3 z1
    refine (letterNod _ got hgt.1 hgt.2).mono ?_
    rintro e w2 ⟨v2, rfl, o2, b2⟩
    obtain ⟨a2, c2, rfl, i2, hc2⟩ := own_in o2 (Nat.le_trans (nodB_len got) (by omega)) (nodB_byt got) (Nat.le_refl _)
    have HI2 := hide i2
    replace H1 := hide ((b2.block (w.heap.size + 1) (by omega)).trans H1.out)
    have hs2 : w.heap.size + 1 + 1 ≤ w2.heap.size := Nat.le_trans hs1 b2.size
    replace HB := hide (HB.out.trans (b2.mono HB.out.size))
    clear b2 o2 i2
    go_wp2_with fail
    refine (sealImpl _ _ _ _ _ HI2.out hc2).mono ?_
    rintro e w3 ⟨v3, rfl, o3, b3⟩
    obtain ⟨a3, c3, rfl⟩ := own_shape o3
    have HO := hide o3
    replace H1 := hide ((b3.block (w.heap.size + 1) (by omega)).trans H1.out)
    replace HB := hide (HB.out.trans (b3.mono HB.out.size))
    have r0 := (box_of H1.out).1 0 _ rfl
    have r1 := (box_of H1.out).1 1 _ rfl
    have r2 := (box_of H1.out).1 2 _ rfl
    have r3 := (box_of H1.out).1 3 _ rfl
    have z1 := (box_of H1.out).2
    clear b3 o3 HI2
    go_wp2
    refine bodyPost_ret (v := .tuple #[.agg #[.int .i64 f, .int .i64 t, .slice a3 (sealed (nodB got)).length c3, .bool false], .bool true]) (results_ct Try.results23 _ _ _ rfl (load4 (put4 H1.out _ _ _ _))) rfl (show ansK w (nodK f t base got ms) _ _ from by
      unfold nodK
      rw [hok]
      refine ⟨_, rfl, ?_, (((HB.out.setCell (by simp) _).setCell (by simp) _).setCell (by simp) _).setCell (by simp) _⟩
      exact Own.mono (b := w2.heap.size) (own_set (own_set (own_set (own_set HO.out (by omega) _ _) (by omega) _ _) (by omega) _ _) (by omega) _ _) (by omega))
set_option maxRecDepth 100000 in
set_option maxHeartbeats 4000000 in
theorem nodSpec (w : World) (f t base got : Int) (v : Value) (ms : List Ms) (h : RdS w w.heap.size v ms) (hm : ms.length ≤ 2000000) (hgd : GoodS ms) :
    Calls Try.prog 22 #[.int .i64 f, .int .i64 t, lnV base got v] w (ansK w (nodK f t base got ms)) := by
  have HR := hide h
  obtain ⟨a, cap, rfl, _⟩ := ms_at h
  clear h
  unfold lnV
  have bA := ((Below.refl w.heap.size w).alloc (Nat.le_refl _) (.cells #[.int .i64 base, .slice a ms.length cap, .int .i64 got] 43)).alloc (by simp) (.cells #[.int .i64 0, .int .i64 0, .slice none 0 0, .bool false] 39)
  have HE0 := hide ((Below.heap_alloc (w.alloc (.cells #[.int .i64 base, .slice a ms.length cap, .int .i64 got] 43)) (.cells #[.int .i64 0, .int .i64 0, .slice none 0 0, .bool false] 39) w.heap.size (by simp)).trans (heap_alloc_new w (.cells #[.int .i64 base, .slice a ms.length cap, .int .i64 got] 43)))
  have HE1 := hide (heap_alloc_new (w.alloc (.cells #[.int .i64 base, .slice a ms.length cap, .int .i64 got] 43)) (.cells #[.int .i64 0, .int .i64 0, .slice none 0 0, .bool false] 39))
  simp only [World.size_alloc] at HE1
  have HB := hide bA
  clear bA
  go_enter Try.func22, Try.ntmps22
  go_wp2_with fail
  refine (endsSpec _ f t base got _ ms _ (HR.out.at HB.out) (Nat.le_refl _) hm hgd).mono ?_
  rintro e w1 ⟨rfl, b1⟩
  have E0 := (b1.block w.heap.size (by simp; omega)).trans HE0.out
  have E1 := (b1.block (w.heap.size + 1) (by simp)).trans HE1.out
  have hs1 : w.heap.size + 1 + 1 ≤ w1.heap.size := by have := b1.size; simp at this; omega
  replace HB := hide (HB.out.trans (b1.mono HB.out.size))
  clear b1 HE0 HE1
  have r0 := (box_of E1).1 0 _ rfl
  have r1 := (box_of E1).1 1 _ rfl
  have r2 := (box_of E1).1 2 _ rfl
  have r3 := (box_of E1).1 3 _ rfl
  have z1 := (box_of E1).2
  have H1 := hide E1
  have H0 := hide E0
  clear E0 E1
  cases hok : lnOk f t base got ms with
  | false =>
    go_wp2
    exact bodyPost_ret (v := .tuple #[.agg #[.int .i64 0, .int .i64 0, .slice none 0 0, .bool false], .bool false]) (results_ct Try.results22 _ _ _ rfl (load4 (put4 H1.out _ _ _ _))) rfl (show ansK w (nodK f t base got ms) _ _ from by
      unfold nodK
      rw [hok]
      exact ⟨_, rfl, World.ownsRow_nil _ _ _ _, (((HB.out.setCell (by simp) _).setCell (by simp) _).setCell (by simp) _).setCell (by simp) _⟩)
  | true =>
    have hgt := (lnOk_all hok).1
    have hp := pn_pos got hgt.1 hgt.2
    have hl0 := pn_len 0
    have hl1 := pn_len got
    have HLB := hide (nodB_len got)
    clear r0 r1 r2 r3 z1
    go_wp2_with fail
    have HS : Hid (∀ w', Below w1.heap.size w1 w' → w'.cell? ⟨w.heap.size, 2, none⟩ = some (.int .i64 got)) := hide (fun w' hw => (hw.cell (p := ⟨w.heap.size, 2, none⟩) (by dsimp only; omega)).trans ((box_of H0.out).1 2 _ rfl))
    have HD0 : Hid (Below w1.heap.size w1 w1.drew) := hide (Below.refl w1.heap.size w1).drew
    have HQ : Hid (∀ w', Below w1.heap.size w1 w' → (∃ y, w'.cell? ⟨w.heap.size + 1, 0, none⟩ = some y) ∧ w'.heap[w.heap.size + 1]? = some (.cells #[.int .i64 0, .int .i64 0, .slice none 0 0, .bool false] 39 (0, 0))) := hide (fun w' hw => ⟨⟨_, (hw.cell (p := ⟨w.heap.size + 1, 0, none⟩) (by dsimp only; omega)).trans ((box_of H1.out).1 0 _ rfl)⟩, (hw.block (w.heap.size + 1) (by omega)).trans H1.out⟩)
    go_region_held_law (fun w' => w'.cell? ⟨w.heap.size, 2, none⟩ = some (.int .i64 got))
      (first | exact HS.out _ HD4.out | exact HS.out _ HD3.out | exact HS.out _ HD2.out | exact HS.out _ HD1.out | exact HS.out _ HD0.out | (rw [World.cell?_setCell_other _ _ _ _ (by simp), World.cell?_setCell_other _ _ _ _ (by simp), World.cell?_setCell_other _ _ _ _ (by simp), World.cell?_setCell_other _ _ _ _ (by simp)]; exact HS.out _ HD4.out))
      (first
        | (refine step_callB (some 16) rfl rfl 39 _ _ rfl #[.int .i64 0] (by kernel_rfl) (putNumSpec 0 _) ?_; rintro e x1 ⟨v1, rfl, o1, b1⟩; refine ⟨_, rfl, ?_⟩; have HD1 : Hid (Below w1.heap.size w1 x1) := hide (HD0.out.trans (b1.mono HD0.out.size)); have HO1 : Hid (Own x1 w1.heap.size v1 (pn 0)) := hide o1; clear b1 o1)
        | (refine step_callB (some 19) rfl rfl 39 _ _ rfl #[.int .i64 got] (by kernel_rfl) (putNumSpec got _) ?_; rintro e x2 ⟨v2, rfl, o2, b2⟩; refine ⟨_, rfl, ?_⟩; have HD2 : Hid (Below w1.heap.size w1 x2) := hide (HD1.out.trans (b2.mono HD1.out.size)); have HO2 := hide (HO1.out.below b2); have HU2 := hide o2; clear b2 o2)
        | (refine step_appB (some 20) rfl rfl _ _ rfl w1.heap.size _ v1 v2 (pn 0) (pn got) (by rfl) (by rfl) HO2.out HU2.out (pn_byt _) hp (by omega) (by omega) HD2.out.size ?_; intro v3 x3 o3 g3; have HD3 : Hid (Below w1.heap.size w1 x3) := hide (HD2.out.grown g3 HD2.out.size (fun q hq => (HO2.out.lt q hq).1)); obtain ⟨a3, c3, e3, i3, hc3⟩ := own_in (show Own x3 w1.heap.size v3 (nodB got) from o3) (Nat.le_trans HLB.out (by omega)) (nodB_byt got) (Nat.le_refl _); subst e3; have HI3 := hide i3; clear o3 g3 i3)
        | (refine step_callB (some 21) rfl rfl 41 _ _ rfl #[.slice a3 (nodB got).length c3] (by kernel_rfl) (sealSpec _ _ _ _ _ HI3.out hc3) ?_; rintro e x4 ⟨v4, rfl, o4, b4⟩; refine ⟨_, rfl, ?_⟩; have hsz4 := HD3.out.size; have HD4 : Hid (Below w1.heap.size w1 x4) := hide (HD3.out.trans (b4.mono HD3.out.size)); obtain ⟨a4, c4, e4⟩ := own_shape o4; subst e4; have HO4 := hide (o4.mono hsz4); have E1 := (HQ.out _ HD4.out).2; have r0 := (box_of E1).1 0 _ rfl; have r1 := (box_of E1).1 1 _ rfl; have r2 := (box_of E1).1 2 _ rfl; have r3 := (box_of E1).1 3 _ rfl; have z1 := (box_of E1).2; have HE := hide E1; clear E1; clear b4 o4 hsz4)
        | fail)
    clear HS HD0 HD1 HD2 HD3 HO1 HO2 HU2 HI3
    replace HB := hide (HB.out.trans (HD4.out.mono HB.out.size))
    go_wp2
    refine bodyPost_ret (v := .tuple #[.agg #[.int .i64 f, .int .i64 t, .slice a4 (sealed (nodB got)).length c4, .bool false], .bool true]) (results_ct Try.results22 _ _ _ rfl (load4 (put4 HE.out _ _ _ _))) rfl (show ansK w (nodK f t base got ms) _ _ from by
      unfold nodK
      rw [hok]
      refine ⟨_, rfl, ?_, (((HB.out.setCell (by simp) _).setCell (by simp) _).setCell (by simp) _).setCell (by simp) _⟩
      exact Own.mono (b := w1.heap.size) (own_set (own_set (own_set (own_set HO4.out (by omega) _ _) (by omega) _ _) (by omega) _ _) (by omega) _ _) (by omega))
end Go.Proofs.Ytoaenoakdbieaab
