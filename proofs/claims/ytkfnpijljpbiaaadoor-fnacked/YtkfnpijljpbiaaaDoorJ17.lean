/-
  Joined: StepB, LineW, LineN.
-/
import Derived.Test.YtkfnpijljpbiaaaDoorJ14
import Derived.Maps.AppendAt
import Derived.Deep.RegionHeldLaw
import Derived.Deep.Upon
import Derived.Test.YtkfnpijljpbiaaaDoorJ12
import Derived.Test.YtkfnpijljpbiaaaDoorJ13
import Derived.Test.YtkfnpijljpbiaaaDoorJ15
import Derived.Test.YtkfnpijljpbiaaaDoorJ16
/-
  At a step of a region that draws its order: a call, and one row of bytes of one's own put behind another.
-/
namespace Go.Proofs.YtkfnpijljpbiaaaDoor
open Go.RowKit

theorem step_callB {P : Program} {ops : Array Oper} {o : Oper} {a : Act} {w : World} {K : Act → World → Prop} {Q : Exit → Act → World → Prop} {E : Prop} {R : Ending → World → Prop} (d : Option Tmp) (hd : o.dst = d) (hgd : o.guard = none)
    (f : FuncId) (xs : Array Operand) (ts : Array TypeId) (_ho : o.op = .call { callee := .value (.func f), args := xs, argTypes := ts }) (args : Array Value) (hrun : (execOp a.eval o).run P w = .ok (.enter f args) w) (hc : Calls P f args w R) (h : ∀ e w', R e w' → ∃ v, e = .returned v ∧ K (a.put d v) w') :
    if Region.wanted o (yielded ops a.tmps) = true then Oper.wp P o a w K Q else E := by
  subst hd
  have hw : Region.wanted o (yielded ops a.tmps) = true := by simp [Region.wanted, hgd]
  rw [if_pos hw]
  unfold Oper.wp
  rw [hrun, Oper.upon_enter]
  refine hc.mono fun e w' hh => ?_
  obtain ⟨v, rfl, hk⟩ := h e w' hh
  exact hk

/-- 'append(v, u...)', both rows of one's own, u not empty. -/
theorem run_app_B {w : World} (ty : TypeId) (base b2 : Nat) (v u : Value) (xs zs : List Int) (hown : Own w base v xs) (hu : Own w b2 u zs) (hz : Byt zs) (hp : 0 < zs.length) (hl : zs.length ≤ 1048576) (hsm : xs.length ≤ 2000000) (hbase : base ≤ w.heap.size) :
    ∃ v' w', (Builtin.append_ #[22, 22] ty #[v, u]).run Tryd.prog w = .ok v' w' ∧ Own w' base v' (xs ++ zs) ∧ w.grownBy w' v.ownBlock := by
  obtain ⟨i0, hi0, hz0, hz1, hz2⟩ := info_parts Tryd.info5
  obtain ⟨a, c, rfl, hin, _⟩ := in_any hu hl hz (Nat.le_refl _)
  cases a with
  | none =>
    obtain ⟨h0, h1⟩ := hin.none_len
    subst h1
    simp at hp
  | some ad =>
    obtain ⟨v', w', hr, ho', hg', _, _⟩ := run_append_own_at (P := Tryd.prog) w base 22 ty 5 i0 (.int .u8 0) 1 1 Tryd.underlying22 hi0 hz0 hz1 hz2 rfl (by decide) v xs.length (xs.map (Value.int .u8)) hown ad zs.length c (zs.map (Value.int .u8)) (by simp) (cells_in hin) (byt_cells _) (by unfold maxLen; omega) (by omega) hbase
    exact ⟨v', w', hr, own_more ho', hg'⟩

theorem step_appB {w : World} {ops : Array Oper} {o : Oper} {act : Act} {K : Act → World → Prop} {Q : Exit → Act → World → Prop} {E : Prop} (d : Option Tmp) (hd : o.dst = d) (hgd : o.guard = none) (s x : Operand)
    (ho : o.op = .call { callee := .builtin .append, args := #[s, x], argTypes := #[22, 22] }) (base b2 : Nat) (v u : Value) (xs zs : List Int) (hs : act.eval s = v) (hx : act.eval x = u) (hown : Own w base v xs) (hu : Own w b2 u zs) (hz : Byt zs) (hp : 0 < zs.length) (hl : zs.length ≤ 1048576) (hsm : xs.length ≤ 2000000) (hbase : base ≤ w.heap.size)
    (h : ∀ v' w', Own w' base v' (xs ++ zs) → w.grownBy w' v.ownBlock → K (act.put d v') w') :
    if Region.wanted o (yielded ops act.tmps) = true then Oper.wp Tryd.prog o act w K Q else E := by
  subst hd
  have hw : Region.wanted o (yielded ops act.tmps) = true := by simp [Region.wanted, hgd]
  rw [if_pos hw]
  obtain ⟨v', w', hr, h1, h2⟩ := run_app_B o.type base b2 v u xs zs hown hu hz hp hl hsm hbase
  unfold Oper.wp execOp
  simp only [ho, resolve, invoke, builtin, Sem.run_bind, Sem.run_pure, Result.andThen_ok, List.map_toArray, List.map_cons, List.map_nil, hs, hx, hr]
  exact h v' w' h1 h2
end Go.Proofs.YtkfnpijljpbiaaaDoor
/-
  Lines: how they come in, how great they are, copied, held against each other, marked; whether something may be sent; what is sealed in a packet.
-/
namespace Go.Proofs.YtkfnpijljpbiaaaDoor
open Go.ChangeShapes Go.WideShapes Go.RowKit

/-- A line as a value. -/
def lnV (base got : Int) (lv : Value) : Value := .agg #[.int .i64 base, lv, .int .i64 got]
theorem loadL {w : World} {g : Nat} {a0 a1 a2 : Value} (h : w.heap[g]? = some (.cells #[a0, a1, a2] 28 (0, 0))) : (loadVar 28 ⟨g, 0, none⟩).run Tryd.prog w = .ok (.agg #[a0, a1, a2]) w :=
  run_loadVar_row w g 28 28 #[a0, a1, a2] (0, 0) _ h Tryd.underlying28 rfl (by kernel_rfl)
theorem put3 {w : World} {g : Nat} {T : TypeId} {a0 a1 a2 : Value} (h : w.heap[g]? = some (.cells #[a0, a1, a2] T (0, 0))) (b0 b1 b2 : Value) :
    (((w.setCell ⟨g, 0, none⟩ b0).setCell ⟨g, 1, none⟩ b1).setCell ⟨g, 2, none⟩ b2).heap[g]? = some (.cells #[b0, b1, b2] T (0, 0)) := by
  have h0 : (w.setCell ⟨g, 0, none⟩ b0).heap[g]? = some (.cells #[b0, a1, a2] T (0, 0)) := heap_setCell_same _ g 0 _ T b0 h
  have h1 : ((w.setCell ⟨g, 0, none⟩ b0).setCell ⟨g, 1, none⟩ b1).heap[g]? = some (.cells #[b0, b1, a2] T (0, 0)) := heap_setCell_same _ g 1 _ T b1 h0
  exact heap_setCell_same _ g 2 _ T b2 h1


/-- Whether something may be sent. -/
def lnOk (f t base got : Int) (ms : List Ms) : Bool := inB f 0 3 && inB t 0 3 && inB got 0 16777215 && sOk base ms
theorem lnOk_all {f t base got : Int} {ms : List Ms} (h : lnOk f t base got ms = true) : (0 ≤ got ∧ got ≤ 16777215) ∧ sOk base ms = true := by
  unfold lnOk at h
  simp only [Bool.and_eq_true] at h
  exact ⟨inB_yes h.1.2, h.2⟩

set_option maxRecDepth 100000 in
set_option maxHeartbeats 2000000 in
theorem endsSpec (w : World) (f t base got : Int) (v : Value) (ms : List Ms) (B : Nat) (h : RdS w B v ms) (hB : B ≤ w.heap.size) (hm : ms.length ≤ 2000000) (hgd : GoodS ms) :
    Calls Tryd.prog 20 #[.int .i64 f, .int .i64 t, lnV base got v] w fun e w' => e = .returned (.bool (lnOk f t base got ms)) ∧ Below w.heap.size w w' := by
  have HR := hide h
  obtain ⟨a, cap, rfl, _⟩ := ms_at h
  clear h
  unfold lnV lnOk
  have HB := hide ((Below.refl w.heap.size w).alloc (Nat.le_refl _) (.cells #[.int .i64 base, .slice a ms.length cap, .int .i64 got] 28))
  cases h1 : inB f 0 3 with
  | false =>
    go_enter Tryd.func20, Tryd.ntmps20
    go_wp2_with (go_at_call 35; refine (inSpec _ _ _ _).mono ?_; rintro e w' ⟨rfl, rfl⟩; simp only [h1])
    go_ret
    exact ⟨rfl, HB.out⟩
  | true =>
    cases h2 : inB t 0 3 with
    | false =>
      go_enter Tryd.func20, Tryd.ntmps20
      go_wp2_with (go_at_call 35; refine (inSpec _ _ _ _).mono ?_; rintro e w' ⟨rfl, rfl⟩; simp only [h1, h2])
      go_ret
      exact ⟨rfl, HB.out⟩
    | true =>
      cases h3 : inB got 0 16777215 with
      | false =>
        go_enter Tryd.func20, Tryd.ntmps20
        go_wp2_with (go_at_call 35; refine (inSpec _ _ _ _).mono ?_; rintro e w' ⟨rfl, rfl⟩; simp only [h1, h2, h3])
        go_ret
        exact ⟨rfl, HB.out⟩
      | true =>
        go_enter Tryd.func20, Tryd.ntmps20
        go_wp2_with (first | (go_at_call 35; refine (inSpec _ _ _ _).mono ?_; rintro e w' ⟨rfl, rfl⟩; simp only [h1, h2, h3]) | fail)
        refine (sndSpec _ base _ ms _ (HR.out.low HB.out hB) (Nat.le_trans hB HB.out.size) hm hgd).mono ?_
        rintro e w1 ⟨rfl, b1⟩
        replace HB := hide (HB.out.trans (b1.mono HB.out.size))
        clear b1
        go_wp2
        go_ret
        exact ⟨rfl, HB.out⟩
set_option maxRecDepth 100000 in
set_option maxHeartbeats 2000000 in
theorem endsImpl (w : World) (f t base got : Int) (v : Value) (ms : List Ms) (B : Nat) (h : RdS w B v ms) (hB : B ≤ w.heap.size) (hm : ms.length ≤ 2000000) (hgd : GoodS ms) :
    Calls Tryd.prog 17 #[.int .i64 f, .int .i64 t, lnV base got v] w fun e w' => e = .returned (.bool (lnOk f t base got ms)) ∧ Below w.heap.size w w' := by
  have HR := hide h
  obtain ⟨a, cap, rfl, _⟩ := ms_at h
  clear h
  unfold lnV lnOk
  have HB := hide ((Below.refl w.heap.size w).alloc (Nat.le_refl _) (.cells #[.int .i64 base, .slice a ms.length cap, .int .i64 got] 28))
  cases h1 : inB f 0 3 with
  | false =>
    go_enter Tryd.func17, Tryd.ntmps17
    go_wp2_with (go_at_call 38; refine (inImpl _ _ _ _).mono ?_; rintro e w' ⟨rfl, rfl⟩; simp only [h1])
    go_ret
    exact ⟨rfl, HB.out⟩
  | true =>
    cases h2 : inB t 0 3 with
    | false =>
      go_enter Tryd.func17, Tryd.ntmps17
      go_wp2_with (go_at_call 38; refine (inImpl _ _ _ _).mono ?_; rintro e w' ⟨rfl, rfl⟩; simp only [h1, h2])
      go_ret
      exact ⟨rfl, HB.out⟩
    | true =>
      cases h3 : inB got 0 16777215 with
      | false =>
        go_enter Tryd.func17, Tryd.ntmps17
        go_wp2_with (go_at_call 38; refine (inImpl _ _ _ _).mono ?_; rintro e w' ⟨rfl, rfl⟩; simp only [h1, h2, h3])
        go_ret
        exact ⟨rfl, HB.out⟩
      | true =>
        go_enter Tryd.func17, Tryd.ntmps17
        go_wp2_with (first | (go_at_call 38; refine (inImpl _ _ _ _).mono ?_; rintro e w' ⟨rfl, rfl⟩; simp only [h1, h2, h3]) | fail)
        refine (sndImpl _ base _ ms _ (HR.out.low HB.out hB) (Nat.le_trans hB HB.out.size) hm hgd).mono ?_
        rintro e w1 ⟨rfl, b1⟩
        replace HB := hide (HB.out.trans (b1.mono HB.out.size))
        clear b1
        go_wp2
        go_ret
        exact ⟨rfl, HB.out⟩
end Go.Proofs.YtkfnpijljpbiaaaDoor
/-
  What Nod does, in the program and in its model.
-/
namespace Go.Proofs.YtkfnpijljpbiaaaDoor
open Go.RowKit

/-- A packet with bytes of its own, and whether there is one. -/
def ansK (w : World) (R : Pk × Bool) (e : Ending) (w' : World) : Prop := ∃ v, e = .returned (.tuple #[pkV R.1 v, .bool R.2]) ∧ Own w' w.heap.size v R.1.b ∧ Below w.heap.size w w'
def noK : Pk × Bool := (⟨0, 0, [], false⟩, false)
def nodB (got : Int) : List Int := pn 0 ++ pn got
/-- What Nod answers. -/
def nodK (f t base got : Int) (ms : List Ms) : Pk × Bool := bif lnOk f t base got ms then (⟨f, t, sealed (nodB got), false⟩, true) else noK
theorem nodB_len (got : Int) : (nodB got).length ≤ 8 := by
  have h1 := pn_len 0
  have h2 := pn_len got
  unfold nodB
  rw [List.length_append]; omega
theorem nodB_byt (got : Int) : Byt (nodB got) := (pn_byt _).append (pn_byt _)

set_option maxRecDepth 100000 in
set_option maxHeartbeats 2000000 in
theorem letterNod (w : World) (got : Int) (h0 : 0 ≤ got) (h1 : got ≤ 16777215) :
    Calls Tryd.prog 19 #[.agg #[.bool false, .int .i64 0, .int .i64 got, .int .i64 0, .int .i64 0, .int .i64 0, .int .i64 0, .int .i64 0, .slice none 0 0, .slice none 0 0]] w fun e w' => ∃ v, e = .returned v ∧ Own w' w.heap.size v (nodB got) ∧ Below w.heap.size w w' := by
  have HX := hide (Box.new w #[.bool false, .int .i64 0, .int .i64 got, .int .i64 0, .int .i64 0, .int .i64 0, .int .i64 0, .int .i64 0, .slice none 0 0, .slice none 0 0] 52)
  have HW := hide ((Below.refl w.heap.size w).alloc (Nat.le_refl _) (.cells #[.bool false, .int .i64 0, .int .i64 got, .int .i64 0, .int .i64 0, .int .i64 0, .int .i64 0, .int .i64 0, .slice none 0 0, .slice none 0 0] 52))
  have hg : w.heap.size < (w.alloc (.cells #[.bool false, .int .i64 0, .int .i64 got, .int .i64 0, .int .i64 0, .int .i64 0, .int .i64 0, .int .i64 0, .slice none 0 0, .slice none 0 0] 52)).heap.size := by simp
  have hp := pn_pos got h0 h1
  have hl0 := pn_len 0
  have hl1 := pn_len got
  go_enter Tryd.func19, Tryd.ntmps19
  go_wp2_with fail
  generalize w.alloc (.cells #[.bool false, .int .i64 0, .int .i64 got, .int .i64 0, .int .i64 0, .int .i64 0, .int .i64 0, .int .i64 0, .slice none 0 0, .slice none 0 0] 52) = W0 at *
  have HS : Hid (∀ w', Below W0.heap.size W0 w' → w'.cell? ⟨w.heap.size, 2, none⟩ = some (.int .i64 got)) := hide (fun w' hw => (hw.cell (p := ⟨w.heap.size, 2, none⟩) hg).trans (HX.out 2 _ rfl))
  have HD0 : Hid (Below W0.heap.size W0 W0.drew) := hide (Below.refl W0.heap.size W0).drew
  go_region_held_law (fun w' => w'.cell? ⟨w.heap.size, 2, none⟩ = some (.int .i64 got))
    (first | exact HS.out _ HD3.out | exact HS.out _ HD2.out | exact HS.out _ HD1.out | exact HS.out _ HD0.out)
    (first
      | (refine step_callB (some 7) rfl rfl 42 _ _ rfl #[.int .i64 0] (by kernel_rfl) (putNumImpl 0 _) ?_; rintro e x1 ⟨v1, rfl, o1, b1⟩; refine ⟨_, rfl, ?_⟩; have HD1 : Hid (Below W0.heap.size W0 x1) := hide (HD0.out.trans (b1.mono HD0.out.size)); have HO1 : Hid (Own x1 W0.heap.size v1 (pn 0)) := hide o1; clear b1 o1)
      | (refine step_callB (some 10) rfl rfl 42 _ _ rfl #[.int .i64 got] (by kernel_rfl) (putNumImpl got _) ?_; rintro e x2 ⟨v2, rfl, o2, b2⟩; refine ⟨_, rfl, ?_⟩; have HD2 : Hid (Below W0.heap.size W0 x2) := hide (HD1.out.trans (b2.mono HD1.out.size)); have HO2 := hide (HO1.out.below b2); have HU2 := hide o2; clear b2 o2)
      | (refine step_appB (some 11) rfl rfl _ _ rfl W0.heap.size _ v1 v2 (pn 0) (pn got) (by rfl) (by rfl) HO2.out HU2.out (pn_byt _) hp (by omega) (by omega) HD2.out.size ?_; intro v3 x3 o3 g3; have HD3 : Hid (Below W0.heap.size W0 x3) := hide (HD2.out.grown g3 HD2.out.size (fun q hq => (HO2.out.lt q hq).1)); have HO3 := hide o3; clear o3 g3)
      | fail)
  clear HS HD0 HD1 HD2 HO1 HO2 HU2
  go_wp2
  go_ret
  exact ⟨_, rfl, HO3.out.mono HW.out.size, HW.out.trans (HD3.out.mono HW.out.size)⟩
set_option maxRecDepth 100000 in
set_option maxHeartbeats 4000000 in
theorem nodImpl (w : World) (f t base got : Int) (v : Value) (ms : List Ms) (h : RdS w w.heap.size v ms) (hm : ms.length ≤ 2000000) (hgd : GoodS ms) :
    Calls Tryd.prog 7 #[.int .i64 f, .int .i64 t, lnV base got v] w (ansK w (nodK f t base got ms)) := by
  have HR := hide h
  obtain ⟨a, cap, rfl, _⟩ := ms_at h
  clear h
  unfold lnV
  have bA := ((Below.refl w.heap.size w).alloc (Nat.le_refl _) (.cells #[.int .i64 base, .slice a ms.length cap, .int .i64 got] 28)).alloc (by simp) (.cells #[.int .i64 0, .int .i64 0, .slice none 0 0, .bool false] 32)
  have HE0 := hide ((Below.heap_alloc (w.alloc (.cells #[.int .i64 base, .slice a ms.length cap, .int .i64 got] 28)) (.cells #[.int .i64 0, .int .i64 0, .slice none 0 0, .bool false] 32) w.heap.size (by simp)).trans (heap_alloc_new w (.cells #[.int .i64 base, .slice a ms.length cap, .int .i64 got] 28)))
  have HE1 := hide (heap_alloc_new (w.alloc (.cells #[.int .i64 base, .slice a ms.length cap, .int .i64 got] 28)) (.cells #[.int .i64 0, .int .i64 0, .slice none 0 0, .bool false] 32))
  simp only [World.size_alloc] at HE1
  have HB := hide bA
  clear bA
  go_enter Tryd.func7, Tryd.ntmps7
  go_wp2_with fail
  refine (endsImpl _ f t base got _ ms _ (HR.out.at HB.out) (Nat.le_refl _) hm hgd).mono ?_
  rintro e w1 ⟨rfl, b1⟩
  have E0 := (b1.block w.heap.size (by simp; omega)).trans HE0.out
  have E1 := (b1.block (w.heap.size + 1) (by simp)).trans HE1.out
  have hs1 : w.heap.size + 1 + 1 ≤ w1.heap.size := by have := b1.size; simp at this; omega
  replace HB := hide (HB.out.trans (b1.mono HB.out.size))
  clear b1 HE0 HE1
  have f2 := (box_of E0).1 2 _ rfl
  have r0 := (box_of E1).1 0 _ rfl
  have r1 := (box_of E1).1 1 _ rfl
  have r2 := (box_of E1).1 2 _ rfl
  have r3 := (box_of E1).1 3 _ rfl
  have z1 := (box_of E1).2
  have H1 := hide E1
  clear E0 E1
  cases hok : lnOk f t base got ms with
  | false =>
    go_wp2
    exact bodyPost_ret (v := .tuple #[.agg #[.int .i64 0, .int .i64 0, .slice none 0 0, .bool false], .bool false]) (results_ct Tryd.results7 _ _ _ rfl (load4 (put4 H1.out _ _ _ _))) rfl (show ansK w (nodK f t base got ms) _ _ from by
      unfold nodK
      rw [hok]
      exact ⟨_, rfl, World.ownsRow_nil _ _ _ _, (((HB.out.setCell (by simp) _).setCell (by simp) _).setCell (by simp) _).setCell (by simp) _⟩)
  | true =>
    have hgt := (lnOk_all hok).1
    go_wp2_with fail
    clear f2 r0 r1 r2 r3 z1
    refine (letterNod _ got hgt.1 hgt.2).mono ?_
    rintro e w2 ⟨v2, rfl, o2, b2⟩
    obtain ⟨a2, c2, rfl, i2, hc2⟩ := own_in o2 (Nat.le_trans (nodB_len got) (by omega)) (nodB_byt got) (Nat.le_refl _)
    have HI2 := hide i2
    replace H1 := hide ((b2.block (w.heap.size + 1) (by omega)).trans H1.out)
    have hs2 : w.heap.size + 1 + 1 ≤ w2.heap.size := Nat.le_trans hs1 b2.size
    replace HB := hide (HB.out.trans (b2.mono HB.out.size))
    clear b2 o2 i2
    go_wp2_with fail
    refine (sealImpl _ _ _ _ _ HI2.out hc2).mono ?_
    rintro e w3 ⟨v3, rfl, o3, b3⟩
    obtain ⟨a3, c3, rfl⟩ := own_shape o3
    have HO := hide o3
    replace H1 := hide ((b3.block (w.heap.size + 1) (by omega)).trans H1.out)
    replace HB := hide (HB.out.trans (b3.mono HB.out.size))
    have r0 := (box_of H1.out).1 0 _ rfl
    have r1 := (box_of H1.out).1 1 _ rfl
    have r2 := (box_of H1.out).1 2 _ rfl
    have r3 := (box_of H1.out).1 3 _ rfl
    have z1 := (box_of H1.out).2
    clear b3 o3 HI2
    go_wp2
    refine bodyPost_ret (v := .tuple #[.agg #[.int .i64 f, .int .i64 t, .slice a3 (sealed (nodB got)).length c3, .bool false], .bool true]) (results_ct Tryd.results7 _ _ _ rfl (load4 (put4 H1.out _ _ _ _))) rfl (show ansK w (nodK f t base got ms) _ _ from by
      unfold nodK
      rw [hok]
      refine ⟨_, rfl, ?_, (((HB.out.setCell (by simp) _).setCell (by simp) _).setCell (by simp) _).setCell (by simp) _⟩
      exact Own.mono (b := w2.heap.size) (own_set (own_set (own_set (own_set HO.out (by omega) _ _) (by omega) _ _) (by omega) _ _) (by omega) _ _) (by omega))
set_option maxRecDepth 100000 in
set_option maxHeartbeats 4000000 in
theorem nodSpec (w : World) (f t base got : Int) (v : Value) (ms : List Ms) (h : RdS w w.heap.size v ms) (hm : ms.length ≤ 2000000) (hgd : GoodS ms) :
    Calls Tryd.prog 8 #[.int .i64 f, .int .i64 t, lnV base got v] w (ansK w (nodK f t base got ms)) := by
  have HR := hide h
  obtain ⟨a, cap, rfl, _⟩ := ms_at h
  clear h
  unfold lnV
  have bA := ((Below.refl w.heap.size w).alloc (Nat.le_refl _) (.cells #[.int .i64 base, .slice a ms.length cap, .int .i64 got] 28)).alloc (by simp) (.cells #[.int .i64 0, .int .i64 0, .slice none 0 0, .bool false] 32)
  have HE0 := hide ((Below.heap_alloc (w.alloc (.cells #[.int .i64 base, .slice a ms.length cap, .int .i64 got] 28)) (.cells #[.int .i64 0, .int .i64 0, .slice none 0 0, .bool false] 32) w.heap.size (by simp)).trans (heap_alloc_new w (.cells #[.int .i64 base, .slice a ms.length cap, .int .i64 got] 28)))
  have HE1 := hide (heap_alloc_new (w.alloc (.cells #[.int .i64 base, .slice a ms.length cap, .int .i64 got] 28)) (.cells #[.int .i64 0, .int .i64 0, .slice none 0 0, .bool false] 32))
  simp only [World.size_alloc] at HE1
  have HB := hide bA
  clear bA
  go_enter Tryd.func8, Tryd.ntmps8
  go_wp2_with fail
  refine (endsSpec _ f t base got _ ms _ (HR.out.at HB.out) (Nat.le_refl _) hm hgd).mono ?_
  rintro e w1 ⟨rfl, b1⟩
  have E0 := (b1.block w.heap.size (by simp; omega)).trans HE0.out
  have E1 := (b1.block (w.heap.size + 1) (by simp)).trans HE1.out
  have hs1 : w.heap.size + 1 + 1 ≤ w1.heap.size := by have := b1.size; simp at this; omega
  replace HB := hide (HB.out.trans (b1.mono HB.out.size))
  clear b1 HE0 HE1
  have r0 := (box_of E1).1 0 _ rfl
  have r1 := (box_of E1).1 1 _ rfl
  have r2 := (box_of E1).1 2 _ rfl
  have r3 := (box_of E1).1 3 _ rfl
  have z1 := (box_of E1).2
  have H1 := hide E1
  have H0 := hide E0
  clear E0 E1
  cases hok : lnOk f t base got ms with
  | false =>
    go_wp2
    exact bodyPost_ret (v := .tuple #[.agg #[.int .i64 0, .int .i64 0, .slice none 0 0, .bool false], .bool false]) (results_ct Tryd.results8 _ _ _ rfl (load4 (put4 H1.out _ _ _ _))) rfl (show ansK w (nodK f t base got ms) _ _ from by
      unfold nodK
      rw [hok]
      exact ⟨_, rfl, World.ownsRow_nil _ _ _ _, (((HB.out.setCell (by simp) _).setCell (by simp) _).setCell (by simp) _).setCell (by simp) _⟩)
  | true =>
    have hgt := (lnOk_all hok).1
    have hp := pn_pos got hgt.1 hgt.2
    have hl0 := pn_len 0
    have hl1 := pn_len got
    have HLB := hide (nodB_len got)
    clear r0 r1 r2 r3 z1
    go_wp2_with fail
    have HS : Hid (∀ w', Below w1.heap.size w1 w' → w'.cell? ⟨w.heap.size, 2, none⟩ = some (.int .i64 got)) := hide (fun w' hw => (hw.cell (p := ⟨w.heap.size, 2, none⟩) (by dsimp only; omega)).trans ((box_of H0.out).1 2 _ rfl))
    have HD0 : Hid (Below w1.heap.size w1 w1.drew) := hide (Below.refl w1.heap.size w1).drew
    have HQ : Hid (∀ w', Below w1.heap.size w1 w' → (∃ y, w'.cell? ⟨w.heap.size + 1, 0, none⟩ = some y) ∧ w'.heap[w.heap.size + 1]? = some (.cells #[.int .i64 0, .int .i64 0, .slice none 0 0, .bool false] 32 (0, 0))) := hide (fun w' hw => ⟨⟨_, (hw.cell (p := ⟨w.heap.size + 1, 0, none⟩) (by dsimp only; omega)).trans ((box_of H1.out).1 0 _ rfl)⟩, (hw.block (w.heap.size + 1) (by omega)).trans H1.out⟩)
    go_region_held_law (fun w' => w'.cell? ⟨w.heap.size, 2, none⟩ = some (.int .i64 got))
      (first | exact HS.out _ HD4.out | exact HS.out _ HD3.out | exact HS.out _ HD2.out | exact HS.out _ HD1.out | exact HS.out _ HD0.out | (rw [World.cell?_setCell_other _ _ _ _ (by simp), World.cell?_setCell_other _ _ _ _ (by simp), World.cell?_setCell_other _ _ _ _ (by simp), World.cell?_setCell_other _ _ _ _ (by simp)]; exact HS.out _ HD4.out))
      (first
        | (refine step_callB (some 16) rfl rfl 22 _ _ rfl #[.int .i64 0] (by kernel_rfl) (putNumSpec 0 _) ?_; rintro e x1 ⟨v1, rfl, o1, b1⟩; refine ⟨_, rfl, ?_⟩; have HD1 : Hid (Below w1.heap.size w1 x1) := hide (HD0.out.trans (b1.mono HD0.out.size)); have HO1 : Hid (Own x1 w1.heap.size v1 (pn 0)) := hide o1; clear b1 o1)
        | (refine step_callB (some 19) rfl rfl 22 _ _ rfl #[.int .i64 got] (by kernel_rfl) (putNumSpec got _) ?_; rintro e x2 ⟨v2, rfl, o2, b2⟩; refine ⟨_, rfl, ?_⟩; have HD2 : Hid (Below w1.heap.size w1 x2) := hide (HD1.out.trans (b2.mono HD1.out.size)); have HO2 := hide (HO1.out.below b2); have HU2 := hide o2; clear b2 o2)
        | (refine step_appB (some 20) rfl rfl _ _ rfl w1.heap.size _ v1 v2 (pn 0) (pn got) (by rfl) (by rfl) HO2.out HU2.out (pn_byt _) hp (by omega) (by omega) HD2.out.size ?_; intro v3 x3 o3 g3; have HD3 : Hid (Below w1.heap.size w1 x3) := hide (HD2.out.grown g3 HD2.out.size (fun q hq => (HO2.out.lt q hq).1)); obtain ⟨a3, c3, e3, i3, hc3⟩ := own_in (show Own x3 w1.heap.size v3 (nodB got) from o3) (Nat.le_trans HLB.out (by omega)) (nodB_byt got) (Nat.le_refl _); subst e3; have HI3 := hide i3; clear o3 g3 i3)
        | (refine step_callB (some 21) rfl rfl 21 _ _ rfl #[.slice a3 (nodB got).length c3] (by kernel_rfl) (sealSpec _ _ _ _ _ HI3.out hc3) ?_; rintro e x4 ⟨v4, rfl, o4, b4⟩; refine ⟨_, rfl, ?_⟩; have hsz4 := HD3.out.size; have HD4 : Hid (Below w1.heap.size w1 x4) := hide (HD3.out.trans (b4.mono HD3.out.size)); obtain ⟨a4, c4, e4⟩ := own_shape o4; subst e4; have HO4 := hide (o4.mono hsz4); have E1 := (HQ.out _ HD4.out).2; have r0 := (box_of E1).1 0 _ rfl; have r1 := (box_of E1).1 1 _ rfl; have r2 := (box_of E1).1 2 _ rfl; have r3 := (box_of E1).1 3 _ rfl; have z1 := (box_of E1).2; have HE := hide E1; clear E1; clear b4 o4 hsz4)
        | fail)
    clear HS HD0 HD1 HD2 HD3 HO1 HO2 HU2 HI3
    replace HB := hide (HB.out.trans (HD4.out.mono HB.out.size))
    go_wp2
    refine bodyPost_ret (v := .tuple #[.agg #[.int .i64 f, .int .i64 t, .slice a4 (sealed (nodB got)).length c4, .bool false], .bool true]) (results_ct Tryd.results8 _ _ _ rfl (load4 (put4 HE.out _ _ _ _))) rfl (show ansK w (nodK f t base got ms) _ _ from by
      unfold nodK
      rw [hok]
      refine ⟨_, rfl, ?_, (((HB.out.setCell (by simp) _).setCell (by simp) _).setCell (by simp) _).setCell (by simp) _⟩
      exact Own.mono (b := w1.heap.size) (own_set (own_set (own_set (own_set HO4.out (by omega) _ _) (by omega) _ _) (by omega) _ _) (by omega) _ _) (by omega))
end Go.Proofs.YtkfnpijljpbiaaaDoor
