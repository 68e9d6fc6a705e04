/-
  Joined: BoxW, Low, CellsW, CellRows, MsgW, MsgI, MsgP, MsgL, MsgK.
-/
import Derived.Test.YtbkhlaiifbdfoaaDoorJ1
import Derived.Test.YtbkhlaiifbdfoaaDoorJ3
import Derived.Deep.QuietTactic
import Derived.BigQuiet
import Derived.Deep.CutRange
import Derived.Deep.RegionWith
import Derived.BigRegion
/-
  Variables as boxes of cells: what is read of them, and what stays of them; results that lie in a variable.
-/
namespace Go.Proofs.YtbkhlaiifbdfoaaDoor
open Go.RowKit

/-- The cells of a variable. -/
def Box (w : World) (g : Nat) (vs : List Value) : Prop := ∀ j v, vs[j]? = some v → w.cell? ⟨g, j, none⟩ = some v
theorem Box.below {w w' : World} {g : Nat} {vs : List Value} (h : Box w g vs) (hg : g < w.heap.size) (hb : Below w.heap.size w w') : Box w' g vs :=
  fun j v hv => (hb.cell (p := ⟨g, j, none⟩) hg).trans (h j v hv)
theorem Box.new (w : World) (vs : Array Value) (T : TypeId) : Box (w.alloc (.cells vs T)) w.heap.size vs.toList := fun j v hv => by
  rw [World.cell?_alloc_new]; simpa using hv
/-- The cells of a block. -/
theorem box_of {w : World} {g : Nat} {T : TypeId} {vs : Array Value} (h : w.heap[g]? = some (.cells vs T (0, 0))) : Box w g vs.toList ∧ ∀ j, w.frozen? ⟨g, j, none⟩ = false :=
  ⟨fun j v hv => by rw [cell_of_row w g j _ T (0, 0) h]; simpa using hv, fun j => frozen_of_row w g j _ T h⟩
theorem Box.apart {w w' : World} {g : Nat} {row : Option Nat} {vs : List Value} (h : Box w g vs) (hg : g < w.heap.size) (hgr : w.grownBy w' row) (hne : row ≠ some g) : Box w' g vs :=
  fun j v hv => (World.cell?_of_block (w := w) (hgr.block g hg (fun e => hne e.symm))).trans (h j v hv)
theorem boxDrewN {w : World} {g : Nat} {vs : List Value} (h : Box w g vs) (q : Nat) : Box (w.drewN q) g vs := h
theorem ownKept {w w' : World} {b : Nat} {v : Value} {row : Option Nat} {zs : List Int} (h : Own w b v zs) (hg : w.grownBy w' row) (hne : ∀ q, v.ownBlock = some q → row ≠ some q) : Own w' b v zs := by
  refine World.ownsRow.kept h hg ?_
  cases hv : v.ownBlock with
  | none => exact .inl rfl
  | some q => exact .inr (fun e => hne q hv e.symm)
theorem grown_set {w wr : World} {g : Nat} (h : w.grownBy wr (some g)) (o : Nat) (v : Value) : w.grownBy (wr.setCell ⟨g, o, none⟩ v) (some g) :=
  grownBy_trans h ⟨rfl, rfl, rfl, by simp, fun k _ hk => heap_setCell_other wr ⟨g, o, none⟩ k _ (fun e => hk (by rw [e]))⟩
theorem own_set {w : World} {b e sz n : Nat} {v : Value} {cs : List Value} (h : w.ownsRow b e sz v n cs) {g : Nat} (hg : g < b) (o : Nat) (u : Value) : (w.setCell ⟨g, o, none⟩ u).ownsRow b e sz v n cs := ownsRow_setCell_below h (a := ⟨g, o, none⟩) hg u
theorem results_one {fn : Func} {p : Tmp} {ty : TypeId} {v : Value} {g : Addr} (h : fn.results = #[.cell p ty]) (tmps : Array Value) (P : Program) (w : World) (hg : tmps.getD p undef = .pointer (some g)) (hl : (loadVar ty g).run P w = .ok v w) :
    (results fn tmps).run P w = .ok v w := by
  have h' : ((asAddr (tmps.getD p undef)).run P w).andThen (fun a w₁ => (loadVar ty a).run P w₁) = .ok v w := by rw [hg]; simpa [asAddr, Result.andThen] using hl
  simp only [results, h]
  simpa [Sem.run_bind, Result.andThen] using h'
theorem results_ct {fn : Func} {p u : Tmp} {ty : TypeId} {v : Value} {g : Addr} (h : fn.results = #[.cell p ty, .tmp u]) (tmps : Array Value) (P : Program) (w : World) (hg : tmps.getD p undef = .pointer (some g)) (hl : (loadVar ty g).run P w = .ok v w) :
    (results fn tmps).run P w = .ok (.tuple #[v, tmps.getD u undef]) w := by
  rw [results_cell_tmp h, hg]
  simp [asAddr, Result.andThen, hl]
theorem results_cct {fn : Func} {p0 p1 u : Tmp} {t0 t1 : TypeId} {v0 v1 : Value} {g0 g1 : Addr} (h : fn.results = #[.cell p0 t0, .cell p1 t1, .tmp u]) (tmps : Array Value) (P : Program) (w : World)
    (hg0 : tmps.getD p0 undef = .pointer (some g0)) (hg1 : tmps.getD p1 undef = .pointer (some g1)) (hl0 : (loadVar t0 g0).run P w = .ok v0 w) (hl1 : (loadVar t1 g1).run P w = .ok v1 w) :
    (results fn tmps).run P w = .ok (.tuple #[v0, v1, tmps.getD u undef]) w := by
  have h' : ((asAddr (tmps.getD p0 undef)).run P w).andThen (fun a w₁ => ((loadVar t0 a).run P w₁).andThen fun x w₂ => ((asAddr (tmps.getD p1 undef)).run P w₂).andThen (fun a w₃ => ((loadVar t1 a).run P w₃).andThen fun y w₄ => Result.ok (Value.tuple #[x, y, tmps.getD u undef]) w₄)) = Result.ok (Value.tuple #[v0, v1, tmps.getD u undef]) w := by
    rw [hg0, hg1]
    simp [asAddr, Result.andThen, hl0, hl1]
  simp only [results, h]
  simpa [Sem.run_bind, Result.andThen] using h'
end Go.Proofs.YtbkhlaiifbdfoaaDoor
/-
  A statement whose order is open and that only reads and calls what makes new memory alone: one walk in the order of the text serves every order.
-/
namespace Go.Proofs.YtbkhlaiifbdfoaaDoor
open Go.RowKit

/-- A world in which all that lay in w lies as it did. -/
structure Lo (w : World) where
  v : World
  b : Below w.heap.size w v

instance (w : World) : Nonempty (Lo w) := ⟨⟨w, Below.refl _ _⟩⟩

theorem Lo.cell {w : World} {a : Addr} {x : Value} (m : Lo w) (h : w.cell? a = some x) : m.v.cell? a = some x :=
  (m.b.cell (World.block_lt_of_cell? w _ h)).trans h

theorem low_same {P : Program} {f : FuncId} {args : Array Value} {w : World} {v : Value} {m : Lo w}
    (h : Calls P f args m.v fun e w' => e = .returned v ∧ w' = m.v) : Calls P f args m.v fun e w'' => e = .returned v ∧ ∃ m' : Lo w, w'' = m'.v :=
  h.mono fun _ _ ⟨he, hm⟩ => ⟨he, m, hm⟩
theorem low_below {P : Program} {f : FuncId} {args : Array Value} {w : World} {v : Value} {m : Lo w}
    (h : Calls P f args m.v fun e w' => e = .returned v ∧ Below m.v.heap.size m.v w') : Calls P f args m.v fun e w'' => e = .returned v ∧ ∃ m' : Lo w, w'' = m'.v :=
  h.mono fun _ w' ⟨he, hb⟩ => ⟨he, ⟨w', m.b.trans (hb.mono m.b.size)⟩, rfl⟩

theorem wp_region_low {P : Program} {id : Nat} {Q : Exit → Act → World → Prop} {a : Act} {w : World} {l : List Oper} (hm : P.follows .mixedOrders = true) (hB : Region.lexB .any l.toArray = true)
    (h : wpQuiet P l.toArray (fun w' => ∃ m : Lo w, w' = m.v) (fun a' => ∀ w', (∃ m : Lo w, w' = m.v) → Q .normal a' w') l a) : (Code.region id l.toArray true).wp P Q a w :=
  wp_region_quiet (C := fun w' => ∃ m : Lo w, w' = m.v) hm hB ⟨⟨{ w with drawn := w.drawn + 1 }, Below.mk (w := w) rfl rfl rfl (Nat.le_refl _) (fun _ _ => rfl)⟩, rfl⟩ (by simpa using h)
end Go.Proofs.YtbkhlaiifbdfoaaDoor
/-
  What cellsOk does, in the program and in its model.
-/
namespace Go.Proofs.YtbkhlaiifbdfoaaDoor
open Go.RowKit

/-- The cells of a row of cells, one by one. -/
theorem cells_at {w : World} {B : Nat} {v : Value} {cs : List (Int × Bool × Int)} (h : Rd w B 3 v cs.length (cs.flatMap cellC)) :
    ∃ a cap, v = .slice a cs.length cap ∧ (0 < cs.length → ∃ b o, a = some ⟨b, o, none⟩ ∧ b < B ∧ ∀ j, j < cs.length →
      w.cell? ⟨b, o + j * 3, none⟩ = some (.int .i64 (cs.getD j (0, false, 0)).1) ∧ w.cell? ⟨b, o + j * 3 + 1, none⟩ = some (.bool (cs.getD j (0, false, 0)).2.1) ∧
      w.cell? ⟨b, o + j * 3 + 2, none⟩ = some (.int .i64 (cs.getD j (0, false, 0)).2.2)) := by
  obtain ⟨_, a, cap, rfl, _, _, h4⟩ := h
  refine ⟨a, cap, rfl, fun hp => ?_⟩
  obtain ⟨b, o, rfl, hb, hc⟩ := h4 hp
  refine ⟨b, o, rfl, hb, fun j hj => ⟨?_, ?_, ?_⟩⟩
  · rw [show o + j * 3 = o + (j * 3 + 0) from rfl, hc _ (by omega), flat_get cellC 3 cellC_len cs (0, false, 0) j 0 hj (by omega)]; rfl
  · rw [Nat.add_assoc, hc _ (by omega), flat_get cellC 3 cellC_len cs (0, false, 0) j 1 hj (by omega)]; rfl
  · rw [Nat.add_assoc, hc _ (by omega), flat_get cellC 3 cellC_len cs (0, false, 0) j 2 hj (by omega)]; rfl

/-- Cell j is right, and behind the one before it. -/
def goodC (cs : List (Int × Bool × Int)) (j : Nat) : Bool :=
  inB (cs.getD j (0, false, 0)).1 0 7 && vOk (cs.getD j (0, false, 0)).2.1 (cs.getD j (0, false, 0)).2.2 && (decide (j = 0) || decide ((cs.getD (j - 1) (0, false, 0)).1 < (cs.getD j (0, false, 0)).1))
/-- What cellsOk says. -/
def cOk (cs : List (Int × Bool × Int)) : Bool := decide (cs.length ≤ 8) && (List.range cs.length).all (goodC cs)

theorem cOk_yes {cs : List (Int × Bool × Int)} (h1 : cs.length ≤ 8) (h2 : ∀ j, j < cs.length → goodC cs j = true) : cOk cs = true := by
  unfold cOk; simp only [Bool.and_eq_true, decide_eq_true_eq, List.all_eq_true, List.mem_range]; exact ⟨h1, h2⟩
theorem cOk_long {cs : List (Int × Bool × Int)} (h1 : 8 < cs.length) : cOk cs = false := by
  unfold cOk; rw [decide_eq_false (by omega)]; rfl
theorem cOk_bad {cs : List (Int × Bool × Int)} {j : Nat} (h1 : j < cs.length) (h2 : goodC cs j = false) : cOk cs = false := by
  unfold cOk; rw [Bool.and_eq_false_iff]; right
  rw [List.all_eq_false]; exact ⟨j, List.mem_range.2 h1, by rw [h2]; decide⟩

set_option maxRecDepth 100000 in
set_option maxHeartbeats 8000000 in
theorem cellsSpec (w : World) (v : Value) (cs : List (Int × Bool × Int)) (B : Nat) (h : Rd w B 3 v cs.length (cs.flatMap cellC)) (hB : B ≤ w.heap.size) (hm : cs.length ≤ 1048576) :
    Calls Tryd.prog 53 #[v] w fun e w' => e = .returned (.bool (cOk cs)) ∧ Below w.heap.size w w' := by
  have HX : Hid (∀ wr, Below w.heap.size w wr → _) := hide (fun wr hb => cells_at (h.low hb hB))
  obtain ⟨a, cap, rfl, _⟩ := cells_at h
  clear h
  generalize hn : cs.length = n at *
  go_enter Tryd.func53, Tryd.ntmps53
  go_wp2
  go_loopw [3] (fun i wr => ∃ k : Nat, k ≤ n ∧ i = .int .i64 (k : Int) ∧ Hid (∀ j, j < k → goodC cs j = true) ∧ Below w.heap.size w wr) (fun i _ => n - (intOf i).toNat)
  case atStart => exact ⟨0, Nat.zero_le _, rfl, hide (fun j hj => by omega), Below.refl _ _⟩
  case round =>
    obtain ⟨k, hk, rfl, HG, hbel⟩ := hrel
    have HB := hide hbel
    clear hbel
    by_cases hlt : k < n
    · obtain ⟨a', cap', ea, hx⟩ := HX.out wr HB.out
      cases ea
      obtain ⟨b, o, rfl, hb, hc⟩ := hx (by omega)
      have hbw : b < wr.heap.size := by have := HB.out.size; omega
      have e1 := (hc k hlt).1
      have e2 := (hc k hlt).2.1
      have e2' := (hc k hlt).2.2
      have HN : Hid (goodC cs k = (inB (cs.getD k (0, false, 0)).1 0 7 && vOk (cs.getD k (0, false, 0)).2.1 (cs.getD k (0, false, 0)).2.2 && (decide (k = 0) || decide ((cs.getD (k - 1) (0, false, 0)).1 < (cs.getD k (0, false, 0)).1)))) := hide rfl
      have e3 : 0 < k → wr.cell? ⟨b, o + (k - 1) * 3, none⟩ = some (.int .i64 (cs.getD (k - 1) (0, false, 0)).1) := fun h => (hc (k - 1) (by omega)).1
      clear hc hx
      generalize (cs.getD k (0, false, 0)).1 = x at *
      generalize (cs.getD k (0, false, 0)).2.1 = r at *
      generalize (cs.getD k (0, false, 0)).2.2 = y at *
      generalize (cs.getD (k - 1) (0, false, 0)).1 = p at *
      have q0 : ∀ m : Lo wr, m.v.cell? ⟨b, o + k * 3, none⟩ = some (.int .i64 x) := fun m => m.cell e1
      have q1 : ∀ m : Lo wr, m.v.cell? ⟨b, o + k * 3 + 1, none⟩ = some (.bool r) := fun m => m.cell e2
      have q2 : ∀ m : Lo wr, m.v.cell? ⟨b, o + k * 3 + 2, none⟩ = some (.int .i64 y) := fun m => m.cell e2'
      cases hx1 : inB x 0 7 with
      | false =>
        have HF := hide (cOk_bad (cs := cs) (j := k) (by omega) (by rw [HN.out, hx1]; rfl))
        clear e3 HN
        go_wp2
        refine wp_region_low (by kernel_rfl) (by kernel_rfl) ?_
        repeat (go_big_quiet_step ((first | (go_at_call 52; exact low_same (inSpec _ _ _ _)) | (go_at_call 19; exact low_below (valSpec _ _ _)))))
        refine wpQuiet_nil ?_
        rintro _ ⟨m, rfl⟩
        go_wp2
        go_ret
        exact ⟨by rw [HF.out]; rfl, (HB.out.trans (m.b.mono HB.out.size))⟩
      | true =>
        cases hx2 : vOk r y with
        | false =>
          have HF := hide (cOk_bad (cs := cs) (j := k) (by omega) (by rw [HN.out, hx1, hx2]; rfl))
          clear e3 HN
          go_wp2
          refine wp_region_low (by kernel_rfl) (by kernel_rfl) ?_
          repeat (go_big_quiet_step ((first | (go_at_call 52; exact low_same (inSpec _ _ _ _)) | (go_at_call 19; exact low_below (valSpec _ _ _)))))
          refine wpQuiet_nil ?_
          rintro _ ⟨m, rfl⟩
          go_wp2
          go_ret
          exact ⟨by rw [HF.out]; rfl, (HB.out.trans (m.b.mono HB.out.size))⟩
        | true =>
          by_cases hk0 : 0 < k
          · replace e3 := e3 hk0
            have hk0' : (0 : Int) < (k : Int) := by omega
            have hk1 : (((k : Int) - 1)) = ((k - 1 : Nat) : Int) := by omega
            have hkw : IntKind.i64.wrap ((k - 1 : Nat) : Int) = ((k - 1 : Nat) : Int) := by rw [IntKind.wrap_i64]; omega
            have q3 : ∀ m : Lo wr, m.v.cell? ⟨b, o + (k - 1) * 3, none⟩ = some (.int .i64 p) := fun m => m.cell e3
            by_cases hpx : p < x
            · have HY : Hid (∀ j, j < k + 1 → goodC cs j = true) := hide (fun j hj => by
                rcases Nat.lt_succ_iff_lt_or_eq.1 hj with h | rfl
                · exact HG.out j h
                · rw [HN.out, hx1, hx2]; simp [hpx])
              clear HN
              go_wp2
              refine wp_region_low (by kernel_rfl) (by kernel_rfl) ?_
              repeat (go_big_quiet_step ((first | (go_at_call 52; exact low_same (inSpec _ _ _ _)) | (go_at_call 19; exact low_below (valSpec _ _ _)))))
              refine wpQuiet_nil ?_
              rintro _ ⟨m, rfl⟩
              go_wp2
              exact ⟨⟨k + 1, by omega, by go_num, HY, (HB.out.trans (m.b.mono HB.out.size))⟩, by simp [intOf]; omega⟩
            · have hpx' : x ≤ p := by omega
              have HF := hide (cOk_bad (cs := cs) (j := k) (by omega) (by rw [HN.out, hx1, hx2]; simp [hpx]; omega))
              clear HN
              go_wp2
              refine wp_region_low (by kernel_rfl) (by kernel_rfl) ?_
              repeat (go_big_quiet_step ((first | (go_at_call 52; exact low_same (inSpec _ _ _ _)) | (go_at_call 19; exact low_below (valSpec _ _ _)))))
              refine wpQuiet_nil ?_
              rintro _ ⟨m, rfl⟩
              go_wp2
              go_ret
              exact ⟨by rw [HF.out]; rfl, (HB.out.trans (m.b.mono HB.out.size))⟩
          · have hk0' : ¬ (0 : Int) < (k : Int) := by omega
            have HY : Hid (∀ j, j < k + 1 → goodC cs j = true) := hide (fun j hj => by
              obtain rfl : j = k := by omega
              rw [HN.out, hx1, hx2, decide_eq_true (show j = 0 by omega)]; rfl)
            clear HN e3
            go_wp2
            refine wp_region_low (by kernel_rfl) (by kernel_rfl) ?_
            repeat (go_big_quiet_step ((first | (go_at_call 52; exact low_same (inSpec _ _ _ _)) | (go_at_call 19; exact low_below (valSpec _ _ _)))))
            refine wpQuiet_nil ?_
            rintro _ ⟨m, rfl⟩
            go_wp2
            exact ⟨⟨k + 1, by omega, by go_num, HY, (HB.out.trans (m.b.mono HB.out.size))⟩, by simp [intOf]; omega⟩
    · obtain rfl : k = n := by omega
      by_cases hlong : k ≤ 8
      · have HF := hide (cOk_yes (cs := cs) (by omega) (fun j hj => HG.out j (by omega)))
        go_wp2
        go_ret
        exact ⟨by rw [HF.out]; exact ret_bool (by simp; omega), HB.out⟩
      · have HF := hide (cOk_long (cs := cs) (by omega))
        go_wp2
        go_ret
        exact ⟨by rw [HF.out]; exact ret_bool (by simp; omega), HB.out⟩

set_option maxRecDepth 100000 in
set_option maxHeartbeats 8000000 in
theorem cellsImpl (w : World) (v : Value) (cs : List (Int × Bool × Int)) (B : Nat) (h : Rd w B 3 v cs.length (cs.flatMap cellC)) (hB : B ≤ w.heap.size) (hm : cs.length ≤ 1048576) :
    Calls Tryd.prog 64 #[v] w fun e w' => e = .returned (.bool (cOk cs)) ∧ Below w.heap.size w w' := by
  by_cases hlong : 8 < cs.length
  · obtain ⟨a, cap, rfl, hx⟩ := cells_at h
    rw [cOk_long hlong]
    clear h hx
    go_enter Tryd.func64, Tryd.ntmps64
    go_wp2
    go_ret
    exact ⟨rfl, Below.refl _ _⟩
  have HX : Hid (∀ wr, Below w.heap.size w wr → _) := hide (fun wr hb => cells_at (h.low hb hB))
  obtain ⟨a, cap, rfl, _⟩ := cells_at h
  clear h
  generalize hn : cs.length = n at *
  go_enter Tryd.func64, Tryd.ntmps64
  go_wp2
  go_loopw [10] (fun i wr => ∃ k : Nat, k ≤ n ∧ i = .int .i64 (k : Int) ∧ Hid (∀ j, j < k → goodC cs j = true) ∧ Below w.heap.size w wr) (fun i _ => n - (intOf i).toNat)
  case atStart => exact ⟨0, Nat.zero_le _, rfl, hide (fun j hj => by omega), Below.refl _ _⟩
  case round =>
    obtain ⟨k, hk, rfl, HG, hbel⟩ := hrel
    have HB := hide hbel
    clear hbel
    by_cases hlt : k < n
    · obtain ⟨a', cap', ea, hx⟩ := HX.out wr HB.out
      cases ea
      obtain ⟨b, o, rfl, hb, hc⟩ := hx (by omega)
      have hbw : b < wr.heap.size := by have := HB.out.size; omega
      have e1 := (hc k hlt).1
      have e2 := (hc k hlt).2.1
      have e2' := (hc k hlt).2.2
      have HN : Hid (goodC cs k = (inB (cs.getD k (0, false, 0)).1 0 7 && vOk (cs.getD k (0, false, 0)).2.1 (cs.getD k (0, false, 0)).2.2 && (decide (k = 0) || decide ((cs.getD (k - 1) (0, false, 0)).1 < (cs.getD k (0, false, 0)).1)))) := hide rfl
      have e3 : 0 < k → wr.cell? ⟨b, o + (k - 1) * 3, none⟩ = some (.int .i64 (cs.getD (k - 1) (0, false, 0)).1) := fun h => (hc (k - 1) (by omega)).1
      clear hc hx
      generalize (cs.getD k (0, false, 0)).1 = x at *
      generalize (cs.getD k (0, false, 0)).2.1 = r at *
      generalize (cs.getD k (0, false, 0)).2.2 = y at *
      generalize (cs.getD (k - 1) (0, false, 0)).1 = p at *
      have q0 : ∀ m : Lo (wr.alloc (.cells #[.int .i64 x, .bool r, .int .i64 y] 50)), m.v.cell? ⟨wr.heap.size, 0, none⟩ = some (.int .i64 x) := fun m => m.cell (by simp [go_sem])
      have q1 : ∀ m : Lo (wr.alloc (.cells #[.int .i64 x, .bool r, .int .i64 y] 50)), m.v.cell? ⟨wr.heap.size, 1, none⟩ = some (.bool r) := fun m => m.cell (by simp [go_sem])
      have q2 : ∀ m : Lo (wr.alloc (.cells #[.int .i64 x, .bool r, .int .i64 y] 50)), m.v.cell? ⟨wr.heap.size, 2, none⟩ = some (.int .i64 y) := fun m => m.cell (by simp [go_sem])
      cases hx1 : inB x 0 7 with
      | false =>
        have HF := hide (cOk_bad (cs := cs) (j := k) (by omega) (by rw [HN.out, hx1]; rfl))
        clear e3 HN
        go_wp2
        refine wp_region_low (by kernel_rfl) (by kernel_rfl) ?_
        repeat (go_big_quiet_step ((first | (go_at_call 54; exact low_same (inImpl _ _ _ _)) | (go_at_call 18; exact low_below (valImpl _ _ _)))))
        refine wpQuiet_nil ?_
        rintro _ ⟨m, rfl⟩
        go_wp2
        go_ret
        exact ⟨by rw [HF.out]; rfl, ((HB.out.alloc HB.out.size _).trans (m.b.mono (Nat.le_trans HB.out.size (by simp))))⟩
      | true =>
        cases hx2 : vOk r y with
        | false =>
          have HF := hide (cOk_bad (cs := cs) (j := k) (by omega) (by rw [HN.out, hx1, hx2]; rfl))
          clear e3 HN
          go_wp2
          refine wp_region_low (by kernel_rfl) (by kernel_rfl) ?_
          repeat (go_big_quiet_step ((first | (go_at_call 54; exact low_same (inImpl _ _ _ _)) | (go_at_call 18; exact low_below (valImpl _ _ _)))))
          refine wpQuiet_nil ?_
          rintro _ ⟨m, rfl⟩
          go_wp2
          go_ret
          exact ⟨by rw [HF.out]; rfl, ((HB.out.alloc HB.out.size _).trans (m.b.mono (Nat.le_trans HB.out.size (by simp))))⟩
        | true =>
          by_cases hk0 : 0 < k
          · replace e3 := e3 hk0
            have hk0' : (0 : Int) < (k : Int) := by omega
            have hk1 : (((k : Int) - 1)) = ((k - 1 : Nat) : Int) := by omega
            have hkw : IntKind.i64.wrap ((k - 1 : Nat) : Int) = ((k - 1 : Nat) : Int) := by rw [IntKind.wrap_i64]; omega
            have q3 : ∀ m : Lo (wr.alloc (.cells #[.int .i64 x, .bool r, .int .i64 y] 50)), m.v.cell? ⟨b, o + (k - 1) * 3, none⟩ = some (.int .i64 p) := fun m => m.cell (Eq.trans (by exact World.cell?_alloc_lt _ (a := ⟨b, o + (k - 1) * 3, none⟩) _ hbw) e3)
            by_cases hpx : p < x
            · have HY : Hid (∀ j, j < k + 1 → goodC cs j = true) := hide (fun j hj => by
                rcases Nat.lt_succ_iff_lt_or_eq.1 hj with h | rfl
                · exact HG.out j h
                · rw [HN.out, hx1, hx2]; simp [hpx])
              clear HN
              go_wp2
              refine wp_region_low (by kernel_rfl) (by kernel_rfl) ?_
              repeat (go_big_quiet_step ((first | (go_at_call 54; exact low_same (inImpl _ _ _ _)) | (go_at_call 18; exact low_below (valImpl _ _ _)))))
              refine wpQuiet_nil ?_
              rintro _ ⟨m, rfl⟩
              go_wp2
              exact ⟨⟨k + 1, by omega, by go_num, HY, ((HB.out.alloc HB.out.size _).trans (m.b.mono (Nat.le_trans HB.out.size (by simp))))⟩, by simp [intOf]; omega⟩
            · have hpx' : x ≤ p := by omega
              have HF := hide (cOk_bad (cs := cs) (j := k) (by omega) (by rw [HN.out, hx1, hx2]; simp [hpx]; omega))
              clear HN
              go_wp2
              refine wp_region_low (by kernel_rfl) (by kernel_rfl) ?_
              repeat (go_big_quiet_step ((first | (go_at_call 54; exact low_same (inImpl _ _ _ _)) | (go_at_call 18; exact low_below (valImpl _ _ _)))))
              refine wpQuiet_nil ?_
              rintro _ ⟨m, rfl⟩
              go_wp2
              go_ret
              exact ⟨by rw [HF.out]; rfl, ((HB.out.alloc HB.out.size _).trans (m.b.mono (Nat.le_trans HB.out.size (by simp))))⟩
          · have hk0' : ¬ (0 : Int) < (k : Int) := by omega
            have HY : Hid (∀ j, j < k + 1 → goodC cs j = true) := hide (fun j hj => by
              obtain rfl : j = k := by omega
              rw [HN.out, hx1, hx2, decide_eq_true (show j = 0 by omega)]; rfl)
            clear HN e3
            go_wp2
            refine wp_region_low (by kernel_rfl) (by kernel_rfl) ?_
            repeat (go_big_quiet_step ((first | (go_at_call 54; exact low_same (inImpl _ _ _ _)) | (go_at_call 18; exact low_below (valImpl _ _ _)))))
            refine wpQuiet_nil ?_
            rintro _ ⟨m, rfl⟩
            go_wp2
            exact ⟨⟨k + 1, by omega, by go_num, HY, ((HB.out.alloc HB.out.size _).trans (m.b.mono (Nat.le_trans HB.out.size (by simp))))⟩, by simp [intOf]; omega⟩
    · obtain rfl : k = n := by omega
      have HF := hide (cOk_yes (cs := cs) (by omega) (fun j hj => HG.out j (by omega)))
      go_wp2
      go_ret
      exact ⟨by rw [HF.out]; rfl, HB.out⟩
end Go.Proofs.YtbkhlaiifbdfoaaDoor
/-
  Rows of cells: copied into new memory, held against each other.
-/
namespace Go.Proofs.YtbkhlaiifbdfoaaDoor
open Go.RowKit

/-- A row of cells of one's own, from block b on. -/
def OwnC (w : World) (b : Nat) (v : Value) (cs : List (Int × Bool × Int)) : Prop := w.ownsRow b 50 3 v cs.length (cs.flatMap cellC)

theorem Tryd.infoCell : (Tryd.prog.info? 50).map (fun i => (i.zero, i.size, i.bytes)) = some (some (.agg #[.int .i64 0, .bool false, .int .i64 0]), 3, 24) := by kernel_rfl

theorem OwnC.rd {w : World} {b B : Nat} {v : Value} {cs : List (Int × Bool × Int)} (h : OwnC w b v cs) (hB : w.heap.size ≤ B) : Rd w B 3 v cs.length (cs.flatMap cellC) := rd_own h hB
theorem OwnC.below {w w' : World} {b : Nat} {v : Value} {cs : List (Int × Bool × Int)} (h : OwnC w b v cs) (hb : Below w.heap.size w w') : OwnC w' b v cs :=
  World.ownsRow.kept h (grown_of_below hb) (by cases v.ownBlock <;> simp)
theorem OwnC.lt {w : World} {b : Nat} {v : Value} {cs : List (Int × Bool × Int)} (h : OwnC w b v cs) : ∀ k, v.ownBlock = some k → b ≤ k ∧ k < w.heap.size := World.ownsRow.lt h
theorem OwnC.drewN {w : World} {b : Nat} {v : Value} {cs : List (Int × Bool × Int)} (h : OwnC w b v cs) (q : Nat) : OwnC (w.drewN q) b v cs := h
theorem OwnC.mono {w : World} {b b' : Nat} {v : Value} {cs : List (Int × Bool × Int)} (h : OwnC w b v cs) (hb : b' ≤ b) : OwnC w b' v cs := by
  refine ⟨h.1, ?_⟩
  rcases h.2 with h0 | ⟨g, cap, cur, e, hg, r⟩
  · exact .inl h0
  · exact .inr ⟨g, cap, cur, e, Nat.le_trans hb hg, r⟩

/-- Cell j of a row of one's own stored whole. -/
theorem OwnC.put {w : World} {b g n c : Nat} {cs : List (Int × Bool × Int)} (h : OwnC w b (.slice (some ⟨g, 0, none⟩) n c) cs) (hn : cs.length = n) (j : Nat) (hj : j < n) (x : Int) (r : Bool) (y : Int) :
    (∃ u, w.cell? ⟨g, j * 3, none⟩ = some u) ∧ (∃ u, w.cell? ⟨g, j * 3 + 1, none⟩ = some u) ∧ (∃ u, w.cell? ⟨g, j * 3 + 2, none⟩ = some u) ∧ w.frozen? ⟨g, j * 3, none⟩ = false ∧ w.frozen? ⟨g, j * 3 + 1, none⟩ = false ∧ w.frozen? ⟨g, j * 3 + 2, none⟩ = false ∧
    OwnC (((w.setCell ⟨g, j * 3, none⟩ (.int .i64 x)).setCell ⟨g, j * 3 + 1, none⟩ (.bool r)).setCell ⟨g, j * 3 + 2, none⟩ (.int .i64 y)) b (.slice (some ⟨g, 0, none⟩) n c) (cs.set j (x, r, y)) := by
  subst hn
  have hl : (cs.flatMap cellC).length = cs.length * 3 := flat_len cellC 3 cellC_len cs
  refine ⟨?_, ?_, ?_, World.ownsRow.frozenAt h _, World.ownsRow.frozenAt h _, World.ownsRow.frozenAt h _, ?_⟩
  · rw [World.ownsRow.cellAt h _ (by omega)]; exact ⟨_, List.getElem?_eq_getElem (by omega)⟩
  · rw [World.ownsRow.cellAt h _ (by omega)]; exact ⟨_, List.getElem?_eq_getElem (by omega)⟩
  · rw [World.ownsRow.cellAt h _ (by omega)]; exact ⟨_, List.getElem?_eq_getElem (by omega)⟩
  · have h1 := (World.ownsRow.stored h (j * 3) (.int .i64 x)).1
    have h2 := (World.ownsRow.stored h1 (j * 3 + 1) (.bool r)).1
    have h3 := (World.ownsRow.stored h2 (j * 3 + 2) (.int .i64 y)).1
    rw [flat_cell cs j (x, r, y) hj] at h3
    unfold OwnC
    rw [List.length_set]
    exact h3

set_option maxHeartbeats 400000 in
theorem eqVal (r : Bool) (y : Int) (w : World) :
    Calls Tryd.prog 82 #[.agg #[.bool r, .int .i64 y], .agg #[.bool r, .int .i64 y]] w fun e w' => e = .returned (.bool true) ∧ Below w.heap.size w w' := by
  have h1 : (r != r) = false := by simp
  have h2 : (y != y) = false := by simp
  go_enter Tryd.func82, Tryd.ntmps82
  go_wp2
  go_ret
  exact ⟨rfl, ((Below.refl _ _).alloc (Nat.le_refl _) _).alloc (by simp) _⟩

set_option maxHeartbeats 400000 in
theorem eqCell (x : Int) (r : Bool) (y : Int) (w : World) :
    Calls Tryd.prog 76 #[.agg #[.int .i64 x, .bool r, .int .i64 y], .agg #[.int .i64 x, .bool r, .int .i64 y]] w fun e w' => e = .returned (.bool true) ∧ Below w.heap.size w w' := by
  have h1 : (x != x) = false := by simp
  go_enter Tryd.func76, Tryd.ntmps76
  go_wp2_with fail
  refine (eqVal _ _ _).mono ?_
  rintro e w1 ⟨rfl, b1⟩
  have HB := hide ((((Below.refl w.heap.size w).alloc (Nat.le_refl _) _).alloc (by simp) _).trans (b1.mono (by simp; omega)))
  clear b1
  go_wp2
  go_ret
  exact ⟨rfl, HB.out⟩

set_option maxRecDepth 100000 in
set_option maxHeartbeats 2000000 in
theorem eqCells (w : World) (v1 v2 : Value) (cs : List (Int × Bool × Int)) (B1 B2 : Nat) (h1 : Rd w B1 3 v1 cs.length (cs.flatMap cellC)) (h2 : Rd w B2 3 v2 cs.length (cs.flatMap cellC)) (hB1 : B1 ≤ w.heap.size) (hB2 : B2 ≤ w.heap.size) (hm : cs.length ≤ 1048576) :
    Calls Tryd.prog 57 #[v1, v2] w fun e w' => e = .returned (.bool true) ∧ Below w.heap.size w w' := by
  have HX1 : Hid (∀ wr, Below w.heap.size w wr → _) := hide (fun wr hb => cells_at (h1.low hb hB1))
  have HX2 : Hid (∀ wr, Below w.heap.size w wr → _) := hide (fun wr hb => cells_at (h2.low hb hB2))
  obtain ⟨a1, cap1, rfl, _⟩ := cells_at h1
  obtain ⟨a2, cap2, rfl, _⟩ := cells_at h2
  clear h1 h2
  generalize hn : cs.length = n at *
  have hne : ((n : Int) != (n : Int)) = false := by simp
  go_enter Tryd.func57, Tryd.ntmps57
  go_wp2
  go_loopw [5] (fun i wr => ∃ j : Nat, j ≤ n ∧ i = .int .i64 (j : Int) ∧ Below w.heap.size w wr) (fun i _ => n - (intOf i).toNat)
  case atStart => exact ⟨0, Nat.zero_le _, rfl, Below.refl _ _⟩
  case round =>
    obtain ⟨j, hj, rfl, hb⟩ := hrel
    have HB := hide hb
    have hs := hb.size
    clear hb
    by_cases hlt : j < n
    · obtain ⟨a1', cap1', ea1, hx1⟩ := HX1.out wr HB.out
      cases ea1
      obtain ⟨b1, o1, rfl, hb1, hc1⟩ := hx1 (by omega)
      obtain ⟨a2', cap2', ea2, hx2⟩ := HX2.out wr HB.out
      cases ea2
      obtain ⟨b2, o2, rfl, hb2, hc2⟩ := hx2 (by omega)
      have q1 := fun m : Lo wr => m.cell (hc1 j hlt).1
      have q2 := fun m : Lo wr => m.cell (hc1 j hlt).2.1
      have q3 := fun m : Lo wr => m.cell (hc1 j hlt).2.2
      have q4 := fun m : Lo wr => m.cell (hc2 j hlt).1
      have q5 := fun m : Lo wr => m.cell (hc2 j hlt).2.1
      have q6 := fun m : Lo wr => m.cell (hc2 j hlt).2.2
      clear hx1 hx2 hc1 hc2
      generalize cs.getD j (0, false, 0) = z at *
      obtain ⟨x, r, y⟩ := z
      simp only at q1 q2 q3 q4 q5 q6
      go_wp2
      refine wp_region_low (by kernel_rfl) (by kernel_rfl) ?_
      repeat (go_big_quiet_step ((first | (go_at_call 76; exact low_below (eqCell _ _ _ _)))))
      refine wpQuiet_nil ?_
      rintro _ ⟨m, rfl⟩
      go_wp2
      exact ⟨⟨j + 1, hlt, by go_num, HB.out.trans (m.b.mono hs)⟩, by simp [intOf]; omega⟩
    · go_wp2
      go_ret
      exact ⟨rfl, HB.out⟩
end Go.Proofs.YtbkhlaiifbdfoaaDoor
/-
  What MsgOk's model does.
-/
namespace Go.Proofs.YtbkhlaiifbdfoaaDoor
open Go.RowKit


/-- What a kind of message has. -/
def hasF (k : Int) : Int := if k = 2 then 14 else if k = 3 then 8 else if k = 4 then 4 else if k = 5 ∨ k = 9 then 1 else if k = 6 ∨ k = 7 ∨ k = 8 ∨ k = 10 then 17 else 0
/-- Has the kind this part? -/
def flg (k b : Int) : Bool := bits .and .i64 (hasF k) b != 0

theorem kinds {k : Int} (h : inB k 1 10 = true) : k = 1 ∨ k = 2 ∨ k = 3 ∨ k = 4 ∨ k = 5 ∨ k = 6 ∨ k = 7 ∨ k = 8 ∨ k = 9 ∨ k = 10 := by
  have := inB_yes h; omega

set_option maxRecDepth 100000 in
set_option maxHeartbeats 1000000 in
theorem hasSpec (k : Int) (w : World) :
    Calls Tryd.prog 51 #[.int .i64 k] w fun e w' => e = .returned (.int .i64 (hasF k)) ∧ Below w.heap.size w w' := by
  cases hk : inB k 1 10 with
  | false =>
    have h0 : hasF k = 0 := by
      have := inB_no hk
      unfold hasF
      rw [if_neg (by omega), if_neg (by omega), if_neg (by omega), if_neg (by omega), if_neg (by omega)]
    rw [h0]
    go_enter Tryd.func51, Tryd.ntmps51
    go_wp2_with (go_at_call 52; refine (inSpec _ _ _ _).mono ?_; rintro e w' ⟨rfl, rfl⟩)
    go_ret
    exact ⟨rfl, Below.refl _ _⟩
  | true =>
    rcases kinds hk with rfl | rfl | rfl | rfl | rfl | rfl | rfl | rfl | rfl | rfl
    all_goals
      go_enter Tryd.func51, Tryd.ntmps51
      go_wp2_with (go_at_call 52; refine (inSpec _ _ _ _).mono ?_; rintro e w' ⟨rfl, rfl⟩)
      go_ret
      exact ⟨rfl, (Below.refl _ _).alloc (Nat.le_refl _) _⟩

/-- A message, as the program holds it. -/
def msgV (k i u c n : Int) (cv nv : Value) : Value := .agg #[.int .i64 k, .int .i64 i, .int .i64 u, .int .i64 c, .int .i64 n, cv, nv]

/-- Parts that a message has, by its kind. -/
def whoB (k u : Int) : Bool := bif flg k 1 then inB u 1 1000000 else u == 0
def clsB (k c : Int) : Bool := bif flg k 2 then (inB c 0 255 || c == 0) else c == 0
def verB (k n : Int) : Bool := bif flg k 4 then (inB n 0 16777215 || n == 0) else n == 0
/-- What MsgOk says, as its model goes. -/
def mSpec (k i u c n : Int) (cs : List (Int × Bool × Int)) (ns : List (Int × Int)) : Bool :=
  inB k 1 10 && inB i 1 1000000 && cOk cs && nOk ns && (whoB k u && clsB k c && verB k n && (flg k 8 || (cs.length : Int) == 0) && (flg k 16 || (ns.length : Int) == 0))

set_option maxRecDepth 100000 in
set_option maxHeartbeats 4000000 in
theorem msgSpec (w : World) (k i u c n : Int) (cv nv : Value) (cs : List (Int × Bool × Int)) (ns : List (Int × Int)) (hc : Rd w w.heap.size 3 cv cs.length (cs.flatMap cellC)) (hn : Rd w w.heap.size 2 nv ns.length (ns.flatMap noteC))
    (hmc : cs.length ≤ 1048576) (hmn : ns.length ≤ 1048576) :
    Calls Tryd.prog 17 #[msgV k i u c n cv nv] w fun e w' => e = .returned (.bool (mSpec k i u c n cs ns)) ∧ Below w.heap.size w w' := by
  have HC := hide hc
  have HN := hide hn
  obtain ⟨a5, cap5, rfl, _⟩ := cells_at hc
  obtain ⟨a6, cap6, rfl, _⟩ := notes_at hn
  clear hc hn
  have HM : Hid (mSpec k i u c n cs ns = (inB k 1 10 && inB i 1 1000000 && cOk cs && nOk ns && (whoB k u && clsB k c && verB k n && (flg k 8 || (cs.length : Int) == 0) && (flg k 16 || (ns.length : Int) == 0)))) := hide rfl
  have HX := hide (Box.new w #[.int .i64 k, .int .i64 i, .int .i64 u, .int .i64 c, .int .i64 n, .slice a5 cs.length cap5, .slice a6 ns.length cap6] 27)
  have HB := hide ((Below.refl w.heap.size w).alloc (Nat.le_refl _) (.cells #[.int .i64 k, .int .i64 i, .int .i64 u, .int .i64 c, .int .i64 n, .slice a5 cs.length cap5, .slice a6 ns.length cap6] 27))
  unfold msgV
  go_enter Tryd.func17, Tryd.ntmps17
  go_wp2_with fail
  refine (hasSpec _ _).mono ?_
  rintro e w1 ⟨rfl, b1⟩
  replace HX := hide (HX.out.below (by simp) b1)
  have hs1 := b1.size
  simp only [World.size_alloc] at hs1
  replace HB := hide (HB.out.trans (b1.mono HB.out.size))
  clear b1
  have hg : w.heap.size < w1.heap.size := by omega
  clear hs1
  have f0 := HX.out 0 _ rfl
  have f1 := HX.out 1 _ rfl
  have f2 := HX.out 2 _ rfl
  have f3 := HX.out 3 _ rfl
  have f4 := HX.out 4 _ rfl
  have f5 := HX.out 5 _ rfl
  have f6 := HX.out 6 _ rfl
  cases hk : inB k 1 10 with
  | false =>
    rw [hk] at HM
    go_wp2_with (go_at_call 52; refine (inSpec _ _ _ _).mono ?_; rintro e w' ⟨rfl, rfl⟩)
    go_ret
    exact ⟨by rw [HM.out]; rfl, HB.out⟩
  | true =>
    cases hi : inB i 1 1000000 with
    | false =>
      rw [hk, hi] at HM
      go_wp2_with (go_at_call 52; refine (inSpec _ _ _ _).mono ?_; rintro e w' ⟨rfl, rfl⟩)
      go_ret
      exact ⟨by rw [HM.out]; rfl, HB.out⟩
    | true =>
      go_wp2_with (go_at_call 52; refine (inSpec _ _ _ _).mono ?_; rintro e w' ⟨rfl, rfl⟩)
      refine (cellsSpec _ _ _ _ (HC.out.low (Below.mono HB.out (Nat.le_refl _)) (Nat.le_refl _)) HB.out.size hmc).mono ?_
      rintro e w2 ⟨rfl, b2⟩
      replace HX := hide (HX.out.below hg b2)
      replace HB := hide (HB.out.trans (b2.mono HB.out.size))
      have hg2 : w.heap.size < w2.heap.size := Nat.lt_of_lt_of_le hg b2.size
      clear b2 f0 f1 f2 f3 f4 f5 f6
      have f0 := HX.out 0 _ rfl
      have f1 := HX.out 1 _ rfl
      have f2 := HX.out 2 _ rfl
      have f3 := HX.out 3 _ rfl
      have f4 := HX.out 4 _ rfl
      have f5 := HX.out 5 _ rfl
      have f6 := HX.out 6 _ rfl
      cases hc : cOk cs with
      | false =>
        rw [hk, hi, hc] at HM
        go_wp2
        go_ret
        exact ⟨by rw [HM.out]; rfl, HB.out⟩
      | true =>
        go_wp2_with fail
        refine (notesSpec _ _ _ _ (HN.out.low HB.out (Nat.le_refl _)) HB.out.size hmn).mono ?_
        rintro e w3 ⟨rfl, b3⟩
        replace HX := hide (HX.out.below hg2 b3)
        replace HB := hide (HB.out.trans (b3.mono HB.out.size))
        clear b3 f0 f1 f2 f3 f4 f5 f6 hg hg2
        have f0 := HX.out 0 _ rfl
        have f1 := HX.out 1 _ rfl
        have f2 := HX.out 2 _ rfl
        have f3 := HX.out 3 _ rfl
        have f4 := HX.out 4 _ rfl
        have f5 := HX.out 5 _ rfl
        have f6 := HX.out 6 _ rfl
        cases hn : nOk ns with
        | false =>
          rw [hk, hi, hc, hn] at HM
          go_wp2
          go_ret
          exact ⟨by rw [HM.out]; rfl, HB.out⟩
        | true =>
          rw [hk, hi, hc, hn] at HM
          go_upto_region 4 with fail
          go_cut [4] from 32 to 49 (fun s wq => s = .bool (whoB k u) ∧ w3 = wq)
          case first =>
            cases hf : flg k 1 with
            | true =>
              have hf1 : (bits .and .i64 (hasF k) 1 != 0) = true := hf
              have hf2 : (bits .and .i64 (hasF k) 1 == 0) = false := by have := hf1; simpa using this
              cases hu : inB u 1 1000000 with
              | true =>
                have HW : Hid (whoB k u = true) := hide (by unfold whoB; rw [hf, hu]; rfl)
                clear hf
                go_wp2_with (go_at_call 52; refine (inSpec _ _ _ _).mono ?_; rintro e w' ⟨rfl, rfl⟩)
                go_meet
                exact ⟨by rw [HW.out], rfl⟩
              | false =>
                have HW : Hid (whoB k u = false) := hide (by unfold whoB; rw [hf, hu]; rfl)
                clear hf
                go_wp2_with (go_at_call 52; refine (inSpec _ _ _ _).mono ?_; rintro e w' ⟨rfl, rfl⟩)
                go_meet
                exact ⟨by rw [HW.out], rfl⟩
            | false =>
              have hf1 : (bits .and .i64 (hasF k) 1 != 0) = false := hf
              have hf2 : (bits .and .i64 (hasF k) 1 == 0) = true := by have := hf1; simpa using this
              have HW : Hid (whoB k u = (u == 0)) := hide (by unfold whoB; rw [hf]; rfl)
              clear hf
              go_wp2
              go_meet
              exact ⟨by rw [HW.out], rfl⟩
          case rest =>
            obtain ⟨rfl, rfl⟩ := hcut
            go_upto_region 5 with fail
            go_cut [5] from 50 to 62 (fun s wq => s = .bool (clsB k c) ∧ w3 = wq)
            case first =>
              cases hf : flg k 2 with
              | true =>
                have hf1 : (bits .and .i64 (hasF k) 2 != 0) = true := hf
                have hf2 : (bits .and .i64 (hasF k) 2 == 0) = false := by have := hf1; simpa using this
                cases hu : inB c 0 255 with
                | true =>
                  have HW : Hid (clsB k c = true) := hide (by unfold clsB; rw [hf, hu]; rfl)
                  clear hf
                  go_wp2_with (go_at_call 52; refine (inSpec _ _ _ _).mono ?_; rintro e w' ⟨rfl, rfl⟩)
                  go_meet
                  exact ⟨by rw [HW.out], rfl⟩
                | false =>
                  have HW : Hid (clsB k c = (c == 0)) := hide (by unfold clsB; rw [hf, hu]; rfl)
                  clear hf
                  go_wp2_with (go_at_call 52; refine (inSpec _ _ _ _).mono ?_; rintro e w' ⟨rfl, rfl⟩)
                  go_meet
                  exact ⟨by rw [HW.out], rfl⟩
              | false =>
                have hf1 : (bits .and .i64 (hasF k) 2 != 0) = false := hf
                have hf2 : (bits .and .i64 (hasF k) 2 == 0) = true := by have := hf1; simpa using this
                have HW : Hid (clsB k c = (c == 0)) := hide (by unfold clsB; rw [hf]; rfl)
                clear hf
                go_wp2
                go_meet
                exact ⟨by rw [HW.out], rfl⟩
            case rest =>
              obtain ⟨rfl, rfl⟩ := hcut
              go_upto_region 6 with fail
              go_cut [6] from 63 to 75 (fun s wq => s = .bool (verB k n) ∧ w3 = wq)
              case first =>
                cases hf : flg k 4 with
                | true =>
                  have hf1 : (bits .and .i64 (hasF k) 4 != 0) = true := hf
                  have hf2 : (bits .and .i64 (hasF k) 4 == 0) = false := by have := hf1; simpa using this
                  cases hu : inB n 0 16777215 with
                  | true =>
                    have HW : Hid (verB k n = true) := hide (by unfold verB; rw [hf, hu]; rfl)
                    clear hf
                    go_wp2_with (go_at_call 52; refine (inSpec _ _ _ _).mono ?_; rintro e w' ⟨rfl, rfl⟩)
                    go_meet
                    exact ⟨by rw [HW.out], rfl⟩
                  | false =>
                    have HW : Hid (verB k n = (n == 0)) := hide (by unfold verB; rw [hf, hu]; rfl)
                    clear hf
                    go_wp2_with (go_at_call 52; refine (inSpec _ _ _ _).mono ?_; rintro e w' ⟨rfl, rfl⟩)
                    go_meet
                    exact ⟨by rw [HW.out], rfl⟩
                | false =>
                  have hf1 : (bits .and .i64 (hasF k) 4 != 0) = false := hf
                  have hf2 : (bits .and .i64 (hasF k) 4 == 0) = true := by have := hf1; simpa using this
                  have HW : Hid (verB k n = (n == 0)) := hide (by unfold verB; rw [hf]; rfl)
                  clear hf
                  go_wp2
                  go_meet
                  exact ⟨by rw [HW.out], rfl⟩
              case rest =>
                obtain ⟨rfl, rfl⟩ := hcut
                cases hw : whoB k u with
                | false =>
                  rw [hw] at HM
                  clear f0 f1 f2 f3 f4
                  go_wp2
                  go_ret
                  exact ⟨by rw [HM.out]; rfl, HB.out⟩
                | true =>
                  cases hl : clsB k c with
                  | false =>
                    rw [hw, hl] at HM
                    clear f0 f1 f2 f3 f4
                    go_wp2
                    go_ret
                    exact ⟨by rw [HM.out]; rfl, HB.out⟩
                  | true =>
                    cases hv : verB k n with
                    | false =>
                      rw [hw, hl, hv] at HM
                      clear f0 f1 f2 f3 f4
                      go_wp2
                      go_ret
                      exact ⟨by rw [HM.out]; rfl, HB.out⟩
                    | true =>
                      rw [hw, hl, hv] at HM
                      cases h8 : flg k 8 with
                      | true =>
                        have h81 : (bits .and .i64 (hasF k) 8 != 0) = true := h8
                        cases h16 : flg k 16 with
                        | true =>
                          have h161 : (bits .and .i64 (hasF k) 16 != 0) = true := h16
                          rw [h8, h16] at HM
                          clear f0 f1 f2 f3 f4
                          go_wp2
                          go_ret
                          exact ⟨by rw [HM.out]; rfl, HB.out⟩
                        | false =>
                          have h161 : (bits .and .i64 (hasF k) 16 != 0) = false := h16
                          rw [h8, h16] at HM
                          clear f0 f1 f2 f3 f4
                          go_wp2
                          go_ret
                          exact ⟨by rw [HM.out]; rfl, HB.out⟩
                      | false =>
                        have h81 : (bits .and .i64 (hasF k) 8 != 0) = false := h8
                        cases h0 : ((cs.length : Int) == 0) with
                        | false =>
                          rw [h8, h0] at HM
                          clear f0 f1 f2 f3 f4
                          go_wp2
                          go_ret
                          exact ⟨by rw [HM.out]; rfl, HB.out⟩
                        | true =>
                          cases h16 : flg k 16 with
                          | true =>
                            have h161 : (bits .and .i64 (hasF k) 16 != 0) = true := h16
                            rw [h8, h0, h16] at HM
                            clear f0 f1 f2 f3 f4
                            go_wp2
                            go_ret
                            exact ⟨by rw [HM.out]; rfl, HB.out⟩
                          | false =>
                            have h161 : (bits .and .i64 (hasF k) 16 != 0) = false := h16
                            rw [h8, h0, h16] at HM
                            clear f0 f1 f2 f3 f4
                            go_wp2
                            go_ret
                            exact ⟨by rw [HM.out]; rfl, HB.out⟩
end Go.Proofs.YtbkhlaiifbdfoaaDoor
/-
  What the program's kinds of messages are, and what ownKind, partsOk and noPartLost do.
-/
namespace Go.Proofs.YtbkhlaiifbdfoaaDoor
open Go.RowKit

/-- A message of its own kind, as the program holds it. -/
def ownV (k i u c n : Int) (cv nv : Value) : Value :=
  if k = 1 then .iface 85 (.agg #[.int .i64 i])
  else if k = 2 then .iface 87 (.agg #[.int .i64 i, .int .i64 c, .int .i64 n, cv])
  else if k = 3 then .iface 89 (.agg #[.int .i64 i, cv])
  else if k = 4 then .iface 91 (.agg #[.int .i64 i, .int .i64 n])
  else if k = 5 then .iface 93 (.agg #[.int .i64 i, .int .i64 u])
  else if k = 6 then .iface 95 (.agg #[.int .i64 i, .int .i64 u, nv])
  else if k = 7 then .iface 96 (.agg #[.int .i64 i, .int .i64 u, nv])
  else if k = 8 then .iface 97 (.agg #[.int .i64 i, .int .i64 u, nv])
  else if k = 9 then .iface 98 (.agg #[.int .i64 i, .int .i64 u])
  else if k = 10 then .iface 99 (.agg #[.int .i64 i, .int .i64 u, nv])
  else .nilIface

theorem ownV_none {k i u c n : Int} {cv nv : Value} (h : k < 1 ∨ 10 < k) : ownV k i u c n cv nv = .nilIface := by
  unfold ownV
  rw [if_neg (by omega), if_neg (by omega), if_neg (by omega), if_neg (by omega), if_neg (by omega), if_neg (by omega), if_neg (by omega), if_neg (by omega), if_neg (by omega), if_neg (by omega)]

set_option maxRecDepth 100000 in
set_option maxHeartbeats 4000000 in
theorem ownImpl (w : World) (k i u c n : Int) (a5 a6 : Option Addr) (l5 c5 l6 c6 : Nat) :
    Calls Tryd.prog 35 #[msgV k i u c n (.slice a5 l5 c5) (.slice a6 l6 c6)] w fun e w' => e = .returned (ownV k i u c n (.slice a5 l5 c5) (.slice a6 l6 c6)) ∧ Below w.heap.size w w' := by
  unfold msgV
  cases hk : inB k 1 10 with
  | false =>
    have hn := inB_no hk
    rw [ownV_none hn]
    have h1 : (k == 1) = false := by simp; omega
    have h2 : (k == 2) = false := by simp; omega
    have h3 : (k == 3) = false := by simp; omega
    have h4 : (k == 4) = false := by simp; omega
    have h5 : (k == 5) = false := by simp; omega
    have h6 : (k == 6) = false := by simp; omega
    have h7 : (k == 7) = false := by simp; omega
    have h8 : (k == 8) = false := by simp; omega
    have h9 : (k == 9) = false := by simp; omega
    have h10 : (k == 10) = false := by simp; omega
    clear hk hn
    go_enter Tryd.func35, Tryd.ntmps35
    go_wp2
    go_ret
    exact ⟨rfl, (Below.refl _ _).alloc (Nat.le_refl _) _⟩
  | true =>
    rcases kinds hk with rfl | rfl | rfl | rfl | rfl | rfl | rfl | rfl | rfl | rfl
    all_goals
      clear hk
      go_enter Tryd.func35, Tryd.ntmps35
      go_wp2
      go_ret
      exact ⟨rfl, (Below.refl _ _).alloc (Nat.le_refl _) _⟩
end Go.Proofs.YtbkhlaiifbdfoaaDoor
/-
  What partsOk does.
-/
namespace Go.Proofs.YtbkhlaiifbdfoaaDoor
open Go.RowKit

/-- What partsOk says. -/
def pOk (k u c n : Int) (cs : List (Int × Bool × Int)) (ns : List (Int × Int)) : Bool :=
  if k = 1 then true
  else if k = 2 then inB c 0 255 && inB n 0 16777215 && cOk cs
  else if k = 3 then cOk cs
  else if k = 4 then inB n 0 16777215
  else if k = 5 ∨ k = 9 then inB u 1 1000000
  else if k = 6 ∨ k = 7 ∨ k = 8 ∨ k = 10 then inB u 1 1000000 && nOk ns
  else false

theorem pOk_none {k u c n : Int} {cs : List (Int × Bool × Int)} {ns : List (Int × Int)} (h : k < 1 ∨ 10 < k) : pOk k u c n cs ns = false := by
  unfold pOk
  rw [if_neg (by omega), if_neg (by omega), if_neg (by omega), if_neg (by omega), if_neg (by omega), if_neg (by omega)]

theorem ta1_1 (x : Value) (w : World) : (Instr.typeAssert (.iface 85 x) 57 85 true).run Tryd.prog w = .ok (.tuple #[x, .bool true]) w := by kernel_rfl
theorem ta0_1 (w : World) : (Instr.typeAssert .nilIface 57 85 true).run Tryd.prog w = .ok (.tuple #[.agg #[.int .i64 0], .bool false]) w := by kernel_rfl
theorem ta2_2 (x : Value) (w : World) : (Instr.typeAssert (.iface 87 x) 57 87 true).run Tryd.prog w = .ok (.tuple #[x, .bool true]) w := by kernel_rfl
theorem ta0_2 (w : World) : (Instr.typeAssert .nilIface 57 87 true).run Tryd.prog w = .ok (.tuple #[.agg #[.int .i64 0, .int .i64 0, .int .i64 0, .slice none 0 0], .bool false]) w := by kernel_rfl
theorem ta2_1 (x : Value) (w : World) : (Instr.typeAssert (.iface 87 x) 57 85 true).run Tryd.prog w = .ok (.tuple #[.agg #[.int .i64 0], .bool false]) w := by kernel_rfl
theorem ta3_3 (x : Value) (w : World) : (Instr.typeAssert (.iface 89 x) 57 89 true).run Tryd.prog w = .ok (.tuple #[x, .bool true]) w := by kernel_rfl
theorem ta0_3 (w : World) : (Instr.typeAssert .nilIface 57 89 true).run Tryd.prog w = .ok (.tuple #[.agg #[.int .i64 0, .slice none 0 0], .bool false]) w := by kernel_rfl
theorem ta3_1 (x : Value) (w : World) : (Instr.typeAssert (.iface 89 x) 57 85 true).run Tryd.prog w = .ok (.tuple #[.agg #[.int .i64 0], .bool false]) w := by kernel_rfl
theorem ta3_2 (x : Value) (w : World) : (Instr.typeAssert (.iface 89 x) 57 87 true).run Tryd.prog w = .ok (.tuple #[.agg #[.int .i64 0, .int .i64 0, .int .i64 0, .slice none 0 0], .bool false]) w := by kernel_rfl
theorem ta4_4 (x : Value) (w : World) : (Instr.typeAssert (.iface 91 x) 57 91 true).run Tryd.prog w = .ok (.tuple #[x, .bool true]) w := by kernel_rfl
theorem ta0_4 (w : World) : (Instr.typeAssert .nilIface 57 91 true).run Tryd.prog w = .ok (.tuple #[.agg #[.int .i64 0, .int .i64 0], .bool false]) w := by kernel_rfl
theorem ta4_1 (x : Value) (w : World) : (Instr.typeAssert (.iface 91 x) 57 85 true).run Tryd.prog w = .ok (.tuple #[.agg #[.int .i64 0], .bool false]) w := by kernel_rfl
theorem ta4_2 (x : Value) (w : World) : (Instr.typeAssert (.iface 91 x) 57 87 true).run Tryd.prog w = .ok (.tuple #[.agg #[.int .i64 0, .int .i64 0, .int .i64 0, .slice none 0 0], .bool false]) w := by kernel_rfl
theorem ta4_3 (x : Value) (w : World) : (Instr.typeAssert (.iface 91 x) 57 89 true).run Tryd.prog w = .ok (.tuple #[.agg #[.int .i64 0, .slice none 0 0], .bool false]) w := by kernel_rfl
theorem ta5_5 (x : Value) (w : World) : (Instr.typeAssert (.iface 93 x) 57 93 true).run Tryd.prog w = .ok (.tuple #[x, .bool true]) w := by kernel_rfl
theorem ta0_5 (w : World) : (Instr.typeAssert .nilIface 57 93 true).run Tryd.prog w = .ok (.tuple #[.agg #[.int .i64 0, .int .i64 0], .bool false]) w := by kernel_rfl
theorem ta5_1 (x : Value) (w : World) : (Instr.typeAssert (.iface 93 x) 57 85 true).run Tryd.prog w = .ok (.tuple #[.agg #[.int .i64 0], .bool false]) w := by kernel_rfl
theorem ta5_2 (x : Value) (w : World) : (Instr.typeAssert (.iface 93 x) 57 87 true).run Tryd.prog w = .ok (.tuple #[.agg #[.int .i64 0, .int .i64 0, .int .i64 0, .slice none 0 0], .bool false]) w := by kernel_rfl
theorem ta5_3 (x : Value) (w : World) : (Instr.typeAssert (.iface 93 x) 57 89 true).run Tryd.prog w = .ok (.tuple #[.agg #[.int .i64 0, .slice none 0 0], .bool false]) w := by kernel_rfl
theorem ta5_4 (x : Value) (w : World) : (Instr.typeAssert (.iface 93 x) 57 91 true).run Tryd.prog w = .ok (.tuple #[.agg #[.int .i64 0, .int .i64 0], .bool false]) w := by kernel_rfl
theorem ta6_6 (x : Value) (w : World) : (Instr.typeAssert (.iface 95 x) 57 95 true).run Tryd.prog w = .ok (.tuple #[x, .bool true]) w := by kernel_rfl
theorem ta0_6 (w : World) : (Instr.typeAssert .nilIface 57 95 true).run Tryd.prog w = .ok (.tuple #[.agg #[.int .i64 0, .int .i64 0, .slice none 0 0], .bool false]) w := by kernel_rfl
theorem ta6_1 (x : Value) (w : World) : (Instr.typeAssert (.iface 95 x) 57 85 true).run Tryd.prog w = .ok (.tuple #[.agg #[.int .i64 0], .bool false]) w := by kernel_rfl
theorem ta6_2 (x : Value) (w : World) : (Instr.typeAssert (.iface 95 x) 57 87 true).run Tryd.prog w = .ok (.tuple #[.agg #[.int .i64 0, .int .i64 0, .int .i64 0, .slice none 0 0], .bool false]) w := by kernel_rfl
theorem ta6_3 (x : Value) (w : World) : (Instr.typeAssert (.iface 95 x) 57 89 true).run Tryd.prog w = .ok (.tuple #[.agg #[.int .i64 0, .slice none 0 0], .bool false]) w := by kernel_rfl
theorem ta6_4 (x : Value) (w : World) : (Instr.typeAssert (.iface 95 x) 57 91 true).run Tryd.prog w = .ok (.tuple #[.agg #[.int .i64 0, .int .i64 0], .bool false]) w := by kernel_rfl
theorem ta6_5 (x : Value) (w : World) : (Instr.typeAssert (.iface 95 x) 57 93 true).run Tryd.prog w = .ok (.tuple #[.agg #[.int .i64 0, .int .i64 0], .bool false]) w := by kernel_rfl
theorem ta7_7 (x : Value) (w : World) : (Instr.typeAssert (.iface 96 x) 57 96 true).run Tryd.prog w = .ok (.tuple #[x, .bool true]) w := by kernel_rfl
theorem ta0_7 (w : World) : (Instr.typeAssert .nilIface 57 96 true).run Tryd.prog w = .ok (.tuple #[.agg #[.int .i64 0, .int .i64 0, .slice none 0 0], .bool false]) w := by kernel_rfl
theorem ta7_1 (x : Value) (w : World) : (Instr.typeAssert (.iface 96 x) 57 85 true).run Tryd.prog w = .ok (.tuple #[.agg #[.int .i64 0], .bool false]) w := by kernel_rfl
theorem ta7_2 (x : Value) (w : World) : (Instr.typeAssert (.iface 96 x) 57 87 true).run Tryd.prog w = .ok (.tuple #[.agg #[.int .i64 0, .int .i64 0, .int .i64 0, .slice none 0 0], .bool false]) w := by kernel_rfl
theorem ta7_3 (x : Value) (w : World) : (Instr.typeAssert (.iface 96 x) 57 89 true).run Tryd.prog w = .ok (.tuple #[.agg #[.int .i64 0, .slice none 0 0], .bool false]) w := by kernel_rfl
theorem ta7_4 (x : Value) (w : World) : (Instr.typeAssert (.iface 96 x) 57 91 true).run Tryd.prog w = .ok (.tuple #[.agg #[.int .i64 0, .int .i64 0], .bool false]) w := by kernel_rfl
theorem ta7_5 (x : Value) (w : World) : (Instr.typeAssert (.iface 96 x) 57 93 true).run Tryd.prog w = .ok (.tuple #[.agg #[.int .i64 0, .int .i64 0], .bool false]) w := by kernel_rfl
theorem ta7_6 (x : Value) (w : World) : (Instr.typeAssert (.iface 96 x) 57 95 true).run Tryd.prog w = .ok (.tuple #[.agg #[.int .i64 0, .int .i64 0, .slice none 0 0], .bool false]) w := by kernel_rfl
theorem ta8_8 (x : Value) (w : World) : (Instr.typeAssert (.iface 97 x) 57 97 true).run Tryd.prog w = .ok (.tuple #[x, .bool true]) w := by kernel_rfl
theorem ta0_8 (w : World) : (Instr.typeAssert .nilIface 57 97 true).run Tryd.prog w = .ok (.tuple #[.agg #[.int .i64 0, .int .i64 0, .slice none 0 0], .bool false]) w := by kernel_rfl
theorem ta8_1 (x : Value) (w : World) : (Instr.typeAssert (.iface 97 x) 57 85 true).run Tryd.prog w = .ok (.tuple #[.agg #[.int .i64 0], .bool false]) w := by kernel_rfl
theorem ta8_2 (x : Value) (w : World) : (Instr.typeAssert (.iface 97 x) 57 87 true).run Tryd.prog w = .ok (.tuple #[.agg #[.int .i64 0, .int .i64 0, .int .i64 0, .slice none 0 0], .bool false]) w := by kernel_rfl
theorem ta8_3 (x : Value) (w : World) : (Instr.typeAssert (.iface 97 x) 57 89 true).run Tryd.prog w = .ok (.tuple #[.agg #[.int .i64 0, .slice none 0 0], .bool false]) w := by kernel_rfl
theorem ta8_4 (x : Value) (w : World) : (Instr.typeAssert (.iface 97 x) 57 91 true).run Tryd.prog w = .ok (.tuple #[.agg #[.int .i64 0, .int .i64 0], .bool false]) w := by kernel_rfl
theorem ta8_5 (x : Value) (w : World) : (Instr.typeAssert (.iface 97 x) 57 93 true).run Tryd.prog w = .ok (.tuple #[.agg #[.int .i64 0, .int .i64 0], .bool false]) w := by kernel_rfl
theorem ta8_6 (x : Value) (w : World) : (Instr.typeAssert (.iface 97 x) 57 95 true).run Tryd.prog w = .ok (.tuple #[.agg #[.int .i64 0, .int .i64 0, .slice none 0 0], .bool false]) w := by kernel_rfl
theorem ta8_7 (x : Value) (w : World) : (Instr.typeAssert (.iface 97 x) 57 96 true).run Tryd.prog w = .ok (.tuple #[.agg #[.int .i64 0, .int .i64 0, .slice none 0 0], .bool false]) w := by kernel_rfl
theorem ta9_9 (x : Value) (w : World) : (Instr.typeAssert (.iface 98 x) 57 98 true).run Tryd.prog w = .ok (.tuple #[x, .bool true]) w := by kernel_rfl
theorem ta0_9 (w : World) : (Instr.typeAssert .nilIface 57 98 true).run Tryd.prog w = .ok (.tuple #[.agg #[.int .i64 0, .int .i64 0], .bool false]) w := by kernel_rfl
theorem ta9_1 (x : Value) (w : World) : (Instr.typeAssert (.iface 98 x) 57 85 true).run Tryd.prog w = .ok (.tuple #[.agg #[.int .i64 0], .bool false]) w := by kernel_rfl
theorem ta9_2 (x : Value) (w : World) : (Instr.typeAssert (.iface 98 x) 57 87 true).run Tryd.prog w = .ok (.tuple #[.agg #[.int .i64 0, .int .i64 0, .int .i64 0, .slice none 0 0], .bool false]) w := by kernel_rfl
theorem ta9_3 (x : Value) (w : World) : (Instr.typeAssert (.iface 98 x) 57 89 true).run Tryd.prog w = .ok (.tuple #[.agg #[.int .i64 0, .slice none 0 0], .bool false]) w := by kernel_rfl
theorem ta9_4 (x : Value) (w : World) : (Instr.typeAssert (.iface 98 x) 57 91 true).run Tryd.prog w = .ok (.tuple #[.agg #[.int .i64 0, .int .i64 0], .bool false]) w := by kernel_rfl
theorem ta9_5 (x : Value) (w : World) : (Instr.typeAssert (.iface 98 x) 57 93 true).run Tryd.prog w = .ok (.tuple #[.agg #[.int .i64 0, .int .i64 0], .bool false]) w := by kernel_rfl
theorem ta9_6 (x : Value) (w : World) : (Instr.typeAssert (.iface 98 x) 57 95 true).run Tryd.prog w = .ok (.tuple #[.agg #[.int .i64 0, .int .i64 0, .slice none 0 0], .bool false]) w := by kernel_rfl
theorem ta9_7 (x : Value) (w : World) : (Instr.typeAssert (.iface 98 x) 57 96 true).run Tryd.prog w = .ok (.tuple #[.agg #[.int .i64 0, .int .i64 0, .slice none 0 0], .bool false]) w := by kernel_rfl
theorem ta9_8 (x : Value) (w : World) : (Instr.typeAssert (.iface 98 x) 57 97 true).run Tryd.prog w = .ok (.tuple #[.agg #[.int .i64 0, .int .i64 0, .slice none 0 0], .bool false]) w := by kernel_rfl
theorem ta10_10 (x : Value) (w : World) : (Instr.typeAssert (.iface 99 x) 57 99 true).run Tryd.prog w = .ok (.tuple #[x, .bool true]) w := by kernel_rfl
theorem ta0_10 (w : World) : (Instr.typeAssert .nilIface 57 99 true).run Tryd.prog w = .ok (.tuple #[.agg #[.int .i64 0, .int .i64 0, .slice none 0 0], .bool false]) w := by kernel_rfl
theorem ta10_1 (x : Value) (w : World) : (Instr.typeAssert (.iface 99 x) 57 85 true).run Tryd.prog w = .ok (.tuple #[.agg #[.int .i64 0], .bool false]) w := by kernel_rfl
theorem ta10_2 (x : Value) (w : World) : (Instr.typeAssert (.iface 99 x) 57 87 true).run Tryd.prog w = .ok (.tuple #[.agg #[.int .i64 0, .int .i64 0, .int .i64 0, .slice none 0 0], .bool false]) w := by kernel_rfl
theorem ta10_3 (x : Value) (w : World) : (Instr.typeAssert (.iface 99 x) 57 89 true).run Tryd.prog w = .ok (.tuple #[.agg #[.int .i64 0, .slice none 0 0], .bool false]) w := by kernel_rfl
theorem ta10_4 (x : Value) (w : World) : (Instr.typeAssert (.iface 99 x) 57 91 true).run Tryd.prog w = .ok (.tuple #[.agg #[.int .i64 0, .int .i64 0], .bool false]) w := by kernel_rfl
theorem ta10_5 (x : Value) (w : World) : (Instr.typeAssert (.iface 99 x) 57 93 true).run Tryd.prog w = .ok (.tuple #[.agg #[.int .i64 0, .int .i64 0], .bool false]) w := by kernel_rfl
theorem ta10_6 (x : Value) (w : World) : (Instr.typeAssert (.iface 99 x) 57 95 true).run Tryd.prog w = .ok (.tuple #[.agg #[.int .i64 0, .int .i64 0, .slice none 0 0], .bool false]) w := by kernel_rfl
theorem ta10_7 (x : Value) (w : World) : (Instr.typeAssert (.iface 99 x) 57 96 true).run Tryd.prog w = .ok (.tuple #[.agg #[.int .i64 0, .int .i64 0, .slice none 0 0], .bool false]) w := by kernel_rfl
theorem ta10_8 (x : Value) (w : World) : (Instr.typeAssert (.iface 99 x) 57 97 true).run Tryd.prog w = .ok (.tuple #[.agg #[.int .i64 0, .int .i64 0, .slice none 0 0], .bool false]) w := by kernel_rfl
theorem ta10_9 (x : Value) (w : World) : (Instr.typeAssert (.iface 99 x) 57 98 true).run Tryd.prog w = .ok (.tuple #[.agg #[.int .i64 0, .int .i64 0], .bool false]) w := by kernel_rfl

set_option maxRecDepth 100000 in
set_option maxHeartbeats 8000000 in
theorem partsImpl (w : World) (k i u c n : Int) (cv nv : Value) (cs : List (Int × Bool × Int)) (ns : List (Int × Int)) (hc : Rd w w.heap.size 3 cv cs.length (cs.flatMap cellC)) (hn : Rd w w.heap.size 2 nv ns.length (ns.flatMap noteC))
    (hmc : cs.length ≤ 1048576) (hmn : ns.length ≤ 1048576) :
    Calls Tryd.prog 37 #[ownV k i u c n cv nv] w fun e w' => e = .returned (.bool (pOk k u c n cs ns)) ∧ Below w.heap.size w w' := by
  have HC := hide hc
  have HN := hide hn
  obtain ⟨a5, cap5, rfl, _⟩ := cells_at hc
  obtain ⟨a6, cap6, rfl, _⟩ := notes_at hn
  clear hc hn
  cases hk : inB k 1 10 with
  | false =>
    have hn := inB_no hk
    rw [ownV_none hn, pOk_none hn]
    clear hk hn
    have t1 := ta0_1
    have t2 := ta0_2
    have t3 := ta0_3
    have t4 := ta0_4
    have t5 := ta0_5
    have t6 := ta0_6
    have t7 := ta0_7
    have t8 := ta0_8
    have t9 := ta0_9
    have t10 := ta0_10
    go_enter Tryd.func37, Tryd.ntmps37
    go_wp2
    go_ret
    exact ⟨rfl, Below.refl _ _⟩
  | true =>
    rcases kinds hk with rfl | rfl | rfl | rfl | rfl | rfl | rfl | rfl | rfl | rfl
    · show Calls _ _ #[.iface 85 (.agg #[.int .i64 i])] _ _
      clear hk
      have t1 := ta1_1
      have HP : Hid (pOk 1 u c n cs ns = true) := hide rfl
      go_enter Tryd.func37, Tryd.ntmps37
      go_wp2
      go_ret
      exact ⟨by rw [HP.out]; rfl, ((Below.refl _ _).alloc (Nat.le_refl _) _)⟩
    · show Calls _ _ #[.iface 87 (.agg #[.int .i64 i, .int .i64 c, .int .i64 n, .slice a5 cs.length cap5])] _ _
      clear hk
      have t1 := ta2_1
      have t2 := ta2_2
      have HP : Hid (pOk 2 u c n cs ns = (inB c 0 255 && inB n 0 16777215 && cOk cs)) := hide rfl
      cases h1 : inB c 0 255 with
      | false =>
        rw [h1] at HP
        go_enter Tryd.func37, Tryd.ntmps37
        go_wp2_with (first | (go_at_call 54; refine (inImpl _ _ _ _).mono ?_; rintro e w' ⟨rfl, rfl⟩) | (go_at_call 36; refine (objImpl _ _).mono ?_; rintro e w' ⟨rfl, rfl⟩))
        go_ret
        exact ⟨by rw [HP.out]; rfl, ((Below.refl _ _).alloc (Nat.le_refl _) _)⟩
      | true =>
        cases h2 : inB n 0 16777215 with
        | false =>
          rw [h1, h2] at HP
          go_enter Tryd.func37, Tryd.ntmps37
          go_wp2_with (first | (go_at_call 54; refine (inImpl _ _ _ _).mono ?_; rintro e w' ⟨rfl, rfl⟩) | (go_at_call 36; refine (objImpl _ _).mono ?_; rintro e w' ⟨rfl, rfl⟩))
          go_ret
          exact ⟨by rw [HP.out]; rfl, ((Below.refl _ _).alloc (Nat.le_refl _) _)⟩
        | true =>
          rw [h1, h2] at HP
          go_enter Tryd.func37, Tryd.ntmps37
          go_wp2_with (first | (go_at_call 54; refine (inImpl _ _ _ _).mono ?_; rintro e w' ⟨rfl, rfl⟩) | (go_at_call 36; refine (objImpl _ _).mono ?_; rintro e w' ⟨rfl, rfl⟩))
          refine (cellsImpl _ _ _ _ (HC.out.at ((Below.refl _ _).alloc (Nat.le_refl _) _)) (Nat.le_refl _) hmc).mono ?_
          rintro e w2 ⟨rfl, b2⟩
          have HB := hide (((Below.refl _ _).alloc (Nat.le_refl _) _).trans (b2.mono (by simp)))
          clear b2
          go_wp2
          go_ret
          exact ⟨by rw [HP.out]; rfl, HB.out⟩
    · show Calls _ _ #[.iface 89 (.agg #[.int .i64 i, .slice a5 cs.length cap5])] _ _
      clear hk
      have t1 := ta3_1
      have t2 := ta3_2
      have t3 := ta3_3
      have HP : Hid (pOk 3 u c n cs ns = cOk cs) := hide rfl
      go_enter Tryd.func37, Tryd.ntmps37
      go_wp2_with fail
      refine (cellsImpl _ _ _ _ (HC.out.at ((Below.refl _ _).alloc (Nat.le_refl _) _)) (Nat.le_refl _) hmc).mono ?_
      rintro e w2 ⟨rfl, b2⟩
      have HB := hide (((Below.refl _ _).alloc (Nat.le_refl _) _).trans (b2.mono (by simp)))
      clear b2
      go_wp2
      go_ret
      exact ⟨by rw [HP.out]; rfl, HB.out⟩
    · show Calls _ _ #[.iface 91 (.agg #[.int .i64 i, .int .i64 n])] _ _
      clear hk
      have t1 := ta4_1
      have t2 := ta4_2
      have t3 := ta4_3
      have t4 := ta4_4
      have HP : Hid (pOk 4 u c n cs ns = inB n 0 16777215) := hide rfl
      go_enter Tryd.func37, Tryd.ntmps37
      go_wp2_with (first | (go_at_call 54; refine (inImpl _ _ _ _).mono ?_; rintro e w' ⟨rfl, rfl⟩) | (go_at_call 36; refine (objImpl _ _).mono ?_; rintro e w' ⟨rfl, rfl⟩))
      go_ret
      exact ⟨by rw [HP.out]; rfl, ((Below.refl _ _).alloc (Nat.le_refl _) _)⟩
    · show Calls _ _ #[.iface 93 (.agg #[.int .i64 i, .int .i64 u])] _ _
      clear hk
      have t1 := ta5_1
      have t2 := ta5_2
      have t3 := ta5_3
      have t4 := ta5_4
      have t5 := ta5_5
      have HP : Hid (pOk 5 u c n cs ns = inB u 1 1000000) := hide rfl
      go_enter Tryd.func37, Tryd.ntmps37
      go_wp2_with (first | (go_at_call 54; refine (inImpl _ _ _ _).mono ?_; rintro e w' ⟨rfl, rfl⟩) | (go_at_call 36; refine (objImpl _ _).mono ?_; rintro e w' ⟨rfl, rfl⟩))
      go_ret
      exact ⟨by rw [HP.out]; rfl, ((Below.refl _ _).alloc (Nat.le_refl _) _)⟩
    · show Calls _ _ #[.iface 95 (.agg #[.int .i64 i, .int .i64 u, .slice a6 ns.length cap6])] _ _
      clear hk
      have t1 := ta6_1
      have t2 := ta6_2
      have t3 := ta6_3
      have t4 := ta6_4
      have t5 := ta6_5
      have t6 := ta6_6
      have HP : Hid (pOk 6 u c n cs ns = (inB u 1 1000000 && nOk ns)) := hide rfl
      cases h1 : inB u 1 1000000 with
      | false =>
        rw [h1] at HP
        go_enter Tryd.func37, Tryd.ntmps37
        go_wp2_with (first | (go_at_call 54; refine (inImpl _ _ _ _).mono ?_; rintro e w' ⟨rfl, rfl⟩) | (go_at_call 36; refine (objImpl _ _).mono ?_; rintro e w' ⟨rfl, rfl⟩))
        go_ret
        exact ⟨by rw [HP.out]; rfl, ((Below.refl _ _).alloc (Nat.le_refl _) _)⟩
      | true =>
        rw [h1] at HP
        go_enter Tryd.func37, Tryd.ntmps37
        go_wp2_with (first | (go_at_call 54; refine (inImpl _ _ _ _).mono ?_; rintro e w' ⟨rfl, rfl⟩) | (go_at_call 36; refine (objImpl _ _).mono ?_; rintro e w' ⟨rfl, rfl⟩))
        refine (notesImpl _ _ _ _ (HN.out.at ((Below.refl _ _).alloc (Nat.le_refl _) _)) (Nat.le_refl _) hmn).mono ?_
        rintro e w2 ⟨rfl, b2⟩
        have HB := hide (((Below.refl _ _).alloc (Nat.le_refl _) _).trans (b2.mono (by simp)))
        clear b2
        go_wp2
        go_ret
        exact ⟨by rw [HP.out]; rfl, HB.out⟩
    · show Calls _ _ #[.iface 96 (.agg #[.int .i64 i, .int .i64 u, .slice a6 ns.length cap6])] _ _
      clear hk
      have t1 := ta7_1
      have t2 := ta7_2
      have t3 := ta7_3
      have t4 := ta7_4
      have t5 := ta7_5
      have t6 := ta7_6
      have t7 := ta7_7
      have HP : Hid (pOk 7 u c n cs ns = (inB u 1 1000000 && nOk ns)) := hide rfl
      cases h1 : inB u 1 1000000 with
      | false =>
        rw [h1] at HP
        go_enter Tryd.func37, Tryd.ntmps37
        go_wp2_with (first | (go_at_call 54; refine (inImpl _ _ _ _).mono ?_; rintro e w' ⟨rfl, rfl⟩) | (go_at_call 36; refine (objImpl _ _).mono ?_; rintro e w' ⟨rfl, rfl⟩))
        go_ret
        exact ⟨by rw [HP.out]; rfl, ((Below.refl _ _).alloc (Nat.le_refl _) _)⟩
      | true =>
        rw [h1] at HP
        go_enter Tryd.func37, Tryd.ntmps37
        go_wp2_with (first | (go_at_call 54; refine (inImpl _ _ _ _).mono ?_; rintro e w' ⟨rfl, rfl⟩) | (go_at_call 36; refine (objImpl _ _).mono ?_; rintro e w' ⟨rfl, rfl⟩))
        refine (notesImpl _ _ _ _ (HN.out.at ((Below.refl _ _).alloc (Nat.le_refl _) _)) (Nat.le_refl _) hmn).mono ?_
        rintro e w2 ⟨rfl, b2⟩
        have HB := hide (((Below.refl _ _).alloc (Nat.le_refl _) _).trans (b2.mono (by simp)))
        clear b2
        go_wp2
        go_ret
        exact ⟨by rw [HP.out]; rfl, HB.out⟩
    · show Calls _ _ #[.iface 97 (.agg #[.int .i64 i, .int .i64 u, .slice a6 ns.length cap6])] _ _
      clear hk
      have t1 := ta8_1
      have t2 := ta8_2
      have t3 := ta8_3
      have t4 := ta8_4
      have t5 := ta8_5
      have t6 := ta8_6
      have t7 := ta8_7
      have t8 := ta8_8
      have HP : Hid (pOk 8 u c n cs ns = (inB u 1 1000000 && nOk ns)) := hide rfl
      cases h1 : inB u 1 1000000 with
      | false =>
        rw [h1] at HP
        go_enter Tryd.func37, Tryd.ntmps37
        go_wp2_with (first | (go_at_call 54; refine (inImpl _ _ _ _).mono ?_; rintro e w' ⟨rfl, rfl⟩) | (go_at_call 36; refine (objImpl _ _).mono ?_; rintro e w' ⟨rfl, rfl⟩))
        go_ret
        exact ⟨by rw [HP.out]; rfl, ((Below.refl _ _).alloc (Nat.le_refl _) _)⟩
      | true =>
        rw [h1] at HP
        go_enter Tryd.func37, Tryd.ntmps37
        go_wp2_with (first | (go_at_call 54; refine (inImpl _ _ _ _).mono ?_; rintro e w' ⟨rfl, rfl⟩) | (go_at_call 36; refine (objImpl _ _).mono ?_; rintro e w' ⟨rfl, rfl⟩))
        refine (notesImpl _ _ _ _ (HN.out.at ((Below.refl _ _).alloc (Nat.le_refl _) _)) (Nat.le_refl _) hmn).mono ?_
        rintro e w2 ⟨rfl, b2⟩
        have HB := hide (((Below.refl _ _).alloc (Nat.le_refl _) _).trans (b2.mono (by simp)))
        clear b2
        go_wp2
        go_ret
        exact ⟨by rw [HP.out]; rfl, HB.out⟩
    · show Calls _ _ #[.iface 98 (.agg #[.int .i64 i, .int .i64 u])] _ _
      clear hk
      have t1 := ta9_1
      have t2 := ta9_2
      have t3 := ta9_3
      have t4 := ta9_4
      have t5 := ta9_5
      have t6 := ta9_6
      have t7 := ta9_7
      have t8 := ta9_8
      have t9 := ta9_9
      have HP : Hid (pOk 9 u c n cs ns = inB u 1 1000000) := hide rfl
      go_enter Tryd.func37, Tryd.ntmps37
      go_wp2_with (first | (go_at_call 54; refine (inImpl _ _ _ _).mono ?_; rintro e w' ⟨rfl, rfl⟩) | (go_at_call 36; refine (objImpl _ _).mono ?_; rintro e w' ⟨rfl, rfl⟩))
      go_ret
      exact ⟨by rw [HP.out]; rfl, ((Below.refl _ _).alloc (Nat.le_refl _) _)⟩
    · show Calls _ _ #[.iface 99 (.agg #[.int .i64 i, .int .i64 u, .slice a6 ns.length cap6])] _ _
      clear hk
      have t1 := ta10_1
      have t2 := ta10_2
      have t3 := ta10_3
      have t4 := ta10_4
      have t5 := ta10_5
      have t6 := ta10_6
      have t7 := ta10_7
      have t8 := ta10_8
      have t9 := ta10_9
      have t10 := ta10_10
      have HP : Hid (pOk 10 u c n cs ns = (inB u 1 1000000 && nOk ns)) := hide rfl
      cases h1 : inB u 1 1000000 with
      | false =>
        rw [h1] at HP
        go_enter Tryd.func37, Tryd.ntmps37
        go_wp2_with (first | (go_at_call 54; refine (inImpl _ _ _ _).mono ?_; rintro e w' ⟨rfl, rfl⟩) | (go_at_call 36; refine (objImpl _ _).mono ?_; rintro e w' ⟨rfl, rfl⟩))
        go_ret
        exact ⟨by rw [HP.out]; rfl, ((Below.refl _ _).alloc (Nat.le_refl _) _)⟩
      | true =>
        rw [h1] at HP
        go_enter Tryd.func37, Tryd.ntmps37
        go_wp2_with (first | (go_at_call 54; refine (inImpl _ _ _ _).mono ?_; rintro e w' ⟨rfl, rfl⟩) | (go_at_call 36; refine (objImpl _ _).mono ?_; rintro e w' ⟨rfl, rfl⟩))
        refine (notesImpl _ _ _ _ (HN.out.at ((Below.refl _ _).alloc (Nat.le_refl _) _)) (Nat.le_refl _) hmn).mono ?_
        rintro e w2 ⟨rfl, b2⟩
        have HB := hide (((Below.refl _ _).alloc (Nat.le_refl _) _).trans (b2.mono (by simp)))
        clear b2
        go_wp2
        go_ret
        exact ⟨by rw [HP.out]; rfl, HB.out⟩
end Go.Proofs.YtbkhlaiifbdfoaaDoor
/-
  What MsgOk does, in the program.
-/
namespace Go.Proofs.YtbkhlaiifbdfoaaDoor
open Go.RowKit

set_option maxRecDepth 100000 in
set_option linter.unusedVariables false in
theorem plain1 (w : World) (i u c n : Int) (a5 a6 : Option Addr) (l5 c5 l6 c6 : Nat) :
    Calls Tryd.prog 98 #[.agg #[.int .i64 i]] w fun e w' => e = .returned (msgV 1 i 0 0 0 (.slice none 0 0) (.slice none 0 0)) ∧ Below w.heap.size w w' := by
  go_enter Tryd.func98, Tryd.ntmps98
  go_wp2
  exact bodyPost_ret (v := msgV 1 i 0 0 0 (.slice none 0 0) (.slice none 0 0)) (by simp [results, Tryd.results98, go_sem, msgV]) rfl ⟨rfl, ((Below.refl _ _).alloc (Nat.le_refl _) _).alloc (by simp) _⟩

set_option maxRecDepth 100000 in
set_option linter.unusedVariables false in
theorem plain2 (w : World) (i u c n : Int) (a5 a6 : Option Addr) (l5 c5 l6 c6 : Nat) :
    Calls Tryd.prog 99 #[.agg #[.int .i64 i, .int .i64 c, .int .i64 n, .slice a5 l5 c5]] w fun e w' => e = .returned (msgV 2 i 0 c n (.slice a5 l5 c5) (.slice none 0 0)) ∧ Below w.heap.size w w' := by
  go_enter Tryd.func99, Tryd.ntmps99
  go_wp2
  exact bodyPost_ret (v := msgV 2 i 0 c n (.slice a5 l5 c5) (.slice none 0 0)) (by simp [results, Tryd.results99, go_sem, msgV]) rfl ⟨rfl, ((Below.refl _ _).alloc (Nat.le_refl _) _).alloc (by simp) _⟩

set_option maxRecDepth 100000 in
set_option linter.unusedVariables false in
theorem plain3 (w : World) (i u c n : Int) (a5 a6 : Option Addr) (l5 c5 l6 c6 : Nat) :
    Calls Tryd.prog 100 #[.agg #[.int .i64 i, .slice a5 l5 c5]] w fun e w' => e = .returned (msgV 3 i 0 0 0 (.slice a5 l5 c5) (.slice none 0 0)) ∧ Below w.heap.size w w' := by
  go_enter Tryd.func100, Tryd.ntmps100
  go_wp2
  exact bodyPost_ret (v := msgV 3 i 0 0 0 (.slice a5 l5 c5) (.slice none 0 0)) (by simp [results, Tryd.results100, go_sem, msgV]) rfl ⟨rfl, ((Below.refl _ _).alloc (Nat.le_refl _) _).alloc (by simp) _⟩

set_option maxRecDepth 100000 in
set_option linter.unusedVariables false in
theorem plain4 (w : World) (i u c n : Int) (a5 a6 : Option Addr) (l5 c5 l6 c6 : Nat) :
    Calls Tryd.prog 101 #[.agg #[.int .i64 i, .int .i64 n]] w fun e w' => e = .returned (msgV 4 i 0 0 n (.slice none 0 0) (.slice none 0 0)) ∧ Below w.heap.size w w' := by
  go_enter Tryd.func101, Tryd.ntmps101
  go_wp2
  exact bodyPost_ret (v := msgV 4 i 0 0 n (.slice none 0 0) (.slice none 0 0)) (by simp [results, Tryd.results101, go_sem, msgV]) rfl ⟨rfl, ((Below.refl _ _).alloc (Nat.le_refl _) _).alloc (by simp) _⟩

set_option maxRecDepth 100000 in
set_option linter.unusedVariables false in
theorem plain5 (w : World) (i u c n : Int) (a5 a6 : Option Addr) (l5 c5 l6 c6 : Nat) :
    Calls Tryd.prog 102 #[.agg #[.int .i64 i, .int .i64 u]] w fun e w' => e = .returned (msgV 5 i u 0 0 (.slice none 0 0) (.slice none 0 0)) ∧ Below w.heap.size w w' := by
  go_enter Tryd.func102, Tryd.ntmps102
  go_wp2
  exact bodyPost_ret (v := msgV 5 i u 0 0 (.slice none 0 0) (.slice none 0 0)) (by simp [results, Tryd.results102, go_sem, msgV]) rfl ⟨rfl, ((Below.refl _ _).alloc (Nat.le_refl _) _).alloc (by simp) _⟩

set_option maxRecDepth 100000 in
set_option linter.unusedVariables false in
theorem plain6 (w : World) (i u c n : Int) (a5 a6 : Option Addr) (l5 c5 l6 c6 : Nat) :
    Calls Tryd.prog 103 #[.agg #[.int .i64 i, .int .i64 u, .slice a6 l6 c6]] w fun e w' => e = .returned (msgV 6 i u 0 0 (.slice none 0 0) (.slice a6 l6 c6)) ∧ Below w.heap.size w w' := by
  go_enter Tryd.func103, Tryd.ntmps103
  go_wp2
  exact bodyPost_ret (v := msgV 6 i u 0 0 (.slice none 0 0) (.slice a6 l6 c6)) (by simp [results, Tryd.results103, go_sem, msgV]) rfl ⟨rfl, ((Below.refl _ _).alloc (Nat.le_refl _) _).alloc (by simp) _⟩

set_option maxRecDepth 100000 in
set_option linter.unusedVariables false in
theorem plain7 (w : World) (i u c n : Int) (a5 a6 : Option Addr) (l5 c5 l6 c6 : Nat) :
    Calls Tryd.prog 104 #[.agg #[.int .i64 i, .int .i64 u, .slice a6 l6 c6]] w fun e w' => e = .returned (msgV 7 i u 0 0 (.slice none 0 0) (.slice a6 l6 c6)) ∧ Below w.heap.size w w' := by
  go_enter Tryd.func104, Tryd.ntmps104
  go_wp2
  exact bodyPost_ret (v := msgV 7 i u 0 0 (.slice none 0 0) (.slice a6 l6 c6)) (by simp [results, Tryd.results104, go_sem, msgV]) rfl ⟨rfl, ((Below.refl _ _).alloc (Nat.le_refl _) _).alloc (by simp) _⟩

set_option maxRecDepth 100000 in
set_option linter.unusedVariables false in
theorem plain8 (w : World) (i u c n : Int) (a5 a6 : Option Addr) (l5 c5 l6 c6 : Nat) :
    Calls Tryd.prog 105 #[.agg #[.int .i64 i, .int .i64 u, .slice a6 l6 c6]] w fun e w' => e = .returned (msgV 8 i u 0 0 (.slice none 0 0) (.slice a6 l6 c6)) ∧ Below w.heap.size w w' := by
  go_enter Tryd.func105, Tryd.ntmps105
  go_wp2
  exact bodyPost_ret (v := msgV 8 i u 0 0 (.slice none 0 0) (.slice a6 l6 c6)) (by simp [results, Tryd.results105, go_sem, msgV]) rfl ⟨rfl, ((Below.refl _ _).alloc (Nat.le_refl _) _).alloc (by simp) _⟩

set_option maxRecDepth 100000 in
set_option linter.unusedVariables false in
theorem plain9 (w : World) (i u c n : Int) (a5 a6 : Option Addr) (l5 c5 l6 c6 : Nat) :
    Calls Tryd.prog 106 #[.agg #[.int .i64 i, .int .i64 u]] w fun e w' => e = .returned (msgV 9 i u 0 0 (.slice none 0 0) (.slice none 0 0)) ∧ Below w.heap.size w w' := by
  go_enter Tryd.func106, Tryd.ntmps106
  go_wp2
  exact bodyPost_ret (v := msgV 9 i u 0 0 (.slice none 0 0) (.slice none 0 0)) (by simp [results, Tryd.results106, go_sem, msgV]) rfl ⟨rfl, ((Below.refl _ _).alloc (Nat.le_refl _) _).alloc (by simp) _⟩

set_option maxRecDepth 100000 in
set_option linter.unusedVariables false in
theorem plain10 (w : World) (i u c n : Int) (a5 a6 : Option Addr) (l5 c5 l6 c6 : Nat) :
    Calls Tryd.prog 107 #[.agg #[.int .i64 i, .int .i64 u, .slice a6 l6 c6]] w fun e w' => e = .returned (msgV 10 i u 0 0 (.slice none 0 0) (.slice a6 l6 c6)) ∧ Below w.heap.size w w' := by
  go_enter Tryd.func107, Tryd.ntmps107
  go_wp2
  exact bodyPost_ret (v := msgV 10 i u 0 0 (.slice none 0 0) (.slice a6 l6 c6)) (by simp [results, Tryd.results107, go_sem, msgV]) rfl ⟨rfl, ((Below.refl _ _).alloc (Nat.le_refl _) _).alloc (by simp) _⟩

/-- What noPartLost says. -/
def lostB (u c n u' c' n' : Int) (l5 l6 l5' l6' : Nat) : Bool := u == u' && c == c' && n == n' && (l5 : Int) == (l5' : Int) && (l6 : Int) == (l6' : Int)

set_option maxRecDepth 100000 in
set_option maxHeartbeats 2000000 in
theorem lostImpl (w : World) (k i u c n k' i' u' c' n' : Int) (a5 a6 a5' a6' : Option Addr) (l5 c5 l6 c6 l5' c5' l6' c6' : Nat) :
    Calls Tryd.prog 38 #[msgV k i u c n (.slice a5 l5 c5) (.slice a6 l6 c6), msgV k' i' u' c' n' (.slice a5' l5' c5') (.slice a6' l6' c6')] w fun e w' => e = .returned (.bool (lostB u c n u' c' n' l5 l6 l5' l6')) ∧ Below w.heap.size w w' := by
  have HP : Hid (lostB u c n u' c' n' l5 l6 l5' l6' = (u == u' && c == c' && n == n' && (l5 : Int) == (l5' : Int) && (l6 : Int) == (l6' : Int))) := hide rfl
  unfold msgV
  cases h0 : (u == u') with
  | false =>
    rw [h0] at HP
    go_enter Tryd.func38, Tryd.ntmps38
    go_wp2
    go_ret
    exact ⟨by rw [HP.out]; rfl, ((Below.refl _ _).alloc (Nat.le_refl _) _).alloc (by simp) _⟩
  | true =>
    cases h1 : (c == c') with
    | false =>
      rw [h0, h1] at HP
      go_enter Tryd.func38, Tryd.ntmps38
      go_wp2
      go_ret
      exact ⟨by rw [HP.out]; rfl, ((Below.refl _ _).alloc (Nat.le_refl _) _).alloc (by simp) _⟩
    | true =>
      cases h2 : (n == n') with
      | false =>
        rw [h0, h1, h2] at HP
        go_enter Tryd.func38, Tryd.ntmps38
        go_wp2
        go_ret
        exact ⟨by rw [HP.out]; rfl, ((Below.refl _ _).alloc (Nat.le_refl _) _).alloc (by simp) _⟩
      | true =>
        cases h3 : ((l5 : Int) == (l5' : Int)) with
        | false =>
          rw [h0, h1, h2, h3] at HP
          go_enter Tryd.func38, Tryd.ntmps38
          go_wp2
          go_ret
          exact ⟨by rw [HP.out]; rfl, ((Below.refl _ _).alloc (Nat.le_refl _) _).alloc (by simp) _⟩
        | true =>
          rw [h0, h1, h2, h3] at HP
          go_enter Tryd.func38, Tryd.ntmps38
          go_wp2
          go_ret
          exact ⟨by rw [HP.out]; rfl, ((Below.refl _ _).alloc (Nat.le_refl _) _).alloc (by simp) _⟩
end Go.Proofs.YtbkhlaiifbdfoaaDoor
/-
  What MsgOk does, in the program.
-/
namespace Go.Proofs.YtbkhlaiifbdfoaaDoor
open Go.RowKit

theorem me1 (x : Value) (w : World) : (method 237 85 x "loop.example/g00283/impl.plain").run Tryd.prog w = .ok (98, x) w := by kernel_rfl
theorem me2 (x : Value) (w : World) : (method 237 87 x "loop.example/g00283/impl.plain").run Tryd.prog w = .ok (99, x) w := by kernel_rfl
theorem me3 (x : Value) (w : World) : (method 237 89 x "loop.example/g00283/impl.plain").run Tryd.prog w = .ok (100, x) w := by kernel_rfl
theorem me4 (x : Value) (w : World) : (method 237 91 x "loop.example/g00283/impl.plain").run Tryd.prog w = .ok (101, x) w := by kernel_rfl
theorem me5 (x : Value) (w : World) : (method 237 93 x "loop.example/g00283/impl.plain").run Tryd.prog w = .ok (102, x) w := by kernel_rfl
theorem me6 (x : Value) (w : World) : (method 237 95 x "loop.example/g00283/impl.plain").run Tryd.prog w = .ok (103, x) w := by kernel_rfl
theorem me7 (x : Value) (w : World) : (method 237 96 x "loop.example/g00283/impl.plain").run Tryd.prog w = .ok (104, x) w := by kernel_rfl
theorem me8 (x : Value) (w : World) : (method 237 97 x "loop.example/g00283/impl.plain").run Tryd.prog w = .ok (105, x) w := by kernel_rfl
theorem me9 (x : Value) (w : World) : (method 237 98 x "loop.example/g00283/impl.plain").run Tryd.prog w = .ok (106, x) w := by kernel_rfl
theorem me10 (x : Value) (w : World) : (method 237 99 x "loop.example/g00283/impl.plain").run Tryd.prog w = .ok (107, x) w := by kernel_rfl

/-- What is lost of a message by way of its kind: nothing. -/
def rOk (k u c n : Int) (l5 l6 : Nat) : Bool :=
  if k = 1 then lostB u c n 0 0 0 l5 l6 0 0
  else if k = 2 then lostB u c n 0 c n l5 l6 l5 0
  else if k = 3 then lostB u c n 0 0 0 l5 l6 l5 0
  else if k = 4 then lostB u c n 0 0 n l5 l6 0 0
  else if k = 5 then lostB u c n u 0 0 l5 l6 0 0
  else if k = 6 then lostB u c n u 0 0 l5 l6 0 l6
  else if k = 7 then lostB u c n u 0 0 l5 l6 0 l6
  else if k = 8 then lostB u c n u 0 0 l5 l6 0 l6
  else if k = 9 then lostB u c n u 0 0 l5 l6 0 0
  else if k = 10 then lostB u c n u 0 0 l5 l6 0 l6
  else false
/-- What MsgOk says, as the program goes. -/
def mOk (k i u c n : Int) (cs : List (Int × Bool × Int)) (ns : List (Int × Int)) : Bool := inB i 1 1000000 && pOk k u c n cs ns && rOk k u c n cs.length ns.length

set_option maxRecDepth 100000 in
set_option maxHeartbeats 4000000 in
theorem msgImpl1 (w : World) (i u c n : Int) (cv nv : Value) (cs : List (Int × Bool × Int)) (ns : List (Int × Int)) (hc : Rd w w.heap.size 3 cv cs.length (cs.flatMap cellC)) (hn : Rd w w.heap.size 2 nv ns.length (ns.flatMap noteC))
    (hmc : cs.length ≤ 1048576) (hmn : ns.length ≤ 1048576) :
    Calls Tryd.prog 9 #[msgV 1 i u c n cv nv] w fun e w' => e = .returned (.bool (mOk 1 i u c n cs ns)) ∧ Below w.heap.size w w' := by
  have HC := hide hc
  have HN := hide hn
  have HM : Hid (mOk 1 i u c n cs ns = (inB i 1 1000000 && pOk 1 u c n cs ns && rOk 1 u c n cs.length ns.length)) := hide rfl
  obtain ⟨a5, cap5, rfl, _⟩ := cells_at hc
  obtain ⟨a6, cap6, rfl, _⟩ := notes_at hn
  clear hc hn
  have HX := hide (Box.new w #[.int .i64 1, .int .i64 i, .int .i64 u, .int .i64 c, .int .i64 n, .slice a5 cs.length cap5, .slice a6 ns.length cap6] 27)
  have HB := hide ((Below.refl w.heap.size w).alloc (Nat.le_refl _) (.cells #[.int .i64 1, .int .i64 i, .int .i64 u, .int .i64 c, .int .i64 n, .slice a5 cs.length cap5, .slice a6 ns.length cap6] 27))
  have HO := hide (ownImpl (w.alloc (.cells #[.int .i64 1, .int .i64 i, .int .i64 u, .int .i64 c, .int .i64 n, .slice a5 cs.length cap5, .slice a6 ns.length cap6] 27)) 1 i u c n a5 a6 cs.length cap5 ns.length cap6)
  have eo : ownV 1 i u c n (Value.slice a5 cs.length cap5) (Value.slice a6 ns.length cap6) = .iface 85 (.agg #[.int .i64 i]) := rfl
  rw [eo] at HO
  unfold msgV at HO ⊢
  go_enter Tryd.func9, Tryd.ntmps9
  go_wp2_with fail
  refine (unhide HO).mono ?_
  rintro e w1 ⟨rfl, b1⟩
  replace HX := hide (HX.out.below (by simp) b1)
  replace HB := hide (HB.out.trans (b1.mono HB.out.size))
  clear b1 HO
  have hs1 := HB.out.size
  have q0 := fun m : Lo w1 => m.cell (HX.out 0 _ rfl)
  have q1 := fun m : Lo w1 => m.cell (HX.out 1 _ rfl)
  have q2 := fun m : Lo w1 => m.cell (HX.out 2 _ rfl)
  have q3 := fun m : Lo w1 => m.cell (HX.out 3 _ rfl)
  have q4 := fun m : Lo w1 => m.cell (HX.out 4 _ rfl)
  have q5 := fun m : Lo w1 => m.cell (HX.out 5 _ rfl)
  have q6 := fun m : Lo w1 => m.cell (HX.out 6 _ rfl)
  have ho := fun w => objImpl i w
  cases hi : inB i 1 1000000 with
  | false =>
    rw [hi] at HM ho
    have HO := hide ho
    clear ho
    go_wp2
    refine wp_region_low (by kernel_rfl) (by kernel_rfl) ?_
    repeat (go_big_quiet_step ((first | (go_at_call 36; exact low_same (HO.out _)))))
    refine wpQuiet_nil ?_
    rintro _ ⟨m, rfl⟩
    go_wp2
    go_ret
    exact ⟨by rw [HM.out]; rfl, HB.out.trans (m.b.mono hs1)⟩
  | true =>
    rw [hi] at HM ho
    have HO := hide ho
    clear ho
    have ha : ∀ m : Lo w1, Calls Tryd.prog 37 #[.iface 85 (.agg #[.int .i64 i])] m.v fun e w' => e = .returned (.bool (pOk 1 u c n cs ns)) ∧ Below m.v.heap.size m.v w' := fun m =>
      partsImpl m.v 1 i u c n _ _ cs ns ((HC.out.at HB.out).at m.b) ((HN.out.at HB.out).at m.b) hmc hmn
    cases hp : pOk 1 u c n cs ns with
    | false =>
      rw [hp] at HM ha
      have HA := hide ha
      clear ha
      go_wp2
      refine wp_region_low (by kernel_rfl) (by kernel_rfl) ?_
      repeat (go_big_quiet_step ((first | (go_at_call 36; exact low_same (HO.out _)) | (go_at_call 37; exact low_below (HA.out _)))))
      refine wpQuiet_nil ?_
      rintro _ ⟨m, rfl⟩
      go_wp2
      go_ret
      exact ⟨by rw [HM.out]; rfl, HB.out.trans (m.b.mono hs1)⟩
    | true =>
      rw [hp] at HM ha
      have HA := hide ha
      have hme := me1
      have HP : Hid (∀ m : Lo w1, _) := hide fun m => plain1 m.v i u c n a5 a6 cs.length cap5 ns.length cap6
      have HL : Hid (∀ m : Lo w1, _) := hide fun m => lostImpl m.v 1 i u c n 1 i 0 0 0 a5 a6 none none cs.length cap5 ns.length cap6 0 0 0 0
      have HR : Hid (rOk 1 u c n cs.length ns.length = lostB u c n 0 0 0 cs.length ns.length 0 0) := hide rfl
      unfold msgV at HP HL
      clear ha
      go_wp2
      refine wp_region_low (by kernel_rfl) (by kernel_rfl) ?_
      repeat (go_big_quiet_step ((first | (go_at_call 36; exact low_same (HO.out _)) | (go_at_call 37; exact low_below (HA.out _)) | (go_at_call 98; exact low_below (HP.out _)) | (go_at_call 38; exact low_below (HL.out _)))))
      refine wpQuiet_nil ?_
      rintro _ ⟨m, rfl⟩
      go_wp2
      go_ret
      exact ⟨by rw [HM.out, HR.out]; rfl, HB.out.trans (m.b.mono hs1)⟩

set_option maxRecDepth 100000 in
set_option maxHeartbeats 4000000 in
theorem msgImpl2 (w : World) (i u c n : Int) (cv nv : Value) (cs : List (Int × Bool × Int)) (ns : List (Int × Int)) (hc : Rd w w.heap.size 3 cv cs.length (cs.flatMap cellC)) (hn : Rd w w.heap.size 2 nv ns.length (ns.flatMap noteC))
    (hmc : cs.length ≤ 1048576) (hmn : ns.length ≤ 1048576) :
    Calls Tryd.prog 9 #[msgV 2 i u c n cv nv] w fun e w' => e = .returned (.bool (mOk 2 i u c n cs ns)) ∧ Below w.heap.size w w' := by
  have HC := hide hc
  have HN := hide hn
  have HM : Hid (mOk 2 i u c n cs ns = (inB i 1 1000000 && pOk 2 u c n cs ns && rOk 2 u c n cs.length ns.length)) := hide rfl
  obtain ⟨a5, cap5, rfl, _⟩ := cells_at hc
  obtain ⟨a6, cap6, rfl, _⟩ := notes_at hn
  clear hc hn
  have HX := hide (Box.new w #[.int .i64 2, .int .i64 i, .int .i64 u, .int .i64 c, .int .i64 n, .slice a5 cs.length cap5, .slice a6 ns.length cap6] 27)
  have HB := hide ((Below.refl w.heap.size w).alloc (Nat.le_refl _) (.cells #[.int .i64 2, .int .i64 i, .int .i64 u, .int .i64 c, .int .i64 n, .slice a5 cs.length cap5, .slice a6 ns.length cap6] 27))
  have HO := hide (ownImpl (w.alloc (.cells #[.int .i64 2, .int .i64 i, .int .i64 u, .int .i64 c, .int .i64 n, .slice a5 cs.length cap5, .slice a6 ns.length cap6] 27)) 2 i u c n a5 a6 cs.length cap5 ns.length cap6)
  have eo : ownV 2 i u c n (Value.slice a5 cs.length cap5) (Value.slice a6 ns.length cap6) = .iface 87 (.agg #[.int .i64 i, .int .i64 c, .int .i64 n, .slice a5 cs.length cap5]) := rfl
  rw [eo] at HO
  unfold msgV at HO ⊢
  go_enter Tryd.func9, Tryd.ntmps9
  go_wp2_with fail
  refine (unhide HO).mono ?_
  rintro e w1 ⟨rfl, b1⟩
  replace HX := hide (HX.out.below (by simp) b1)
  replace HB := hide (HB.out.trans (b1.mono HB.out.size))
  clear b1 HO
  have hs1 := HB.out.size
  have q0 := fun m : Lo w1 => m.cell (HX.out 0 _ rfl)
  have q1 := fun m : Lo w1 => m.cell (HX.out 1 _ rfl)
  have q2 := fun m : Lo w1 => m.cell (HX.out 2 _ rfl)
  have q3 := fun m : Lo w1 => m.cell (HX.out 3 _ rfl)
  have q4 := fun m : Lo w1 => m.cell (HX.out 4 _ rfl)
  have q5 := fun m : Lo w1 => m.cell (HX.out 5 _ rfl)
  have q6 := fun m : Lo w1 => m.cell (HX.out 6 _ rfl)
  have ho := fun w => objImpl i w
  cases hi : inB i 1 1000000 with
  | false =>
    rw [hi] at HM ho
    have HO := hide ho
    clear ho
    go_wp2
    refine wp_region_low (by kernel_rfl) (by kernel_rfl) ?_
    repeat (go_big_quiet_step ((first | (go_at_call 36; exact low_same (HO.out _)))))
    refine wpQuiet_nil ?_
    rintro _ ⟨m, rfl⟩
    go_wp2
    go_ret
    exact ⟨by rw [HM.out]; rfl, HB.out.trans (m.b.mono hs1)⟩
  | true =>
    rw [hi] at HM ho
    have HO := hide ho
    clear ho
    have ha : ∀ m : Lo w1, Calls Tryd.prog 37 #[.iface 87 (.agg #[.int .i64 i, .int .i64 c, .int .i64 n, .slice a5 cs.length cap5])] m.v fun e w' => e = .returned (.bool (pOk 2 u c n cs ns)) ∧ Below m.v.heap.size m.v w' := fun m =>
      partsImpl m.v 2 i u c n _ _ cs ns ((HC.out.at HB.out).at m.b) ((HN.out.at HB.out).at m.b) hmc hmn
    cases hp : pOk 2 u c n cs ns with
    | false =>
      rw [hp] at HM ha
      have HA := hide ha
      clear ha
      go_wp2
      refine wp_region_low (by kernel_rfl) (by kernel_rfl) ?_
      repeat (go_big_quiet_step ((first | (go_at_call 36; exact low_same (HO.out _)) | (go_at_call 37; exact low_below (HA.out _)))))
      refine wpQuiet_nil ?_
      rintro _ ⟨m, rfl⟩
      go_wp2
      go_ret
      exact ⟨by rw [HM.out]; rfl, HB.out.trans (m.b.mono hs1)⟩
    | true =>
      rw [hp] at HM ha
      have HA := hide ha
      have hme := me2
      have HP : Hid (∀ m : Lo w1, _) := hide fun m => plain2 m.v i u c n a5 a6 cs.length cap5 ns.length cap6
      have HL : Hid (∀ m : Lo w1, _) := hide fun m => lostImpl m.v 2 i u c n 2 i 0 c n a5 a6 a5 none cs.length cap5 ns.length cap6 cs.length cap5 0 0
      have HR : Hid (rOk 2 u c n cs.length ns.length = lostB u c n 0 c n cs.length ns.length cs.length 0) := hide rfl
      unfold msgV at HP HL
      clear ha
      go_wp2
      refine wp_region_low (by kernel_rfl) (by kernel_rfl) ?_
      repeat (go_big_quiet_step ((first | (go_at_call 36; exact low_same (HO.out _)) | (go_at_call 37; exact low_below (HA.out _)) | (go_at_call 99; exact low_below (HP.out _)) | (go_at_call 38; exact low_below (HL.out _)))))
      refine wpQuiet_nil ?_
      rintro _ ⟨m, rfl⟩
      go_wp2
      go_ret
      exact ⟨by rw [HM.out, HR.out]; rfl, HB.out.trans (m.b.mono hs1)⟩

set_option maxRecDepth 100000 in
set_option maxHeartbeats 4000000 in
theorem msgImpl3 (w : World) (i u c n : Int) (cv nv : Value) (cs : List (Int × Bool × Int)) (ns : List (Int × Int)) (hc : Rd w w.heap.size 3 cv cs.length (cs.flatMap cellC)) (hn : Rd w w.heap.size 2 nv ns.length (ns.flatMap noteC))
    (hmc : cs.length ≤ 1048576) (hmn : ns.length ≤ 1048576) :
    Calls Tryd.prog 9 #[msgV 3 i u c n cv nv] w fun e w' => e = .returned (.bool (mOk 3 i u c n cs ns)) ∧ Below w.heap.size w w' := by
  have HC := hide hc
  have HN := hide hn
  have HM : Hid (mOk 3 i u c n cs ns = (inB i 1 1000000 && pOk 3 u c n cs ns && rOk 3 u c n cs.length ns.length)) := hide rfl
  obtain ⟨a5, cap5, rfl, _⟩ := cells_at hc
  obtain ⟨a6, cap6, rfl, _⟩ := notes_at hn
  clear hc hn
  have HX := hide (Box.new w #[.int .i64 3, .int .i64 i, .int .i64 u, .int .i64 c, .int .i64 n, .slice a5 cs.length cap5, .slice a6 ns.length cap6] 27)
  have HB := hide ((Below.refl w.heap.size w).alloc (Nat.le_refl _) (.cells #[.int .i64 3, .int .i64 i, .int .i64 u, .int .i64 c, .int .i64 n, .slice a5 cs.length cap5, .slice a6 ns.length cap6] 27))
  have HO := hide (ownImpl (w.alloc (.cells #[.int .i64 3, .int .i64 i, .int .i64 u, .int .i64 c, .int .i64 n, .slice a5 cs.length cap5, .slice a6 ns.length cap6] 27)) 3 i u c n a5 a6 cs.length cap5 ns.length cap6)
  have eo : ownV 3 i u c n (Value.slice a5 cs.length cap5) (Value.slice a6 ns.length cap6) = .iface 89 (.agg #[.int .i64 i, .slice a5 cs.length cap5]) := rfl
  rw [eo] at HO
  unfold msgV at HO ⊢
  go_enter Tryd.func9, Tryd.ntmps9
  go_wp2_with fail
  refine (unhide HO).mono ?_
  rintro e w1 ⟨rfl, b1⟩
  replace HX := hide (HX.out.below (by simp) b1)
  replace HB := hide (HB.out.trans (b1.mono HB.out.size))
  clear b1 HO
  have hs1 := HB.out.size
  have q0 := fun m : Lo w1 => m.cell (HX.out 0 _ rfl)
  have q1 := fun m : Lo w1 => m.cell (HX.out 1 _ rfl)
  have q2 := fun m : Lo w1 => m.cell (HX.out 2 _ rfl)
  have q3 := fun m : Lo w1 => m.cell (HX.out 3 _ rfl)
  have q4 := fun m : Lo w1 => m.cell (HX.out 4 _ rfl)
  have q5 := fun m : Lo w1 => m.cell (HX.out 5 _ rfl)
  have q6 := fun m : Lo w1 => m.cell (HX.out 6 _ rfl)
  have ho := fun w => objImpl i w
  cases hi : inB i 1 1000000 with
  | false =>
    rw [hi] at HM ho
    have HO := hide ho
    clear ho
    go_wp2
    refine wp_region_low (by kernel_rfl) (by kernel_rfl) ?_
    repeat (go_big_quiet_step ((first | (go_at_call 36; exact low_same (HO.out _)))))
    refine wpQuiet_nil ?_
    rintro _ ⟨m, rfl⟩
    go_wp2
    go_ret
    exact ⟨by rw [HM.out]; rfl, HB.out.trans (m.b.mono hs1)⟩
  | true =>
    rw [hi] at HM ho
    have HO := hide ho
    clear ho
    have ha : ∀ m : Lo w1, Calls Tryd.prog 37 #[.iface 89 (.agg #[.int .i64 i, .slice a5 cs.length cap5])] m.v fun e w' => e = .returned (.bool (pOk 3 u c n cs ns)) ∧ Below m.v.heap.size m.v w' := fun m =>
      partsImpl m.v 3 i u c n _ _ cs ns ((HC.out.at HB.out).at m.b) ((HN.out.at HB.out).at m.b) hmc hmn
    cases hp : pOk 3 u c n cs ns with
    | false =>
      rw [hp] at HM ha
      have HA := hide ha
      clear ha
      go_wp2
      refine wp_region_low (by kernel_rfl) (by kernel_rfl) ?_
      repeat (go_big_quiet_step ((first | (go_at_call 36; exact low_same (HO.out _)) | (go_at_call 37; exact low_below (HA.out _)))))
      refine wpQuiet_nil ?_
      rintro _ ⟨m, rfl⟩
      go_wp2
      go_ret
      exact ⟨by rw [HM.out]; rfl, HB.out.trans (m.b.mono hs1)⟩
    | true =>
      rw [hp] at HM ha
      have HA := hide ha
      have hme := me3
      have HP : Hid (∀ m : Lo w1, _) := hide fun m => plain3 m.v i u c n a5 a6 cs.length cap5 ns.length cap6
      have HL : Hid (∀ m : Lo w1, _) := hide fun m => lostImpl m.v 3 i u c n 3 i 0 0 0 a5 a6 a5 none cs.length cap5 ns.length cap6 cs.length cap5 0 0
      have HR : Hid (rOk 3 u c n cs.length ns.length = lostB u c n 0 0 0 cs.length ns.length cs.length 0) := hide rfl
      unfold msgV at HP HL
      clear ha
      go_wp2
      refine wp_region_low (by kernel_rfl) (by kernel_rfl) ?_
      repeat (go_big_quiet_step ((first | (go_at_call 36; exact low_same (HO.out _)) | (go_at_call 37; exact low_below (HA.out _)) | (go_at_call 100; exact low_below (HP.out _)) | (go_at_call 38; exact low_below (HL.out _)))))
      refine wpQuiet_nil ?_
      rintro _ ⟨m, rfl⟩
      go_wp2
      go_ret
      exact ⟨by rw [HM.out, HR.out]; rfl, HB.out.trans (m.b.mono hs1)⟩

set_option maxRecDepth 100000 in
set_option maxHeartbeats 4000000 in
theorem msgImpl4 (w : World) (i u c n : Int) (cv nv : Value) (cs : List (Int × Bool × Int)) (ns : List (Int × Int)) (hc : Rd w w.heap.size 3 cv cs.length (cs.flatMap cellC)) (hn : Rd w w.heap.size 2 nv ns.length (ns.flatMap noteC))
    (hmc : cs.length ≤ 1048576) (hmn : ns.length ≤ 1048576) :
    Calls Tryd.prog 9 #[msgV 4 i u c n cv nv] w fun e w' => e = .returned (.bool (mOk 4 i u c n cs ns)) ∧ Below w.heap.size w w' := by
  have HC := hide hc
  have HN := hide hn
  have HM : Hid (mOk 4 i u c n cs ns = (inB i 1 1000000 && pOk 4 u c n cs ns && rOk 4 u c n cs.length ns.length)) := hide rfl
  obtain ⟨a5, cap5, rfl, _⟩ := cells_at hc
  obtain ⟨a6, cap6, rfl, _⟩ := notes_at hn
  clear hc hn
  have HX := hide (Box.new w #[.int .i64 4, .int .i64 i, .int .i64 u, .int .i64 c, .int .i64 n, .slice a5 cs.length cap5, .slice a6 ns.length cap6] 27)
  have HB := hide ((Below.refl w.heap.size w).alloc (Nat.le_refl _) (.cells #[.int .i64 4, .int .i64 i, .int .i64 u, .int .i64 c, .int .i64 n, .slice a5 cs.length cap5, .slice a6 ns.length cap6] 27))
  have HO := hide (ownImpl (w.alloc (.cells #[.int .i64 4, .int .i64 i, .int .i64 u, .int .i64 c, .int .i64 n, .slice a5 cs.length cap5, .slice a6 ns.length cap6] 27)) 4 i u c n a5 a6 cs.length cap5 ns.length cap6)
  have eo : ownV 4 i u c n (Value.slice a5 cs.length cap5) (Value.slice a6 ns.length cap6) = .iface 91 (.agg #[.int .i64 i, .int .i64 n]) := rfl
  rw [eo] at HO
  unfold msgV at HO ⊢
  go_enter Tryd.func9, Tryd.ntmps9
  go_wp2_with fail
  refine (unhide HO).mono ?_
  rintro e w1 ⟨rfl, b1⟩
  replace HX := hide (HX.out.below (by simp) b1)
  replace HB := hide (HB.out.trans (b1.mono HB.out.size))
  clear b1 HO
  have hs1 := HB.out.size
  have q0 := fun m : Lo w1 => m.cell (HX.out 0 _ rfl)
  have q1 := fun m : Lo w1 => m.cell (HX.out 1 _ rfl)
  have q2 := fun m : Lo w1 => m.cell (HX.out 2 _ rfl)
  have q3 := fun m : Lo w1 => m.cell (HX.out 3 _ rfl)
  have q4 := fun m : Lo w1 => m.cell (HX.out 4 _ rfl)
  have q5 := fun m : Lo w1 => m.cell (HX.out 5 _ rfl)
  have q6 := fun m : Lo w1 => m.cell (HX.out 6 _ rfl)
  have ho := fun w => objImpl i w
  cases hi : inB i 1 1000000 with
  | false =>
    rw [hi] at HM ho
    have HO := hide ho
    clear ho
    go_wp2
    refine wp_region_low (by kernel_rfl) (by kernel_rfl) ?_
    repeat (go_big_quiet_step ((first | (go_at_call 36; exact low_same (HO.out _)))))
    refine wpQuiet_nil ?_
    rintro _ ⟨m, rfl⟩
    go_wp2
    go_ret
    exact ⟨by rw [HM.out]; rfl, HB.out.trans (m.b.mono hs1)⟩
  | true =>
    rw [hi] at HM ho
    have HO := hide ho
    clear ho
    have ha : ∀ m : Lo w1, Calls Tryd.prog 37 #[.iface 91 (.agg #[.int .i64 i, .int .i64 n])] m.v fun e w' => e = .returned (.bool (pOk 4 u c n cs ns)) ∧ Below m.v.heap.size m.v w' := fun m =>
      partsImpl m.v 4 i u c n _ _ cs ns ((HC.out.at HB.out).at m.b) ((HN.out.at HB.out).at m.b) hmc hmn
    cases hp : pOk 4 u c n cs ns with
    | false =>
      rw [hp] at HM ha
      have HA := hide ha
      clear ha
      go_wp2
      refine wp_region_low (by kernel_rfl) (by kernel_rfl) ?_
      repeat (go_big_quiet_step ((first | (go_at_call 36; exact low_same (HO.out _)) | (go_at_call 37; exact low_below (HA.out _)))))
      refine wpQuiet_nil ?_
      rintro _ ⟨m, rfl⟩
      go_wp2
      go_ret
      exact ⟨by rw [HM.out]; rfl, HB.out.trans (m.b.mono hs1)⟩
    | true =>
      rw [hp] at HM ha
      have HA := hide ha
      have hme := me4
      have HP : Hid (∀ m : Lo w1, _) := hide fun m => plain4 m.v i u c n a5 a6 cs.length cap5 ns.length cap6
      have HL : Hid (∀ m : Lo w1, _) := hide fun m => lostImpl m.v 4 i u c n 4 i 0 0 n a5 a6 none none cs.length cap5 ns.length cap6 0 0 0 0
      have HR : Hid (rOk 4 u c n cs.length ns.length = lostB u c n 0 0 n cs.length ns.length 0 0) := hide rfl
      unfold msgV at HP HL
      clear ha
      go_wp2
      refine wp_region_low (by kernel_rfl) (by kernel_rfl) ?_
      repeat (go_big_quiet_step ((first | (go_at_call 36; exact low_same (HO.out _)) | (go_at_call 37; exact low_below (HA.out _)) | (go_at_call 101; exact low_below (HP.out _)) | (go_at_call 38; exact low_below (HL.out _)))))
      refine wpQuiet_nil ?_
      rintro _ ⟨m, rfl⟩
      go_wp2
      go_ret
      exact ⟨by rw [HM.out, HR.out]; rfl, HB.out.trans (m.b.mono hs1)⟩

set_option maxRecDepth 100000 in
set_option maxHeartbeats 4000000 in
theorem msgImpl5 (w : World) (i u c n : Int) (cv nv : Value) (cs : List (Int × Bool × Int)) (ns : List (Int × Int)) (hc : Rd w w.heap.size 3 cv cs.length (cs.flatMap cellC)) (hn : Rd w w.heap.size 2 nv ns.length (ns.flatMap noteC))
    (hmc : cs.length ≤ 1048576) (hmn : ns.length ≤ 1048576) :
    Calls Tryd.prog 9 #[msgV 5 i u c n cv nv] w fun e w' => e = .returned (.bool (mOk 5 i u c n cs ns)) ∧ Below w.heap.size w w' := by
  have HC := hide hc
  have HN := hide hn
  have HM : Hid (mOk 5 i u c n cs ns = (inB i 1 1000000 && pOk 5 u c n cs ns && rOk 5 u c n cs.length ns.length)) := hide rfl
  obtain ⟨a5, cap5, rfl, _⟩ := cells_at hc
  obtain ⟨a6, cap6, rfl, _⟩ := notes_at hn
  clear hc hn
  have HX := hide (Box.new w #[.int .i64 5, .int .i64 i, .int .i64 u, .int .i64 c, .int .i64 n, .slice a5 cs.length cap5, .slice a6 ns.length cap6] 27)
  have HB := hide ((Below.refl w.heap.size w).alloc (Nat.le_refl _) (.cells #[.int .i64 5, .int .i64 i, .int .i64 u, .int .i64 c, .int .i64 n, .slice a5 cs.length cap5, .slice a6 ns.length cap6] 27))
  have HO := hide (ownImpl (w.alloc (.cells #[.int .i64 5, .int .i64 i, .int .i64 u, .int .i64 c, .int .i64 n, .slice a5 cs.length cap5, .slice a6 ns.length cap6] 27)) 5 i u c n a5 a6 cs.length cap5 ns.length cap6)
  have eo : ownV 5 i u c n (Value.slice a5 cs.length cap5) (Value.slice a6 ns.length cap6) = .iface 93 (.agg #[.int .i64 i, .int .i64 u]) := rfl
  rw [eo] at HO
  unfold msgV at HO ⊢
  go_enter Tryd.func9, Tryd.ntmps9
  go_wp2_with fail
  refine (unhide HO).mono ?_
  rintro e w1 ⟨rfl, b1⟩
  replace HX := hide (HX.out.below (by simp) b1)
  replace HB := hide (HB.out.trans (b1.mono HB.out.size))
  clear b1 HO
  have hs1 := HB.out.size
  have q0 := fun m : Lo w1 => m.cell (HX.out 0 _ rfl)
  have q1 := fun m : Lo w1 => m.cell (HX.out 1 _ rfl)
  have q2 := fun m : Lo w1 => m.cell (HX.out 2 _ rfl)
  have q3 := fun m : Lo w1 => m.cell (HX.out 3 _ rfl)
  have q4 := fun m : Lo w1 => m.cell (HX.out 4 _ rfl)
  have q5 := fun m : Lo w1 => m.cell (HX.out 5 _ rfl)
  have q6 := fun m : Lo w1 => m.cell (HX.out 6 _ rfl)
  have ho := fun w => objImpl i w
  cases hi : inB i 1 1000000 with
  | false =>
    rw [hi] at HM ho
    have HO := hide ho
    clear ho
    go_wp2
    refine wp_region_low (by kernel_rfl) (by kernel_rfl) ?_
    repeat (go_big_quiet_step ((first | (go_at_call 36; exact low_same (HO.out _)))))
    refine wpQuiet_nil ?_
    rintro _ ⟨m, rfl⟩
    go_wp2
    go_ret
    exact ⟨by rw [HM.out]; rfl, HB.out.trans (m.b.mono hs1)⟩
  | true =>
    rw [hi] at HM ho
    have HO := hide ho
    clear ho
    have ha : ∀ m : Lo w1, Calls Tryd.prog 37 #[.iface 93 (.agg #[.int .i64 i, .int .i64 u])] m.v fun e w' => e = .returned (.bool (pOk 5 u c n cs ns)) ∧ Below m.v.heap.size m.v w' := fun m =>
      partsImpl m.v 5 i u c n _ _ cs ns ((HC.out.at HB.out).at m.b) ((HN.out.at HB.out).at m.b) hmc hmn
    cases hp : pOk 5 u c n cs ns with
    | false =>
      rw [hp] at HM ha
      have HA := hide ha
      clear ha
      go_wp2
      refine wp_region_low (by kernel_rfl) (by kernel_rfl) ?_
      repeat (go_big_quiet_step ((first | (go_at_call 36; exact low_same (HO.out _)) | (go_at_call 37; exact low_below (HA.out _)))))
      refine wpQuiet_nil ?_
      rintro _ ⟨m, rfl⟩
      go_wp2
      go_ret
      exact ⟨by rw [HM.out]; rfl, HB.out.trans (m.b.mono hs1)⟩
    | true =>
      rw [hp] at HM ha
      have HA := hide ha
      have hme := me5
      have HP : Hid (∀ m : Lo w1, _) := hide fun m => plain5 m.v i u c n a5 a6 cs.length cap5 ns.length cap6
      have HL : Hid (∀ m : Lo w1, _) := hide fun m => lostImpl m.v 5 i u c n 5 i u 0 0 a5 a6 none none cs.length cap5 ns.length cap6 0 0 0 0
      have HR : Hid (rOk 5 u c n cs.length ns.length = lostB u c n u 0 0 cs.length ns.length 0 0) := hide rfl
      unfold msgV at HP HL
      clear ha
      go_wp2
      refine wp_region_low (by kernel_rfl) (by kernel_rfl) ?_
      repeat (go_big_quiet_step ((first | (go_at_call 36; exact low_same (HO.out _)) | (go_at_call 37; exact low_below (HA.out _)) | (go_at_call 102; exact low_below (HP.out _)) | (go_at_call 38; exact low_below (HL.out _)))))
      refine wpQuiet_nil ?_
      rintro _ ⟨m, rfl⟩
      go_wp2
      go_ret
      exact ⟨by rw [HM.out, HR.out]; rfl, HB.out.trans (m.b.mono hs1)⟩

set_option maxRecDepth 100000 in
set_option maxHeartbeats 4000000 in
theorem msgImpl6 (w : World) (i u c n : Int) (cv nv : Value) (cs : List (Int × Bool × Int)) (ns : List (Int × Int)) (hc : Rd w w.heap.size 3 cv cs.length (cs.flatMap cellC)) (hn : Rd w w.heap.size 2 nv ns.length (ns.flatMap noteC))
    (hmc : cs.length ≤ 1048576) (hmn : ns.length ≤ 1048576) :
    Calls Tryd.prog 9 #[msgV 6 i u c n cv nv] w fun e w' => e = .returned (.bool (mOk 6 i u c n cs ns)) ∧ Below w.heap.size w w' := by
  have HC := hide hc
  have HN := hide hn
  have HM : Hid (mOk 6 i u c n cs ns = (inB i 1 1000000 && pOk 6 u c n cs ns && rOk 6 u c n cs.length ns.length)) := hide rfl
  obtain ⟨a5, cap5, rfl, _⟩ := cells_at hc
  obtain ⟨a6, cap6, rfl, _⟩ := notes_at hn
  clear hc hn
  have HX := hide (Box.new w #[.int .i64 6, .int .i64 i, .int .i64 u, .int .i64 c, .int .i64 n, .slice a5 cs.length cap5, .slice a6 ns.length cap6] 27)
  have HB := hide ((Below.refl w.heap.size w).alloc (Nat.le_refl _) (.cells #[.int .i64 6, .int .i64 i, .int .i64 u, .int .i64 c, .int .i64 n, .slice a5 cs.length cap5, .slice a6 ns.length cap6] 27))
  have HO := hide (ownImpl (w.alloc (.cells #[.int .i64 6, .int .i64 i, .int .i64 u, .int .i64 c, .int .i64 n, .slice a5 cs.length cap5, .slice a6 ns.length cap6] 27)) 6 i u c n a5 a6 cs.length cap5 ns.length cap6)
  have eo : ownV 6 i u c n (Value.slice a5 cs.length cap5) (Value.slice a6 ns.length cap6) = .iface 95 (.agg #[.int .i64 i, .int .i64 u, .slice a6 ns.length cap6]) := rfl
  rw [eo] at HO
  unfold msgV at HO ⊢
  go_enter Tryd.func9, Tryd.ntmps9
  go_wp2_with fail
  refine (unhide HO).mono ?_
  rintro e w1 ⟨rfl, b1⟩
  replace HX := hide (HX.out.below (by simp) b1)
  replace HB := hide (HB.out.trans (b1.mono HB.out.size))
  clear b1 HO
  have hs1 := HB.out.size
  have q0 := fun m : Lo w1 => m.cell (HX.out 0 _ rfl)
  have q1 := fun m : Lo w1 => m.cell (HX.out 1 _ rfl)
  have q2 := fun m : Lo w1 => m.cell (HX.out 2 _ rfl)
  have q3 := fun m : Lo w1 => m.cell (HX.out 3 _ rfl)
  have q4 := fun m : Lo w1 => m.cell (HX.out 4 _ rfl)
  have q5 := fun m : Lo w1 => m.cell (HX.out 5 _ rfl)
  have q6 := fun m : Lo w1 => m.cell (HX.out 6 _ rfl)
  have ho := fun w => objImpl i w
  cases hi : inB i 1 1000000 with
  | false =>
    rw [hi] at HM ho
    have HO := hide ho
    clear ho
    go_wp2
    refine wp_region_low (by kernel_rfl) (by kernel_rfl) ?_
    repeat (go_big_quiet_step ((first | (go_at_call 36; exact low_same (HO.out _)))))
    refine wpQuiet_nil ?_
    rintro _ ⟨m, rfl⟩
    go_wp2
    go_ret
    exact ⟨by rw [HM.out]; rfl, HB.out.trans (m.b.mono hs1)⟩
  | true =>
    rw [hi] at HM ho
    have HO := hide ho
    clear ho
    have ha : ∀ m : Lo w1, Calls Tryd.prog 37 #[.iface 95 (.agg #[.int .i64 i, .int .i64 u, .slice a6 ns.length cap6])] m.v fun e w' => e = .returned (.bool (pOk 6 u c n cs ns)) ∧ Below m.v.heap.size m.v w' := fun m =>
      partsImpl m.v 6 i u c n _ _ cs ns ((HC.out.at HB.out).at m.b) ((HN.out.at HB.out).at m.b) hmc hmn
    cases hp : pOk 6 u c n cs ns with
    | false =>
      rw [hp] at HM ha
      have HA := hide ha
      clear ha
      go_wp2
      refine wp_region_low (by kernel_rfl) (by kernel_rfl) ?_
      repeat (go_big_quiet_step ((first | (go_at_call 36; exact low_same (HO.out _)) | (go_at_call 37; exact low_below (HA.out _)))))
      refine wpQuiet_nil ?_
      rintro _ ⟨m, rfl⟩
      go_wp2
      go_ret
      exact ⟨by rw [HM.out]; rfl, HB.out.trans (m.b.mono hs1)⟩
    | true =>
      rw [hp] at HM ha
      have HA := hide ha
      have hme := me6
      have HP : Hid (∀ m : Lo w1, _) := hide fun m => plain6 m.v i u c n a5 a6 cs.length cap5 ns.length cap6
      have HL : Hid (∀ m : Lo w1, _) := hide fun m => lostImpl m.v 6 i u c n 6 i u 0 0 a5 a6 none a6 cs.length cap5 ns.length cap6 0 0 ns.length cap6
      have HR : Hid (rOk 6 u c n cs.length ns.length = lostB u c n u 0 0 cs.length ns.length 0 ns.length) := hide rfl
      unfold msgV at HP HL
      clear ha
      go_wp2
      refine wp_region_low (by kernel_rfl) (by kernel_rfl) ?_
      repeat (go_big_quiet_step ((first | (go_at_call 36; exact low_same (HO.out _)) | (go_at_call 37; exact low_below (HA.out _)) | (go_at_call 103; exact low_below (HP.out _)) | (go_at_call 38; exact low_below (HL.out _)))))
      refine wpQuiet_nil ?_
      rintro _ ⟨m, rfl⟩
      go_wp2
      go_ret
      exact ⟨by rw [HM.out, HR.out]; rfl, HB.out.trans (m.b.mono hs1)⟩

set_option maxRecDepth 100000 in
set_option maxHeartbeats 4000000 in
theorem msgImpl7 (w : World) (i u c n : Int) (cv nv : Value) (cs : List (Int × Bool × Int)) (ns : List (Int × Int)) (hc : Rd w w.heap.size 3 cv cs.length (cs.flatMap cellC)) (hn : Rd w w.heap.size 2 nv ns.length (ns.flatMap noteC))
    (hmc : cs.length ≤ 1048576) (hmn : ns.length ≤ 1048576) :
    Calls Tryd.prog 9 #[msgV 7 i u c n cv nv] w fun e w' => e = .returned (.bool (mOk 7 i u c n cs ns)) ∧ Below w.heap.size w w' := by
  have HC := hide hc
  have HN := hide hn
  have HM : Hid (mOk 7 i u c n cs ns = (inB i 1 1000000 && pOk 7 u c n cs ns && rOk 7 u c n cs.length ns.length)) := hide rfl
  obtain ⟨a5, cap5, rfl, _⟩ := cells_at hc
  obtain ⟨a6, cap6, rfl, _⟩ := notes_at hn
  clear hc hn
  have HX := hide (Box.new w #[.int .i64 7, .int .i64 i, .int .i64 u, .int .i64 c, .int .i64 n, .slice a5 cs.length cap5, .slice a6 ns.length cap6] 27)
  have HB := hide ((Below.refl w.heap.size w).alloc (Nat.le_refl _) (.cells #[.int .i64 7, .int .i64 i, .int .i64 u, .int .i64 c, .int .i64 n, .slice a5 cs.length cap5, .slice a6 ns.length cap6] 27))
  have HO := hide (ownImpl (w.alloc (.cells #[.int .i64 7, .int .i64 i, .int .i64 u, .int .i64 c, .int .i64 n, .slice a5 cs.length cap5, .slice a6 ns.length cap6] 27)) 7 i u c n a5 a6 cs.length cap5 ns.length cap6)
  have eo : ownV 7 i u c n (Value.slice a5 cs.length cap5) (Value.slice a6 ns.length cap6) = .iface 96 (.agg #[.int .i64 i, .int .i64 u, .slice a6 ns.length cap6]) := rfl
  rw [eo] at HO
  unfold msgV at HO ⊢
  go_enter Tryd.func9, Tryd.ntmps9
  go_wp2_with fail
  refine (unhide HO).mono ?_
  rintro e w1 ⟨rfl, b1⟩
  replace HX := hide (HX.out.below (by simp) b1)
  replace HB := hide (HB.out.trans (b1.mono HB.out.size))
  clear b1 HO
  have hs1 := HB.out.size
  have q0 := fun m : Lo w1 => m.cell (HX.out 0 _ rfl)
  have q1 := fun m : Lo w1 => m.cell (HX.out 1 _ rfl)
  have q2 := fun m : Lo w1 => m.cell (HX.out 2 _ rfl)
  have q3 := fun m : Lo w1 => m.cell (HX.out 3 _ rfl)
  have q4 := fun m : Lo w1 => m.cell (HX.out 4 _ rfl)
  have q5 := fun m : Lo w1 => m.cell (HX.out 5 _ rfl)
  have q6 := fun m : Lo w1 => m.cell (HX.out 6 _ rfl)
  have ho := fun w => objImpl i w
  cases hi : inB i 1 1000000 with
  | false =>
    rw [hi] at HM ho
    have HO := hide ho
    clear ho
    go_wp2
    refine wp_region_low (by kernel_rfl) (by kernel_rfl) ?_
    repeat (go_big_quiet_step ((first | (go_at_call 36; exact low_same (HO.out _)))))
    refine wpQuiet_nil ?_
    rintro _ ⟨m, rfl⟩
    go_wp2
    go_ret
    exact ⟨by rw [HM.out]; rfl, HB.out.trans (m.b.mono hs1)⟩
  | true =>
    rw [hi] at HM ho
    have HO := hide ho
    clear ho
    have ha : ∀ m : Lo w1, Calls Tryd.prog 37 #[.iface 96 (.agg #[.int .i64 i, .int .i64 u, .slice a6 ns.length cap6])] m.v fun e w' => e = .returned (.bool (pOk 7 u c n cs ns)) ∧ Below m.v.heap.size m.v w' := fun m =>
      partsImpl m.v 7 i u c n _ _ cs ns ((HC.out.at HB.out).at m.b) ((HN.out.at HB.out).at m.b) hmc hmn
    cases hp : pOk 7 u c n cs ns with
    | false =>
      rw [hp] at HM ha
      have HA := hide ha
      clear ha
      go_wp2
      refine wp_region_low (by kernel_rfl) (by kernel_rfl) ?_
      repeat (go_big_quiet_step ((first | (go_at_call 36; exact low_same (HO.out _)) | (go_at_call 37; exact low_below (HA.out _)))))
      refine wpQuiet_nil ?_
      rintro _ ⟨m, rfl⟩
      go_wp2
      go_ret
      exact ⟨by rw [HM.out]; rfl, HB.out.trans (m.b.mono hs1)⟩
    | true =>
      rw [hp] at HM ha
      have HA := hide ha
      have hme := me7
      have HP : Hid (∀ m : Lo w1, _) := hide fun m => plain7 m.v i u c n a5 a6 cs.length cap5 ns.length cap6
      have HL : Hid (∀ m : Lo w1, _) := hide fun m => lostImpl m.v 7 i u c n 7 i u 0 0 a5 a6 none a6 cs.length cap5 ns.length cap6 0 0 ns.length cap6
      have HR : Hid (rOk 7 u c n cs.length ns.length = lostB u c n u 0 0 cs.length ns.length 0 ns.length) := hide rfl
      unfold msgV at HP HL
      clear ha
      go_wp2
      refine wp_region_low (by kernel_rfl) (by kernel_rfl) ?_
      repeat (go_big_quiet_step ((first | (go_at_call 36; exact low_same (HO.out _)) | (go_at_call 37; exact low_below (HA.out _)) | (go_at_call 104; exact low_below (HP.out _)) | (go_at_call 38; exact low_below (HL.out _)))))
      refine wpQuiet_nil ?_
      rintro _ ⟨m, rfl⟩
      go_wp2
      go_ret
      exact ⟨by rw [HM.out, HR.out]; rfl, HB.out.trans (m.b.mono hs1)⟩

set_option maxRecDepth 100000 in
set_option maxHeartbeats 4000000 in
theorem msgImpl8 (w : World) (i u c n : Int) (cv nv : Value) (cs : List (Int × Bool × Int)) (ns : List (Int × Int)) (hc : Rd w w.heap.size 3 cv cs.length (cs.flatMap cellC)) (hn : Rd w w.heap.size 2 nv ns.length (ns.flatMap noteC))
    (hmc : cs.length ≤ 1048576) (hmn : ns.length ≤ 1048576) :
    Calls Tryd.prog 9 #[msgV 8 i u c n cv nv] w fun e w' => e = .returned (.bool (mOk 8 i u c n cs ns)) ∧ Below w.heap.size w w' := by
  have HC := hide hc
  have HN := hide hn
  have HM : Hid (mOk 8 i u c n cs ns = (inB i 1 1000000 && pOk 8 u c n cs ns && rOk 8 u c n cs.length ns.length)) := hide rfl
  obtain ⟨a5, cap5, rfl, _⟩ := cells_at hc
  obtain ⟨a6, cap6, rfl, _⟩ := notes_at hn
  clear hc hn
  have HX := hide (Box.new w #[.int .i64 8, .int .i64 i, .int .i64 u, .int .i64 c, .int .i64 n, .slice a5 cs.length cap5, .slice a6 ns.length cap6] 27)
  have HB := hide ((Below.refl w.heap.size w).alloc (Nat.le_refl _) (.cells #[.int .i64 8, .int .i64 i, .int .i64 u, .int .i64 c, .int .i64 n, .slice a5 cs.length cap5, .slice a6 ns.length cap6] 27))
  have HO := hide (ownImpl (w.alloc (.cells #[.int .i64 8, .int .i64 i, .int .i64 u, .int .i64 c, .int .i64 n, .slice a5 cs.length cap5, .slice a6 ns.length cap6] 27)) 8 i u c n a5 a6 cs.length cap5 ns.length cap6)
  have eo : ownV 8 i u c n (Value.slice a5 cs.length cap5) (Value.slice a6 ns.length cap6) = .iface 97 (.agg #[.int .i64 i, .int .i64 u, .slice a6 ns.length cap6]) := rfl
  rw [eo] at HO
  unfold msgV at HO ⊢
  go_enter Tryd.func9, Tryd.ntmps9
  go_wp2_with fail
  refine (unhide HO).mono ?_
  rintro e w1 ⟨rfl, b1⟩
  replace HX := hide (HX.out.below (by simp) b1)
  replace HB := hide (HB.out.trans (b1.mono HB.out.size))
  clear b1 HO
  have hs1 := HB.out.size
  have q0 := fun m : Lo w1 => m.cell (HX.out 0 _ rfl)
  have q1 := fun m : Lo w1 => m.cell (HX.out 1 _ rfl)
  have q2 := fun m : Lo w1 => m.cell (HX.out 2 _ rfl)
  have q3 := fun m : Lo w1 => m.cell (HX.out 3 _ rfl)
  have q4 := fun m : Lo w1 => m.cell (HX.out 4 _ rfl)
  have q5 := fun m : Lo w1 => m.cell (HX.out 5 _ rfl)
  have q6 := fun m : Lo w1 => m.cell (HX.out 6 _ rfl)
  have ho := fun w => objImpl i w
  cases hi : inB i 1 1000000 with
  | false =>
    rw [hi] at HM ho
    have HO := hide ho
    clear ho
    go_wp2
    refine wp_region_low (by kernel_rfl) (by kernel_rfl) ?_
    repeat (go_big_quiet_step ((first | (go_at_call 36; exact low_same (HO.out _)))))
    refine wpQuiet_nil ?_
    rintro _ ⟨m, rfl⟩
    go_wp2
    go_ret
    exact ⟨by rw [HM.out]; rfl, HB.out.trans (m.b.mono hs1)⟩
  | true =>
    rw [hi] at HM ho
    have HO := hide ho
    clear ho
    have ha : ∀ m : Lo w1, Calls Tryd.prog 37 #[.iface 97 (.agg #[.int .i64 i, .int .i64 u, .slice a6 ns.length cap6])] m.v fun e w' => e = .returned (.bool (pOk 8 u c n cs ns)) ∧ Below m.v.heap.size m.v w' := fun m =>
      partsImpl m.v 8 i u c n _ _ cs ns ((HC.out.at HB.out).at m.b) ((HN.out.at HB.out).at m.b) hmc hmn
    cases hp : pOk 8 u c n cs ns with
    | false =>
      rw [hp] at HM ha
      have HA := hide ha
      clear ha
      go_wp2
      refine wp_region_low (by kernel_rfl) (by kernel_rfl) ?_
      repeat (go_big_quiet_step ((first | (go_at_call 36; exact low_same (HO.out _)) | (go_at_call 37; exact low_below (HA.out _)))))
      refine wpQuiet_nil ?_
      rintro _ ⟨m, rfl⟩
      go_wp2
      go_ret
      exact ⟨by rw [HM.out]; rfl, HB.out.trans (m.b.mono hs1)⟩
    | true =>
      rw [hp] at HM ha
      have HA := hide ha
      have hme := me8
      have HP : Hid (∀ m : Lo w1, _) := hide fun m => plain8 m.v i u c n a5 a6 cs.length cap5 ns.length cap6
      have HL : Hid (∀ m : Lo w1, _) := hide fun m => lostImpl m.v 8 i u c n 8 i u 0 0 a5 a6 none a6 cs.length cap5 ns.length cap6 0 0 ns.length cap6
      have HR : Hid (rOk 8 u c n cs.length ns.length = lostB u c n u 0 0 cs.length ns.length 0 ns.length) := hide rfl
      unfold msgV at HP HL
      clear ha
      go_wp2
      refine wp_region_low (by kernel_rfl) (by kernel_rfl) ?_
      repeat (go_big_quiet_step ((first | (go_at_call 36; exact low_same (HO.out _)) | (go_at_call 37; exact low_below (HA.out _)) | (go_at_call 105; exact low_below (HP.out _)) | (go_at_call 38; exact low_below (HL.out _)))))
      refine wpQuiet_nil ?_
      rintro _ ⟨m, rfl⟩
      go_wp2
      go_ret
      exact ⟨by rw [HM.out, HR.out]; rfl, HB.out.trans (m.b.mono hs1)⟩

set_option maxRecDepth 100000 in
set_option maxHeartbeats 4000000 in
theorem msgImpl9 (w : World) (i u c n : Int) (cv nv : Value) (cs : List (Int × Bool × Int)) (ns : List (Int × Int)) (hc : Rd w w.heap.size 3 cv cs.length (cs.flatMap cellC)) (hn : Rd w w.heap.size 2 nv ns.length (ns.flatMap noteC))
    (hmc : cs.length ≤ 1048576) (hmn : ns.length ≤ 1048576) :
    Calls Tryd.prog 9 #[msgV 9 i u c n cv nv] w fun e w' => e = .returned (.bool (mOk 9 i u c n cs ns)) ∧ Below w.heap.size w w' := by
  have HC := hide hc
  have HN := hide hn
  have HM : Hid (mOk 9 i u c n cs ns = (inB i 1 1000000 && pOk 9 u c n cs ns && rOk 9 u c n cs.length ns.length)) := hide rfl
  obtain ⟨a5, cap5, rfl, _⟩ := cells_at hc
  obtain ⟨a6, cap6, rfl, _⟩ := notes_at hn
  clear hc hn
  have HX := hide (Box.new w #[.int .i64 9, .int .i64 i, .int .i64 u, .int .i64 c, .int .i64 n, .slice a5 cs.length cap5, .slice a6 ns.length cap6] 27)
  have HB := hide ((Below.refl w.heap.size w).alloc (Nat.le_refl _) (.cells #[.int .i64 9, .int .i64 i, .int .i64 u, .int .i64 c, .int .i64 n, .slice a5 cs.length cap5, .slice a6 ns.length cap6] 27))
  have HO := hide (ownImpl (w.alloc (.cells #[.int .i64 9, .int .i64 i, .int .i64 u, .int .i64 c, .int .i64 n, .slice a5 cs.length cap5, .slice a6 ns.length cap6] 27)) 9 i u c n a5 a6 cs.length cap5 ns.length cap6)
  have eo : ownV 9 i u c n (Value.slice a5 cs.length cap5) (Value.slice a6 ns.length cap6) = .iface 98 (.agg #[.int .i64 i, .int .i64 u]) := rfl
  rw [eo] at HO
  unfold msgV at HO ⊢
  go_enter Tryd.func9, Tryd.ntmps9
  go_wp2_with fail
  refine (unhide HO).mono ?_
  rintro e w1 ⟨rfl, b1⟩
  replace HX := hide (HX.out.below (by simp) b1)
  replace HB := hide (HB.out.trans (b1.mono HB.out.size))
  clear b1 HO
  have hs1 := HB.out.size
  have q0 := fun m : Lo w1 => m.cell (HX.out 0 _ rfl)
  have q1 := fun m : Lo w1 => m.cell (HX.out 1 _ rfl)
  have q2 := fun m : Lo w1 => m.cell (HX.out 2 _ rfl)
  have q3 := fun m : Lo w1 => m.cell (HX.out 3 _ rfl)
  have q4 := fun m : Lo w1 => m.cell (HX.out 4 _ rfl)
  have q5 := fun m : Lo w1 => m.cell (HX.out 5 _ rfl)
  have q6 := fun m : Lo w1 => m.cell (HX.out 6 _ rfl)
  have ho := fun w => objImpl i w
  cases hi : inB i 1 1000000 with
  | false =>
    rw [hi] at HM ho
    have HO := hide ho
    clear ho
    go_wp2
    refine wp_region_low (by kernel_rfl) (by kernel_rfl) ?_
    repeat (go_big_quiet_step ((first | (go_at_call 36; exact low_same (HO.out _)))))
    refine wpQuiet_nil ?_
    rintro _ ⟨m, rfl⟩
    go_wp2
    go_ret
    exact ⟨by rw [HM.out]; rfl, HB.out.trans (m.b.mono hs1)⟩
  | true =>
    rw [hi] at HM ho
    have HO := hide ho
    clear ho
    have ha : ∀ m : Lo w1, Calls Tryd.prog 37 #[.iface 98 (.agg #[.int .i64 i, .int .i64 u])] m.v fun e w' => e = .returned (.bool (pOk 9 u c n cs ns)) ∧ Below m.v.heap.size m.v w' := fun m =>
      partsImpl m.v 9 i u c n _ _ cs ns ((HC.out.at HB.out).at m.b) ((HN.out.at HB.out).at m.b) hmc hmn
    cases hp : pOk 9 u c n cs ns with
    | false =>
      rw [hp] at HM ha
      have HA := hide ha
      clear ha
      go_wp2
      refine wp_region_low (by kernel_rfl) (by kernel_rfl) ?_
      repeat (go_big_quiet_step ((first | (go_at_call 36; exact low_same (HO.out _)) | (go_at_call 37; exact low_below (HA.out _)))))
      refine wpQuiet_nil ?_
      rintro _ ⟨m, rfl⟩
      go_wp2
      go_ret
      exact ⟨by rw [HM.out]; rfl, HB.out.trans (m.b.mono hs1)⟩
    | true =>
      rw [hp] at HM ha
      have HA := hide ha
      have hme := me9
      have HP : Hid (∀ m : Lo w1, _) := hide fun m => plain9 m.v i u c n a5 a6 cs.length cap5 ns.length cap6
      have HL : Hid (∀ m : Lo w1, _) := hide fun m => lostImpl m.v 9 i u c n 9 i u 0 0 a5 a6 none none cs.length cap5 ns.length cap6 0 0 0 0
      have HR : Hid (rOk 9 u c n cs.length ns.length = lostB u c n u 0 0 cs.length ns.length 0 0) := hide rfl
      unfold msgV at HP HL
      clear ha
      go_wp2
      refine wp_region_low (by kernel_rfl) (by kernel_rfl) ?_
      repeat (go_big_quiet_step ((first | (go_at_call 36; exact low_same (HO.out _)) | (go_at_call 37; exact low_below (HA.out _)) | (go_at_call 106; exact low_below (HP.out _)) | (go_at_call 38; exact low_below (HL.out _)))))
      refine wpQuiet_nil ?_
      rintro _ ⟨m, rfl⟩
      go_wp2
      go_ret
      exact ⟨by rw [HM.out, HR.out]; rfl, HB.out.trans (m.b.mono hs1)⟩

set_option maxRecDepth 100000 in
set_option maxHeartbeats 4000000 in
theorem msgImpl10 (w : World) (i u c n : Int) (cv nv : Value) (cs : List (Int × Bool × Int)) (ns : List (Int × Int)) (hc : Rd w w.heap.size 3 cv cs.length (cs.flatMap cellC)) (hn : Rd w w.heap.size 2 nv ns.length (ns.flatMap noteC))
    (hmc : cs.length ≤ 1048576) (hmn : ns.length ≤ 1048576) :
    Calls Tryd.prog 9 #[msgV 10 i u c n cv nv] w fun e w' => e = .returned (.bool (mOk 10 i u c n cs ns)) ∧ Below w.heap.size w w' := by
  have HC := hide hc
  have HN := hide hn
  have HM : Hid (mOk 10 i u c n cs ns = (inB i 1 1000000 && pOk 10 u c n cs ns && rOk 10 u c n cs.length ns.length)) := hide rfl
  obtain ⟨a5, cap5, rfl, _⟩ := cells_at hc
  obtain ⟨a6, cap6, rfl, _⟩ := notes_at hn
  clear hc hn
  have HX := hide (Box.new w #[.int .i64 10, .int .i64 i, .int .i64 u, .int .i64 c, .int .i64 n, .slice a5 cs.length cap5, .slice a6 ns.length cap6] 27)
  have HB := hide ((Below.refl w.heap.size w).alloc (Nat.le_refl _) (.cells #[.int .i64 10, .int .i64 i, .int .i64 u, .int .i64 c, .int .i64 n, .slice a5 cs.length cap5, .slice a6 ns.length cap6] 27))
  have HO := hide (ownImpl (w.alloc (.cells #[.int .i64 10, .int .i64 i, .int .i64 u, .int .i64 c, .int .i64 n, .slice a5 cs.length cap5, .slice a6 ns.length cap6] 27)) 10 i u c n a5 a6 cs.length cap5 ns.length cap6)
  have eo : ownV 10 i u c n (Value.slice a5 cs.length cap5) (Value.slice a6 ns.length cap6) = .iface 99 (.agg #[.int .i64 i, .int .i64 u, .slice a6 ns.length cap6]) := rfl
  rw [eo] at HO
  unfold msgV at HO ⊢
  go_enter Tryd.func9, Tryd.ntmps9
  go_wp2_with fail
  refine (unhide HO).mono ?_
  rintro e w1 ⟨rfl, b1⟩
  replace HX := hide (HX.out.below (by simp) b1)
  replace HB := hide (HB.out.trans (b1.mono HB.out.size))
  clear b1 HO
  have hs1 := HB.out.size
  have q0 := fun m : Lo w1 => m.cell (HX.out 0 _ rfl)
  have q1 := fun m : Lo w1 => m.cell (HX.out 1 _ rfl)
  have q2 := fun m : Lo w1 => m.cell (HX.out 2 _ rfl)
  have q3 := fun m : Lo w1 => m.cell (HX.out 3 _ rfl)
  have q4 := fun m : Lo w1 => m.cell (HX.out 4 _ rfl)
  have q5 := fun m : Lo w1 => m.cell (HX.out 5 _ rfl)
  have q6 := fun m : Lo w1 => m.cell (HX.out 6 _ rfl)
  have ho := fun w => objImpl i w
  cases hi : inB i 1 1000000 with
  | false =>
    rw [hi] at HM ho
    have HO := hide ho
    clear ho
    go_wp2
    refine wp_region_low (by kernel_rfl) (by kernel_rfl) ?_
    repeat (go_big_quiet_step ((first | (go_at_call 36; exact low_same (HO.out _)))))
    refine wpQuiet_nil ?_
    rintro _ ⟨m, rfl⟩
    go_wp2
    go_ret
    exact ⟨by rw [HM.out]; rfl, HB.out.trans (m.b.mono hs1)⟩
  | true =>
    rw [hi] at HM ho
    have HO := hide ho
    clear ho
    have ha : ∀ m : Lo w1, Calls Tryd.prog 37 #[.iface 99 (.agg #[.int .i64 i, .int .i64 u, .slice a6 ns.length cap6])] m.v fun e w' => e = .returned (.bool (pOk 10 u c n cs ns)) ∧ Below m.v.heap.size m.v w' := fun m =>
      partsImpl m.v 10 i u c n _ _ cs ns ((HC.out.at HB.out).at m.b) ((HN.out.at HB.out).at m.b) hmc hmn
    cases hp : pOk 10 u c n cs ns with
    | false =>
      rw [hp] at HM ha
      have HA := hide ha
      clear ha
      go_wp2
      refine wp_region_low (by kernel_rfl) (by kernel_rfl) ?_
      repeat (go_big_quiet_step ((first | (go_at_call 36; exact low_same (HO.out _)) | (go_at_call 37; exact low_below (HA.out _)))))
      refine wpQuiet_nil ?_
      rintro _ ⟨m, rfl⟩
      go_wp2
      go_ret
      exact ⟨by rw [HM.out]; rfl, HB.out.trans (m.b.mono hs1)⟩
    | true =>
      rw [hp] at HM ha
      have HA := hide ha
      have hme := me10
      have HP : Hid (∀ m : Lo w1, _) := hide fun m => plain10 m.v i u c n a5 a6 cs.length cap5 ns.length cap6
      have HL : Hid (∀ m : Lo w1, _) := hide fun m => lostImpl m.v 10 i u c n 10 i u 0 0 a5 a6 none a6 cs.length cap5 ns.length cap6 0 0 ns.length cap6
      have HR : Hid (rOk 10 u c n cs.length ns.length = lostB u c n u 0 0 cs.length ns.length 0 ns.length) := hide rfl
      unfold msgV at HP HL
      clear ha
      go_wp2
      refine wp_region_low (by kernel_rfl) (by kernel_rfl) ?_
      repeat (go_big_quiet_step ((first | (go_at_call 36; exact low_same (HO.out _)) | (go_at_call 37; exact low_below (HA.out _)) | (go_at_call 107; exact low_below (HP.out _)) | (go_at_call 38; exact low_below (HL.out _)))))
      refine wpQuiet_nil ?_
      rintro _ ⟨m, rfl⟩
      go_wp2
      go_ret
      exact ⟨by rw [HM.out, HR.out]; rfl, HB.out.trans (m.b.mono hs1)⟩

set_option maxRecDepth 100000 in
set_option maxHeartbeats 4000000 in
theorem msgImpl0 (w : World) (k i u c n : Int) (hk : k < 1 ∨ 10 < k) (cv nv : Value) (cs : List (Int × Bool × Int)) (ns : List (Int × Int)) (hc : Rd w w.heap.size 3 cv cs.length (cs.flatMap cellC)) (hn : Rd w w.heap.size 2 nv ns.length (ns.flatMap noteC))
    (hmc : cs.length ≤ 1048576) (hmn : ns.length ≤ 1048576) :
    Calls Tryd.prog 9 #[msgV k i u c n cv nv] w fun e w' => e = .returned (.bool (mOk k i u c n cs ns)) ∧ Below w.heap.size w w' := by
  have HC := hide hc
  have HN := hide hn
  have HM : Hid (mOk k i u c n cs ns = (inB i 1 1000000 && pOk k u c n cs ns && rOk k u c n cs.length ns.length)) := hide rfl
  obtain ⟨a5, cap5, rfl, _⟩ := cells_at hc
  obtain ⟨a6, cap6, rfl, _⟩ := notes_at hn
  clear hc hn
  have HX := hide (Box.new w #[.int .i64 k, .int .i64 i, .int .i64 u, .int .i64 c, .int .i64 n, .slice a5 cs.length cap5, .slice a6 ns.length cap6] 27)
  have HB := hide ((Below.refl w.heap.size w).alloc (Nat.le_refl _) (.cells #[.int .i64 k, .int .i64 i, .int .i64 u, .int .i64 c, .int .i64 n, .slice a5 cs.length cap5, .slice a6 ns.length cap6] 27))
  have HO := hide (ownImpl (w.alloc (.cells #[.int .i64 k, .int .i64 i, .int .i64 u, .int .i64 c, .int .i64 n, .slice a5 cs.length cap5, .slice a6 ns.length cap6] 27)) k i u c n a5 a6 cs.length cap5 ns.length cap6)
  rw [ownV_none hk] at HO
  unfold msgV at HO ⊢
  go_enter Tryd.func9, Tryd.ntmps9
  go_wp2_with fail
  refine (unhide HO).mono ?_
  rintro e w1 ⟨rfl, b1⟩
  replace HX := hide (HX.out.below (by simp) b1)
  replace HB := hide (HB.out.trans (b1.mono HB.out.size))
  clear b1 HO
  have hs1 := HB.out.size
  have q0 := fun m : Lo w1 => m.cell (HX.out 0 _ rfl)
  have q1 := fun m : Lo w1 => m.cell (HX.out 1 _ rfl)
  have q2 := fun m : Lo w1 => m.cell (HX.out 2 _ rfl)
  have q3 := fun m : Lo w1 => m.cell (HX.out 3 _ rfl)
  have q4 := fun m : Lo w1 => m.cell (HX.out 4 _ rfl)
  have q5 := fun m : Lo w1 => m.cell (HX.out 5 _ rfl)
  have q6 := fun m : Lo w1 => m.cell (HX.out 6 _ rfl)
  have ho := fun w => objImpl i w
  cases hi : inB i 1 1000000 with
  | false =>
    rw [hi] at HM ho
    have HO := hide ho
    clear ho
    go_wp2
    refine wp_region_low (by kernel_rfl) (by kernel_rfl) ?_
    repeat (go_big_quiet_step ((first | (go_at_call 36; exact low_same (HO.out _)))))
    refine wpQuiet_nil ?_
    rintro _ ⟨m, rfl⟩
    go_wp2
    go_ret
    exact ⟨by rw [HM.out]; rfl, HB.out.trans (m.b.mono hs1)⟩
  | true =>
    rw [hi] at HM ho
    have HO := hide ho
    clear ho
    have ha : ∀ m : Lo w1, Calls Tryd.prog 37 #[.nilIface] m.v fun e w' => e = .returned (.bool (pOk k u c n cs ns)) ∧ Below m.v.heap.size m.v w' := fun m =>
      (by have := partsImpl m.v k i u c n _ _ cs ns ((HC.out.at HB.out).at m.b) ((HN.out.at HB.out).at m.b) hmc hmn; rwa [ownV_none hk] at this)
    cases hp : pOk k u c n cs ns with
    | false =>
      rw [hp] at HM ha
      have HA := hide ha
      clear ha
      go_wp2
      refine wp_region_low (by kernel_rfl) (by kernel_rfl) ?_
      repeat (go_big_quiet_step ((first | (go_at_call 36; exact low_same (HO.out _)) | (go_at_call 37; exact low_below (HA.out _)))))
      refine wpQuiet_nil ?_
      rintro _ ⟨m, rfl⟩
      go_wp2
      go_ret
      exact ⟨by rw [HM.out]; rfl, HB.out.trans (m.b.mono hs1)⟩
    | true =>
      rw [pOk_none hk] at hp
      cases hp

theorem msgImpl (w : World) (k i u c n : Int) (cv nv : Value) (cs : List (Int × Bool × Int)) (ns : List (Int × Int)) (hc : Rd w w.heap.size 3 cv cs.length (cs.flatMap cellC)) (hn : Rd w w.heap.size 2 nv ns.length (ns.flatMap noteC))
    (hmc : cs.length ≤ 1048576) (hmn : ns.length ≤ 1048576) :
    Calls Tryd.prog 9 #[msgV k i u c n cv nv] w fun e w' => e = .returned (.bool (mOk k i u c n cs ns)) ∧ Below w.heap.size w w' := by
  cases hk : inB k 1 10 with
  | false => exact msgImpl0 w k i u c n (inB_no hk) cv nv cs ns hc hn hmc hmn
  | true =>
    rcases kinds hk with rfl | rfl | rfl | rfl | rfl | rfl | rfl | rfl | rfl | rfl
    · exact msgImpl1 w i u c n cv nv cs ns hc hn hmc hmn
    · exact msgImpl2 w i u c n cv nv cs ns hc hn hmc hmn
    · exact msgImpl3 w i u c n cv nv cs ns hc hn hmc hmn
    · exact msgImpl4 w i u c n cv nv cs ns hc hn hmc hmn
    · exact msgImpl5 w i u c n cv nv cs ns hc hn hmc hmn
    · exact msgImpl6 w i u c n cv nv cs ns hc hn hmc hmn
    · exact msgImpl7 w i u c n cv nv cs ns hc hn hmc hmn
    · exact msgImpl8 w i u c n cv nv cs ns hc hn hmc hmn
    · exact msgImpl9 w i u c n cv nv cs ns hc hn hmc hmn
    · exact msgImpl10 w i u c n cv nv cs ns hc hn hmc hmn
end Go.Proofs.YtbkhlaiifbdfoaaDoor
