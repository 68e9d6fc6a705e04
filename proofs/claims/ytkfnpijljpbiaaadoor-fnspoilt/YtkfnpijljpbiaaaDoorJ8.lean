/-
  Joined: Low, CellsW, CellRows.
-/
import Derived.Test.YtkfnpijljpbiaaaDoorJ3
import Derived.Deep.QuietTactic
import Derived.BigQuiet
import Derived.Test.YtkfnpijljpbiaaaDoorJ7
import Derived.Test.YtkfnpijljpbiaaaDoorJ4
/-
  A statement whose order is open and that only reads and calls what makes new memory alone: one walk in the order of the text serves every order.
-/
namespace Go.Proofs.YtkfnpijljpbiaaaDoor
open Go.RowKit

/-- A world in which all that lay in w lies as it did. -/
structure Lo (w : World) where
  v : World
  b : Below w.heap.size w v

instance (w : World) : Nonempty (Lo w) := ⟨⟨w, Below.refl _ _⟩⟩

theorem Lo.cell {w : World} {a : Addr} {x : Value} (m : Lo w) (h : w.cell? a = some x) : m.v.cell? a = some x :=
  (m.b.cell (World.block_lt_of_cell? w _ h)).trans h

theorem low_same {P : Program} {f : FuncId} {args : Array Value} {w : World} {v : Value} {m : Lo w}
    (h : Calls P f args m.v fun e w' => e = .returned v ∧ w' = m.v) : Calls P f args m.v fun e w'' => e = .returned v ∧ ∃ m' : Lo w, w'' = m'.v :=
  h.mono fun _ _ ⟨he, hm⟩ => ⟨he, m, hm⟩
theorem low_below {P : Program} {f : FuncId} {args : Array Value} {w : World} {v : Value} {m : Lo w}
    (h : Calls P f args m.v fun e w' => e = .returned v ∧ Below m.v.heap.size m.v w') : Calls P f args m.v fun e w'' => e = .returned v ∧ ∃ m' : Lo w, w'' = m'.v :=
  h.mono fun _ w' ⟨he, hb⟩ => ⟨he, ⟨w', m.b.trans (hb.mono m.b.size)⟩, rfl⟩

theorem wp_region_low {P : Program} {id : Nat} {Q : Exit → Act → World → Prop} {a : Act} {w : World} {l : List Oper} (hm : P.follows .mixedOrders = true) (hB : Region.lexB .any l.toArray = true)
    (h : wpQuiet P l.toArray (fun w' => ∃ m : Lo w, w' = m.v) (fun a' => ∀ w', (∃ m : Lo w, w' = m.v) → Q .normal a' w') l a) : (Code.region id l.toArray true).wp P Q a w :=
  wp_region_quiet (C := fun w' => ∃ m : Lo w, w' = m.v) hm hB ⟨⟨{ w with drawn := w.drawn + 1 }, Below.mk (w := w) rfl rfl rfl (Nat.le_refl _) (fun _ _ => rfl)⟩, rfl⟩ (by simpa using h)
end Go.Proofs.YtkfnpijljpbiaaaDoor
/-
  What cellsOk does, in the program and in its model.
-/
namespace Go.Proofs.YtkfnpijljpbiaaaDoor
open Go.RowKit

/-- The cells of a row of cells, one by one. -/
theorem cells_at {w : World} {B : Nat} {v : Value} {cs : List (Int × Bool × Int)} (h : Rd w B 3 v cs.length (cs.flatMap cellC)) :
    ∃ a cap, v = .slice a cs.length cap ∧ (0 < cs.length → ∃ b o, a = some ⟨b, o, none⟩ ∧ b < B ∧ ∀ j, j < cs.length →
      w.cell? ⟨b, o + j * 3, none⟩ = some (.int .i64 (cs.getD j (0, false, 0)).1) ∧ w.cell? ⟨b, o + j * 3 + 1, none⟩ = some (.bool (cs.getD j (0, false, 0)).2.1) ∧
      w.cell? ⟨b, o + j * 3 + 2, none⟩ = some (.int .i64 (cs.getD j (0, false, 0)).2.2)) := by
  obtain ⟨_, a, cap, rfl, _, _, h4⟩ := h
  refine ⟨a, cap, rfl, fun hp => ?_⟩
  obtain ⟨b, o, rfl, hb, hc⟩ := h4 hp
  refine ⟨b, o, rfl, hb, fun j hj => ⟨?_, ?_, ?_⟩⟩
  · rw [show o + j * 3 = o + (j * 3 + 0) from rfl, hc _ (by omega), flat_get cellC 3 cellC_len cs (0, false, 0) j 0 hj (by omega)]; rfl
  · rw [Nat.add_assoc, hc _ (by omega), flat_get cellC 3 cellC_len cs (0, false, 0) j 1 hj (by omega)]; rfl
  · rw [Nat.add_assoc, hc _ (by omega), flat_get cellC 3 cellC_len cs (0, false, 0) j 2 hj (by omega)]; rfl

/-- Cell j is right, and behind the one before it. -/
def goodC (cs : List (Int × Bool × Int)) (j : Nat) : Bool :=
  inB (cs.getD j (0, false, 0)).1 0 7 && vOk (cs.getD j (0, false, 0)).2.1 (cs.getD j (0, false, 0)).2.2 && (decide (j = 0) || decide ((cs.getD (j - 1) (0, false, 0)).1 < (cs.getD j (0, false, 0)).1))
/-- What cellsOk says. -/
def cOk (cs : List (Int × Bool × Int)) : Bool := decide (cs.length ≤ 8) && (List.range cs.length).all (goodC cs)

theorem cOk_yes {cs : List (Int × Bool × Int)} (h1 : cs.length ≤ 8) (h2 : ∀ j, j < cs.length → goodC cs j = true) : cOk cs = true := by
  unfold cOk; simp only [Bool.and_eq_true, decide_eq_true_eq, List.all_eq_true, List.mem_range]; exact ⟨h1, h2⟩
theorem cOk_long {cs : List (Int × Bool × Int)} (h1 : 8 < cs.length) : cOk cs = false := by
  unfold cOk; rw [decide_eq_false (by omega)]; rfl
theorem cOk_bad {cs : List (Int × Bool × Int)} {j : Nat} (h1 : j < cs.length) (h2 : goodC cs j = false) : cOk cs = false := by
  unfold cOk; rw [Bool.and_eq_false_iff]; right
  rw [List.all_eq_false]; exact ⟨j, List.mem_range.2 h1, by rw [h2]; decide⟩

set_option maxRecDepth 100000 in
set_option maxHeartbeats 8000000 in
theorem cellsSpec (w : World) (v : Value) (cs : List (Int × Bool × Int)) (B : Nat) (h : Rd w B 3 v cs.length (cs.flatMap cellC)) (hB : B ≤ w.heap.size) (hm : cs.length ≤ 1048576) :
    Calls Tryd.prog 77 #[v] w fun e w' => e = .returned (.bool (cOk cs)) ∧ Below w.heap.size w w' := by
  have HX : Hid (∀ wr, Below w.heap.size w wr → _) := hide (fun wr hb => cells_at (h.low hb hB))
  obtain ⟨a, cap, rfl, _⟩ := cells_at h
  clear h
  generalize hn : cs.length = n at *
  go_enter Tryd.func77, Tryd.ntmps77
  go_wp2
  go_loopw [3] (fun i wr => ∃ k : Nat, k ≤ n ∧ i = .int .i64 (k : Int) ∧ Hid (∀ j, j < k → goodC cs j = true) ∧ Below w.heap.size w wr) (fun i _ => n - (intOf i).toNat)
  case atStart => exact ⟨0, Nat.zero_le _, rfl, hide (fun j hj => by omega), Below.refl _ _⟩
  case round =>
    obtain ⟨k, hk, rfl, HG, hbel⟩ := hrel
    have HB := hide hbel
    clear hbel
    by_cases hlt : k < n
    · obtain ⟨a', cap', ea, hx⟩ := HX.out wr HB.out
      cases ea
      obtain ⟨b, o, rfl, hb, hc⟩ := hx (by omega)
      have hbw : b < wr.heap.size := by have := HB.out.size; omega
      have e1 := (hc k hlt).1
      have e2 := (hc k hlt).2.1
      have e2' := (hc k hlt).2.2
      have HN : Hid (goodC cs k = (inB (cs.getD k (0, false, 0)).1 0 7 && vOk (cs.getD k (0, false, 0)).2.1 (cs.getD k (0, false, 0)).2.2 && (decide (k = 0) || decide ((cs.getD (k - 1) (0, false, 0)).1 < (cs.getD k (0, false, 0)).1)))) := hide rfl
      have e3 : 0 < k → wr.cell? ⟨b, o + (k - 1) * 3, none⟩ = some (.int .i64 (cs.getD (k - 1) (0, false, 0)).1) := fun h => (hc (k - 1) (by omega)).1
      clear hc hx
      generalize (cs.getD k (0, false, 0)).1 = x at *
      generalize (cs.getD k (0, false, 0)).2.1 = r at *
      generalize (cs.getD k (0, false, 0)).2.2 = y at *
      generalize (cs.getD (k - 1) (0, false, 0)).1 = p at *
      have q0 : ∀ m : Lo wr, m.v.cell? ⟨b, o + k * 3, none⟩ = some (.int .i64 x) := fun m => m.cell e1
      have q1 : ∀ m : Lo wr, m.v.cell? ⟨b, o + k * 3 + 1, none⟩ = some (.bool r) := fun m => m.cell e2
      have q2 : ∀ m : Lo wr, m.v.cell? ⟨b, o + k * 3 + 2, none⟩ = some (.int .i64 y) := fun m => m.cell e2'
      cases hx1 : inB x 0 7 with
      | false =>
        have HF := hide (cOk_bad (cs := cs) (j := k) (by omega) (by rw [HN.out, hx1]; rfl))
        clear e3 HN
        go_wp2
        refine wp_region_low (by kernel_rfl) (by kernel_rfl) ?_
        repeat (go_big_quiet_step ((first | (go_at_call 35; exact low_same (inSpec _ _ _ _)) | (go_at_call 89; exact low_below (valSpec _ _ _)))))
        refine wpQuiet_nil ?_
        rintro _ ⟨m, rfl⟩
        go_wp2
        go_ret
        exact ⟨by rw [HF.out]; rfl, (HB.out.trans (m.b.mono HB.out.size))⟩
      | true =>
        cases hx2 : vOk r y with
        | false =>
          have HF := hide (cOk_bad (cs := cs) (j := k) (by omega) (by rw [HN.out, hx1, hx2]; rfl))
          clear e3 HN
          go_wp2
          refine wp_region_low (by kernel_rfl) (by kernel_rfl) ?_
          repeat (go_big_quiet_step ((first | (go_at_call 35; exact low_same (inSpec _ _ _ _)) | (go_at_call 89; exact low_below (valSpec _ _ _)))))
          refine wpQuiet_nil ?_
          rintro _ ⟨m, rfl⟩
          go_wp2
          go_ret
          exact ⟨by rw [HF.out]; rfl, (HB.out.trans (m.b.mono HB.out.size))⟩
        | true =>
          by_cases hk0 : 0 < k
          · replace e3 := e3 hk0
            have hk0' : (0 : Int) < (k : Int) := by omega
            have hk1 : (((k : Int) - 1)) = ((k - 1 : Nat) : Int) := by omega
            have hkw : IntKind.i64.wrap ((k - 1 : Nat) : Int) = ((k - 1 : Nat) : Int) := by rw [IntKind.wrap_i64]; omega
            have q3 : ∀ m : Lo wr, m.v.cell? ⟨b, o + (k - 1) * 3, none⟩ = some (.int .i64 p) := fun m => m.cell e3
            by_cases hpx : p < x
            · have HY : Hid (∀ j, j < k + 1 → goodC cs j = true) := hide (fun j hj => by
                rcases Nat.lt_succ_iff_lt_or_eq.1 hj with h | rfl
                · exact HG.out j h
                · rw [HN.out, hx1, hx2]; simp [hpx])
              clear HN
              go_wp2
              refine wp_region_low (by kernel_rfl) (by kernel_rfl) ?_
              repeat (go_big_quiet_step ((first | (go_at_call 35; exact low_same (inSpec _ _ _ _)) | (go_at_call 89; exact low_below (valSpec _ _ _)))))
              refine wpQuiet_nil ?_
              rintro _ ⟨m, rfl⟩
              go_wp2
              exact ⟨⟨k + 1, by omega, by go_num, HY, (HB.out.trans (m.b.mono HB.out.size))⟩, by simp [intOf]; omega⟩
            · have hpx' : x ≤ p := by omega
              have HF := hide (cOk_bad (cs := cs) (j := k) (by omega) (by rw [HN.out, hx1, hx2]; simp [hpx]; omega))
              clear HN
              go_wp2
              refine wp_region_low (by kernel_rfl) (by kernel_rfl) ?_
              repeat (go_big_quiet_step ((first | (go_at_call 35; exact low_same (inSpec _ _ _ _)) | (go_at_call 89; exact low_below (valSpec _ _ _)))))
              refine wpQuiet_nil ?_
              rintro _ ⟨m, rfl⟩
              go_wp2
              go_ret
              exact ⟨by rw [HF.out]; rfl, (HB.out.trans (m.b.mono HB.out.size))⟩
          · have hk0' : ¬ (0 : Int) < (k : Int) := by omega
            have HY : Hid (∀ j, j < k + 1 → goodC cs j = true) := hide (fun j hj => by
              obtain rfl : j = k := by omega
              rw [HN.out, hx1, hx2, decide_eq_true (show j = 0 by omega)]; rfl)
            clear HN e3
            go_wp2
            refine wp_region_low (by kernel_rfl) (by kernel_rfl) ?_
            repeat (go_big_quiet_step ((first | (go_at_call 35; exact low_same (inSpec _ _ _ _)) | (go_at_call 89; exact low_below (valSpec _ _ _)))))
            refine wpQuiet_nil ?_
            rintro _ ⟨m, rfl⟩
            go_wp2
            exact ⟨⟨k + 1, by omega, by go_num, HY, (HB.out.trans (m.b.mono HB.out.size))⟩, by simp [intOf]; omega⟩
    · obtain rfl : k = n := by omega
      by_cases hlong : k ≤ 8
      · have HF := hide (cOk_yes (cs := cs) (by omega) (fun j hj => HG.out j (by omega)))
        go_wp2
        go_ret
        exact ⟨by rw [HF.out]; exact ret_bool (by simp; omega), HB.out⟩
      · have HF := hide (cOk_long (cs := cs) (by omega))
        go_wp2
        go_ret
        exact ⟨by rw [HF.out]; exact ret_bool (by simp; omega), HB.out⟩

set_option maxRecDepth 100000 in
set_option maxHeartbeats 8000000 in
theorem cellsImpl (w : World) (v : Value) (cs : List (Int × Bool × Int)) (B : Nat) (h : Rd w B 3 v cs.length (cs.flatMap cellC)) (hB : B ≤ w.heap.size) (hm : cs.length ≤ 1048576) :
    Calls Tryd.prog 87 #[v] w fun e w' => e = .returned (.bool (cOk cs)) ∧ Below w.heap.size w w' := by
  by_cases hlong : 8 < cs.length
  · obtain ⟨a, cap, rfl, hx⟩ := cells_at h
    rw [cOk_long hlong]
    clear h hx
    go_enter Tryd.func87, Tryd.ntmps87
    go_wp2
    go_ret
    exact ⟨rfl, Below.refl _ _⟩
  have HX : Hid (∀ wr, Below w.heap.size w wr → _) := hide (fun wr hb => cells_at (h.low hb hB))
  obtain ⟨a, cap, rfl, _⟩ := cells_at h
  clear h
  generalize hn : cs.length = n at *
  go_enter Tryd.func87, Tryd.ntmps87
  go_wp2
  go_loopw [10] (fun i wr => ∃ k : Nat, k ≤ n ∧ i = .int .i64 (k : Int) ∧ Hid (∀ j, j < k → goodC cs j = true) ∧ Below w.heap.size w wr) (fun i _ => n - (intOf i).toNat)
  case atStart => exact ⟨0, Nat.zero_le _, rfl, hide (fun j hj => by omega), Below.refl _ _⟩
  case round =>
    obtain ⟨k, hk, rfl, HG, hbel⟩ := hrel
    have HB := hide hbel
    clear hbel
    by_cases hlt : k < n
    · obtain ⟨a', cap', ea, hx⟩ := HX.out wr HB.out
      cases ea
      obtain ⟨b, o, rfl, hb, hc⟩ := hx (by omega)
      have hbw : b < wr.heap.size := by have := HB.out.size; omega
      have e1 := (hc k hlt).1
      have e2 := (hc k hlt).2.1
      have e2' := (hc k hlt).2.2
      have HN : Hid (goodC cs k = (inB (cs.getD k (0, false, 0)).1 0 7 && vOk (cs.getD k (0, false, 0)).2.1 (cs.getD k (0, false, 0)).2.2 && (decide (k = 0) || decide ((cs.getD (k - 1) (0, false, 0)).1 < (cs.getD k (0, false, 0)).1)))) := hide rfl
      have e3 : 0 < k → wr.cell? ⟨b, o + (k - 1) * 3, none⟩ = some (.int .i64 (cs.getD (k - 1) (0, false, 0)).1) := fun h => (hc (k - 1) (by omega)).1
      clear hc hx
      generalize (cs.getD k (0, false, 0)).1 = x at *
      generalize (cs.getD k (0, false, 0)).2.1 = r at *
      generalize (cs.getD k (0, false, 0)).2.2 = y at *
      generalize (cs.getD (k - 1) (0, false, 0)).1 = p at *
      have q0 : ∀ m : Lo (wr.alloc (.cells #[.int .i64 x, .bool r, .int .i64 y] 92)), m.v.cell? ⟨wr.heap.size, 0, none⟩ = some (.int .i64 x) := fun m => m.cell (by simp [go_sem])
      have q1 : ∀ m : Lo (wr.alloc (.cells #[.int .i64 x, .bool r, .int .i64 y] 92)), m.v.cell? ⟨wr.heap.size, 1, none⟩ = some (.bool r) := fun m => m.cell (by simp [go_sem])
      have q2 : ∀ m : Lo (wr.alloc (.cells #[.int .i64 x, .bool r, .int .i64 y] 92)), m.v.cell? ⟨wr.heap.size, 2, none⟩ = some (.int .i64 y) := fun m => m.cell (by simp [go_sem])
      cases hx1 : inB x 0 7 with
      | false =>
        have HF := hide (cOk_bad (cs := cs) (j := k) (by omega) (by rw [HN.out, hx1]; rfl))
        clear e3 HN
        go_wp2
        refine wp_region_low (by kernel_rfl) (by kernel_rfl) ?_
        repeat (go_big_quiet_step ((first | (go_at_call 38; exact low_same (inImpl _ _ _ _)) | (go_at_call 92; exact low_below (valImpl _ _ _)))))
        refine wpQuiet_nil ?_
        rintro _ ⟨m, rfl⟩
        go_wp2
        go_ret
        exact ⟨by rw [HF.out]; rfl, ((HB.out.alloc HB.out.size _).trans (m.b.mono (Nat.le_trans HB.out.size (by simp))))⟩
      | true =>
        cases hx2 : vOk r y with
        | false =>
          have HF := hide (cOk_bad (cs := cs) (j := k) (by omega) (by rw [HN.out, hx1, hx2]; rfl))
          clear e3 HN
          go_wp2
          refine wp_region_low (by kernel_rfl) (by kernel_rfl) ?_
          repeat (go_big_quiet_step ((first | (go_at_call 38; exact low_same (inImpl _ _ _ _)) | (go_at_call 92; exact low_below (valImpl _ _ _)))))
          refine wpQuiet_nil ?_
          rintro _ ⟨m, rfl⟩
          go_wp2
          go_ret
          exact ⟨by rw [HF.out]; rfl, ((HB.out.alloc HB.out.size _).trans (m.b.mono (Nat.le_trans HB.out.size (by simp))))⟩
        | true =>
          by_cases hk0 : 0 < k
          · replace e3 := e3 hk0
            have hk0' : (0 : Int) < (k : Int) := by omega
            have hk1 : (((k : Int) - 1)) = ((k - 1 : Nat) : Int) := by omega
            have hkw : IntKind.i64.wrap ((k - 1 : Nat) : Int) = ((k - 1 : Nat) : Int) := by rw [IntKind.wrap_i64]; omega
            have q3 : ∀ m : Lo (wr.alloc (.cells #[.int .i64 x, .bool r, .int .i64 y] 92)), m.v.cell? ⟨b, o + (k - 1) * 3, none⟩ = some (.int .i64 p) := fun m => m.cell (Eq.trans (by exact World.cell?_alloc_lt _ (a := ⟨b, o + (k - 1) * 3, none⟩) _ hbw) e3)
            by_cases hpx : p < x
            · have HY : Hid (∀ j, j < k + 1 → goodC cs j = true) := hide (fun j hj => by
                rcases Nat.lt_succ_iff_lt_or_eq.1 hj with h | rfl
                · exact HG.out j h
                · rw [HN.out, hx1, hx2]; simp [hpx])
              clear HN
              go_wp2
              refine wp_region_low (by kernel_rfl) (by kernel_rfl) ?_
              repeat (go_big_quiet_step ((first | (go_at_call 38; exact low_same (inImpl _ _ _ _)) | (go_at_call 92; exact low_below (valImpl _ _ _)))))
              refine wpQuiet_nil ?_
              rintro _ ⟨m, rfl⟩
              go_wp2
              exact ⟨⟨k + 1, by omega, by go_num, HY, ((HB.out.alloc HB.out.size _).trans (m.b.mono (Nat.le_trans HB.out.size (by simp))))⟩, by simp [intOf]; omega⟩
            · have hpx' : x ≤ p := by omega
              have HF := hide (cOk_bad (cs := cs) (j := k) (by omega) (by rw [HN.out, hx1, hx2]; simp [hpx]; omega))
              clear HN
              go_wp2
              refine wp_region_low (by kernel_rfl) (by kernel_rfl) ?_
              repeat (go_big_quiet_step ((first | (go_at_call 38; exact low_same (inImpl _ _ _ _)) | (go_at_call 92; exact low_below (valImpl _ _ _)))))
              refine wpQuiet_nil ?_
              rintro _ ⟨m, rfl⟩
              go_wp2
              go_ret
              exact ⟨by rw [HF.out]; rfl, ((HB.out.alloc HB.out.size _).trans (m.b.mono (Nat.le_trans HB.out.size (by simp))))⟩
          · have hk0' : ¬ (0 : Int) < (k : Int) := by omega
            have HY : Hid (∀ j, j < k + 1 → goodC cs j = true) := hide (fun j hj => by
              obtain rfl : j = k := by omega
              rw [HN.out, hx1, hx2, decide_eq_true (show j = 0 by omega)]; rfl)
            clear HN e3
            go_wp2
            refine wp_region_low (by kernel_rfl) (by kernel_rfl) ?_
            repeat (go_big_quiet_step ((first | (go_at_call 38; exact low_same (inImpl _ _ _ _)) | (go_at_call 92; exact low_below (valImpl _ _ _)))))
            refine wpQuiet_nil ?_
            rintro _ ⟨m, rfl⟩
            go_wp2
            exact ⟨⟨k + 1, by omega, by go_num, HY, ((HB.out.alloc HB.out.size _).trans (m.b.mono (Nat.le_trans HB.out.size (by simp))))⟩, by simp [intOf]; omega⟩
    · obtain rfl : k = n := by omega
      have HF := hide (cOk_yes (cs := cs) (by omega) (fun j hj => HG.out j (by omega)))
      go_wp2
      go_ret
      exact ⟨by rw [HF.out]; rfl, HB.out⟩
end Go.Proofs.YtkfnpijljpbiaaaDoor
/-
  Rows of cells: copied into new memory, held against each other.
-/
namespace Go.Proofs.YtkfnpijljpbiaaaDoor
open Go.RowKit

/-- A row of cells of one's own, from block b on. -/
def OwnC (w : World) (b : Nat) (v : Value) (cs : List (Int × Bool × Int)) : Prop := w.ownsRow b 92 3 v cs.length (cs.flatMap cellC)

theorem Tryd.infoCell : (Tryd.prog.info? 92).map (fun i => (i.zero, i.size, i.bytes)) = some (some (.agg #[.int .i64 0, .bool false, .int .i64 0]), 3, 24) := by kernel_rfl

theorem OwnC.rd {w : World} {b B : Nat} {v : Value} {cs : List (Int × Bool × Int)} (h : OwnC w b v cs) (hB : w.heap.size ≤ B) : Rd w B 3 v cs.length (cs.flatMap cellC) := rd_own h hB
theorem OwnC.below {w w' : World} {b : Nat} {v : Value} {cs : List (Int × Bool × Int)} (h : OwnC w b v cs) (hb : Below w.heap.size w w') : OwnC w' b v cs :=
  World.ownsRow.kept h (grown_of_below hb) (by cases v.ownBlock <;> simp)
theorem OwnC.lt {w : World} {b : Nat} {v : Value} {cs : List (Int × Bool × Int)} (h : OwnC w b v cs) : ∀ k, v.ownBlock = some k → b ≤ k ∧ k < w.heap.size := World.ownsRow.lt h
theorem OwnC.drewN {w : World} {b : Nat} {v : Value} {cs : List (Int × Bool × Int)} (h : OwnC w b v cs) (q : Nat) : OwnC (w.drewN q) b v cs := h
theorem OwnC.mono {w : World} {b b' : Nat} {v : Value} {cs : List (Int × Bool × Int)} (h : OwnC w b v cs) (hb : b' ≤ b) : OwnC w b' v cs := by
  refine ⟨h.1, ?_⟩
  rcases h.2 with h0 | ⟨g, cap, cur, e, hg, r⟩
  · exact .inl h0
  · exact .inr ⟨g, cap, cur, e, Nat.le_trans hb hg, r⟩

/-- Cell j of a row of one's own stored whole. -/
theorem OwnC.put {w : World} {b g n c : Nat} {cs : List (Int × Bool × Int)} (h : OwnC w b (.slice (some ⟨g, 0, none⟩) n c) cs) (hn : cs.length = n) (j : Nat) (hj : j < n) (x : Int) (r : Bool) (y : Int) :
    (∃ u, w.cell? ⟨g, j * 3, none⟩ = some u) ∧ (∃ u, w.cell? ⟨g, j * 3 + 1, none⟩ = some u) ∧ (∃ u, w.cell? ⟨g, j * 3 + 2, none⟩ = some u) ∧ w.frozen? ⟨g, j * 3, none⟩ = false ∧ w.frozen? ⟨g, j * 3 + 1, none⟩ = false ∧ w.frozen? ⟨g, j * 3 + 2, none⟩ = false ∧
    OwnC (((w.setCell ⟨g, j * 3, none⟩ (.int .i64 x)).setCell ⟨g, j * 3 + 1, none⟩ (.bool r)).setCell ⟨g, j * 3 + 2, none⟩ (.int .i64 y)) b (.slice (some ⟨g, 0, none⟩) n c) (cs.set j (x, r, y)) := by
  subst hn
  have hl : (cs.flatMap cellC).length = cs.length * 3 := flat_len cellC 3 cellC_len cs
  refine ⟨?_, ?_, ?_, World.ownsRow.frozenAt h _, World.ownsRow.frozenAt h _, World.ownsRow.frozenAt h _, ?_⟩
  · rw [World.ownsRow.cellAt h _ (by omega)]; exact ⟨_, List.getElem?_eq_getElem (by omega)⟩
  · rw [World.ownsRow.cellAt h _ (by omega)]; exact ⟨_, List.getElem?_eq_getElem (by omega)⟩
  · rw [World.ownsRow.cellAt h _ (by omega)]; exact ⟨_, List.getElem?_eq_getElem (by omega)⟩
  · have h1 := (World.ownsRow.stored h (j * 3) (.int .i64 x)).1
    have h2 := (World.ownsRow.stored h1 (j * 3 + 1) (.bool r)).1
    have h3 := (World.ownsRow.stored h2 (j * 3 + 2) (.int .i64 y)).1
    rw [flat_cell cs j (x, r, y) hj] at h3
    unfold OwnC
    rw [List.length_set]
    exact h3

end Go.Proofs.YtkfnpijljpbiaaaDoor
