/-
  Rows of cells: copied into new memory, held against each other.
-/
import Derived.Test.YtoaenoakdbieaaaDoorNoteRows
import Derived.Test.YtoaenoakdbieaaaDoorCellsW
namespace Go.Proofs.YtoaenoakdbieaaaDoor
open Go.RowKit

/-- A row of cells of one's own, from block b on. -/
def OwnC (w : World) (b : Nat) (v : Value) (cs : List (Int × Bool × Int)) : Prop := w.ownsRow b 74 3 v cs.length (cs.flatMap cellC)

theorem Tryd.infoCell : (Tryd.prog.info? 74).map (fun i => (i.zero, i.size, i.bytes)) = some (some (.agg #[.int .i64 0, .bool false, .int .i64 0]), 3, 24) := by kernel_rfl

theorem OwnC.rd {w : World} {b B : Nat} {v : Value} {cs : List (Int × Bool × Int)} (h : OwnC w b v cs) (hB : w.heap.size ≤ B) : Rd w B 3 v cs.length (cs.flatMap cellC) := rd_own h hB
theorem OwnC.below {w w' : World} {b : Nat} {v : Value} {cs : List (Int × Bool × Int)} (h : OwnC w b v cs) (hb : Below w.heap.size w w') : OwnC w' b v cs :=
  World.ownsRow.kept h (grown_of_below hb) (by cases v.ownBlock <;> simp)
theorem OwnC.lt {w : World} {b : Nat} {v : Value} {cs : List (Int × Bool × Int)} (h : OwnC w b v cs) : ∀ k, v.ownBlock = some k → b ≤ k ∧ k < w.heap.size := World.ownsRow.lt h
theorem OwnC.drewN {w : World} {b : Nat} {v : Value} {cs : List (Int × Bool × Int)} (h : OwnC w b v cs) (q : Nat) : OwnC (w.drewN q) b v cs := h
theorem OwnC.mono {w : World} {b b' : Nat} {v : Value} {cs : List (Int × Bool × Int)} (h : OwnC w b v cs) (hb : b' ≤ b) : OwnC w b' v cs := by
  refine ⟨h.1, ?_⟩
  rcases h.2 with h0 | ⟨g, cap, cur, e, hg, r⟩
  · exact .inl h0
  · exact .inr ⟨g, cap, cur, e, Nat.le_trans hb hg, r⟩

/-- Cell j of a row of one's own stored whole. -/
theorem OwnC.put {w : World} {b g n c : Nat} {cs : List (Int × Bool × Int)} (h : OwnC w b (.slice (some ⟨g, 0, none⟩) n c) cs) (hn : cs.length = n) (j : Nat) (hj : j < n) (x : Int) (r : Bool) (y : Int) :
    (∃ u, w.cell? ⟨g, j * 3, none⟩ = some u) ∧ (∃ u, w.cell? ⟨g, j * 3 + 1, none⟩ = some u) ∧ (∃ u, w.cell? ⟨g, j * 3 + 2, none⟩ = some u) ∧ w.frozen? ⟨g, j * 3, none⟩ = false ∧ w.frozen? ⟨g, j * 3 + 1, none⟩ = false ∧ w.frozen? ⟨g, j * 3 + 2, none⟩ = false ∧
    OwnC (((w.setCell ⟨g, j * 3, none⟩ (.int .i64 x)).setCell ⟨g, j * 3 + 1, none⟩ (.bool r)).setCell ⟨g, j * 3 + 2, none⟩ (.int .i64 y)) b (.slice (some ⟨g, 0, none⟩) n c) (cs.set j (x, r, y)) := by
  subst hn
  have hl : (cs.flatMap cellC).length = cs.length * 3 := flat_len cellC 3 cellC_len cs
  refine ⟨?_, ?_, ?_, World.ownsRow.frozenAt h _, World.ownsRow.frozenAt h _, World.ownsRow.frozenAt h _, ?_⟩
  · rw [World.ownsRow.cellAt h _ (by omega)]; exact ⟨_, List.getElem?_eq_getElem (by omega)⟩
  · rw [World.ownsRow.cellAt h _ (by omega)]; exact ⟨_, List.getElem?_eq_getElem (by omega)⟩
  · rw [World.ownsRow.cellAt h _ (by omega)]; exact ⟨_, List.getElem?_eq_getElem (by omega)⟩
  · have h1 := (World.ownsRow.stored h (j * 3) (.int .i64 x)).1
    have h2 := (World.ownsRow.stored h1 (j * 3 + 1) (.bool r)).1
    have h3 := (World.ownsRow.stored h2 (j * 3 + 2) (.int .i64 y)).1
    rw [flat_cell cs j (x, r, y) hj] at h3
    unfold OwnC
    rw [List.length_set]
    exact h3

set_option maxHeartbeats 400000 in
theorem eqVal (r : Bool) (y : Int) (w : World) :
    Calls Tryd.prog 133 #[.agg #[.bool r, .int .i64 y], .agg #[.bool r, .int .i64 y]] w fun e w' => e = .returned (.bool true) ∧ Below w.heap.size w w' := by
  have h1 : (r != r) = false := by simp
  have h2 : (y != y) = false := by simp
  go_enter Tryd.func133, Tryd.ntmps133
  go_wp2
  go_ret
  exact ⟨rfl, ((Below.refl _ _).alloc (Nat.le_refl _) _).alloc (by simp) _⟩

set_option maxHeartbeats 400000 in
theorem eqCell (x : Int) (r : Bool) (y : Int) (w : World) :
    Calls Tryd.prog 121 #[.agg #[.int .i64 x, .bool r, .int .i64 y], .agg #[.int .i64 x, .bool r, .int .i64 y]] w fun e w' => e = .returned (.bool true) ∧ Below w.heap.size w w' := by
  have h1 : (x != x) = false := by simp
  go_enter Tryd.func121, Tryd.ntmps121
  go_wp2_with fail
  refine (eqVal _ _ _).mono ?_
  rintro e w1 ⟨rfl, b1⟩
  have HB := hide ((((Below.refl w.heap.size w).alloc (Nat.le_refl _) _).alloc (by simp) _).trans (b1.mono (by simp; omega)))
  clear b1
  go_wp2
  go_ret
  exact ⟨rfl, HB.out⟩

set_option maxRecDepth 100000 in
set_option maxHeartbeats 2000000 in
theorem eqCells (w : World) (v1 v2 : Value) (cs : List (Int × Bool × Int)) (B1 B2 : Nat) (h1 : Rd w B1 3 v1 cs.length (cs.flatMap cellC)) (h2 : Rd w B2 3 v2 cs.length (cs.flatMap cellC)) (hB1 : B1 ≤ w.heap.size) (hB2 : B2 ≤ w.heap.size) (hm : cs.length ≤ 1048576) :
    Calls Tryd.prog 94 #[v1, v2] w fun e w' => e = .returned (.bool true) ∧ Below w.heap.size w w' := by
  have HX1 : Hid (∀ wr, Below w.heap.size w wr → _) := hide (fun wr hb => cells_at (h1.low hb hB1))
  have HX2 : Hid (∀ wr, Below w.heap.size w wr → _) := hide (fun wr hb => cells_at (h2.low hb hB2))
  obtain ⟨a1, cap1, rfl, _⟩ := cells_at h1
  obtain ⟨a2, cap2, rfl, _⟩ := cells_at h2
  clear h1 h2
  generalize hn : cs.length = n at *
  have hne : ((n : Int) != (n : Int)) = false := by simp
  go_enter Tryd.func94, Tryd.ntmps94
  go_wp2
  go_loopw [5] (fun i wr => ∃ j : Nat, j ≤ n ∧ i = .int .i64 (j : Int) ∧ Below w.heap.size w wr) (fun i _ => n - (intOf i).toNat)
  case atStart => exact ⟨0, Nat.zero_le _, rfl, Below.refl _ _⟩
  case round =>
    obtain ⟨j, hj, rfl, hb⟩ := hrel
    have HB := hide hb
    have hs := hb.size
    clear hb
    by_cases hlt : j < n
    · obtain ⟨a1', cap1', ea1, hx1⟩ := HX1.out wr HB.out
      cases ea1
      obtain ⟨b1, o1, rfl, hb1, hc1⟩ := hx1 (by omega)
      obtain ⟨a2', cap2', ea2, hx2⟩ := HX2.out wr HB.out
      cases ea2
      obtain ⟨b2, o2, rfl, hb2, hc2⟩ := hx2 (by omega)
      have q1 := fun m : Lo wr => m.cell (hc1 j hlt).1
      have q2 := fun m : Lo wr => m.cell (hc1 j hlt).2.1
      have q3 := fun m : Lo wr => m.cell (hc1 j hlt).2.2
      have q4 := fun m : Lo wr => m.cell (hc2 j hlt).1
      have q5 := fun m : Lo wr => m.cell (hc2 j hlt).2.1
      have q6 := fun m : Lo wr => m.cell (hc2 j hlt).2.2
      clear hx1 hx2 hc1 hc2
      generalize cs.getD j (0, false, 0) = z at *
      obtain ⟨x, r, y⟩ := z
      simp only at q1 q2 q3 q4 q5 q6
      go_wp2
      refine wp_region_low (by kernel_rfl) (by kernel_rfl) ?_
      repeat (go_big_quiet_step ((first | (go_at_call 121; exact low_below (eqCell _ _ _ _)))))
      refine wpQuiet_nil ?_
      rintro _ ⟨m, rfl⟩
      go_wp2
      exact ⟨⟨j + 1, hlt, by go_num, HB.out.trans (m.b.mono hs)⟩, by simp [intOf]; omega⟩
    · go_wp2
      go_ret
      exact ⟨rfl, HB.out⟩
end Go.Proofs.YtoaenoakdbieaaaDoor
