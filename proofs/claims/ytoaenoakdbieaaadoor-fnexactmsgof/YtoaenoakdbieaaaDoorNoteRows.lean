/-
  Rows of notes: copied into new memory, held against each other.
-/
import Derived.Test.YtoaenoakdbieaaaDoorFlatSet
import Derived.Test.YtoaenoakdbieaaaDoorNotesW
import Derived.Laws.MakeOwn
import Derived.Deep.RegionWith
import Derived.Deep.CutRange
import Derived.BigRegion
namespace Go.Proofs.YtoaenoakdbieaaaDoor
open Go.RowKit

/-- A row of notes of one's own, from block b on. -/
def OwnN (w : World) (b : Nat) (v : Value) (ns : List (Int × Int)) : Prop := w.ownsRow b 77 2 v ns.length (ns.flatMap noteC)

theorem Tryd.infoNote : (Tryd.prog.info? 77).map (fun i => (i.zero, i.size, i.bytes)) = some (some (.agg #[.int .i64 0, .int .i64 0]), 2, 16) := by kernel_rfl

theorem OwnN.rd {w : World} {b B : Nat} {v : Value} {ns : List (Int × Int)} (h : OwnN w b v ns) (hB : w.heap.size ≤ B) : Rd w B 2 v ns.length (ns.flatMap noteC) := rd_own h hB
theorem OwnN.below {w w' : World} {b : Nat} {v : Value} {ns : List (Int × Int)} (h : OwnN w b v ns) (hb : Below w.heap.size w w') : OwnN w' b v ns :=
  World.ownsRow.kept h (grown_of_below hb) (by cases v.ownBlock <;> simp)
theorem OwnN.lt {w : World} {b : Nat} {v : Value} {ns : List (Int × Int)} (h : OwnN w b v ns) : ∀ k, v.ownBlock = some k → b ≤ k ∧ k < w.heap.size := World.ownsRow.lt h
theorem OwnN.drewN {w : World} {b : Nat} {v : Value} {ns : List (Int × Int)} (h : OwnN w b v ns) (q : Nat) : OwnN (w.drewN q) b v ns := h
theorem OwnN.mono {w : World} {b b' : Nat} {v : Value} {ns : List (Int × Int)} (h : OwnN w b v ns) (hb : b' ≤ b) : OwnN w b' v ns := by
  refine ⟨h.1, ?_⟩
  rcases h.2 with h0 | ⟨g, cap, cur, e, hg, r⟩
  · exact .inl h0
  · exact .inr ⟨g, cap, cur, e, Nat.le_trans hb hg, r⟩

/-- Note j of a row of one's own stored whole. -/
theorem OwnN.put {w : World} {b g n c : Nat} {ns : List (Int × Int)} (h : OwnN w b (.slice (some ⟨g, 0, none⟩) n c) ns) (hn : ns.length = n) (j : Nat) (hj : j < n) (x y : Int) :
    (∃ u, w.cell? ⟨g, j * 2, none⟩ = some u) ∧ (∃ u, w.cell? ⟨g, j * 2 + 1, none⟩ = some u) ∧ w.frozen? ⟨g, j * 2, none⟩ = false ∧ w.frozen? ⟨g, j * 2 + 1, none⟩ = false ∧
    OwnN ((w.setCell ⟨g, j * 2, none⟩ (.int .i64 x)).setCell ⟨g, j * 2 + 1, none⟩ (.int .i64 y)) b (.slice (some ⟨g, 0, none⟩) n c) (ns.set j (x, y)) := by
  subst hn
  have hl : (ns.flatMap noteC).length = ns.length * 2 := flat_len noteC 2 noteC_len ns
  refine ⟨?_, ?_, World.ownsRow.frozenAt h _, World.ownsRow.frozenAt h _, ?_⟩
  · rw [World.ownsRow.cellAt h _ (by omega)]; exact ⟨_, List.getElem?_eq_getElem (by omega)⟩
  · rw [World.ownsRow.cellAt h _ (by omega)]; exact ⟨_, List.getElem?_eq_getElem (by omega)⟩
  · have h1 := (World.ownsRow.stored h (j * 2) (.int .i64 x)).1
    have h2 := (World.ownsRow.stored h1 (j * 2 + 1) (.int .i64 y)).1
    rw [flat_note ns j (x, y) hj] at h2
    unfold OwnN
    rw [List.length_set]
    exact h2

theorem eqNote (x y : Int) (w : World) :
    Calls Tryd.prog 122 #[.agg #[.int .i64 x, .int .i64 y], .agg #[.int .i64 x, .int .i64 y]] w fun e w' => e = .returned (.bool true) ∧ Below w.heap.size w w' := by
  have h1 : (x != x) = false := by simp
  have h2 : (y != y) = false := by simp
  go_enter Tryd.func122, Tryd.ntmps122
  go_wp2
  go_ret
  exact ⟨rfl, ((Below.refl _ _).alloc (Nat.le_refl _) _).alloc (by simp) _⟩

set_option maxRecDepth 100000 in
set_option maxHeartbeats 2000000 in
theorem eqNotes (w : World) (v1 v2 : Value) (ns : List (Int × Int)) (B1 B2 : Nat) (h1 : Rd w B1 2 v1 ns.length (ns.flatMap noteC)) (h2 : Rd w B2 2 v2 ns.length (ns.flatMap noteC)) (hB1 : B1 ≤ w.heap.size) (hB2 : B2 ≤ w.heap.size) (hm : ns.length ≤ 1048576) :
    Calls Tryd.prog 95 #[v1, v2] w fun e w' => e = .returned (.bool true) ∧ Below w.heap.size w w' := by
  have HX1 : Hid (∀ wr, Below w.heap.size w wr → _) := hide (fun wr hb => notes_at (h1.low hb hB1))
  have HX2 : Hid (∀ wr, Below w.heap.size w wr → _) := hide (fun wr hb => notes_at (h2.low hb hB2))
  obtain ⟨a1, cap1, rfl, _⟩ := notes_at h1
  obtain ⟨a2, cap2, rfl, _⟩ := notes_at h2
  clear h1 h2
  generalize hn : ns.length = n at *
  have hne : ((n : Int) != (n : Int)) = false := by simp
  go_enter Tryd.func95, Tryd.ntmps95
  go_wp2
  go_loopw [5] (fun i wr => ∃ j : Nat, j ≤ n ∧ i = .int .i64 (j : Int) ∧ Below w.heap.size w wr) (fun i _ => n - (intOf i).toNat)
  case atStart => exact ⟨0, Nat.zero_le _, rfl, Below.refl _ _⟩
  case round =>
    obtain ⟨j, hj, rfl, hb⟩ := hrel
    have HB := hide hb
    have hs := hb.size
    clear hb
    by_cases hlt : j < n
    · obtain ⟨a1', cap1', ea1, hx1⟩ := HX1.out wr HB.out
      cases ea1
      obtain ⟨b1, o1, rfl, hb1, hc1⟩ := hx1 (by omega)
      obtain ⟨a2', cap2', ea2, hx2⟩ := HX2.out wr HB.out
      cases ea2
      obtain ⟨b2, o2, rfl, hb2, hc2⟩ := hx2 (by omega)
      have e1 := (hc1 j hlt).1
      have e2 := (hc1 j hlt).2
      have e3 := (hc2 j hlt).1
      have e4 := (hc2 j hlt).2
      clear hx1 hx2 hc1 hc2
      generalize ns.getD j (0, 0) = z at *
      obtain ⟨x, y⟩ := z
      simp only at e1 e2 e3 e4
      go_wp2
      go_cut [26] from 11 to 26 (fun s wq => s = .bool false ∧ Below w.heap.size w wq)
      case first =>
        go_region_with (go_at_call 122; refine (eqNote _ _ _).mono ?_; rintro e w1 ⟨rfl, b1⟩; have HB1 := hide (HB.out.trans (below_of_drew b1 |>.mono hs)); clear b1)
        all_goals (go_wp2_with fail; go_meet; exact ⟨rfl, HB1.out⟩)
      case rest =>
        obtain ⟨rfl, hB⟩ := hcut
        have HB2 := hide hB
        clear hB
        go_wp2
        exact ⟨⟨j + 1, hlt, by go_num, HB2.out⟩, by simp [intOf]; omega⟩
    · go_wp2
      go_ret
      exact ⟨rfl, HB.out⟩
end Go.Proofs.YtoaenoakdbieaaaDoor
