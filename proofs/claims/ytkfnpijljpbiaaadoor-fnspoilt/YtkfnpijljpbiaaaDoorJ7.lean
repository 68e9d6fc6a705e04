/-
  Joined: ValW, NotesW, NoteRows.
-/
import Derived.Test.YtkfnpijljpbiaaaDoorJ6
import Derived.Deep.QuietTactic
import Derived.BigQuiet
import Derived.Test.YtkfnpijljpbiaaaDoorJ5
import Derived.Laws.MakeOwn
import Derived.Deep.RegionWith
import Derived.Deep.CutRange
import Derived.BigRegion
/-
  What a value of a field is, and what ValOk does with it, in the program and in its model.
-/
namespace Go.Proofs.YtkfnpijljpbiaaaDoor
open Go.RowKit

/-- What ValOk says of a value. -/
def vOk (r : Bool) (n : Int) : Bool := bif r then inB n 0 1000000 else inB n (-2147483648) 2147483647

theorem wordSpec (n : Int) (w : World) :
    Calls Tryd.prog 79 #[.int .i64 n] w fun e w' => e = .returned (.bool (inB n (-2147483648) 2147483647)) ∧ w' = w := by
  cases h : inB n (-2147483648) 2147483647 with
  | true => have := inB_yes h; exact wordYes n w this.1 this.2
  | false => exact wordNo n w (inB_no h)

theorem rnd_eq (n : Int) : (rnd n == n) = inB n (-2147483648) 2147483647 := by
  cases h : inB n (-2147483648) 2147483647 with
  | true => have := inB_yes h; simp [rnd]; omega
  | false => have := inB_no h; simp [rnd]; omega

set_option maxRecDepth 100000 in
set_option maxHeartbeats 400000 in
theorem valSpec (r : Bool) (n : Int) (w : World) :
    Calls Tryd.prog 89 #[.agg #[.bool r, .int .i64 n]] w fun e w' => e = .returned (.bool (vOk r n)) ∧ Below w.heap.size w w' := by
  cases r with
  | true =>
    go_enter Tryd.func89, Tryd.ntmps89
    go_wp2_with (go_at_call 35; refine (inSpec _ _ _ _).mono ?_; rintro e w' ⟨rfl, rfl⟩)
    go_ret
    exact ⟨rfl, (Below.refl _ _).alloc (Nat.le_refl _) _⟩
  | false =>
    go_enter Tryd.func89, Tryd.ntmps89
    go_wp2_with (go_at_call 79; refine (wordSpec _ _).mono ?_; rintro e w' ⟨rfl, rfl⟩)
    go_ret
    exact ⟨rfl, (Below.refl _ _).alloc (Nat.le_refl _) _⟩
set_option maxRecDepth 100000 in
set_option maxHeartbeats 400000 in
theorem valImpl (r : Bool) (n : Int) (w : World) :
    Calls Tryd.prog 92 #[.agg #[.bool r, .int .i64 n]] w fun e w' => e = .returned (.bool (vOk r n)) ∧ Below w.heap.size w w' := by
  cases r with
  | true =>
    go_enter Tryd.func92, Tryd.ntmps92
    go_wp2_with (go_at_call 38; refine (inImpl _ _ _ _).mono ?_; rintro e w' ⟨rfl, rfl⟩)
    go_ret
    exact ⟨rfl, (Below.refl _ _).alloc (Nat.le_refl _) _⟩
  | false =>
    have hr := rnd_eq n
    go_enter Tryd.func92, Tryd.ntmps92
    go_wp2
    go_quiet ((go_at_call 40; exact Calls.quiet_of_same (roundImpl _ _)))
    go_wp2
    go_ret
    exact ⟨rfl, below_drewN ((Below.refl _ _).alloc (Nat.le_refl _) _) _⟩
end Go.Proofs.YtkfnpijljpbiaaaDoor
/-
  What NotesOk does, in the program and in its model.
-/
namespace Go.Proofs.YtkfnpijljpbiaaaDoor
open Go.RowKit

/-- The cells of a row of notes, one by one. -/
theorem notes_at {w : World} {B : Nat} {v : Value} {ns : List (Int × Int)} (h : Rd w B 2 v ns.length (ns.flatMap noteC)) :
    ∃ a cap, v = .slice a ns.length cap ∧ (0 < ns.length → ∃ b o, a = some ⟨b, o, none⟩ ∧ b < B ∧ ∀ j, j < ns.length →
      w.cell? ⟨b, o + j * 2, none⟩ = some (.int .i64 (ns.getD j (0, 0)).1) ∧ w.cell? ⟨b, o + j * 2 + 1, none⟩ = some (.int .i64 (ns.getD j (0, 0)).2)) := by
  obtain ⟨_, a, cap, rfl, _, _, h4⟩ := h
  refine ⟨a, cap, rfl, fun hp => ?_⟩
  obtain ⟨b, o, rfl, hb, hc⟩ := h4 hp
  refine ⟨b, o, rfl, hb, fun j hj => ⟨?_, ?_⟩⟩
  · rw [show o + j * 2 = o + (j * 2 + 0) from rfl, hc _ (by omega), flat_get noteC 2 noteC_len ns (0, 0) j 0 hj (by omega)]; rfl
  · rw [Nat.add_assoc, hc _ (by omega), flat_get noteC 2 noteC_len ns (0, 0) j 1 hj (by omega)]; rfl

/-- Note j is right, and behind the one before it. -/
def goodN (ns : List (Int × Int)) (j : Nat) : Bool :=
  inB (ns.getD j (0, 0)).1 1 1000000 && inB (ns.getD j (0, 0)).2 1 16777215 && (decide (j = 0) || decide ((ns.getD (j - 1) (0, 0)).1 < (ns.getD j (0, 0)).1))
/-- What NotesOk says. -/
def nOk (ns : List (Int × Int)) : Bool := decide (ns.length ≤ 130) && (List.range ns.length).all (goodN ns)

theorem nOk_yes {ns : List (Int × Int)} (h1 : ns.length ≤ 130) (h2 : ∀ j, j < ns.length → goodN ns j = true) : nOk ns = true := by
  unfold nOk; simp only [Bool.and_eq_true, decide_eq_true_eq, List.all_eq_true, List.mem_range]; exact ⟨h1, h2⟩
theorem nOk_long {ns : List (Int × Int)} (h1 : 130 < ns.length) : nOk ns = false := by
  unfold nOk; rw [decide_eq_false (by omega)]; rfl
theorem nOk_bad {ns : List (Int × Int)} {j : Nat} (h1 : j < ns.length) (h2 : goodN ns j = false) : nOk ns = false := by
  unfold nOk; rw [Bool.and_eq_false_iff]; right
  rw [List.all_eq_false]; exact ⟨j, List.mem_range.2 h1, by rw [h2]; decide⟩

theorem objImpl (n : Int) (w : World) :
    Calls Tryd.prog 74 #[.int .i64 n] w fun e w' => e = .returned (.bool (inB n 1 1000000)) ∧ w' = w := by
  go_enter Tryd.func74, Tryd.ntmps74
  go_wp2_with (go_at_call 38; refine (inImpl _ _ _ _).mono ?_; rintro e w' ⟨rfl, rfl⟩)
  go_ret
  exact ⟨rfl, rfl⟩

set_option maxRecDepth 100000 in
set_option maxHeartbeats 4000000 in
theorem notesSpec (w : World) (v : Value) (ns : List (Int × Int)) (B : Nat) (h : Rd w B 2 v ns.length (ns.flatMap noteC)) (hB : B ≤ w.heap.size) (hm : ns.length ≤ 1048576) :
    Calls Tryd.prog 78 #[v] w fun e w' => e = .returned (.bool (nOk ns)) ∧ Below w.heap.size w w' := by
  have hx : ∀ wr, Below w.heap.size w wr → _ := fun wr hb => notes_at (h.low hb hB)
  have HX := hide hx
  obtain ⟨a, cap, rfl, _⟩ := notes_at h
  clear h hx
  generalize hn : ns.length = n at *
  go_enter Tryd.func78, Tryd.ntmps78
  go_wp2
  go_loopw [3] (fun i wr => ∃ k : Nat, k ≤ n ∧ i = .int .i64 (k : Int) ∧ Hid (∀ j, j < k → goodN ns j = true) ∧ Below w.heap.size w wr) (fun i _ => n - (intOf i).toNat)
  case atStart => exact ⟨0, Nat.zero_le _, rfl, hide (fun j hj => by omega), Below.refl _ _⟩
  case round =>
    obtain ⟨k, hk, rfl, HG, hbel⟩ := hrel
    have HB := hide hbel
    clear hbel
    by_cases hlt : k < n
    · obtain ⟨a', cap', ea, hx⟩ := HX.out wr HB.out
      cases ea
      obtain ⟨b, o, rfl, hb, hc⟩ := hx (by omega)
      have hbw : b < wr.heap.size := by have := HB.out.size; omega
      have e1 := (hc k hlt).1
      have e2 := (hc k hlt).2
      have HN : Hid (goodN ns k = (inB (ns.getD k (0, 0)).1 1 1000000 && inB (ns.getD k (0, 0)).2 1 16777215 && (decide (k = 0) || decide ((ns.getD (k - 1) (0, 0)).1 < (ns.getD k (0, 0)).1)))) := hide rfl
      have e3 : 0 < k → wr.cell? ⟨b, o + (k - 1) * 2, none⟩ = some (.int .i64 (ns.getD (k - 1) (0, 0)).1) := fun h => (hc (k - 1) (by omega)).1
      clear hc hx
      generalize (ns.getD k (0, 0)).1 = x at *
      generalize (ns.getD k (0, 0)).2 = y at *
      generalize (ns.getD (k - 1) (0, 0)).1 = p at *
      cases hx1 : inB x 1 1000000 with
      | false =>
        have HF := hide (nOk_bad (ns := ns) (j := k) (by omega) (by rw [HN.out, hx1]; rfl))
        clear e3 HN
        go_wp2
        go_quiet ((first | (go_at_call 35; exact Calls.quiet_of_same (inSpec _ _ _ _))))
        go_wp2
        go_ret
        exact ⟨by rw [HF.out]; rfl, below_drewN HB.out _⟩
      | true =>
        cases hx2 : inB y 1 16777215 with
        | false =>
          have HF := hide (nOk_bad (ns := ns) (j := k) (by omega) (by rw [HN.out, hx1, hx2]; rfl))
          clear e3 HN
          go_wp2
          go_quiet ((first | (go_at_call 35; exact Calls.quiet_of_same (inSpec _ _ _ _))))
          go_wp2
          go_ret
          exact ⟨by rw [HF.out]; rfl, below_drewN HB.out _⟩
        | true =>
          by_cases hk0 : 0 < k
          · replace e3 := e3 hk0
            have hk0' : (0 : Int) < (k : Int) := by omega
            have hk1 : (((k : Int) - 1)) = ((k - 1 : Nat) : Int) := by omega
            have hkw : IntKind.i64.wrap ((k - 1 : Nat) : Int) = ((k - 1 : Nat) : Int) := by rw [IntKind.wrap_i64]; omega
            by_cases hpx : p < x
            · have HY : Hid (∀ j, j < k + 1 → goodN ns j = true) := hide (fun j hj => by
                rcases Nat.lt_succ_iff_lt_or_eq.1 hj with h | rfl
                · exact HG.out j h
                · rw [HN.out, hx1, hx2]; simp [hpx])
              clear HN
              go_wp2
              go_quiet ((first | (go_at_call 35; exact Calls.quiet_of_same (inSpec _ _ _ _))))
              go_wp2
              exact ⟨⟨k + 1, by omega, by go_num, HY, below_drewN HB.out _⟩, by simp [intOf]; omega⟩
            · have hpx' : x ≤ p := by omega
              have HF := hide (nOk_bad (ns := ns) (j := k) (by omega) (by rw [HN.out, hx1, hx2]; simp [hpx]; omega))
              clear HN
              go_wp2
              go_quiet ((first | (go_at_call 35; exact Calls.quiet_of_same (inSpec _ _ _ _))))
              go_wp2
              go_ret
              exact ⟨by rw [HF.out]; rfl, below_drewN HB.out _⟩
          · have hk0' : ¬ (0 : Int) < (k : Int) := by omega
            have HY : Hid (∀ j, j < k + 1 → goodN ns j = true) := hide (fun j hj => by
              obtain rfl : j = k := by omega
              rw [HN.out, hx1, hx2, decide_eq_true (show j = 0 by omega)]; rfl)
            clear HN e3
            go_wp2
            go_quiet ((first | (go_at_call 35; exact Calls.quiet_of_same (inSpec _ _ _ _))))
            go_wp2
            exact ⟨⟨k + 1, by omega, by go_num, HY, below_drewN HB.out _⟩, by simp [intOf]; omega⟩
    · obtain rfl : k = n := by omega
      by_cases hlong : k ≤ 130
      · have HF := hide (nOk_yes (ns := ns) (by omega) (fun j hj => HG.out j (by omega)))
        go_wp2
        go_ret
        exact ⟨by rw [HF.out]; exact ret_bool (by simp; omega), HB.out⟩
      · have HF := hide (nOk_long (ns := ns) (by omega))
        go_wp2
        go_ret
        exact ⟨by rw [HF.out]; exact ret_bool (by simp; omega), HB.out⟩

set_option maxRecDepth 100000 in
set_option maxHeartbeats 4000000 in
theorem notesImpl (w : World) (v : Value) (ns : List (Int × Int)) (B : Nat) (h : Rd w B 2 v ns.length (ns.flatMap noteC)) (hB : B ≤ w.heap.size) (hm : ns.length ≤ 1048576) :
    Calls Tryd.prog 88 #[v] w fun e w' => e = .returned (.bool (nOk ns)) ∧ Below w.heap.size w w' := by
  by_cases hlong : 130 < ns.length
  · obtain ⟨a, cap, rfl, hx⟩ := notes_at h
    rw [nOk_long hlong]
    clear h hx
    go_enter Tryd.func88, Tryd.ntmps88
    go_wp2
    go_ret
    exact ⟨rfl, Below.refl _ _⟩
  have hx : ∀ wr, Below w.heap.size w wr → _ := fun wr hb => notes_at (h.low hb hB)
  have HX := hide hx
  obtain ⟨a, cap, rfl, _⟩ := notes_at h
  clear h hx
  generalize hn : ns.length = n at *
  go_enter Tryd.func88, Tryd.ntmps88
  go_wp2
  go_loopw [10] (fun i wr => ∃ k : Nat, k ≤ n ∧ i = .int .i64 (k : Int) ∧ Hid (∀ j, j < k → goodN ns j = true) ∧ Below w.heap.size w wr) (fun i _ => n - (intOf i).toNat)
  case atStart => exact ⟨0, Nat.zero_le _, rfl, hide (fun j hj => by omega), Below.refl _ _⟩
  case round =>
    obtain ⟨k, hk, rfl, HG, hbel⟩ := hrel
    have HB := hide hbel
    clear hbel
    by_cases hlt : k < n
    · obtain ⟨a', cap', ea, hx⟩ := HX.out wr HB.out
      cases ea
      obtain ⟨b, o, rfl, hb, hc⟩ := hx (by omega)
      have hbw : b < wr.heap.size := by have := HB.out.size; omega
      have e1 := (hc k hlt).1
      have e2 := (hc k hlt).2
      have HN : Hid (goodN ns k = (inB (ns.getD k (0, 0)).1 1 1000000 && inB (ns.getD k (0, 0)).2 1 16777215 && (decide (k = 0) || decide ((ns.getD (k - 1) (0, 0)).1 < (ns.getD k (0, 0)).1)))) := hide rfl
      have e3 : 0 < k → wr.cell? ⟨b, o + (k - 1) * 2, none⟩ = some (.int .i64 (ns.getD (k - 1) (0, 0)).1) := fun h => (hc (k - 1) (by omega)).1
      clear hc hx
      generalize (ns.getD k (0, 0)).1 = x at *
      generalize (ns.getD k (0, 0)).2 = y at *
      generalize (ns.getD (k - 1) (0, 0)).1 = p at *
      cases hx1 : inB x 1 1000000 with
      | false =>
        have HF := hide (nOk_bad (ns := ns) (j := k) (by omega) (by rw [HN.out, hx1]; rfl))
        clear e3 HN
        go_wp2
        go_quiet ((first | (go_at_call 74; exact Calls.quiet_of_same (objImpl _ _)) | (go_at_call 38; exact Calls.quiet_of_same (inImpl _ _ _ _))))
        go_wp2
        go_ret
        exact ⟨by rw [HF.out]; rfl, below_drewN (HB.out.alloc HB.out.size _) _⟩
      | true =>
        cases hx2 : inB y 1 16777215 with
        | false =>
          have HF := hide (nOk_bad (ns := ns) (j := k) (by omega) (by rw [HN.out, hx1, hx2]; rfl))
          clear e3 HN
          go_wp2
          go_quiet ((first | (go_at_call 74; exact Calls.quiet_of_same (objImpl _ _)) | (go_at_call 38; exact Calls.quiet_of_same (inImpl _ _ _ _))))
          go_wp2
          go_ret
          exact ⟨by rw [HF.out]; rfl, below_drewN (HB.out.alloc HB.out.size _) _⟩
        | true =>
          by_cases hk0 : 0 < k
          · replace e3 := e3 hk0
            have hk0' : (0 : Int) < (k : Int) := by omega
            have hk1 : (((k : Int) - 1)) = ((k - 1 : Nat) : Int) := by omega
            have hkw : IntKind.i64.wrap ((k - 1 : Nat) : Int) = ((k - 1 : Nat) : Int) := by rw [IntKind.wrap_i64]; omega
            by_cases hpx : p < x
            · have HY : Hid (∀ j, j < k + 1 → goodN ns j = true) := hide (fun j hj => by
                rcases Nat.lt_succ_iff_lt_or_eq.1 hj with h | rfl
                · exact HG.out j h
                · rw [HN.out, hx1, hx2]; simp [hpx])
              clear HN
              go_wp2
              go_quiet ((first | (go_at_call 74; exact Calls.quiet_of_same (objImpl _ _)) | (go_at_call 38; exact Calls.quiet_of_same (inImpl _ _ _ _))))
              go_wp2
              exact ⟨⟨k + 1, by omega, by go_num, HY, below_drewN (HB.out.alloc HB.out.size _) _⟩, by simp [intOf]; omega⟩
            · have hpx' : x ≤ p := by omega
              have HF := hide (nOk_bad (ns := ns) (j := k) (by omega) (by rw [HN.out, hx1, hx2]; simp [hpx]; omega))
              clear HN
              go_wp2
              go_quiet ((first | (go_at_call 74; exact Calls.quiet_of_same (objImpl _ _)) | (go_at_call 38; exact Calls.quiet_of_same (inImpl _ _ _ _))))
              go_wp2
              go_ret
              exact ⟨by rw [HF.out]; rfl, below_drewN (HB.out.alloc HB.out.size _) _⟩
          · have hk0' : ¬ (0 : Int) < (k : Int) := by omega
            have HY : Hid (∀ j, j < k + 1 → goodN ns j = true) := hide (fun j hj => by
              obtain rfl : j = k := by omega
              rw [HN.out, hx1, hx2, decide_eq_true (show j = 0 by omega)]; rfl)
            clear HN e3
            go_wp2
            go_quiet ((first | (go_at_call 74; exact Calls.quiet_of_same (objImpl _ _)) | (go_at_call 38; exact Calls.quiet_of_same (inImpl _ _ _ _))))
            go_wp2
            exact ⟨⟨k + 1, by omega, by go_num, HY, below_drewN (HB.out.alloc HB.out.size _) _⟩, by simp [intOf]; omega⟩
    · obtain rfl : k = n := by omega
      have HF := hide (nOk_yes (ns := ns) (by omega) (fun j hj => HG.out j (by omega)))
      go_wp2
      go_ret
      exact ⟨by rw [HF.out]; rfl, HB.out⟩
end Go.Proofs.YtkfnpijljpbiaaaDoor
/-
  Rows of notes: copied into new memory, held against each other.
-/
namespace Go.Proofs.YtkfnpijljpbiaaaDoor
open Go.RowKit

/-- A row of notes of one's own, from block b on. -/
def OwnN (w : World) (b : Nat) (v : Value) (ns : List (Int × Int)) : Prop := w.ownsRow b 95 2 v ns.length (ns.flatMap noteC)

theorem Tryd.infoNote : (Tryd.prog.info? 95).map (fun i => (i.zero, i.size, i.bytes)) = some (some (.agg #[.int .i64 0, .int .i64 0]), 2, 16) := by kernel_rfl

theorem OwnN.rd {w : World} {b B : Nat} {v : Value} {ns : List (Int × Int)} (h : OwnN w b v ns) (hB : w.heap.size ≤ B) : Rd w B 2 v ns.length (ns.flatMap noteC) := rd_own h hB
theorem OwnN.below {w w' : World} {b : Nat} {v : Value} {ns : List (Int × Int)} (h : OwnN w b v ns) (hb : Below w.heap.size w w') : OwnN w' b v ns :=
  World.ownsRow.kept h (grown_of_below hb) (by cases v.ownBlock <;> simp)
theorem OwnN.lt {w : World} {b : Nat} {v : Value} {ns : List (Int × Int)} (h : OwnN w b v ns) : ∀ k, v.ownBlock = some k → b ≤ k ∧ k < w.heap.size := World.ownsRow.lt h
theorem OwnN.drewN {w : World} {b : Nat} {v : Value} {ns : List (Int × Int)} (h : OwnN w b v ns) (q : Nat) : OwnN (w.drewN q) b v ns := h
theorem OwnN.mono {w : World} {b b' : Nat} {v : Value} {ns : List (Int × Int)} (h : OwnN w b v ns) (hb : b' ≤ b) : OwnN w b' v ns := by
  refine ⟨h.1, ?_⟩
  rcases h.2 with h0 | ⟨g, cap, cur, e, hg, r⟩
  · exact .inl h0
  · exact .inr ⟨g, cap, cur, e, Nat.le_trans hb hg, r⟩

/-- Note j of a row of one's own stored whole. -/
theorem OwnN.put {w : World} {b g n c : Nat} {ns : List (Int × Int)} (h : OwnN w b (.slice (some ⟨g, 0, none⟩) n c) ns) (hn : ns.length = n) (j : Nat) (hj : j < n) (x y : Int) :
    (∃ u, w.cell? ⟨g, j * 2, none⟩ = some u) ∧ (∃ u, w.cell? ⟨g, j * 2 + 1, none⟩ = some u) ∧ w.frozen? ⟨g, j * 2, none⟩ = false ∧ w.frozen? ⟨g, j * 2 + 1, none⟩ = false ∧
    OwnN ((w.setCell ⟨g, j * 2, none⟩ (.int .i64 x)).setCell ⟨g, j * 2 + 1, none⟩ (.int .i64 y)) b (.slice (some ⟨g, 0, none⟩) n c) (ns.set j (x, y)) := by
  subst hn
  have hl : (ns.flatMap noteC).length = ns.length * 2 := flat_len noteC 2 noteC_len ns
  refine ⟨?_, ?_, World.ownsRow.frozenAt h _, World.ownsRow.frozenAt h _, ?_⟩
  · rw [World.ownsRow.cellAt h _ (by omega)]; exact ⟨_, List.getElem?_eq_getElem (by omega)⟩
  · rw [World.ownsRow.cellAt h _ (by omega)]; exact ⟨_, List.getElem?_eq_getElem (by omega)⟩
  · have h1 := (World.ownsRow.stored h (j * 2) (.int .i64 x)).1
    have h2 := (World.ownsRow.stored h1 (j * 2 + 1) (.int .i64 y)).1
    rw [flat_note ns j (x, y) hj] at h2
    unfold OwnN
    rw [List.length_set]
    exact h2

end Go.Proofs.YtkfnpijljpbiaaaDoor
