/-
  What NotesOk does, in the program and in its model.
-/
import Derived.Test.YtoaenoakdbieaaaDoorValW
import Derived.Test.YtoaenoakdbieaaaDoorMsgOpen
namespace Go.Proofs.YtoaenoakdbieaaaDoor
open Go.RowKit

/-- The cells of a row of notes, one by one. -/
theorem notes_at {w : World} {B : Nat} {v : Value} {ns : List (Int × Int)} (h : Rd w B 2 v ns.length (ns.flatMap noteC)) :
    ∃ a cap, v = .slice a ns.length cap ∧ (0 < ns.length → ∃ b o, a = some ⟨b, o, none⟩ ∧ b < B ∧ ∀ j, j < ns.length →
      w.cell? ⟨b, o + j * 2, none⟩ = some (.int .i64 (ns.getD j (0, 0)).1) ∧ w.cell? ⟨b, o + j * 2 + 1, none⟩ = some (.int .i64 (ns.getD j (0, 0)).2)) := by
  obtain ⟨_, a, cap, rfl, _, _, h4⟩ := h
  refine ⟨a, cap, rfl, fun hp => ?_⟩
  obtain ⟨b, o, rfl, hb, hc⟩ := h4 hp
  refine ⟨b, o, rfl, hb, fun j hj => ⟨?_, ?_⟩⟩
  · rw [show o + j * 2 = o + (j * 2 + 0) from rfl, hc _ (by omega), flat_get noteC 2 noteC_len ns (0, 0) j 0 hj (by omega)]; rfl
  · rw [Nat.add_assoc, hc _ (by omega), flat_get noteC 2 noteC_len ns (0, 0) j 1 hj (by omega)]; rfl

/-- Note j is right, and behind the one before it. -/
def goodN (ns : List (Int × Int)) (j : Nat) : Bool :=
  inB (ns.getD j (0, 0)).1 1 1000000 && inB (ns.getD j (0, 0)).2 1 16777215 && (decide (j = 0) || decide ((ns.getD (j - 1) (0, 0)).1 < (ns.getD j (0, 0)).1))
/-- What NotesOk says. -/
def nOk (ns : List (Int × Int)) : Bool := decide (ns.length ≤ 130) && (List.range ns.length).all (goodN ns)

theorem nOk_yes {ns : List (Int × Int)} (h1 : ns.length ≤ 130) (h2 : ∀ j, j < ns.length → goodN ns j = true) : nOk ns = true := by
  unfold nOk; simp only [Bool.and_eq_true, decide_eq_true_eq, List.all_eq_true, List.mem_range]; exact ⟨h1, h2⟩
theorem nOk_long {ns : List (Int × Int)} (h1 : 130 < ns.length) : nOk ns = false := by
  unfold nOk; rw [decide_eq_false (by omega)]; rfl
theorem nOk_bad {ns : List (Int × Int)} {j : Nat} (h1 : j < ns.length) (h2 : goodN ns j = false) : nOk ns = false := by
  unfold nOk; rw [Bool.and_eq_false_iff]; right
  rw [List.all_eq_false]; exact ⟨j, List.mem_range.2 h1, by rw [h2]; decide⟩

theorem objImpl (n : Int) (w : World) :
    Calls Tryd.prog 53 #[.int .i64 n] w fun e w' => e = .returned (.bool (inB n 1 1000000)) ∧ w' = w := by
  go_enter Tryd.func53, Tryd.ntmps53
  go_wp2_with (go_at_call 71; refine (inImpl _ _ _ _).mono ?_; rintro e w' ⟨rfl, rfl⟩)
  go_ret
  exact ⟨rfl, rfl⟩

set_option maxRecDepth 100000 in
set_option maxHeartbeats 4000000 in
theorem notesSpec (w : World) (v : Value) (ns : List (Int × Int)) (B : Nat) (h : Rd w B 2 v ns.length (ns.flatMap noteC)) (hB : B ≤ w.heap.size) (hm : ns.length ≤ 1048576) :
    Calls Tryd.prog 24 #[v] w fun e w' => e = .returned (.bool (nOk ns)) ∧ Below w.heap.size w w' := by
  have hx : ∀ wr, Below w.heap.size w wr → _ := fun wr hb => notes_at (h.low hb hB)
  have HX := hide hx
  obtain ⟨a, cap, rfl, _⟩ := notes_at h
  clear h hx
  generalize hn : ns.length = n at *
  go_enter Tryd.func24, Tryd.ntmps24
  go_wp2
  go_loopw [3] (fun i wr => ∃ k : Nat, k ≤ n ∧ i = .int .i64 (k : Int) ∧ Hid (∀ j, j < k → goodN ns j = true) ∧ Below w.heap.size w wr) (fun i _ => n - (intOf i).toNat)
  case atStart => exact ⟨0, Nat.zero_le _, rfl, hide (fun j hj => by omega), Below.refl _ _⟩
  case round =>
    obtain ⟨k, hk, rfl, HG, hbel⟩ := hrel
    have HB := hide hbel
    clear hbel
    by_cases hlt : k < n
    · obtain ⟨a', cap', ea, hx⟩ := HX.out wr HB.out
      cases ea
      obtain ⟨b, o, rfl, hb, hc⟩ := hx (by omega)
      have hbw : b < wr.heap.size := by have := HB.out.size; omega
      have e1 := (hc k hlt).1
      have e2 := (hc k hlt).2
      have HN : Hid (goodN ns k = (inB (ns.getD k (0, 0)).1 1 1000000 && inB (ns.getD k (0, 0)).2 1 16777215 && (decide (k = 0) || decide ((ns.getD (k - 1) (0, 0)).1 < (ns.getD k (0, 0)).1)))) := hide rfl
      have e3 : 0 < k → wr.cell? ⟨b, o + (k - 1) * 2, none⟩ = some (.int .i64 (ns.getD (k - 1) (0, 0)).1) := fun h => (hc (k - 1) (by omega)).1
      clear hc hx
      generalize (ns.getD k (0, 0)).1 = x at *
      generalize (ns.getD k (0, 0)).2 = y at *
      generalize (ns.getD (k - 1) (0, 0)).1 = p at *
      cases hx1 : inB x 1 1000000 with
      | false =>
        have HF := hide (nOk_bad (ns := ns) (j := k) (by omega) (by rw [HN.out, hx1]; rfl))
        clear e3 HN
        go_wp2
        go_quiet ((first | (go_at_call 69; exact Calls.quiet_of_same (inSpec _ _ _ _))))
        go_wp2
        go_ret
        exact ⟨by rw [HF.out]; rfl, below_drewN HB.out _⟩
      | true =>
        cases hx2 : inB y 1 16777215 with
        | false =>
          have HF := hide (nOk_bad (ns := ns) (j := k) (by omega) (by rw [HN.out, hx1, hx2]; rfl))
          clear e3 HN
          go_wp2
          go_quiet ((first | (go_at_call 69; exact Calls.quiet_of_same (inSpec _ _ _ _))))
          go_wp2
          go_ret
          exact ⟨by rw [HF.out]; rfl, below_drewN HB.out _⟩
        | true =>
          by_cases hk0 : 0 < k
          · replace e3 := e3 hk0
            have hk0' : (0 : Int) < (k : Int) := by omega
            have hk1 : (((k : Int) - 1)) = ((k - 1 : Nat) : Int) := by omega
            have hkw : IntKind.i64.wrap ((k - 1 : Nat) : Int) = ((k - 1 : Nat) : Int) := by rw [IntKind.wrap_i64]; omega
            by_cases hpx : p < x
            · have HY : Hid (∀ j, j < k + 1 → goodN ns j = true) := hide (fun j hj => by
                rcases Nat.lt_succ_iff_lt_or_eq.1 hj with h | rfl
                · exact HG.out j h
                · rw [HN.out, hx1, hx2]; simp [hpx])
              clear HN
              go_wp2
              go_quiet ((first | (go_at_call 69; exact Calls.quiet_of_same (inSpec _ _ _ _))))
              go_wp2
              exact ⟨⟨k + 1, by omega, by go_num, HY, below_drewN HB.out _⟩, by simp [intOf]; omega⟩
            · have hpx' : x ≤ p := by omega
              have HF := hide (nOk_bad (ns := ns) (j := k) (by omega) (by rw [HN.out, hx1, hx2]; simp [hpx]; omega))
              clear HN
              go_wp2
              go_quiet ((first | (go_at_call 69; exact Calls.quiet_of_same (inSpec _ _ _ _))))
              go_wp2
              go_ret
              exact ⟨by rw [HF.out]; rfl, below_drewN HB.out _⟩
          · have hk0' : ¬ (0 : Int) < (k : Int) := by omega
            have HY : Hid (∀ j, j < k + 1 → goodN ns j = true) := hide (fun j hj => by
              obtain rfl : j = k := by omega
              rw [HN.out, hx1, hx2, decide_eq_true (show j = 0 by omega)]; rfl)
            clear HN e3
            go_wp2
            go_quiet ((first | (go_at_call 69; exact Calls.quiet_of_same (inSpec _ _ _ _))))
            go_wp2
            exact ⟨⟨k + 1, by omega, by go_num, HY, below_drewN HB.out _⟩, by simp [intOf]; omega⟩
    · obtain rfl : k = n := by omega
      by_cases hlong : k ≤ 130
      · have HF := hide (nOk_yes (ns := ns) (by omega) (fun j hj => HG.out j (by omega)))
        go_wp2
        go_ret
        exact ⟨by rw [HF.out]; exact ret_bool (by simp; omega), HB.out⟩
      · have HF := hide (nOk_long (ns := ns) (by omega))
        go_wp2
        go_ret
        exact ⟨by rw [HF.out]; exact ret_bool (by simp; omega), HB.out⟩

set_option maxRecDepth 100000 in
set_option maxHeartbeats 4000000 in
theorem notesImpl (w : World) (v : Value) (ns : List (Int × Int)) (B : Nat) (h : Rd w B 2 v ns.length (ns.flatMap noteC)) (hB : B ≤ w.heap.size) (hm : ns.length ≤ 1048576) :
    Calls Tryd.prog 23 #[v] w fun e w' => e = .returned (.bool (nOk ns)) ∧ Below w.heap.size w w' := by
  by_cases hlong : 130 < ns.length
  · obtain ⟨a, cap, rfl, hx⟩ := notes_at h
    rw [nOk_long hlong]
    clear h hx
    go_enter Tryd.func23, Tryd.ntmps23
    go_wp2
    go_ret
    exact ⟨rfl, Below.refl _ _⟩
  have hx : ∀ wr, Below w.heap.size w wr → _ := fun wr hb => notes_at (h.low hb hB)
  have HX := hide hx
  obtain ⟨a, cap, rfl, _⟩ := notes_at h
  clear h hx
  generalize hn : ns.length = n at *
  go_enter Tryd.func23, Tryd.ntmps23
  go_wp2
  go_loopw [10] (fun i wr => ∃ k : Nat, k ≤ n ∧ i = .int .i64 (k : Int) ∧ Hid (∀ j, j < k → goodN ns j = true) ∧ Below w.heap.size w wr) (fun i _ => n - (intOf i).toNat)
  case atStart => exact ⟨0, Nat.zero_le _, rfl, hide (fun j hj => by omega), Below.refl _ _⟩
  case round =>
    obtain ⟨k, hk, rfl, HG, hbel⟩ := hrel
    have HB := hide hbel
    clear hbel
    by_cases hlt : k < n
    · obtain ⟨a', cap', ea, hx⟩ := HX.out wr HB.out
      cases ea
      obtain ⟨b, o, rfl, hb, hc⟩ := hx (by omega)
      have hbw : b < wr.heap.size := by have := HB.out.size; omega
      have e1 := (hc k hlt).1
      have e2 := (hc k hlt).2
      have HN : Hid (goodN ns k = (inB (ns.getD k (0, 0)).1 1 1000000 && inB (ns.getD k (0, 0)).2 1 16777215 && (decide (k = 0) || decide ((ns.getD (k - 1) (0, 0)).1 < (ns.getD k (0, 0)).1)))) := hide rfl
      have e3 : 0 < k → wr.cell? ⟨b, o + (k - 1) * 2, none⟩ = some (.int .i64 (ns.getD (k - 1) (0, 0)).1) := fun h => (hc (k - 1) (by omega)).1
      clear hc hx
      generalize (ns.getD k (0, 0)).1 = x at *
      generalize (ns.getD k (0, 0)).2 = y at *
      generalize (ns.getD (k - 1) (0, 0)).1 = p at *
      cases hx1 : inB x 1 1000000 with
      | false =>
        have HF := hide (nOk_bad (ns := ns) (j := k) (by omega) (by rw [HN.out, hx1]; rfl))
        clear e3 HN
        go_wp2
        go_quiet ((first | (go_at_call 53; exact Calls.quiet_of_same (objImpl _ _)) | (go_at_call 71; exact Calls.quiet_of_same (inImpl _ _ _ _))))
        go_wp2
        go_ret
        exact ⟨by rw [HF.out]; rfl, below_drewN (HB.out.alloc HB.out.size _) _⟩
      | true =>
        cases hx2 : inB y 1 16777215 with
        | false =>
          have HF := hide (nOk_bad (ns := ns) (j := k) (by omega) (by rw [HN.out, hx1, hx2]; rfl))
          clear e3 HN
          go_wp2
          go_quiet ((first | (go_at_call 53; exact Calls.quiet_of_same (objImpl _ _)) | (go_at_call 71; exact Calls.quiet_of_same (inImpl _ _ _ _))))
          go_wp2
          go_ret
          exact ⟨by rw [HF.out]; rfl, below_drewN (HB.out.alloc HB.out.size _) _⟩
        | true =>
          by_cases hk0 : 0 < k
          · replace e3 := e3 hk0
            have hk0' : (0 : Int) < (k : Int) := by omega
            have hk1 : (((k : Int) - 1)) = ((k - 1 : Nat) : Int) := by omega
            have hkw : IntKind.i64.wrap ((k - 1 : Nat) : Int) = ((k - 1 : Nat) : Int) := by rw [IntKind.wrap_i64]; omega
            by_cases hpx : p < x
            · have HY : Hid (∀ j, j < k + 1 → goodN ns j = true) := hide (fun j hj => by
                rcases Nat.lt_succ_iff_lt_or_eq.1 hj with h | rfl
                · exact HG.out j h
                · rw [HN.out, hx1, hx2]; simp [hpx])
              clear HN
              go_wp2
              go_quiet ((first | (go_at_call 53; exact Calls.quiet_of_same (objImpl _ _)) | (go_at_call 71; exact Calls.quiet_of_same (inImpl _ _ _ _))))
              go_wp2
              exact ⟨⟨k + 1, by omega, by go_num, HY, below_drewN (HB.out.alloc HB.out.size _) _⟩, by simp [intOf]; omega⟩
            · have hpx' : x ≤ p := by omega
              have HF := hide (nOk_bad (ns := ns) (j := k) (by omega) (by rw [HN.out, hx1, hx2]; simp [hpx]; omega))
              clear HN
              go_wp2
              go_quiet ((first | (go_at_call 53; exact Calls.quiet_of_same (objImpl _ _)) | (go_at_call 71; exact Calls.quiet_of_same (inImpl _ _ _ _))))
              go_wp2
              go_ret
              exact ⟨by rw [HF.out]; rfl, below_drewN (HB.out.alloc HB.out.size _) _⟩
          · have hk0' : ¬ (0 : Int) < (k : Int) := by omega
            have HY : Hid (∀ j, j < k + 1 → goodN ns j = true) := hide (fun j hj => by
              obtain rfl : j = k := by omega
              rw [HN.out, hx1, hx2, decide_eq_true (show j = 0 by omega)]; rfl)
            clear HN e3
            go_wp2
            go_quiet ((first | (go_at_call 53; exact Calls.quiet_of_same (objImpl _ _)) | (go_at_call 71; exact Calls.quiet_of_same (inImpl _ _ _ _))))
            go_wp2
            exact ⟨⟨k + 1, by omega, by go_num, HY, below_drewN (HB.out.alloc HB.out.size _) _⟩, by simp [intOf]; omega⟩
    · obtain rfl : k = n := by omega
      have HF := hide (nOk_yes (ns := ns) (by omega) (fun j hj => HG.out j (by omega)))
      go_wp2
      go_ret
      exact ⟨by rw [HF.out]; rfl, HB.out⟩
end Go.Proofs.YtoaenoakdbieaaaDoor
