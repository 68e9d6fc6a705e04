/-
  Events in the model.
-/
import Derived.Test.YtfmlgiakmoadhaaEvM
import Derived.Test.YtfmlgiakmoadhaaStepW
import Derived.Test.YtfmlgiakmoadhaaBldV
import Derived.Deep.RegionHeld
namespace Go.Proofs.Ytfmlgiakmoadhaa
open Go.RowKit

theorem dec_beq (x y : Int) : decide (x = y) = (x == y) := by rw [Bool.eq_iff_iff]; simp
set_option maxRecDepth 100000 in
set_option maxHeartbeats 16000000 in
theorem clashS (w : World) (a b : Evt) :
    Calls Try.prog 4 #[.agg #[.int .i64 a.w, .int .i64 a.k, .int .i64 a.i, .int .i64 a.a], .agg #[.int .i64 b.w, .int .i64 b.k, .int .i64 b.i, .int .i64 b.a]] w fun e w' => e = .returned (.bool (clashB a b)) ∧ Below w.heap.size w w' := by
  obtain ⟨V, hV⟩ : ∃ V, clashB a b = V := ⟨_, rfl⟩
  have HV := hide hV.symm
  rw [hV]
  clear hV
  have HBB := hide (((Below.refl w.heap.size w).alloc (Nat.le_refl _) (.cells #[.int .i64 a.w, .int .i64 a.k, .int .i64 a.i, .int .i64 a.a] 25)).alloc (by simp) (.cells #[.int .i64 b.w, .int .i64 b.k, .int .i64 b.i, .int .i64 b.a] 25))
  cases ka1 : (a.k == 1) with
  | true =>
    have ka2 : (a.k == 2) = false := by rw [eq_of_beq ka1]; rfl
    cases kb1 : (b.k == 1) with
    | true =>
      have kb2 : (b.k == 2) = false := by rw [eq_of_beq kb1]; rfl
      cases ew : (a.w == b.w) with
      | true =>
        cases ei : (a.i == b.i) with
        | true =>
          cases ea : (a.a == b.a) with
          | true =>
            have ewn : (a.w != b.w) = false := by simp only [bne, ew]; rfl
            have ein : (a.i != b.i) = false := by simp only [bne, ei]; rfl
            have ean : (a.a != b.a) = false := by simp only [bne, ea]; rfl
            have HF : Hid (V = false) := hide (by rw [HV.out]; unfold clashB rwB; simp only [dec_beq, ka1, ka2, kb1, kb2, ew, ei, ea]; rfl)
            go_enter Try.func4, Try.ntmps4
            go_wp2
            go_ret
            exact ⟨by rw [HF.out]; rfl, HBB.out⟩
          | false =>
            have ewn : (a.w != b.w) = false := by simp only [bne, ew]; rfl
            have ein : (a.i != b.i) = false := by simp only [bne, ei]; rfl
            have ean : (a.a != b.a) = true := by simp only [bne, ea]; rfl
            have HF : Hid (V = false) := hide (by rw [HV.out]; unfold clashB rwB; simp only [dec_beq, ka1, ka2, kb1, kb2, ew, ei, ea]; rfl)
            go_enter Try.func4, Try.ntmps4
            go_wp2
            go_ret
            exact ⟨by rw [HF.out]; rfl, HBB.out⟩
        | false =>
          cases ea : (a.a == b.a) with
          | true =>
            have ewn : (a.w != b.w) = false := by simp only [bne, ew]; rfl
            have ein : (a.i != b.i) = true := by simp only [bne, ei]; rfl
            have ean : (a.a != b.a) = false := by simp only [bne, ea]; rfl
            have HF : Hid (V = false) := hide (by rw [HV.out]; unfold clashB rwB; simp only [dec_beq, ka1, ka2, kb1, kb2, ew, ei, ea]; rfl)
            go_enter Try.func4, Try.ntmps4
            go_wp2
            go_ret
            exact ⟨by rw [HF.out]; rfl, HBB.out⟩
          | false =>
            have ewn : (a.w != b.w) = false := by simp only [bne, ew]; rfl
            have ein : (a.i != b.i) = true := by simp only [bne, ei]; rfl
            have ean : (a.a != b.a) = true := by simp only [bne, ea]; rfl
            have HF : Hid (V = false) := hide (by rw [HV.out]; unfold clashB rwB; simp only [dec_beq, ka1, ka2, kb1, kb2, ew, ei, ea]; rfl)
            go_enter Try.func4, Try.ntmps4
            go_wp2
            go_ret
            exact ⟨by rw [HF.out]; rfl, HBB.out⟩
      | false =>
        cases ei : (a.i == b.i) with
        | true =>
          cases ea : (a.a == b.a) with
          | true =>
            have ewn : (a.w != b.w) = true := by simp only [bne, ew]; rfl
            have ein : (a.i != b.i) = false := by simp only [bne, ei]; rfl
            have ean : (a.a != b.a) = false := by simp only [bne, ea]; rfl
            have HF : Hid (V = false) := hide (by rw [HV.out]; unfold clashB rwB; simp only [dec_beq, ka1, ka2, kb1, kb2, ew, ei, ea]; rfl)
            go_enter Try.func4, Try.ntmps4
            go_wp2
            go_ret
            exact ⟨by rw [HF.out]; rfl, HBB.out⟩
          | false =>
            have ewn : (a.w != b.w) = true := by simp only [bne, ew]; rfl
            have ein : (a.i != b.i) = false := by simp only [bne, ei]; rfl
            have ean : (a.a != b.a) = true := by simp only [bne, ea]; rfl
            have HF : Hid (V = false) := hide (by rw [HV.out]; unfold clashB rwB; simp only [dec_beq, ka1, ka2, kb1, kb2, ew, ei, ea]; rfl)
            go_enter Try.func4, Try.ntmps4
            go_wp2
            go_ret
            exact ⟨by rw [HF.out]; rfl, HBB.out⟩
        | false =>
          cases ea : (a.a == b.a) with
          | true =>
            have ewn : (a.w != b.w) = true := by simp only [bne, ew]; rfl
            have ein : (a.i != b.i) = true := by simp only [bne, ei]; rfl
            have ean : (a.a != b.a) = false := by simp only [bne, ea]; rfl
            have HF : Hid (V = false) := hide (by rw [HV.out]; unfold clashB rwB; simp only [dec_beq, ka1, ka2, kb1, kb2, ew, ei, ea]; rfl)
            go_enter Try.func4, Try.ntmps4
            go_wp2
            go_ret
            exact ⟨by rw [HF.out]; rfl, HBB.out⟩
          | false =>
            have ewn : (a.w != b.w) = true := by simp only [bne, ew]; rfl
            have ein : (a.i != b.i) = true := by simp only [bne, ei]; rfl
            have ean : (a.a != b.a) = true := by simp only [bne, ea]; rfl
            have HF : Hid (V = false) := hide (by rw [HV.out]; unfold clashB rwB; simp only [dec_beq, ka1, ka2, kb1, kb2, ew, ei, ea]; rfl)
            go_enter Try.func4, Try.ntmps4
            go_wp2
            go_ret
            exact ⟨by rw [HF.out]; rfl, HBB.out⟩
    | false =>
      cases kb2 : (b.k == 2) with
      | true =>
        cases ew : (a.w == b.w) with
        | true =>
          cases ei : (a.i == b.i) with
          | true =>
            cases ea : (a.a == b.a) with
            | true =>
              have ewn : (a.w != b.w) = false := by simp only [bne, ew]; rfl
              have ein : (a.i != b.i) = false := by simp only [bne, ei]; rfl
              have ean : (a.a != b.a) = false := by simp only [bne, ea]; rfl
              have HF : Hid (V = false) := hide (by rw [HV.out]; unfold clashB rwB; simp only [dec_beq, ka1, ka2, kb1, kb2, ew, ei, ea]; rfl)
              go_enter Try.func4, Try.ntmps4
              go_wp2
              go_ret
              exact ⟨by rw [HF.out]; rfl, HBB.out⟩
            | false =>
              have ewn : (a.w != b.w) = false := by simp only [bne, ew]; rfl
              have ein : (a.i != b.i) = false := by simp only [bne, ei]; rfl
              have ean : (a.a != b.a) = true := by simp only [bne, ea]; rfl
              have HF : Hid (V = false) := hide (by rw [HV.out]; unfold clashB rwB; simp only [dec_beq, ka1, ka2, kb1, kb2, ew, ei, ea]; rfl)
              go_enter Try.func4, Try.ntmps4
              go_wp2
              go_ret
              exact ⟨by rw [HF.out]; rfl, HBB.out⟩
          | false =>
            cases ea : (a.a == b.a) with
            | true =>
              have ewn : (a.w != b.w) = false := by simp only [bne, ew]; rfl
              have ein : (a.i != b.i) = true := by simp only [bne, ei]; rfl
              have ean : (a.a != b.a) = false := by simp only [bne, ea]; rfl
              have HF : Hid (V = false) := hide (by rw [HV.out]; unfold clashB rwB; simp only [dec_beq, ka1, ka2, kb1, kb2, ew, ei, ea]; rfl)
              go_enter Try.func4, Try.ntmps4
              go_wp2
              go_ret
              exact ⟨by rw [HF.out]; rfl, HBB.out⟩
            | false =>
              have ewn : (a.w != b.w) = false := by simp only [bne, ew]; rfl
              have ein : (a.i != b.i) = true := by simp only [bne, ei]; rfl
              have ean : (a.a != b.a) = true := by simp only [bne, ea]; rfl
              have HF : Hid (V = false) := hide (by rw [HV.out]; unfold clashB rwB; simp only [dec_beq, ka1, ka2, kb1, kb2, ew, ei, ea]; rfl)
              go_enter Try.func4, Try.ntmps4
              go_wp2
              go_ret
              exact ⟨by rw [HF.out]; rfl, HBB.out⟩
        | false =>
          cases ei : (a.i == b.i) with
          | true =>
            cases ea : (a.a == b.a) with
            | true =>
              have ewn : (a.w != b.w) = true := by simp only [bne, ew]; rfl
              have ein : (a.i != b.i) = false := by simp only [bne, ei]; rfl
              have ean : (a.a != b.a) = false := by simp only [bne, ea]; rfl
              have HF : Hid (V = true) := hide (by rw [HV.out]; unfold clashB rwB; simp only [dec_beq, ka1, ka2, kb1, kb2, ew, ei, ea]; rfl)
              go_enter Try.func4, Try.ntmps4
              go_wp2
              go_ret
              exact ⟨by rw [HF.out]; rfl, HBB.out⟩
            | false =>
              have ewn : (a.w != b.w) = true := by simp only [bne, ew]; rfl
              have ein : (a.i != b.i) = false := by simp only [bne, ei]; rfl
              have ean : (a.a != b.a) = true := by simp only [bne, ea]; rfl
              have HF : Hid (V = false) := hide (by rw [HV.out]; unfold clashB rwB; simp only [dec_beq, ka1, ka2, kb1, kb2, ew, ei, ea]; rfl)
              go_enter Try.func4, Try.ntmps4
              go_wp2
              go_ret
              exact ⟨by rw [HF.out]; rfl, HBB.out⟩
          | false =>
            cases ea : (a.a == b.a) with
            | true =>
              have ewn : (a.w != b.w) = true := by simp only [bne, ew]; rfl
              have ein : (a.i != b.i) = true := by simp only [bne, ei]; rfl
              have ean : (a.a != b.a) = false := by simp only [bne, ea]; rfl
              have HF : Hid (V = false) := hide (by rw [HV.out]; unfold clashB rwB; simp only [dec_beq, ka1, ka2, kb1, kb2, ew, ei, ea]; rfl)
              go_enter Try.func4, Try.ntmps4
              go_wp2
              go_ret
              exact ⟨by rw [HF.out]; rfl, HBB.out⟩
            | false =>
              have ewn : (a.w != b.w) = true := by simp only [bne, ew]; rfl
              have ein : (a.i != b.i) = true := by simp only [bne, ei]; rfl
              have ean : (a.a != b.a) = true := by simp only [bne, ea]; rfl
              have HF : Hid (V = false) := hide (by rw [HV.out]; unfold clashB rwB; simp only [dec_beq, ka1, ka2, kb1, kb2, ew, ei, ea]; rfl)
              go_enter Try.func4, Try.ntmps4
              go_wp2
              go_ret
              exact ⟨by rw [HF.out]; rfl, HBB.out⟩
      | false =>
        cases ew : (a.w == b.w) with
        | true =>
          cases ei : (a.i == b.i) with
          | true =>
            cases ea : (a.a == b.a) with
            | true =>
              have ewn : (a.w != b.w) = false := by simp only [bne, ew]; rfl
              have ein : (a.i != b.i) = false := by simp only [bne, ei]; rfl
              have ean : (a.a != b.a) = false := by simp only [bne, ea]; rfl
              have HF : Hid (V = false) := hide (by rw [HV.out]; unfold clashB rwB; simp only [dec_beq, ka1, ka2, kb1, kb2, ew, ei, ea]; rfl)
              go_enter Try.func4, Try.ntmps4
              go_wp2
              go_ret
              exact ⟨by rw [HF.out]; rfl, HBB.out⟩
            | false =>
              have ewn : (a.w != b.w) = false := by simp only [bne, ew]; rfl
              have ein : (a.i != b.i) = false := by simp only [bne, ei]; rfl
              have ean : (a.a != b.a) = true := by simp only [bne, ea]; rfl
              have HF : Hid (V = false) := hide (by rw [HV.out]; unfold clashB rwB; simp only [dec_beq, ka1, ka2, kb1, kb2, ew, ei, ea]; rfl)
              go_enter Try.func4, Try.ntmps4
              go_wp2
              go_ret
              exact ⟨by rw [HF.out]; rfl, HBB.out⟩
          | false =>
            cases ea : (a.a == b.a) with
            | true =>
              have ewn : (a.w != b.w) = false := by simp only [bne, ew]; rfl
              have ein : (a.i != b.i) = true := by simp only [bne, ei]; rfl
              have ean : (a.a != b.a) = false := by simp only [bne, ea]; rfl
              have HF : Hid (V = false) := hide (by rw [HV.out]; unfold clashB rwB; simp only [dec_beq, ka1, ka2, kb1, kb2, ew, ei, ea]; rfl)
              go_enter Try.func4, Try.ntmps4
              go_wp2
              go_ret
              exact ⟨by rw [HF.out]; rfl, HBB.out⟩
            | false =>
              have ewn : (a.w != b.w) = false := by simp only [bne, ew]; rfl
              have ein : (a.i != b.i) = true := by simp only [bne, ei]; rfl
              have ean : (a.a != b.a) = true := by simp only [bne, ea]; rfl
              have HF : Hid (V = false) := hide (by rw [HV.out]; unfold clashB rwB; simp only [dec_beq, ka1, ka2, kb1, kb2, ew, ei, ea]; rfl)
              go_enter Try.func4, Try.ntmps4
              go_wp2
              go_ret
              exact ⟨by rw [HF.out]; rfl, HBB.out⟩
        | false =>
          cases ei : (a.i == b.i) with
          | true =>
            cases ea : (a.a == b.a) with
            | true =>
              have ewn : (a.w != b.w) = true := by simp only [bne, ew]; rfl
              have ein : (a.i != b.i) = false := by simp only [bne, ei]; rfl
              have ean : (a.a != b.a) = false := by simp only [bne, ea]; rfl
              have HF : Hid (V = false) := hide (by rw [HV.out]; unfold clashB rwB; simp only [dec_beq, ka1, ka2, kb1, kb2, ew, ei, ea]; rfl)
              go_enter Try.func4, Try.ntmps4
              go_wp2
              go_ret
              exact ⟨by rw [HF.out]; rfl, HBB.out⟩
            | false =>
              have ewn : (a.w != b.w) = true := by simp only [bne, ew]; rfl
              have ein : (a.i != b.i) = false := by simp only [bne, ei]; rfl
              have ean : (a.a != b.a) = true := by simp only [bne, ea]; rfl
              have HF : Hid (V = false) := hide (by rw [HV.out]; unfold clashB rwB; simp only [dec_beq, ka1, ka2, kb1, kb2, ew, ei, ea]; rfl)
              go_enter Try.func4, Try.ntmps4
              go_wp2
              go_ret
              exact ⟨by rw [HF.out]; rfl, HBB.out⟩
          | false =>
            cases ea : (a.a == b.a) with
            | true =>
              have ewn : (a.w != b.w) = true := by simp only [bne, ew]; rfl
              have ein : (a.i != b.i) = true := by simp only [bne, ei]; rfl
              have ean : (a.a != b.a) = false := by simp only [bne, ea]; rfl
              have HF : Hid (V = false) := hide (by rw [HV.out]; unfold clashB rwB; simp only [dec_beq, ka1, ka2, kb1, kb2, ew, ei, ea]; rfl)
              go_enter Try.func4, Try.ntmps4
              go_wp2
              go_ret
              exact ⟨by rw [HF.out]; rfl, HBB.out⟩
            | false =>
              have ewn : (a.w != b.w) = true := by simp only [bne, ew]; rfl
              have ein : (a.i != b.i) = true := by simp only [bne, ei]; rfl
              have ean : (a.a != b.a) = true := by simp only [bne, ea]; rfl
              have HF : Hid (V = false) := hide (by rw [HV.out]; unfold clashB rwB; simp only [dec_beq, ka1, ka2, kb1, kb2, ew, ei, ea]; rfl)
              go_enter Try.func4, Try.ntmps4
              go_wp2
              go_ret
              exact ⟨by rw [HF.out]; rfl, HBB.out⟩
  | false =>
    cases ka2 : (a.k == 2) with
    | true =>
      cases kb1 : (b.k == 1) with
      | true =>
        have kb2 : (b.k == 2) = false := by rw [eq_of_beq kb1]; rfl
        cases ew : (a.w == b.w) with
        | true =>
          cases ei : (a.i == b.i) with
          | true =>
            cases ea : (a.a == b.a) with
            | true =>
              have ewn : (a.w != b.w) = false := by simp only [bne, ew]; rfl
              have ein : (a.i != b.i) = false := by simp only [bne, ei]; rfl
              have ean : (a.a != b.a) = false := by simp only [bne, ea]; rfl
              have HF : Hid (V = false) := hide (by rw [HV.out]; unfold clashB rwB; simp only [dec_beq, ka1, ka2, kb1, kb2, ew, ei, ea]; rfl)
              go_enter Try.func4, Try.ntmps4
              go_wp2
              go_ret
              exact ⟨by rw [HF.out]; rfl, HBB.out⟩
            | false =>
              have ewn : (a.w != b.w) = false := by simp only [bne, ew]; rfl
              have ein : (a.i != b.i) = false := by simp only [bne, ei]; rfl
              have ean : (a.a != b.a) = true := by simp only [bne, ea]; rfl
              have HF : Hid (V = false) := hide (by rw [HV.out]; unfold clashB rwB; simp only [dec_beq, ka1, ka2, kb1, kb2, ew, ei, ea]; rfl)
              go_enter Try.func4, Try.ntmps4
              go_wp2
              go_ret
              exact ⟨by rw [HF.out]; rfl, HBB.out⟩
          | false =>
            cases ea : (a.a == b.a) with
            | true =>
              have ewn : (a.w != b.w) = false := by simp only [bne, ew]; rfl
              have ein : (a.i != b.i) = true := by simp only [bne, ei]; rfl
              have ean : (a.a != b.a) = false := by simp only [bne, ea]; rfl
              have HF : Hid (V = false) := hide (by rw [HV.out]; unfold clashB rwB; simp only [dec_beq, ka1, ka2, kb1, kb2, ew, ei, ea]; rfl)
              go_enter Try.func4, Try.ntmps4
              go_wp2
              go_ret
              exact ⟨by rw [HF.out]; rfl, HBB.out⟩
            | false =>
              have ewn : (a.w != b.w) = false := by simp only [bne, ew]; rfl
              have ein : (a.i != b.i) = true := by simp only [bne, ei]; rfl
              have ean : (a.a != b.a) = true := by simp only [bne, ea]; rfl
              have HF : Hid (V = false) := hide (by rw [HV.out]; unfold clashB rwB; simp only [dec_beq, ka1, ka2, kb1, kb2, ew, ei, ea]; rfl)
              go_enter Try.func4, Try.ntmps4
              go_wp2
              go_ret
              exact ⟨by rw [HF.out]; rfl, HBB.out⟩
        | false =>
          cases ei : (a.i == b.i) with
          | true =>
            cases ea : (a.a == b.a) with
            | true =>
              have ewn : (a.w != b.w) = true := by simp only [bne, ew]; rfl
              have ein : (a.i != b.i) = false := by simp only [bne, ei]; rfl
              have ean : (a.a != b.a) = false := by simp only [bne, ea]; rfl
              have HF : Hid (V = true) := hide (by rw [HV.out]; unfold clashB rwB; simp only [dec_beq, ka1, ka2, kb1, kb2, ew, ei, ea]; rfl)
              go_enter Try.func4, Try.ntmps4
              go_wp2
              go_ret
              exact ⟨by rw [HF.out]; rfl, HBB.out⟩
            | false =>
              have ewn : (a.w != b.w) = true := by simp only [bne, ew]; rfl
              have ein : (a.i != b.i) = false := by simp only [bne, ei]; rfl
              have ean : (a.a != b.a) = true := by simp only [bne, ea]; rfl
              have HF : Hid (V = false) := hide (by rw [HV.out]; unfold clashB rwB; simp only [dec_beq, ka1, ka2, kb1, kb2, ew, ei, ea]; rfl)
              go_enter Try.func4, Try.ntmps4
              go_wp2
              go_ret
              exact ⟨by rw [HF.out]; rfl, HBB.out⟩
          | false =>
            cases ea : (a.a == b.a) with
            | true =>
              have ewn : (a.w != b.w) = true := by simp only [bne, ew]; rfl
              have ein : (a.i != b.i) = true := by simp only [bne, ei]; rfl
              have ean : (a.a != b.a) = false := by simp only [bne, ea]; rfl
              have HF : Hid (V = false) := hide (by rw [HV.out]; unfold clashB rwB; simp only [dec_beq, ka1, ka2, kb1, kb2, ew, ei, ea]; rfl)
              go_enter Try.func4, Try.ntmps4
              go_wp2
              go_ret
              exact ⟨by rw [HF.out]; rfl, HBB.out⟩
            | false =>
              have ewn : (a.w != b.w) = true := by simp only [bne, ew]; rfl
              have ein : (a.i != b.i) = true := by simp only [bne, ei]; rfl
              have ean : (a.a != b.a) = true := by simp only [bne, ea]; rfl
              have HF : Hid (V = false) := hide (by rw [HV.out]; unfold clashB rwB; simp only [dec_beq, ka1, ka2, kb1, kb2, ew, ei, ea]; rfl)
              go_enter Try.func4, Try.ntmps4
              go_wp2
              go_ret
              exact ⟨by rw [HF.out]; rfl, HBB.out⟩
      | false =>
        cases kb2 : (b.k == 2) with
        | true =>
          cases ew : (a.w == b.w) with
          | true =>
            cases ei : (a.i == b.i) with
            | true =>
              cases ea : (a.a == b.a) with
              | true =>
                have ewn : (a.w != b.w) = false := by simp only [bne, ew]; rfl
                have ein : (a.i != b.i) = false := by simp only [bne, ei]; rfl
                have ean : (a.a != b.a) = false := by simp only [bne, ea]; rfl
                have HF : Hid (V = false) := hide (by rw [HV.out]; unfold clashB rwB; simp only [dec_beq, ka1, ka2, kb1, kb2, ew, ei, ea]; rfl)
                go_enter Try.func4, Try.ntmps4
                go_wp2
                go_ret
                exact ⟨by rw [HF.out]; rfl, HBB.out⟩
              | false =>
                have ewn : (a.w != b.w) = false := by simp only [bne, ew]; rfl
                have ein : (a.i != b.i) = false := by simp only [bne, ei]; rfl
                have ean : (a.a != b.a) = true := by simp only [bne, ea]; rfl
                have HF : Hid (V = false) := hide (by rw [HV.out]; unfold clashB rwB; simp only [dec_beq, ka1, ka2, kb1, kb2, ew, ei, ea]; rfl)
                go_enter Try.func4, Try.ntmps4
                go_wp2
                go_ret
                exact ⟨by rw [HF.out]; rfl, HBB.out⟩
            | false =>
              cases ea : (a.a == b.a) with
              | true =>
                have ewn : (a.w != b.w) = false := by simp only [bne, ew]; rfl
                have ein : (a.i != b.i) = true := by simp only [bne, ei]; rfl
                have ean : (a.a != b.a) = false := by simp only [bne, ea]; rfl
                have HF : Hid (V = false) := hide (by rw [HV.out]; unfold clashB rwB; simp only [dec_beq, ka1, ka2, kb1, kb2, ew, ei, ea]; rfl)
                go_enter Try.func4, Try.ntmps4
                go_wp2
                go_ret
                exact ⟨by rw [HF.out]; rfl, HBB.out⟩
              | false =>
                have ewn : (a.w != b.w) = false := by simp only [bne, ew]; rfl
                have ein : (a.i != b.i) = true := by simp only [bne, ei]; rfl
                have ean : (a.a != b.a) = true := by simp only [bne, ea]; rfl
                have HF : Hid (V = false) := hide (by rw [HV.out]; unfold clashB rwB; simp only [dec_beq, ka1, ka2, kb1, kb2, ew, ei, ea]; rfl)
                go_enter Try.func4, Try.ntmps4
                go_wp2
                go_ret
                exact ⟨by rw [HF.out]; rfl, HBB.out⟩
          | false =>
            cases ei : (a.i == b.i) with
            | true =>
              cases ea : (a.a == b.a) with
              | true =>
                have ewn : (a.w != b.w) = true := by simp only [bne, ew]; rfl
                have ein : (a.i != b.i) = false := by simp only [bne, ei]; rfl
                have ean : (a.a != b.a) = false := by simp only [bne, ea]; rfl
                have HF : Hid (V = true) := hide (by rw [HV.out]; unfold clashB rwB; simp only [dec_beq, ka1, ka2, kb1, kb2, ew, ei, ea]; rfl)
                go_enter Try.func4, Try.ntmps4
                go_wp2
                go_ret
                exact ⟨by rw [HF.out]; rfl, HBB.out⟩
              | false =>
                have ewn : (a.w != b.w) = true := by simp only [bne, ew]; rfl
                have ein : (a.i != b.i) = false := by simp only [bne, ei]; rfl
                have ean : (a.a != b.a) = true := by simp only [bne, ea]; rfl
                have HF : Hid (V = false) := hide (by rw [HV.out]; unfold clashB rwB; simp only [dec_beq, ka1, ka2, kb1, kb2, ew, ei, ea]; rfl)
                go_enter Try.func4, Try.ntmps4
                go_wp2
                go_ret
                exact ⟨by rw [HF.out]; rfl, HBB.out⟩
            | false =>
              cases ea : (a.a == b.a) with
              | true =>
                have ewn : (a.w != b.w) = true := by simp only [bne, ew]; rfl
                have ein : (a.i != b.i) = true := by simp only [bne, ei]; rfl
                have ean : (a.a != b.a) = false := by simp only [bne, ea]; rfl
                have HF : Hid (V = false) := hide (by rw [HV.out]; unfold clashB rwB; simp only [dec_beq, ka1, ka2, kb1, kb2, ew, ei, ea]; rfl)
                go_enter Try.func4, Try.ntmps4
                go_wp2
                go_ret
                exact ⟨by rw [HF.out]; rfl, HBB.out⟩
              | false =>
                have ewn : (a.w != b.w) = true := by simp only [bne, ew]; rfl
                have ein : (a.i != b.i) = true := by simp only [bne, ei]; rfl
                have ean : (a.a != b.a) = true := by simp only [bne, ea]; rfl
                have HF : Hid (V = false) := hide (by rw [HV.out]; unfold clashB rwB; simp only [dec_beq, ka1, ka2, kb1, kb2, ew, ei, ea]; rfl)
                go_enter Try.func4, Try.ntmps4
                go_wp2
                go_ret
                exact ⟨by rw [HF.out]; rfl, HBB.out⟩
        | false =>
          cases ew : (a.w == b.w) with
          | true =>
            cases ei : (a.i == b.i) with
            | true =>
              cases ea : (a.a == b.a) with
              | true =>
                have ewn : (a.w != b.w) = false := by simp only [bne, ew]; rfl
                have ein : (a.i != b.i) = false := by simp only [bne, ei]; rfl
                have ean : (a.a != b.a) = false := by simp only [bne, ea]; rfl
                have HF : Hid (V = false) := hide (by rw [HV.out]; unfold clashB rwB; simp only [dec_beq, ka1, ka2, kb1, kb2, ew, ei, ea]; rfl)
                go_enter Try.func4, Try.ntmps4
                go_wp2
                go_ret
                exact ⟨by rw [HF.out]; rfl, HBB.out⟩
              | false =>
                have ewn : (a.w != b.w) = false := by simp only [bne, ew]; rfl
                have ein : (a.i != b.i) = false := by simp only [bne, ei]; rfl
                have ean : (a.a != b.a) = true := by simp only [bne, ea]; rfl
                have HF : Hid (V = false) := hide (by rw [HV.out]; unfold clashB rwB; simp only [dec_beq, ka1, ka2, kb1, kb2, ew, ei, ea]; rfl)
                go_enter Try.func4, Try.ntmps4
                go_wp2
                go_ret
                exact ⟨by rw [HF.out]; rfl, HBB.out⟩
            | false =>
              cases ea : (a.a == b.a) with
              | true =>
                have ewn : (a.w != b.w) = false := by simp only [bne, ew]; rfl
                have ein : (a.i != b.i) = true := by simp only [bne, ei]; rfl
                have ean : (a.a != b.a) = false := by simp only [bne, ea]; rfl
                have HF : Hid (V = false) := hide (by rw [HV.out]; unfold clashB rwB; simp only [dec_beq, ka1, ka2, kb1, kb2, ew, ei, ea]; rfl)
                go_enter Try.func4, Try.ntmps4
                go_wp2
                go_ret
                exact ⟨by rw [HF.out]; rfl, HBB.out⟩
              | false =>
                have ewn : (a.w != b.w) = false := by simp only [bne, ew]; rfl
                have ein : (a.i != b.i) = true := by simp only [bne, ei]; rfl
                have ean : (a.a != b.a) = true := by simp only [bne, ea]; rfl
                have HF : Hid (V = false) := hide (by rw [HV.out]; unfold clashB rwB; simp only [dec_beq, ka1, ka2, kb1, kb2, ew, ei, ea]; rfl)
                go_enter Try.func4, Try.ntmps4
                go_wp2
                go_ret
                exact ⟨by rw [HF.out]; rfl, HBB.out⟩
          | false =>
            cases ei : (a.i == b.i) with
            | true =>
              cases ea : (a.a == b.a) with
              | true =>
                have ewn : (a.w != b.w) = true := by simp only [bne, ew]; rfl
                have ein : (a.i != b.i) = false := by simp only [bne, ei]; rfl
                have ean : (a.a != b.a) = false := by simp only [bne, ea]; rfl
                have HF : Hid (V = false) := hide (by rw [HV.out]; unfold clashB rwB; simp only [dec_beq, ka1, ka2, kb1, kb2, ew, ei, ea]; rfl)
                go_enter Try.func4, Try.ntmps4
                go_wp2
                go_ret
                exact ⟨by rw [HF.out]; rfl, HBB.out⟩
              | false =>
                have ewn : (a.w != b.w) = true := by simp only [bne, ew]; rfl
                have ein : (a.i != b.i) = false := by simp only [bne, ei]; rfl
                have ean : (a.a != b.a) = true := by simp only [bne, ea]; rfl
                have HF : Hid (V = false) := hide (by rw [HV.out]; unfold clashB rwB; simp only [dec_beq, ka1, ka2, kb1, kb2, ew, ei, ea]; rfl)
                go_enter Try.func4, Try.ntmps4
                go_wp2
                go_ret
                exact ⟨by rw [HF.out]; rfl, HBB.out⟩
            | false =>
              cases ea : (a.a == b.a) with
              | true =>
                have ewn : (a.w != b.w) = true := by simp only [bne, ew]; rfl
                have ein : (a.i != b.i) = true := by simp only [bne, ei]; rfl
                have ean : (a.a != b.a) = false := by simp only [bne, ea]; rfl
                have HF : Hid (V = false) := hide (by rw [HV.out]; unfold clashB rwB; simp only [dec_beq, ka1, ka2, kb1, kb2, ew, ei, ea]; rfl)
                go_enter Try.func4, Try.ntmps4
                go_wp2
                go_ret
                exact ⟨by rw [HF.out]; rfl, HBB.out⟩
              | false =>
                have ewn : (a.w != b.w) = true := by simp only [bne, ew]; rfl
                have ein : (a.i != b.i) = true := by simp only [bne, ei]; rfl
                have ean : (a.a != b.a) = true := by simp only [bne, ea]; rfl
                have HF : Hid (V = false) := hide (by rw [HV.out]; unfold clashB rwB; simp only [dec_beq, ka1, ka2, kb1, kb2, ew, ei, ea]; rfl)
                go_enter Try.func4, Try.ntmps4
                go_wp2
                go_ret
                exact ⟨by rw [HF.out]; rfl, HBB.out⟩
    | false =>
      cases kb1 : (b.k == 1) with
      | true =>
        have kb2 : (b.k == 2) = false := by rw [eq_of_beq kb1]; rfl
        cases ew : (a.w == b.w) with
        | true =>
          cases ei : (a.i == b.i) with
          | true =>
            cases ea : (a.a == b.a) with
            | true =>
              have ewn : (a.w != b.w) = false := by simp only [bne, ew]; rfl
              have ein : (a.i != b.i) = false := by simp only [bne, ei]; rfl
              have ean : (a.a != b.a) = false := by simp only [bne, ea]; rfl
              have HF : Hid (V = false) := hide (by rw [HV.out]; unfold clashB rwB; simp only [dec_beq, ka1, ka2, kb1, kb2, ew, ei, ea]; rfl)
              go_enter Try.func4, Try.ntmps4
              go_wp2
              go_ret
              exact ⟨by rw [HF.out]; rfl, HBB.out⟩
            | false =>
              have ewn : (a.w != b.w) = false := by simp only [bne, ew]; rfl
              have ein : (a.i != b.i) = false := by simp only [bne, ei]; rfl
              have ean : (a.a != b.a) = true := by simp only [bne, ea]; rfl
              have HF : Hid (V = false) := hide (by rw [HV.out]; unfold clashB rwB; simp only [dec_beq, ka1, ka2, kb1, kb2, ew, ei, ea]; rfl)
              go_enter Try.func4, Try.ntmps4
              go_wp2
              go_ret
              exact ⟨by rw [HF.out]; rfl, HBB.out⟩
          | false =>
            cases ea : (a.a == b.a) with
            | true =>
              have ewn : (a.w != b.w) = false := by simp only [bne, ew]; rfl
              have ein : (a.i != b.i) = true := by simp only [bne, ei]; rfl
              have ean : (a.a != b.a) = false := by simp only [bne, ea]; rfl
              have HF : Hid (V = false) := hide (by rw [HV.out]; unfold clashB rwB; simp only [dec_beq, ka1, ka2, kb1, kb2, ew, ei, ea]; rfl)
              go_enter Try.func4, Try.ntmps4
              go_wp2
              go_ret
              exact ⟨by rw [HF.out]; rfl, HBB.out⟩
            | false =>
              have ewn : (a.w != b.w) = false := by simp only [bne, ew]; rfl
              have ein : (a.i != b.i) = true := by simp only [bne, ei]; rfl
              have ean : (a.a != b.a) = true := by simp only [bne, ea]; rfl
              have HF : Hid (V = false) := hide (by rw [HV.out]; unfold clashB rwB; simp only [dec_beq, ka1, ka2, kb1, kb2, ew, ei, ea]; rfl)
              go_enter Try.func4, Try.ntmps4
              go_wp2
              go_ret
              exact ⟨by rw [HF.out]; rfl, HBB.out⟩
        | false =>
          cases ei : (a.i == b.i) with
          | true =>
            cases ea : (a.a == b.a) with
            | true =>
              have ewn : (a.w != b.w) = true := by simp only [bne, ew]; rfl
              have ein : (a.i != b.i) = false := by simp only [bne, ei]; rfl
              have ean : (a.a != b.a) = false := by simp only [bne, ea]; rfl
              have HF : Hid (V = false) := hide (by rw [HV.out]; unfold clashB rwB; simp only [dec_beq, ka1, ka2, kb1, kb2, ew, ei, ea]; rfl)
              go_enter Try.func4, Try.ntmps4
              go_wp2
              go_ret
              exact ⟨by rw [HF.out]; rfl, HBB.out⟩
            | false =>
              have ewn : (a.w != b.w) = true := by simp only [bne, ew]; rfl
              have ein : (a.i != b.i) = false := by simp only [bne, ei]; rfl
              have ean : (a.a != b.a) = true := by simp only [bne, ea]; rfl
              have HF : Hid (V = false) := hide (by rw [HV.out]; unfold clashB rwB; simp only [dec_beq, ka1, ka2, kb1, kb2, ew, ei, ea]; rfl)
              go_enter Try.func4, Try.ntmps4
              go_wp2
              go_ret
              exact ⟨by rw [HF.out]; rfl, HBB.out⟩
          | false =>
            cases ea : (a.a == b.a) with
            | true =>
              have ewn : (a.w != b.w) = true := by simp only [bne, ew]; rfl
              have ein : (a.i != b.i) = true := by simp only [bne, ei]; rfl
              have ean : (a.a != b.a) = false := by simp only [bne, ea]; rfl
              have HF : Hid (V = false) := hide (by rw [HV.out]; unfold clashB rwB; simp only [dec_beq, ka1, ka2, kb1, kb2, ew, ei, ea]; rfl)
              go_enter Try.func4, Try.ntmps4
              go_wp2
              go_ret
              exact ⟨by rw [HF.out]; rfl, HBB.out⟩
            | false =>
              have ewn : (a.w != b.w) = true := by simp only [bne, ew]; rfl
              have ein : (a.i != b.i) = true := by simp only [bne, ei]; rfl
              have ean : (a.a != b.a) = true := by simp only [bne, ea]; rfl
              have HF : Hid (V = false) := hide (by rw [HV.out]; unfold clashB rwB; simp only [dec_beq, ka1, ka2, kb1, kb2, ew, ei, ea]; rfl)
              go_enter Try.func4, Try.ntmps4
              go_wp2
              go_ret
              exact ⟨by rw [HF.out]; rfl, HBB.out⟩
      | false =>
        cases kb2 : (b.k == 2) with
        | true =>
          cases ew : (a.w == b.w) with
          | true =>
            cases ei : (a.i == b.i) with
            | true =>
              cases ea : (a.a == b.a) with
              | true =>
                have ewn : (a.w != b.w) = false := by simp only [bne, ew]; rfl
                have ein : (a.i != b.i) = false := by simp only [bne, ei]; rfl
                have ean : (a.a != b.a) = false := by simp only [bne, ea]; rfl
                have HF : Hid (V = false) := hide (by rw [HV.out]; unfold clashB rwB; simp only [dec_beq, ka1, ka2, kb1, kb2, ew, ei, ea]; rfl)
                go_enter Try.func4, Try.ntmps4
                go_wp2
                go_ret
                exact ⟨by rw [HF.out]; rfl, HBB.out⟩
              | false =>
                have ewn : (a.w != b.w) = false := by simp only [bne, ew]; rfl
                have ein : (a.i != b.i) = false := by simp only [bne, ei]; rfl
                have ean : (a.a != b.a) = true := by simp only [bne, ea]; rfl
                have HF : Hid (V = false) := hide (by rw [HV.out]; unfold clashB rwB; simp only [dec_beq, ka1, ka2, kb1, kb2, ew, ei, ea]; rfl)
                go_enter Try.func4, Try.ntmps4
                go_wp2
                go_ret
                exact ⟨by rw [HF.out]; rfl, HBB.out⟩
            | false =>
              cases ea : (a.a == b.a) with
              | true =>
                have ewn : (a.w != b.w) = false := by simp only [bne, ew]; rfl
                have ein : (a.i != b.i) = true := by simp only [bne, ei]; rfl
                have ean : (a.a != b.a) = false := by simp only [bne, ea]; rfl
                have HF : Hid (V = false) := hide (by rw [HV.out]; unfold clashB rwB; simp only [dec_beq, ka1, ka2, kb1, kb2, ew, ei, ea]; rfl)
                go_enter Try.func4, Try.ntmps4
                go_wp2
                go_ret
                exact ⟨by rw [HF.out]; rfl, HBB.out⟩
              | false =>
                have ewn : (a.w != b.w) = false := by simp only [bne, ew]; rfl
                have ein : (a.i != b.i) = true := by simp only [bne, ei]; rfl
                have ean : (a.a != b.a) = true := by simp only [bne, ea]; rfl
                have HF : Hid (V = false) := hide (by rw [HV.out]; unfold clashB rwB; simp only [dec_beq, ka1, ka2, kb1, kb2, ew, ei, ea]; rfl)
                go_enter Try.func4, Try.ntmps4
                go_wp2
                go_ret
                exact ⟨by rw [HF.out]; rfl, HBB.out⟩
          | false =>
            cases ei : (a.i == b.i) with
            | true =>
              cases ea : (a.a == b.a) with
              | true =>
                have ewn : (a.w != b.w) = true := by simp only [bne, ew]; rfl
                have ein : (a.i != b.i) = false := by simp only [bne, ei]; rfl
                have ean : (a.a != b.a) = false := by simp only [bne, ea]; rfl
                have HF : Hid (V = false) := hide (by rw [HV.out]; unfold clashB rwB; simp only [dec_beq, ka1, ka2, kb1, kb2, ew, ei, ea]; rfl)
                go_enter Try.func4, Try.ntmps4
                go_wp2
                go_ret
                exact ⟨by rw [HF.out]; rfl, HBB.out⟩
              | false =>
                have ewn : (a.w != b.w) = true := by simp only [bne, ew]; rfl
                have ein : (a.i != b.i) = false := by simp only [bne, ei]; rfl
                have ean : (a.a != b.a) = true := by simp only [bne, ea]; rfl
                have HF : Hid (V = false) := hide (by rw [HV.out]; unfold clashB rwB; simp only [dec_beq, ka1, ka2, kb1, kb2, ew, ei, ea]; rfl)
                go_enter Try.func4, Try.ntmps4
                go_wp2
                go_ret
                exact ⟨by rw [HF.out]; rfl, HBB.out⟩
            | false =>
              cases ea : (a.a == b.a) with
              | true =>
                have ewn : (a.w != b.w) = true := by simp only [bne, ew]; rfl
                have ein : (a.i != b.i) = true := by simp only [bne, ei]; rfl
                have ean : (a.a != b.a) = false := by simp only [bne, ea]; rfl
                have HF : Hid (V = false) := hide (by rw [HV.out]; unfold clashB rwB; simp only [dec_beq, ka1, ka2, kb1, kb2, ew, ei, ea]; rfl)
                go_enter Try.func4, Try.ntmps4
                go_wp2
                go_ret
                exact ⟨by rw [HF.out]; rfl, HBB.out⟩
              | false =>
                have ewn : (a.w != b.w) = true := by simp only [bne, ew]; rfl
                have ein : (a.i != b.i) = true := by simp only [bne, ei]; rfl
                have ean : (a.a != b.a) = true := by simp only [bne, ea]; rfl
                have HF : Hid (V = false) := hide (by rw [HV.out]; unfold clashB rwB; simp only [dec_beq, ka1, ka2, kb1, kb2, ew, ei, ea]; rfl)
                go_enter Try.func4, Try.ntmps4
                go_wp2
                go_ret
                exact ⟨by rw [HF.out]; rfl, HBB.out⟩
        | false =>
          cases ew : (a.w == b.w) with
          | true =>
            cases ei : (a.i == b.i) with
            | true =>
              cases ea : (a.a == b.a) with
              | true =>
                have ewn : (a.w != b.w) = false := by simp only [bne, ew]; rfl
                have ein : (a.i != b.i) = false := by simp only [bne, ei]; rfl
                have ean : (a.a != b.a) = false := by simp only [bne, ea]; rfl
                have HF : Hid (V = false) := hide (by rw [HV.out]; unfold clashB rwB; simp only [dec_beq, ka1, ka2, kb1, kb2, ew, ei, ea]; rfl)
                go_enter Try.func4, Try.ntmps4
                go_wp2
                go_ret
                exact ⟨by rw [HF.out]; rfl, HBB.out⟩
              | false =>
                have ewn : (a.w != b.w) = false := by simp only [bne, ew]; rfl
                have ein : (a.i != b.i) = false := by simp only [bne, ei]; rfl
                have ean : (a.a != b.a) = true := by simp only [bne, ea]; rfl
                have HF : Hid (V = false) := hide (by rw [HV.out]; unfold clashB rwB; simp only [dec_beq, ka1, ka2, kb1, kb2, ew, ei, ea]; rfl)
                go_enter Try.func4, Try.ntmps4
                go_wp2
                go_ret
                exact ⟨by rw [HF.out]; rfl, HBB.out⟩
            | false =>
              cases ea : (a.a == b.a) with
              | true =>
                have ewn : (a.w != b.w) = false := by simp only [bne, ew]; rfl
                have ein : (a.i != b.i) = true := by simp only [bne, ei]; rfl
                have ean : (a.a != b.a) = false := by simp only [bne, ea]; rfl
                have HF : Hid (V = false) := hide (by rw [HV.out]; unfold clashB rwB; simp only [dec_beq, ka1, ka2, kb1, kb2, ew, ei, ea]; rfl)
                go_enter Try.func4, Try.ntmps4
                go_wp2
                go_ret
                exact ⟨by rw [HF.out]; rfl, HBB.out⟩
              | false =>
                have ewn : (a.w != b.w) = false := by simp only [bne, ew]; rfl
                have ein : (a.i != b.i) = true := by simp only [bne, ei]; rfl
                have ean : (a.a != b.a) = true := by simp only [bne, ea]; rfl
                have HF : Hid (V = false) := hide (by rw [HV.out]; unfold clashB rwB; simp only [dec_beq, ka1, ka2, kb1, kb2, ew, ei, ea]; rfl)
                go_enter Try.func4, Try.ntmps4
                go_wp2
                go_ret
                exact ⟨by rw [HF.out]; rfl, HBB.out⟩
          | false =>
            cases ei : (a.i == b.i) with
            | true =>
              cases ea : (a.a == b.a) with
              | true =>
                have ewn : (a.w != b.w) = true := by simp only [bne, ew]; rfl
                have ein : (a.i != b.i) = false := by simp only [bne, ei]; rfl
                have ean : (a.a != b.a) = false := by simp only [bne, ea]; rfl
                have HF : Hid (V = false) := hide (by rw [HV.out]; unfold clashB rwB; simp only [dec_beq, ka1, ka2, kb1, kb2, ew, ei, ea]; rfl)
                go_enter Try.func4, Try.ntmps4
                go_wp2
                go_ret
                exact ⟨by rw [HF.out]; rfl, HBB.out⟩
              | false =>
                have ewn : (a.w != b.w) = true := by simp only [bne, ew]; rfl
                have ein : (a.i != b.i) = false := by simp only [bne, ei]; rfl
                have ean : (a.a != b.a) = true := by simp only [bne, ea]; rfl
                have HF : Hid (V = false) := hide (by rw [HV.out]; unfold clashB rwB; simp only [dec_beq, ka1, ka2, kb1, kb2, ew, ei, ea]; rfl)
                go_enter Try.func4, Try.ntmps4
                go_wp2
                go_ret
                exact ⟨by rw [HF.out]; rfl, HBB.out⟩
            | false =>
              cases ea : (a.a == b.a) with
              | true =>
                have ewn : (a.w != b.w) = true := by simp only [bne, ew]; rfl
                have ein : (a.i != b.i) = true := by simp only [bne, ei]; rfl
                have ean : (a.a != b.a) = false := by simp only [bne, ea]; rfl
                have HF : Hid (V = false) := hide (by rw [HV.out]; unfold clashB rwB; simp only [dec_beq, ka1, ka2, kb1, kb2, ew, ei, ea]; rfl)
                go_enter Try.func4, Try.ntmps4
                go_wp2
                go_ret
                exact ⟨by rw [HF.out]; rfl, HBB.out⟩
              | false =>
                have ewn : (a.w != b.w) = true := by simp only [bne, ew]; rfl
                have ein : (a.i != b.i) = true := by simp only [bne, ei]; rfl
                have ean : (a.a != b.a) = true := by simp only [bne, ea]; rfl
                have HF : Hid (V = false) := hide (by rw [HV.out]; unfold clashB rwB; simp only [dec_beq, ka1, ka2, kb1, kb2, ew, ei, ea]; rfl)
                go_enter Try.func4, Try.ntmps4
                go_wp2
                go_ret
                exact ⟨by rw [HF.out]; rfl, HBB.out⟩
end Go.Proofs.Ytfmlgiakmoadhaa
