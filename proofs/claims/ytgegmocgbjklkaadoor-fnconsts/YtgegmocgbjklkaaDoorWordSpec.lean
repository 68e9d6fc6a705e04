/-
  What the model's GetWord does: it answers as the readers of the program do.
-/
import Derived.Test.YtgegmocgbjklkaaDoorGetWord
import Derived.Deep.QuietTactic
import Derived.BigQuiet
namespace Go.Proofs.YtgegmocgbjklkaaDoor
open Go.RowKit

set_option maxHeartbeats 2000000 in
theorem getWordModel (w : World) (a : Option Addr) (len cap : Nat) (zs : List Int) (k : Int) (B : Nat) (hin : In w B a len zs) :
    Calls Tryd.prog 59 #[.slice a len cap, .int .i64 k] w fun e w' => e = .returned (ans (gw zs k)) ∧ ∃ q, w' = w.drewN q := by
  have hlen := hin.1
  have hl := hin.2.1
  by_cases hneg : k < 0
  · have e1 : gw zs k = none := by unfold gw; rw [if_neg (by omega)]
    rw [e1]
    clear hin
    go_enter Tryd.func59, Tryd.ntmps59
    go_wp2
    go_ret3
    exact ⟨rfl, 0, rfl⟩
  · obtain ⟨k0, rfl⟩ := Int.eq_ofNat_of_zero_le (show 0 ≤ k by omega)
    by_cases hr : k0 + 4 ≤ len
    · have e1 : gw zs (k0 : Int) = some (rnd (ws zs k0 4), k0 + 4) := by unfold gw; rw [if_pos (by simp; omega)]; simp
      obtain ⟨b, o, rfl, hbB, hcell⟩ := hin.2.2.2 (by omega)
      have z0 := hcell k0 (by omega)
      have z1 := hcell (k0 + 1) (by omega)
      have z2 := hcell (k0 + 2) (by omega)
      have z3 := hcell (k0 + 3) (by omega)
      have r0 := hin.2.2.1 k0 (by omega)
      have r1 := hin.2.2.1 (k0 + 1) (by omega)
      have r2 := hin.2.2.1 (k0 + 2) (by omega)
      have r3 := hin.2.2.1 (k0 + 3) (by omega)
      rw [e1]
      unfold ws
      clear hin hcell hbB e1
      generalize zs.getD k0 0 = x0 at *
      generalize zs.getD (k0 + 1) 0 = x1 at *
      generalize zs.getD (k0 + 2) 0 = x2 at *
      generalize zs.getD (k0 + 3) 0 = x3 at *
      have h1 : bits .or .i64 x0 (x1 * 256) = x0 + x1 * 256 := or_low 8 (by omega) _ _ (by omega) (by omega) (by omega) (by omega) (by omega)
      have h2 : bits .or .i64 (x0 + x1 * 256) (x2 * 65536) = x0 + x1 * 256 + x2 * 65536 := or_low 16 (by omega) _ _ (by omega) (by omega) (by omega) (by omega) (by omega)
      have h3 : bits .or .i64 (x0 + x1 * 256 + x2 * 65536) (x3 * 16777216) = x0 + x1 * 256 + x2 * 65536 + x3 * 16777216 := or_low 24 (by omega) _ _ (by omega) (by omega) (by omega) (by omega) (by omega)
      have b1 : (k0 : Int) + 3 < (len : Int) := by omega
      go_enter Tryd.func59, Tryd.ntmps59
      go_wp2
      go_quiet (fail)
      go_wp2_with (go_at_call 63; refine (roundSpec _ _).mono ?_; rintro e w' ⟨rfl, rfl⟩)
      go_ret3
      exact ⟨ret_ans rfl rfl (by omega), _, rfl⟩
    · have e1 : gw zs (k0 : Int) = none := by unfold gw; rw [if_neg (by simp; omega)]
      rw [e1]
      clear hin
      go_enter Tryd.func59, Tryd.ntmps59
      go_wp2
      go_ret3
      exact ⟨rfl, 0, rfl⟩
end Go.Proofs.YtgegmocgbjklkaaDoor
