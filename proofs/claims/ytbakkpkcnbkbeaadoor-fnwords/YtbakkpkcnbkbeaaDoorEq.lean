/-
  What eqByteS does of two rows of the same bytes.
-/
import Derived.Test.YtbakkpkcnbkbeaaDoorRows
import Derived.Test.YtbakkpkcnbkbeaaDoorBytes
import Derived.Deep.QuietTactic
import Derived.BigQuiet
namespace Go.Proofs.YtbakkpkcnbkbeaaDoor
open Go.RowKit

set_option maxHeartbeats 400000 in
theorem eqB (w : World) (b1 b2 : Nat) (v1 v2 : Value) (zs : List Int) (h1 : Own w b1 v1 zs) (h2 : Own w b2 v2 zs) (hl : zs.length ≤ 1000000000) :
    Calls Tryd.prog 32 #[v1, v2] w fun e w' => e = .returned (.bool true) ∧ ∃ q, w' = w.drewN q := by
  rcases h1.form with ⟨hz, ao1, c1, rfl⟩ | ⟨hz, g1, c1, rfl, _, _, hc1, _⟩
  · rcases h2.form with ⟨_, ao2, c2, rfl⟩ | ⟨hz', _⟩
    · clear h1 h2 hz hl
      go_enter Tryd.func32, Tryd.ntmps32
      go_wp2
      go_loopw [5] (fun i wr => i = .int .i64 0 ∧ wr = w) (fun _ _ => 0)
      case atStart => exact ⟨rfl, rfl⟩
      case round =>
        obtain ⟨rfl, rfl⟩ := hrel
        go_wp2
        go_ret
        exact ⟨rfl, 0, rfl⟩
    · subst hz; simp at hz'
  · rcases h2.form with ⟨hz', _⟩ | ⟨_, g2, c2, rfl, _, _, hc2, _⟩
    · subst hz'; simp at hz
    · clear h1 h2
      have hne : ((zs.length : Int) != (zs.length : Int)) = false := by simp
      generalize hn : zs.length = n at *
      go_enter Tryd.func32, Tryd.ntmps32
      go_wp2
      go_loopw [5] (fun i wr => ∃ k : Nat, k ≤ n ∧ i = .int .i64 k ∧ ∃ q, wr = w.drewN q) (fun i _ => n - (intOf i).toNat)
      case atStart => exact ⟨0, Nat.zero_le _, rfl, 0, rfl⟩
      case round =>
        obtain ⟨k, hk, rfl, q, rfl⟩ := hrel
        by_cases hlt : k < n
        · have e1 := hc1 k hlt
          have e2 := hc2 k hlt
          clear hc1 hc2
          have hbe : ((zs.getD k 0) != (zs.getD k 0)) = false := by simp
          go_wp2
          go_quiet (fail)
          go_wp2
          go_roundw
          case rel => exact ⟨k + 1, by omega, by go_num, q + nq, rfl⟩
          case measure => simp [intOf]; omega
        · go_wp2
          go_ret
          exact ⟨rfl, q, rfl⟩

theorem grownBy_trans {w w1 w2 : World} {row : Option Nat} (h : w.grownBy w1 row) (h' : w1.grownBy w2 row) : w.grownBy w2 row :=
  ⟨h'.os.trans h.os, h'.tape.trans h.tape, h'.output.trans h.output, Nat.le_trans h.size h'.size, fun k hk hne => (h'.block k (Nat.lt_of_lt_of_le hk h.size) hne).trans (h.block k hk hne)⟩

end Go.Proofs.YtbakkpkcnbkbeaaDoor
