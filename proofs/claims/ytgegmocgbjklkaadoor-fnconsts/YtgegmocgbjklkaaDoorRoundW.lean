/-
  What Round does, in the program and in its model: both answer the word that a number goes round to, and touch nothing.
-/
import Derived.Test.YtgegmocgbjklkaaDoorRows
import Derived.Test.YtgegmocgbjklkaaDoorNum
import Derived.WalkKit
import Derived.ProofKit
namespace Go.Proofs.YtgegmocgbjklkaaDoor
open Go.RowKit

theorem roundImpl (n : Int) (w : World) :
    Calls Tryd.prog 53 #[.int .i64 n] w fun e w' => e = .returned (.int .i64 (rnd n)) ∧ w' = w := by
  go_enter Tryd.func53, Tryd.ntmps53
  go_wp2
  go_ret
  exact ⟨ret_int (rnd_wrap n), rfl⟩

theorem roundSpec (n : Int) (w : World) :
    Calls Tryd.prog 63 #[.int .i64 n] w fun e w' => e = .returned (.int .i64 (rnd n)) ∧ w' = w := by
  have hb := and32 n
  have h0 : 0 ≤ n % 4294967296 := by omega
  have h1 : n % 4294967296 < 4294967296 := by omega
  by_cases h : 2147483647 < n % 4294967296
  · go_enter Tryd.func63, Tryd.ntmps63
    go_wp2
    go_ret
    exact ⟨ret_int (rnd_hi n h), rfl⟩
  · go_enter Tryd.func63, Tryd.ntmps63
    go_wp2
    go_ret
    exact ⟨ret_int (rnd_lo n (by omega)), rfl⟩
end Go.Proofs.YtgegmocgbjklkaaDoor
