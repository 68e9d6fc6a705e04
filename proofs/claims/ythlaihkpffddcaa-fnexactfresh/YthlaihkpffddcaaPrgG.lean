/-
  KindOf, FieldOf, MethodOf and Sub, in the program and in its model.
-/
import Derived.Test.YthlaihkpffddcaaPrgF
namespace Go.Proofs.Ythlaihkpffddcaa
open Go.RowKit

set_option maxRecDepth 100000 in
set_option maxHeartbeats 4000000 in
theorem hasImpl (w : World) (x : Pg) (a : Option Addr) (n c : Nat) (k : Int) (hn : n ≤ 1048576) :
    Calls Try.prog 74 #[pgV x (.slice a n c), .int .i64 k] w fun e w' => e = .returned (.bool (inB k 0 ((n : Int) - 1))) ∧ Below w.heap.size w w' := by
  have hw : IntKind.i64.wrap ((n : Int) - 1) = (n : Int) - 1 := by rw [IntKind.wrap_i64]; omega
  unfold pgV
  go_enter Try.func74, Try.ntmps74
  go_wp2_with fail
  refine (inImpl _ _ _ _).mono ?_
  rintro e w1 ⟨rfl, rfl⟩
  go_wp2
  go_ret
  exact ⟨rfl, (Below.refl _ _).alloc (Nat.le_refl _) _⟩
end Go.Proofs.Ythlaihkpffddcaa
