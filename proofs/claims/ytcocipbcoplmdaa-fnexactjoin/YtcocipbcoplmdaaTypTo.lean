/-
  Types and flows copied.
-/
import Derived.Test.YtcocipbcoplmdaaTypD
import Derived.Test.YtcocipbcoplmdaaRecT
namespace Go.Proofs.Ytcocipbcoplmdaa
open Go.ChangeShapes Go.WideShapes Go.RowKit

set_option maxRecDepth 100000 in
set_option maxHeartbeats 4000000 in
theorem toTy (w : World) (x : Ty) : Calls Try.prog 10 #[tyV x] w fun e w' => e = .returned (tyV x) ∧ Below w.heap.size w w' := by
  unfold tyV
  go_enter Try.func10, Try.ntmps10
  go_wp2
  exact bodyPost_ret (v := .agg #[.int .i64 x.k, .int .i64 x.c]) (by simp [results, Try.results10, go_sem]) rfl ⟨rfl, (((Below.refl _ _).alloc (Nat.le_refl _) _).alloc (by simp) _).alloc (by simp; omega) _⟩
theorem loadTy {w : World} {g : Nat} {a0 a1 : Value} (h : w.heap[g]? = some (.cells #[a0, a1] 33 (0, 0))) : (loadVar 33 ⟨g, 0, none⟩).run Try.prog w = .ok (.agg #[a0, a1]) w :=
  run_loadVar_row w g 33 33 #[a0, a1] (0, 0) _ h Try.underlying33 rfl (by kernel_rfl)
end Go.Proofs.Ytcocipbcoplmdaa
