/-
  Two arrays of two numbers, compared.
-/
import Derived.Test.YtkfnpijljpbiaaaDoorJ16
import Derived.Laws.StructEq
namespace Go.Proofs.YtkfnpijljpbiaaaDoor
open Go.RowKit
set_option linter.unusedSimpArgs false

theorem eq_sums (w : World) (p q : Int × Int) : (Op.equalIn 10000 98 (sumsV p) (sumsV q)).run Tryd.prog w = .ok (p.1 == q.1 && p.2 == q.2) w := by
  have h3 := Tryd.underlying3
  have h40 := Tryd.underlying98
  have hs : ∀ w, (sizeOf 3).run Tryd.prog w = .ok 1 w := fun w => by kernel_rfl
  have hp0 : ∀ (x y : Int) w, (part 3 #[.int .i64 x, .int .i64 y] 0).run Tryd.prog w = .ok (.int .i64 x) w := fun x y w => by
    have hi := Tryd.underlying3
    simp [part, isAgg, underlying, hi, Sem.run_bind, Result.andThen, hs]
  have hp1 : ∀ (x y : Int) w, (part 3 #[.int .i64 x, .int .i64 y] 1).run Tryd.prog w = .ok (.int .i64 y) w := fun x y w => by
    have hi := Tryd.underlying3
    simp [part, isAgg, underlying, hi, Sem.run_bind, Result.andThen, hs]
  have he : ∀ (x y : Int) w, (Op.equalIn 9999 3 (.int .i64 x) (.int .i64 y)).run Tryd.prog w = .ok (x == y) w := fun x y w => run_equalIn_int w 9998 3 .i64 .i64 x y h3
  have hr : List.range' 0 2 = [0, 1] := rfl
  unfold sumsV
  rw [Op.equalIn]
  simp [Sem.run_bind, Result.andThen, underlying, h40, hs, hr, hp0, hp1, he]
  by_cases h1 : p.1 = q.1 <;> by_cases h2 : p.2 = q.2 <;> simp [h1, h2, Sem.run_bind, Result.andThen, hp0, hp1, he]
theorem neq_sums (w : World) (p q : Int × Int) : (binOp .neq 98 (sumsV p) (sumsV q)).run Tryd.prog w = .ok (.bool (!(p.1 == q.1 && p.2 == q.2))) w := by
  have := eq_sums w p q
  unfold sumsV at *
  rw [run_neq_struct, this]
  rfl
theorem guard_sums (w : World) (x y : Operand) (p q : Int × Int) : (eqGuard .neq 98 x y (sumsV p) (sumsV q)).run Tryd.prog w = .ok () w := by
  have h : Tryd.prog.eqGuardType Tryd.prog.depth 98 = false := by kernel_rfl
  unfold sumsV eqGuard
  simp [Sem.run_bind, Result.andThen, h]
end Go.Proofs.YtkfnpijljpbiaaaDoor
