/-
  What a value of a field is, and what ValOk does with it, in the program and in its model.
-/
import Derived.Test.YthagfdcfpffaoaaPutWordW
import Derived.Deep.QuietTactic
import Derived.BigQuiet
namespace Go.Proofs.Ythagfdcfpffaoaa
open Go.RowKit

/-- What ValOk says of a value. -/
def vOk (r : Bool) (n : Int) : Bool := bif r then inB n 0 1000000 else inB n (-2147483648) 2147483647

theorem wordSpec (n : Int) (w : World) :
    Calls Try.prog 78 #[.int .i64 n] w fun e w' => e = .returned (.bool (inB n (-2147483648) 2147483647)) ∧ w' = w := by
  cases h : inB n (-2147483648) 2147483647 with
  | true => have := inB_yes h; exact wordYes n w this.1 this.2
  | false => exact wordNo n w (inB_no h)

theorem rnd_eq (n : Int) : (rnd n == n) = inB n (-2147483648) 2147483647 := by
  cases h : inB n (-2147483648) 2147483647 with
  | true => have := inB_yes h; simp [rnd]; omega
  | false => have := inB_no h; simp [rnd]; omega

end Go.Proofs.Ythagfdcfpffaoaa
