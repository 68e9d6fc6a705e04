/-
  Joined: ValW, ListU.
-/
import Derived.Test.YthlaihkpffddcaaJ33
import Derived.Deep.QuietTactic
import Derived.BigQuiet
import Derived.Test.YthlaihkpffddcaaJ21
/-
  What a value of a field is, and what ValOk does with it, in the program and in its model.
-/
namespace Go.Proofs.Ythlaihkpffddcaa
open Go.RowKit

/-- What ValOk says of a value. -/
def vOk (r : Bool) (n : Int) : Bool := bif r then inB n 0 1000000 else inB n (-2147483648) 2147483647

theorem wordSpec (n : Int) (w : World) :
    Calls Try.prog 110 #[.int .i64 n] w fun e w' => e = .returned (.bool (inB n (-2147483648) 2147483647)) ∧ w' = w := by
  cases h : inB n (-2147483648) 2147483647 with
  | true => have := inB_yes h; exact wordYes n w this.1 this.2
  | false => exact wordNo n w (inB_no h)

theorem rnd_eq (n : Int) : (rnd n == n) = inB n (-2147483648) 2147483647 := by
  cases h : inB n (-2147483648) 2147483647 with
  | true => have := inB_yes h; simp [rnd]; omega
  | false => have := inB_no h; simp [rnd]; omega

set_option maxRecDepth 100000 in
set_option maxHeartbeats 400000 in
theorem valSpec (r : Bool) (n : Int) (w : World) :
    Calls Try.prog 93 #[.agg #[.bool r, .int .i64 n]] w fun e w' => e = .returned (.bool (vOk r n)) ∧ Below w.heap.size w w' := by
  cases r with
  | true =>
    go_enter Try.func93, Try.ntmps93
    go_wp2_with (go_at_call 40; refine (inSpec _ _ _ _).mono ?_; rintro e w' ⟨rfl, rfl⟩)
    go_ret
    exact ⟨rfl, (Below.refl _ _).alloc (Nat.le_refl _) _⟩
  | false =>
    go_enter Try.func93, Try.ntmps93
    go_wp2_with (go_at_call 110; refine (wordSpec _ _).mono ?_; rintro e w' ⟨rfl, rfl⟩)
    go_ret
    exact ⟨rfl, (Below.refl _ _).alloc (Nat.le_refl _) _⟩
set_option maxRecDepth 100000 in
set_option maxHeartbeats 400000 in
theorem valImpl (r : Bool) (n : Int) (w : World) :
    Calls Try.prog 114 #[.agg #[.bool r, .int .i64 n]] w fun e w' => e = .returned (.bool (vOk r n)) ∧ Below w.heap.size w w' := by
  cases r with
  | true =>
    go_enter Try.func114, Try.ntmps114
    go_wp2_with (go_at_call 72; refine (inImpl _ _ _ _).mono ?_; rintro e w' ⟨rfl, rfl⟩)
    go_ret
    exact ⟨rfl, (Below.refl _ _).alloc (Nat.le_refl _) _⟩
  | false =>
    have hr := rnd_eq n
    go_enter Try.func114, Try.ntmps114
    go_wp2
    go_quiet ((go_at_call 122; exact Calls.quiet_of_same (roundImpl _ _)))
    go_wp2
    go_ret
    exact ⟨rfl, below_drewN ((Below.refl _ _).alloc (Nat.le_refl _) _) _⟩
end Go.Proofs.Ythlaihkpffddcaa
/-
  Lists: all of them, or one that is not.
-/
namespace Go.Proofs.Ythlaihkpffddcaa

theorem allNo {α : Type} [Inhabited α] {p : α → Bool} {l : List α} {j : Nat} (hj : j < l.length) (h : p (l.getD j default) = false) : l.all p = false := by
  cases c : l.all p with
  | false => rfl
  | true =>
    rw [List.all_eq_true] at c
    have := c (l.getD j default) (by rw [List.getD_eq_getElem?_getD, List.getElem?_eq_getElem hj]; exact List.getElem_mem hj)
    rw [h] at this
    cases this
theorem allYes {α : Type} [Inhabited α] {p : α → Bool} {l : List α} (h : ∀ i, i < l.length → p (l.getD i default) = true) : l.all p = true := by
  rw [List.all_eq_true]
  intro x hx
  obtain ⟨i, hi, rfl⟩ := List.getElem_of_mem hx
  have := h i hi
  rwa [List.getD_eq_getElem?_getD, List.getElem?_eq_getElem hi] at this
end Go.Proofs.Ythlaihkpffddcaa
