/-
  Joined: MsgOpen, FlatSet, InB.
-/
import Derived.Test.YtkfnpijljpbiaaaDoorJ3
import Derived.Test.YtkfnpijljpbiaaaDoorJ4
import Derived.Test.YtkfnpijljpbiaaaDoorRows
import Derived.Test.YtkfnpijljpbiaaaDoorJ1
/-
  Values, notes, cells and messages that come in, as the walks take them.
-/
namespace Go.Proofs.YtkfnpijljpbiaaaDoor
open Go.ChangeShapes Go.WideShapes Go.RowKit

/-- The cells of a note. -/
def noteC (x : Int × Int) : List Value := [.int .i64 x.1, .int .i64 x.2]
/-- The cells of a cell: its place, whether it is a number of an object, the number. -/
def cellC (x : Int × Bool × Int) : List Value := [.int .i64 x.1, .bool x.2.1, .int .i64 x.2.2]
theorem noteC_len (x : Int × Int) : (noteC x).length = 2 := rfl
theorem cellC_len (x : Int × Bool × Int) : (cellC x).length = 3 := rfl

end Go.Proofs.YtkfnpijljpbiaaaDoor
/-
  Rows of notes and of cells: what a store of one of them leaves.
-/
namespace Go.Proofs.YtkfnpijljpbiaaaDoor
open Go.RowKit

/-- A note stored whole. -/
theorem flat_note (xs : List (Int × Int)) (j : Nat) (x : Int × Int) (h : j < xs.length) : ((xs.flatMap noteC).set (j * 2) (.int .i64 x.1)).set (j * 2 + 1) (.int .i64 x.2) = (xs.set j x).flatMap noteC := by
  have h1 := flat_set noteC 2 noteC_len xs j 0 (.int .i64 x.1) (x.1, (xs.getD j (0, 0)).2) (by omega) h (fun y hy => by simp [List.getD, hy]; rfl)
  rw [Nat.add_zero] at h1
  rw [h1, flat_set noteC 2 noteC_len _ j 1 (.int .i64 x.2) x (by omega) (by simpa using h) (fun y hy => by
    rw [List.getElem?_set_self (by exact h)] at hy
    cases hy; rfl)]
  rw [List.set_set]

/-- A cell stored whole. -/
theorem flat_cell (xs : List (Int × Bool × Int)) (j : Nat) (x : Int × Bool × Int) (h : j < xs.length) : (((xs.flatMap cellC).set (j * 3) (.int .i64 x.1)).set (j * 3 + 1) (.bool x.2.1)).set (j * 3 + 2) (.int .i64 x.2.2) = (xs.set j x).flatMap cellC := by
  have h1 := flat_set cellC 3 cellC_len xs j 0 (.int .i64 x.1) (x.1, (xs.getD j (0, false, 0)).2) (by omega) h (fun y hy => by simp [List.getD, hy]; rfl)
  rw [Nat.add_zero] at h1
  rw [h1, flat_set cellC 3 cellC_len _ j 1 (.bool x.2.1) (x.1, x.2.1, (xs.getD j (0, false, 0)).2.2) (by omega) (by simpa using h) (fun y hy => by
    rw [List.getElem?_set_self (by exact h)] at hy
    cases hy; rfl), List.set_set]
  rw [flat_set cellC 3 cellC_len _ j 2 (.int .i64 x.2.2) x (by omega) (by simpa using h) (fun y hy => by
    rw [List.getElem?_set_self (by exact h)] at hy
    cases hy; rfl), List.set_set]
end Go.Proofs.YtkfnpijljpbiaaaDoor
/-
  Whether a number lies from one to another, asked by the program and by its model.
-/
namespace Go.Proofs.YtkfnpijljpbiaaaDoor
open Go.RowKit

/-- n lies from a to b. -/
def inB (n a b : Int) : Bool := decide (a ≤ n ∧ n ≤ b)
theorem inB_yes {n a b : Int} (h : inB n a b = true) : a ≤ n ∧ n ≤ b := of_decide_eq_true h
theorem inB_no {n a b : Int} (h : inB n a b = false) : n < a ∨ b < n := by
  have := of_decide_eq_false h
  omega
theorem inB_mk {n a b : Int} (h1 : a ≤ n) (h2 : n ≤ b) : inB n a b = true := decide_eq_true ⟨h1, h2⟩
theorem inB_not {n a b : Int} (h : n < a ∨ b < n) : inB n a b = false := decide_eq_false (by omega)

theorem inYes (x lo hi : Int) (w : World) (h1 : lo ≤ x) (h2 : x ≤ hi) :
    Calls Tryd.prog 35 #[.int .i64 x, .int .i64 lo, .int .i64 hi] w fun e w' => e = .returned (.bool true) ∧ w' = w := by
  go_enter Tryd.func35, Tryd.ntmps35
  go_wp2
  go_ret
  exact ⟨ret_bool (by simp), rfl⟩

theorem inNo (x lo hi : Int) (w : World) (h : x < lo ∨ hi < x) :
    Calls Tryd.prog 35 #[.int .i64 x, .int .i64 lo, .int .i64 hi] w fun e w' => e = .returned (.bool false) ∧ w' = w := by
  by_cases h1 : lo ≤ x
  · have h2 : hi < x := by omega
    clear h
    go_enter Tryd.func35, Tryd.ntmps35
    go_wp2
    go_ret
    exact ⟨ret_bool (by simp [h2]), rfl⟩
  · clear h
    go_enter Tryd.func35, Tryd.ntmps35
    go_wp2
    go_ret
    exact ⟨ret_bool (by simp), rfl⟩

theorem inSpec (n a b : Int) (w : World) :
    Calls Tryd.prog 35 #[.int .i64 n, .int .i64 a, .int .i64 b] w fun e w' => e = .returned (.bool (inB n a b)) ∧ w' = w := by
  cases h : inB n a b with
  | true => have := inB_yes h; exact inYes n a b w this.1 this.2
  | false => exact inNo n a b w (inB_no h)
theorem inImpl (n a b : Int) (w : World) :
    Calls Tryd.prog 38 #[.int .i64 n, .int .i64 a, .int .i64 b] w fun e w' => e = .returned (.bool (inB n a b)) ∧ w' = w := by
  by_cases h1 : a ≤ n
  · by_cases h2 : n ≤ b
    · rw [inB_mk h1 h2]
      go_enter Tryd.func38, Tryd.ntmps38
      go_wp2
      go_ret
      exact ⟨ret_bool (by simp), rfl⟩
    · rw [inB_not (.inr (by omega))]
      go_enter Tryd.func38, Tryd.ntmps38
      go_wp2
      go_ret
      exact ⟨ret_bool (by simp), rfl⟩
  · rw [inB_not (.inl (by omega))]
    go_enter Tryd.func38, Tryd.ntmps38
    go_wp2
    go_ret
    exact ⟨ret_bool (by simp), rfl⟩
end Go.Proofs.YtkfnpijljpbiaaaDoor
