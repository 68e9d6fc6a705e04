/-
  Rows of notes and of cells: what a store of one of them leaves.
-/
import Derived.Test.YtoaenoakdbieaaaDoorMsgOpen
import Derived.Test.YtoaenoakdbieaaaDoorFlatOne
namespace Go.Proofs.YtoaenoakdbieaaaDoor
open Go.RowKit

/-- A note stored whole. -/
theorem flat_note (xs : List (Int × Int)) (j : Nat) (x : Int × Int) (h : j < xs.length) : ((xs.flatMap noteC).set (j * 2) (.int .i64 x.1)).set (j * 2 + 1) (.int .i64 x.2) = (xs.set j x).flatMap noteC := by
  have h1 := flat_set noteC 2 noteC_len xs j 0 (.int .i64 x.1) (x.1, (xs.getD j (0, 0)).2) (by omega) h (fun y hy => by simp [List.getD, hy]; rfl)
  rw [Nat.add_zero] at h1
  rw [h1, flat_set noteC 2 noteC_len _ j 1 (.int .i64 x.2) x (by omega) (by simpa using h) (fun y hy => by
    rw [List.getElem?_set_self (by exact h)] at hy
    cases hy; rfl)]
  rw [List.set_set]

/-- A cell stored whole. -/
theorem flat_cell (xs : List (Int × Bool × Int)) (j : Nat) (x : Int × Bool × Int) (h : j < xs.length) : (((xs.flatMap cellC).set (j * 3) (.int .i64 x.1)).set (j * 3 + 1) (.bool x.2.1)).set (j * 3 + 2) (.int .i64 x.2.2) = (xs.set j x).flatMap cellC := by
  have h1 := flat_set cellC 3 cellC_len xs j 0 (.int .i64 x.1) (x.1, (xs.getD j (0, false, 0)).2) (by omega) h (fun y hy => by simp [List.getD, hy]; rfl)
  rw [Nat.add_zero] at h1
  rw [h1, flat_set cellC 3 cellC_len _ j 1 (.bool x.2.1) (x.1, x.2.1, (xs.getD j (0, false, 0)).2.2) (by omega) (by simpa using h) (fun y hy => by
    rw [List.getElem?_set_self (by exact h)] at hy
    cases hy; rfl), List.set_set]
  rw [flat_set cellC 3 cellC_len _ j 2 (.int .i64 x.2.2) x (by omega) (by simpa using h) (fun y hy => by
    rw [List.getElem?_set_self (by exact h)] at hy
    cases hy; rfl), List.set_set]
end Go.Proofs.YtoaenoakdbieaaaDoor
