/-
  How great rows of texts, places, consts and fields are, in one form.
-/
import Derived.Test.YtelpdlhgjepgbaaRecD
namespace Go.Proofs.Ytelpdlhgjepgbaa
open Go.ChangeShapes Go.WideShapes Go.RowKit

theorem szInA (a : Option Addr) (len cap : Nat) (left : Int) (w : World) (h0 : 0 ≤ left) (h1 : left ≤ 1048576) (hm : len ≤ maxLen) :
    Calls Try.prog 73 #[.slice a len cap, .int .i64 left] w fun e w' => e = .returned (.int .i64 (szR left len)) ∧ w' = w := by
  unfold maxLen at hm
  have hw : IntKind.i64.wrap (left - (len : Int)) = left - (len : Int) := by rw [IntKind.wrap_i64]; omega
  by_cases h : left - (len : Int) < 0
  · rw [szR_neg (by omega)]
    go_enter Try.func73, Try.ntmps73
    go_wp2
    go_ret
    exact ⟨rfl, rfl⟩
  · rw [szR_pos (by omega)]
    go_enter Try.func73, Try.ntmps73
    go_wp2
    go_ret
    exact ⟨by first | rfl | (exact ret_int (by omega)), rfl⟩
theorem szStrsR (w : World) (v : Value) (xs : List ByteArray) (left : Int) (h : Reads w w.heap.size (strs xs) v) (h0 : 0 ≤ left) (h1 : left ≤ 1048576) (hr : strsR xs) :
    Calls Try.prog 72 #[v, .int .i64 left] w fun e w' => e = .returned (.int .i64 (szR left (strsW xs))) ∧ Below w.heap.size w w' := (szSt w _ v xs left h h0 h1 hr.2 hr.1).mono (by rintro e w1 ⟨a, rfl⟩; exact ⟨a, Below.refl _ _⟩)
theorem szInssR (w : World) (v : Value) (xs : List Isn) (left : Int) (h : Reads w w.heap.size (inss xs) v) (h0 : 0 ≤ left) (h1 : left ≤ 1048576) (hr : inssR xs) :
    Calls Try.prog 73 #[v, .int .i64 left] w fun e w' => e = .returned (.int .i64 (szR left (inssW xs))) ∧ Below w.heap.size w w' := by
  obtain ⟨a, c, rfl, _⟩ := h.shape
  exact (szInA a _ c left w h0 h1 hr.1).mono (by rintro e w1 ⟨a, rfl⟩; exact ⟨a, Below.refl _ _⟩)
theorem szPoolR (w : World) (v : Value) (xs : List Kc) (left : Int) (h : Reads w w.heap.size (pool xs) v) (h0 : 0 ≤ left) (h1 : left ≤ 1048576) (hr : poolR xs) :
    Calls Try.prog 46 #[v, .int .i64 left] w fun e w' => e = .returned (.int .i64 (szR left (poolW xs))) ∧ Below w.heap.size w w' := szKcs w v xs left h h0 h1 hr.2 hr.1
theorem szFldsR (w : World) (v : Value) (xs : List Fd) (left : Int) (h : Reads w w.heap.size (flds xs) v) (h0 : 0 ≤ left) (h1 : left ≤ 1048576) (hr : fldsR xs) :
    Calls Try.prog 47 #[v, .int .i64 left] w fun e w' => e = .returned (.int .i64 (szR left (fldsW xs))) ∧ Below w.heap.size w w' := szFds w v xs left h h0 h1 hr.2 hr.1
end Go.Proofs.Ytelpdlhgjepgbaa
