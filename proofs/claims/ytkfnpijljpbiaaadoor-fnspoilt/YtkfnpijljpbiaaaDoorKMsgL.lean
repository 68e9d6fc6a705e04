/-
  What MsgOk does, in the program.
-/
import Derived.Test.YtkfnpijljpbiaaaDoorJ9
namespace Go.Proofs.YtkfnpijljpbiaaaDoor
open Go.RowKit

set_option maxRecDepth 100000 in
set_option linter.unusedVariables false in
theorem plain1 (w : World) (i u c n : Int) (a5 a6 : Option Addr) (l5 c5 l6 c6 : Nat) :
    Calls Tryd.prog 108 #[.agg #[.int .i64 i]] w fun e w' => e = .returned (msgV 1 i 0 0 0 (.slice none 0 0) (.slice none 0 0)) ∧ Below w.heap.size w w' := by
  go_enter Tryd.func108, Tryd.ntmps108
  go_wp2
  exact bodyPost_ret (v := msgV 1 i 0 0 0 (.slice none 0 0) (.slice none 0 0)) (by simp [results, Tryd.results108, go_sem, msgV]) rfl ⟨rfl, ((Below.refl _ _).alloc (Nat.le_refl _) _).alloc (by simp) _⟩

set_option maxRecDepth 100000 in
set_option linter.unusedVariables false in
theorem plain2 (w : World) (i u c n : Int) (a5 a6 : Option Addr) (l5 c5 l6 c6 : Nat) :
    Calls Tryd.prog 109 #[.agg #[.int .i64 i, .int .i64 c, .int .i64 n, .slice a5 l5 c5]] w fun e w' => e = .returned (msgV 2 i 0 c n (.slice a5 l5 c5) (.slice none 0 0)) ∧ Below w.heap.size w w' := by
  go_enter Tryd.func109, Tryd.ntmps109
  go_wp2
  exact bodyPost_ret (v := msgV 2 i 0 c n (.slice a5 l5 c5) (.slice none 0 0)) (by simp [results, Tryd.results109, go_sem, msgV]) rfl ⟨rfl, ((Below.refl _ _).alloc (Nat.le_refl _) _).alloc (by simp) _⟩

set_option maxRecDepth 100000 in
set_option linter.unusedVariables false in
theorem plain3 (w : World) (i u c n : Int) (a5 a6 : Option Addr) (l5 c5 l6 c6 : Nat) :
    Calls Tryd.prog 110 #[.agg #[.int .i64 i, .slice a5 l5 c5]] w fun e w' => e = .returned (msgV 3 i 0 0 0 (.slice a5 l5 c5) (.slice none 0 0)) ∧ Below w.heap.size w w' := by
  go_enter Tryd.func110, Tryd.ntmps110
  go_wp2
  exact bodyPost_ret (v := msgV 3 i 0 0 0 (.slice a5 l5 c5) (.slice none 0 0)) (by simp [results, Tryd.results110, go_sem, msgV]) rfl ⟨rfl, ((Below.refl _ _).alloc (Nat.le_refl _) _).alloc (by simp) _⟩

set_option maxRecDepth 100000 in
set_option linter.unusedVariables false in
theorem plain4 (w : World) (i u c n : Int) (a5 a6 : Option Addr) (l5 c5 l6 c6 : Nat) :
    Calls Tryd.prog 111 #[.agg #[.int .i64 i, .int .i64 n]] w fun e w' => e = .returned (msgV 4 i 0 0 n (.slice none 0 0) (.slice none 0 0)) ∧ Below w.heap.size w w' := by
  go_enter Tryd.func111, Tryd.ntmps111
  go_wp2
  exact bodyPost_ret (v := msgV 4 i 0 0 n (.slice none 0 0) (.slice none 0 0)) (by simp [results, Tryd.results111, go_sem, msgV]) rfl ⟨rfl, ((Below.refl _ _).alloc (Nat.le_refl _) _).alloc (by simp) _⟩

set_option maxRecDepth 100000 in
set_option linter.unusedVariables false in
theorem plain5 (w : World) (i u c n : Int) (a5 a6 : Option Addr) (l5 c5 l6 c6 : Nat) :
    Calls Tryd.prog 112 #[.agg #[.int .i64 i, .int .i64 u]] w fun e w' => e = .returned (msgV 5 i u 0 0 (.slice none 0 0) (.slice none 0 0)) ∧ Below w.heap.size w w' := by
  go_enter Tryd.func112, Tryd.ntmps112
  go_wp2
  exact bodyPost_ret (v := msgV 5 i u 0 0 (.slice none 0 0) (.slice none 0 0)) (by simp [results, Tryd.results112, go_sem, msgV]) rfl ⟨rfl, ((Below.refl _ _).alloc (Nat.le_refl _) _).alloc (by simp) _⟩

set_option maxRecDepth 100000 in
set_option linter.unusedVariables false in
theorem plain6 (w : World) (i u c n : Int) (a5 a6 : Option Addr) (l5 c5 l6 c6 : Nat) :
    Calls Tryd.prog 113 #[.agg #[.int .i64 i, .int .i64 u, .slice a6 l6 c6]] w fun e w' => e = .returned (msgV 6 i u 0 0 (.slice none 0 0) (.slice a6 l6 c6)) ∧ Below w.heap.size w w' := by
  go_enter Tryd.func113, Tryd.ntmps113
  go_wp2
  exact bodyPost_ret (v := msgV 6 i u 0 0 (.slice none 0 0) (.slice a6 l6 c6)) (by simp [results, Tryd.results113, go_sem, msgV]) rfl ⟨rfl, ((Below.refl _ _).alloc (Nat.le_refl _) _).alloc (by simp) _⟩

set_option maxRecDepth 100000 in
set_option linter.unusedVariables false in
theorem plain7 (w : World) (i u c n : Int) (a5 a6 : Option Addr) (l5 c5 l6 c6 : Nat) :
    Calls Tryd.prog 114 #[.agg #[.int .i64 i, .int .i64 u, .slice a6 l6 c6]] w fun e w' => e = .returned (msgV 7 i u 0 0 (.slice none 0 0) (.slice a6 l6 c6)) ∧ Below w.heap.size w w' := by
  go_enter Tryd.func114, Tryd.ntmps114
  go_wp2
  exact bodyPost_ret (v := msgV 7 i u 0 0 (.slice none 0 0) (.slice a6 l6 c6)) (by simp [results, Tryd.results114, go_sem, msgV]) rfl ⟨rfl, ((Below.refl _ _).alloc (Nat.le_refl _) _).alloc (by simp) _⟩

set_option maxRecDepth 100000 in
set_option linter.unusedVariables false in
theorem plain8 (w : World) (i u c n : Int) (a5 a6 : Option Addr) (l5 c5 l6 c6 : Nat) :
    Calls Tryd.prog 115 #[.agg #[.int .i64 i, .int .i64 u, .slice a6 l6 c6]] w fun e w' => e = .returned (msgV 8 i u 0 0 (.slice none 0 0) (.slice a6 l6 c6)) ∧ Below w.heap.size w w' := by
  go_enter Tryd.func115, Tryd.ntmps115
  go_wp2
  exact bodyPost_ret (v := msgV 8 i u 0 0 (.slice none 0 0) (.slice a6 l6 c6)) (by simp [results, Tryd.results115, go_sem, msgV]) rfl ⟨rfl, ((Below.refl _ _).alloc (Nat.le_refl _) _).alloc (by simp) _⟩

set_option maxRecDepth 100000 in
set_option linter.unusedVariables false in
theorem plain9 (w : World) (i u c n : Int) (a5 a6 : Option Addr) (l5 c5 l6 c6 : Nat) :
    Calls Tryd.prog 116 #[.agg #[.int .i64 i, .int .i64 u]] w fun e w' => e = .returned (msgV 9 i u 0 0 (.slice none 0 0) (.slice none 0 0)) ∧ Below w.heap.size w w' := by
  go_enter Tryd.func116, Tryd.ntmps116
  go_wp2
  exact bodyPost_ret (v := msgV 9 i u 0 0 (.slice none 0 0) (.slice none 0 0)) (by simp [results, Tryd.results116, go_sem, msgV]) rfl ⟨rfl, ((Below.refl _ _).alloc (Nat.le_refl _) _).alloc (by simp) _⟩

set_option maxRecDepth 100000 in
set_option linter.unusedVariables false in
theorem plain10 (w : World) (i u c n : Int) (a5 a6 : Option Addr) (l5 c5 l6 c6 : Nat) :
    Calls Tryd.prog 117 #[.agg #[.int .i64 i, .int .i64 u, .slice a6 l6 c6]] w fun e w' => e = .returned (msgV 10 i u 0 0 (.slice none 0 0) (.slice a6 l6 c6)) ∧ Below w.heap.size w w' := by
  go_enter Tryd.func117, Tryd.ntmps117
  go_wp2
  exact bodyPost_ret (v := msgV 10 i u 0 0 (.slice none 0 0) (.slice a6 l6 c6)) (by simp [results, Tryd.results117, go_sem, msgV]) rfl ⟨rfl, ((Below.refl _ _).alloc (Nat.le_refl _) _).alloc (by simp) _⟩

/-- What noPartLost says. -/
def lostB (u c n u' c' n' : Int) (l5 l6 l5' l6' : Nat) : Bool := u == u' && c == c' && n == n' && (l5 : Int) == (l5' : Int) && (l6 : Int) == (l6' : Int)

set_option maxRecDepth 100000 in
set_option maxHeartbeats 2000000 in
theorem lostImpl (w : World) (k i u c n k' i' u' c' n' : Int) (a5 a6 a5' a6' : Option Addr) (l5 c5 l6 c6 l5' c5' l6' c6' : Nat) :
    Calls Tryd.prog 76 #[msgV k i u c n (.slice a5 l5 c5) (.slice a6 l6 c6), msgV k' i' u' c' n' (.slice a5' l5' c5') (.slice a6' l6' c6')] w fun e w' => e = .returned (.bool (lostB u c n u' c' n' l5 l6 l5' l6')) ∧ Below w.heap.size w w' := by
  have HP : Hid (lostB u c n u' c' n' l5 l6 l5' l6' = (u == u' && c == c' && n == n' && (l5 : Int) == (l5' : Int) && (l6 : Int) == (l6' : Int))) := hide rfl
  unfold msgV
  cases h0 : (u == u') with
  | false =>
    rw [h0] at HP
    go_enter Tryd.func76, Tryd.ntmps76
    go_wp2
    go_ret
    exact ⟨by rw [HP.out]; rfl, ((Below.refl _ _).alloc (Nat.le_refl _) _).alloc (by simp) _⟩
  | true =>
    cases h1 : (c == c') with
    | false =>
      rw [h0, h1] at HP
      go_enter Tryd.func76, Tryd.ntmps76
      go_wp2
      go_ret
      exact ⟨by rw [HP.out]; rfl, ((Below.refl _ _).alloc (Nat.le_refl _) _).alloc (by simp) _⟩
    | true =>
      cases h2 : (n == n') with
      | false =>
        rw [h0, h1, h2] at HP
        go_enter Tryd.func76, Tryd.ntmps76
        go_wp2
        go_ret
        exact ⟨by rw [HP.out]; rfl, ((Below.refl _ _).alloc (Nat.le_refl _) _).alloc (by simp) _⟩
      | true =>
        cases h3 : ((l5 : Int) == (l5' : Int)) with
        | false =>
          rw [h0, h1, h2, h3] at HP
          go_enter Tryd.func76, Tryd.ntmps76
          go_wp2
          go_ret
          exact ⟨by rw [HP.out]; rfl, ((Below.refl _ _).alloc (Nat.le_refl _) _).alloc (by simp) _⟩
        | true =>
          rw [h0, h1, h2, h3] at HP
          go_enter Tryd.func76, Tryd.ntmps76
          go_wp2
          go_ret
          exact ⟨by rw [HP.out]; rfl, ((Below.refl _ _).alloc (Nat.le_refl _) _).alloc (by simp) _⟩
end Go.Proofs.YtkfnpijljpbiaaaDoor
