/-
  What MsgOk does, in the program.
-/
import Derived.Test.YtoaenoakdbieaaaMsgP
namespace Go.Proofs.Ytoaenoakdbieaaa
open Go.RowKit

set_option maxRecDepth 100000 in
set_option linter.unusedVariables false in
theorem plain1 (w : World) (i u c n : Int) (a5 a6 : Option Addr) (l5 c5 l6 c6 : Nat) :
    Calls Try.prog 128 #[.agg #[.int .i64 i]] w fun e w' => e = .returned (msgV 1 i 0 0 0 (.slice none 0 0) (.slice none 0 0)) ∧ Below w.heap.size w w' := by
  go_enter Try.func128, Try.ntmps128
  go_wp2
  exact bodyPost_ret (v := msgV 1 i 0 0 0 (.slice none 0 0) (.slice none 0 0)) (by simp [results, Try.results128, go_sem, msgV]) rfl ⟨rfl, ((Below.refl _ _).alloc (Nat.le_refl _) _).alloc (by simp) _⟩

set_option maxRecDepth 100000 in
set_option linter.unusedVariables false in
theorem plain2 (w : World) (i u c n : Int) (a5 a6 : Option Addr) (l5 c5 l6 c6 : Nat) :
    Calls Try.prog 129 #[.agg #[.int .i64 i, .int .i64 c, .int .i64 n, .slice a5 l5 c5]] w fun e w' => e = .returned (msgV 2 i 0 c n (.slice a5 l5 c5) (.slice none 0 0)) ∧ Below w.heap.size w w' := by
  go_enter Try.func129, Try.ntmps129
  go_wp2
  exact bodyPost_ret (v := msgV 2 i 0 c n (.slice a5 l5 c5) (.slice none 0 0)) (by simp [results, Try.results129, go_sem, msgV]) rfl ⟨rfl, ((Below.refl _ _).alloc (Nat.le_refl _) _).alloc (by simp) _⟩

set_option maxRecDepth 100000 in
set_option linter.unusedVariables false in
theorem plain3 (w : World) (i u c n : Int) (a5 a6 : Option Addr) (l5 c5 l6 c6 : Nat) :
    Calls Try.prog 130 #[.agg #[.int .i64 i, .slice a5 l5 c5]] w fun e w' => e = .returned (msgV 3 i 0 0 0 (.slice a5 l5 c5) (.slice none 0 0)) ∧ Below w.heap.size w w' := by
  go_enter Try.func130, Try.ntmps130
  go_wp2
  exact bodyPost_ret (v := msgV 3 i 0 0 0 (.slice a5 l5 c5) (.slice none 0 0)) (by simp [results, Try.results130, go_sem, msgV]) rfl ⟨rfl, ((Below.refl _ _).alloc (Nat.le_refl _) _).alloc (by simp) _⟩

set_option maxRecDepth 100000 in
set_option linter.unusedVariables false in
theorem plain4 (w : World) (i u c n : Int) (a5 a6 : Option Addr) (l5 c5 l6 c6 : Nat) :
    Calls Try.prog 131 #[.agg #[.int .i64 i, .int .i64 n]] w fun e w' => e = .returned (msgV 4 i 0 0 n (.slice none 0 0) (.slice none 0 0)) ∧ Below w.heap.size w w' := by
  go_enter Try.func131, Try.ntmps131
  go_wp2
  exact bodyPost_ret (v := msgV 4 i 0 0 n (.slice none 0 0) (.slice none 0 0)) (by simp [results, Try.results131, go_sem, msgV]) rfl ⟨rfl, ((Below.refl _ _).alloc (Nat.le_refl _) _).alloc (by simp) _⟩

set_option maxRecDepth 100000 in
set_option linter.unusedVariables false in
theorem plain5 (w : World) (i u c n : Int) (a5 a6 : Option Addr) (l5 c5 l6 c6 : Nat) :
    Calls Try.prog 132 #[.agg #[.int .i64 i, .int .i64 u]] w fun e w' => e = .returned (msgV 5 i u 0 0 (.slice none 0 0) (.slice none 0 0)) ∧ Below w.heap.size w w' := by
  go_enter Try.func132, Try.ntmps132
  go_wp2
  exact bodyPost_ret (v := msgV 5 i u 0 0 (.slice none 0 0) (.slice none 0 0)) (by simp [results, Try.results132, go_sem, msgV]) rfl ⟨rfl, ((Below.refl _ _).alloc (Nat.le_refl _) _).alloc (by simp) _⟩

set_option maxRecDepth 100000 in
set_option linter.unusedVariables false in
theorem plain6 (w : World) (i u c n : Int) (a5 a6 : Option Addr) (l5 c5 l6 c6 : Nat) :
    Calls Try.prog 133 #[.agg #[.int .i64 i, .int .i64 u, .slice a6 l6 c6]] w fun e w' => e = .returned (msgV 6 i u 0 0 (.slice none 0 0) (.slice a6 l6 c6)) ∧ Below w.heap.size w w' := by
  go_enter Try.func133, Try.ntmps133
  go_wp2
  exact bodyPost_ret (v := msgV 6 i u 0 0 (.slice none 0 0) (.slice a6 l6 c6)) (by simp [results, Try.results133, go_sem, msgV]) rfl ⟨rfl, ((Below.refl _ _).alloc (Nat.le_refl _) _).alloc (by simp) _⟩

set_option maxRecDepth 100000 in
set_option linter.unusedVariables false in
theorem plain7 (w : World) (i u c n : Int) (a5 a6 : Option Addr) (l5 c5 l6 c6 : Nat) :
    Calls Try.prog 134 #[.agg #[.int .i64 i, .int .i64 u, .slice a6 l6 c6]] w fun e w' => e = .returned (msgV 7 i u 0 0 (.slice none 0 0) (.slice a6 l6 c6)) ∧ Below w.heap.size w w' := by
  go_enter Try.func134, Try.ntmps134
  go_wp2
  exact bodyPost_ret (v := msgV 7 i u 0 0 (.slice none 0 0) (.slice a6 l6 c6)) (by simp [results, Try.results134, go_sem, msgV]) rfl ⟨rfl, ((Below.refl _ _).alloc (Nat.le_refl _) _).alloc (by simp) _⟩

set_option maxRecDepth 100000 in
set_option linter.unusedVariables false in
theorem plain8 (w : World) (i u c n : Int) (a5 a6 : Option Addr) (l5 c5 l6 c6 : Nat) :
    Calls Try.prog 135 #[.agg #[.int .i64 i, .int .i64 u, .slice a6 l6 c6]] w fun e w' => e = .returned (msgV 8 i u 0 0 (.slice none 0 0) (.slice a6 l6 c6)) ∧ Below w.heap.size w w' := by
  go_enter Try.func135, Try.ntmps135
  go_wp2
  exact bodyPost_ret (v := msgV 8 i u 0 0 (.slice none 0 0) (.slice a6 l6 c6)) (by simp [results, Try.results135, go_sem, msgV]) rfl ⟨rfl, ((Below.refl _ _).alloc (Nat.le_refl _) _).alloc (by simp) _⟩

set_option maxRecDepth 100000 in
set_option linter.unusedVariables false in
theorem plain9 (w : World) (i u c n : Int) (a5 a6 : Option Addr) (l5 c5 l6 c6 : Nat) :
    Calls Try.prog 136 #[.agg #[.int .i64 i, .int .i64 u]] w fun e w' => e = .returned (msgV 9 i u 0 0 (.slice none 0 0) (.slice none 0 0)) ∧ Below w.heap.size w w' := by
  go_enter Try.func136, Try.ntmps136
  go_wp2
  exact bodyPost_ret (v := msgV 9 i u 0 0 (.slice none 0 0) (.slice none 0 0)) (by simp [results, Try.results136, go_sem, msgV]) rfl ⟨rfl, ((Below.refl _ _).alloc (Nat.le_refl _) _).alloc (by simp) _⟩

set_option maxRecDepth 100000 in
set_option linter.unusedVariables false in
theorem plain10 (w : World) (i u c n : Int) (a5 a6 : Option Addr) (l5 c5 l6 c6 : Nat) :
    Calls Try.prog 137 #[.agg #[.int .i64 i, .int .i64 u, .slice a6 l6 c6]] w fun e w' => e = .returned (msgV 10 i u 0 0 (.slice none 0 0) (.slice a6 l6 c6)) ∧ Below w.heap.size w w' := by
  go_enter Try.func137, Try.ntmps137
  go_wp2
  exact bodyPost_ret (v := msgV 10 i u 0 0 (.slice none 0 0) (.slice a6 l6 c6)) (by simp [results, Try.results137, go_sem, msgV]) rfl ⟨rfl, ((Below.refl _ _).alloc (Nat.le_refl _) _).alloc (by simp) _⟩

/-- What noPartLost says. -/
def lostB (u c n u' c' n' : Int) (l5 l6 l5' l6' : Nat) : Bool := u == u' && c == c' && n == n' && (l5 : Int) == (l5' : Int) && (l6 : Int) == (l6' : Int)

set_option maxRecDepth 100000 in
set_option maxHeartbeats 2000000 in
theorem lostImpl (w : World) (k i u c n k' i' u' c' n' : Int) (a5 a6 a5' a6' : Option Addr) (l5 c5 l6 c6 l5' c5' l6' c6' : Nat) :
    Calls Try.prog 91 #[msgV k i u c n (.slice a5 l5 c5) (.slice a6 l6 c6), msgV k' i' u' c' n' (.slice a5' l5' c5') (.slice a6' l6' c6')] w fun e w' => e = .returned (.bool (lostB u c n u' c' n' l5 l6 l5' l6')) ∧ Below w.heap.size w w' := by
  have HP : Hid (lostB u c n u' c' n' l5 l6 l5' l6' = (u == u' && c == c' && n == n' && (l5 : Int) == (l5' : Int) && (l6 : Int) == (l6' : Int))) := hide rfl
  unfold msgV
  cases h0 : (u == u') with
  | false =>
    rw [h0] at HP
    go_enter Try.func91, Try.ntmps91
    go_wp2
    go_ret
    exact ⟨by rw [HP.out]; rfl, ((Below.refl _ _).alloc (Nat.le_refl _) _).alloc (by simp) _⟩
  | true =>
    cases h1 : (c == c') with
    | false =>
      rw [h0, h1] at HP
      go_enter Try.func91, Try.ntmps91
      go_wp2
      go_ret
      exact ⟨by rw [HP.out]; rfl, ((Below.refl _ _).alloc (Nat.le_refl _) _).alloc (by simp) _⟩
    | true =>
      cases h2 : (n == n') with
      | false =>
        rw [h0, h1, h2] at HP
        go_enter Try.func91, Try.ntmps91
        go_wp2
        go_ret
        exact ⟨by rw [HP.out]; rfl, ((Below.refl _ _).alloc (Nat.le_refl _) _).alloc (by simp) _⟩
      | true =>
        cases h3 : ((l5 : Int) == (l5' : Int)) with
        | false =>
          rw [h0, h1, h2, h3] at HP
          go_enter Try.func91, Try.ntmps91
          go_wp2
          go_ret
          exact ⟨by rw [HP.out]; rfl, ((Below.refl _ _).alloc (Nat.le_refl _) _).alloc (by simp) _⟩
        | true =>
          rw [h0, h1, h2, h3] at HP
          go_enter Try.func91, Try.ntmps91
          go_wp2
          go_ret
          exact ⟨by rw [HP.out]; rfl, ((Below.refl _ _).alloc (Nat.le_refl _) _).alloc (by simp) _⟩
end Go.Proofs.Ytoaenoakdbieaaa
