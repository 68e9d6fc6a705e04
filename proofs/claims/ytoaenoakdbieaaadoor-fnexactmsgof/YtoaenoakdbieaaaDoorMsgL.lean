/-
  What MsgOk does, in the program.
-/
import Derived.Test.YtoaenoakdbieaaaDoorMsgP
namespace Go.Proofs.YtoaenoakdbieaaaDoor
open Go.RowKit

set_option maxRecDepth 100000 in
set_option linter.unusedVariables false in
theorem plain1 (w : World) (i u c n : Int) (a5 a6 : Option Addr) (l5 c5 l6 c6 : Nat) :
    Calls Tryd.prog 149 #[.agg #[.int .i64 i]] w fun e w' => e = .returned (msgV 1 i 0 0 0 (.slice none 0 0) (.slice none 0 0)) ∧ Below w.heap.size w w' := by
  go_enter Tryd.func149, Tryd.ntmps149
  go_wp2
  exact bodyPost_ret (v := msgV 1 i 0 0 0 (.slice none 0 0) (.slice none 0 0)) (by simp [results, Tryd.results149, go_sem, msgV]) rfl ⟨rfl, ((Below.refl _ _).alloc (Nat.le_refl _) _).alloc (by simp) _⟩

set_option maxRecDepth 100000 in
set_option linter.unusedVariables false in
theorem plain2 (w : World) (i u c n : Int) (a5 a6 : Option Addr) (l5 c5 l6 c6 : Nat) :
    Calls Tryd.prog 150 #[.agg #[.int .i64 i, .int .i64 c, .int .i64 n, .slice a5 l5 c5]] w fun e w' => e = .returned (msgV 2 i 0 c n (.slice a5 l5 c5) (.slice none 0 0)) ∧ Below w.heap.size w w' := by
  go_enter Tryd.func150, Tryd.ntmps150
  go_wp2
  exact bodyPost_ret (v := msgV 2 i 0 c n (.slice a5 l5 c5) (.slice none 0 0)) (by simp [results, Tryd.results150, go_sem, msgV]) rfl ⟨rfl, ((Below.refl _ _).alloc (Nat.le_refl _) _).alloc (by simp) _⟩

set_option maxRecDepth 100000 in
set_option linter.unusedVariables false in
theorem plain3 (w : World) (i u c n : Int) (a5 a6 : Option Addr) (l5 c5 l6 c6 : Nat) :
    Calls Tryd.prog 151 #[.agg #[.int .i64 i, .slice a5 l5 c5]] w fun e w' => e = .returned (msgV 3 i 0 0 0 (.slice a5 l5 c5) (.slice none 0 0)) ∧ Below w.heap.size w w' := by
  go_enter Tryd.func151, Tryd.ntmps151
  go_wp2
  exact bodyPost_ret (v := msgV 3 i 0 0 0 (.slice a5 l5 c5) (.slice none 0 0)) (by simp [results, Tryd.results151, go_sem, msgV]) rfl ⟨rfl, ((Below.refl _ _).alloc (Nat.le_refl _) _).alloc (by simp) _⟩

set_option maxRecDepth 100000 in
set_option linter.unusedVariables false in
theorem plain4 (w : World) (i u c n : Int) (a5 a6 : Option Addr) (l5 c5 l6 c6 : Nat) :
    Calls Tryd.prog 152 #[.agg #[.int .i64 i, .int .i64 n]] w fun e w' => e = .returned (msgV 4 i 0 0 n (.slice none 0 0) (.slice none 0 0)) ∧ Below w.heap.size w w' := by
  go_enter Tryd.func152, Tryd.ntmps152
  go_wp2
  exact bodyPost_ret (v := msgV 4 i 0 0 n (.slice none 0 0) (.slice none 0 0)) (by simp [results, Tryd.results152, go_sem, msgV]) rfl ⟨rfl, ((Below.refl _ _).alloc (Nat.le_refl _) _).alloc (by simp) _⟩

set_option maxRecDepth 100000 in
set_option linter.unusedVariables false in
theorem plain5 (w : World) (i u c n : Int) (a5 a6 : Option Addr) (l5 c5 l6 c6 : Nat) :
    Calls Tryd.prog 153 #[.agg #[.int .i64 i, .int .i64 u]] w fun e w' => e = .returned (msgV 5 i u 0 0 (.slice none 0 0) (.slice none 0 0)) ∧ Below w.heap.size w w' := by
  go_enter Tryd.func153, Tryd.ntmps153
  go_wp2
  exact bodyPost_ret (v := msgV 5 i u 0 0 (.slice none 0 0) (.slice none 0 0)) (by simp [results, Tryd.results153, go_sem, msgV]) rfl ⟨rfl, ((Below.refl _ _).alloc (Nat.le_refl _) _).alloc (by simp) _⟩

set_option maxRecDepth 100000 in
set_option linter.unusedVariables false in
theorem plain6 (w : World) (i u c n : Int) (a5 a6 : Option Addr) (l5 c5 l6 c6 : Nat) :
    Calls Tryd.prog 154 #[.agg #[.int .i64 i, .int .i64 u, .slice a6 l6 c6]] w fun e w' => e = .returned (msgV 6 i u 0 0 (.slice none 0 0) (.slice a6 l6 c6)) ∧ Below w.heap.size w w' := by
  go_enter Tryd.func154, Tryd.ntmps154
  go_wp2
  exact bodyPost_ret (v := msgV 6 i u 0 0 (.slice none 0 0) (.slice a6 l6 c6)) (by simp [results, Tryd.results154, go_sem, msgV]) rfl ⟨rfl, ((Below.refl _ _).alloc (Nat.le_refl _) _).alloc (by simp) _⟩

set_option maxRecDepth 100000 in
set_option linter.unusedVariables false in
theorem plain7 (w : World) (i u c n : Int) (a5 a6 : Option Addr) (l5 c5 l6 c6 : Nat) :
    Calls Tryd.prog 155 #[.agg #[.int .i64 i, .int .i64 u, .slice a6 l6 c6]] w fun e w' => e = .returned (msgV 7 i u 0 0 (.slice none 0 0) (.slice a6 l6 c6)) ∧ Below w.heap.size w w' := by
  go_enter Tryd.func155, Tryd.ntmps155
  go_wp2
  exact bodyPost_ret (v := msgV 7 i u 0 0 (.slice none 0 0) (.slice a6 l6 c6)) (by simp [results, Tryd.results155, go_sem, msgV]) rfl ⟨rfl, ((Below.refl _ _).alloc (Nat.le_refl _) _).alloc (by simp) _⟩

set_option maxRecDepth 100000 in
set_option linter.unusedVariables false in
theorem plain8 (w : World) (i u c n : Int) (a5 a6 : Option Addr) (l5 c5 l6 c6 : Nat) :
    Calls Tryd.prog 156 #[.agg #[.int .i64 i, .int .i64 u, .slice a6 l6 c6]] w fun e w' => e = .returned (msgV 8 i u 0 0 (.slice none 0 0) (.slice a6 l6 c6)) ∧ Below w.heap.size w w' := by
  go_enter Tryd.func156, Tryd.ntmps156
  go_wp2
  exact bodyPost_ret (v := msgV 8 i u 0 0 (.slice none 0 0) (.slice a6 l6 c6)) (by simp [results, Tryd.results156, go_sem, msgV]) rfl ⟨rfl, ((Below.refl _ _).alloc (Nat.le_refl _) _).alloc (by simp) _⟩

set_option maxRecDepth 100000 in
set_option linter.unusedVariables false in
theorem plain9 (w : World) (i u c n : Int) (a5 a6 : Option Addr) (l5 c5 l6 c6 : Nat) :
    Calls Tryd.prog 157 #[.agg #[.int .i64 i, .int .i64 u]] w fun e w' => e = .returned (msgV 9 i u 0 0 (.slice none 0 0) (.slice none 0 0)) ∧ Below w.heap.size w w' := by
  go_enter Tryd.func157, Tryd.ntmps157
  go_wp2
  exact bodyPost_ret (v := msgV 9 i u 0 0 (.slice none 0 0) (.slice none 0 0)) (by simp [results, Tryd.results157, go_sem, msgV]) rfl ⟨rfl, ((Below.refl _ _).alloc (Nat.le_refl _) _).alloc (by simp) _⟩

set_option maxRecDepth 100000 in
set_option linter.unusedVariables false in
theorem plain10 (w : World) (i u c n : Int) (a5 a6 : Option Addr) (l5 c5 l6 c6 : Nat) :
    Calls Tryd.prog 158 #[.agg #[.int .i64 i, .int .i64 u, .slice a6 l6 c6]] w fun e w' => e = .returned (msgV 10 i u 0 0 (.slice none 0 0) (.slice a6 l6 c6)) ∧ Below w.heap.size w w' := by
  go_enter Tryd.func158, Tryd.ntmps158
  go_wp2
  exact bodyPost_ret (v := msgV 10 i u 0 0 (.slice none 0 0) (.slice a6 l6 c6)) (by simp [results, Tryd.results158, go_sem, msgV]) rfl ⟨rfl, ((Below.refl _ _).alloc (Nat.le_refl _) _).alloc (by simp) _⟩

/-- What noPartLost says. -/
def lostB (u c n u' c' n' : Int) (l5 l6 l5' l6' : Nat) : Bool := u == u' && c == c' && n == n' && (l5 : Int) == (l5' : Int) && (l6 : Int) == (l6' : Int)

set_option maxRecDepth 100000 in
set_option maxHeartbeats 2000000 in
theorem lostImpl (w : World) (k i u c n k' i' u' c' n' : Int) (a5 a6 a5' a6' : Option Addr) (l5 c5 l6 c6 l5' c5' l6' c6' : Nat) :
    Calls Tryd.prog 55 #[msgV k i u c n (.slice a5 l5 c5) (.slice a6 l6 c6), msgV k' i' u' c' n' (.slice a5' l5' c5') (.slice a6' l6' c6')] w fun e w' => e = .returned (.bool (lostB u c n u' c' n' l5 l6 l5' l6')) ∧ Below w.heap.size w w' := by
  have HP : Hid (lostB u c n u' c' n' l5 l6 l5' l6' = (u == u' && c == c' && n == n' && (l5 : Int) == (l5' : Int) && (l6 : Int) == (l6' : Int))) := hide rfl
  unfold msgV
  cases h0 : (u == u') with
  | false =>
    rw [h0] at HP
    go_enter Tryd.func55, Tryd.ntmps55
    go_wp2
    go_ret
    exact ⟨by rw [HP.out]; rfl, ((Below.refl _ _).alloc (Nat.le_refl _) _).alloc (by simp) _⟩
  | true =>
    cases h1 : (c == c') with
    | false =>
      rw [h0, h1] at HP
      go_enter Tryd.func55, Tryd.ntmps55
      go_wp2
      go_ret
      exact ⟨by rw [HP.out]; rfl, ((Below.refl _ _).alloc (Nat.le_refl _) _).alloc (by simp) _⟩
    | true =>
      cases h2 : (n == n') with
      | false =>
        rw [h0, h1, h2] at HP
        go_enter Tryd.func55, Tryd.ntmps55
        go_wp2
        go_ret
        exact ⟨by rw [HP.out]; rfl, ((Below.refl _ _).alloc (Nat.le_refl _) _).alloc (by simp) _⟩
      | true =>
        cases h3 : ((l5 : Int) == (l5' : Int)) with
        | false =>
          rw [h0, h1, h2, h3] at HP
          go_enter Tryd.func55, Tryd.ntmps55
          go_wp2
          go_ret
          exact ⟨by rw [HP.out]; rfl, ((Below.refl _ _).alloc (Nat.le_refl _) _).alloc (by simp) _⟩
        | true =>
          rw [h0, h1, h2, h3] at HP
          go_enter Tryd.func55, Tryd.ntmps55
          go_wp2
          go_ret
          exact ⟨by rw [HP.out]; rfl, ((Below.refl _ _).alloc (Nat.le_refl _) _).alloc (by simp) _⟩
end Go.Proofs.YtoaenoakdbieaaaDoor
