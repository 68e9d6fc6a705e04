/-
  Numbers that ascend; cmp.Compare.
-/
import Derived.Test.YtllghgcancennaaInB
namespace Go.Proofs.Ytllghgcancennaa
open Go.RowKit

def ascB : List Int → Int → Bool
  | [], _ => true
  | x :: xs, l => inB x l 1000000 && ascB xs (x + 1)
theorem drop_getD {α : Type} [Inhabited α] {xs : List α} {j : Nat} (h : j < xs.length) : xs.drop j = xs.getD j default :: xs.drop (j + 1) := by
  rw [List.drop_eq_getElem_cons h, List.getD_eq_getElem?_getD, List.getElem?_eq_getElem h, Option.getD_some]
def cmpX (x y : Int) : Int := if x < y then -1 else if y < x then 1 else 0
set_option maxHeartbeats 1000000 in
theorem isNaNI (w : World) (x : Int) : Calls Try.prog 79 #[.int .i64 x] w fun e w' => e = .returned (.bool false) ∧ w' = w := by
  go_enter Try.func79, Try.ntmps79
  go_wp2
  go_ret
  exact ⟨by simp, rfl⟩
set_option maxRecDepth 100000 in
set_option maxHeartbeats 4000000 in
theorem cmpI (w : World) (x y : Int) : Calls Try.prog 77 #[.int .i64 x, .int .i64 y] w fun e w' => e = .returned (.int .i64 (cmpX x y)) ∧ w' = w := by
  by_cases h1 : x < y
  · rw [show cmpX x y = -1 from if_pos h1]
    go_enter Try.func77, Try.ntmps77
    go_wp2_with fail
    refine (isNaNI _ x).mono ?_
    rintro e x2 ⟨rfl, hx2⟩
    rw [hx2]
    clear hx2 x2
    go_wp2_with fail
    refine (isNaNI _ y).mono ?_
    rintro e x2 ⟨rfl, hx2⟩
    rw [hx2]
    clear hx2 x2
    go_wp2
    go_ret
    exact ⟨rfl, rfl⟩
  · by_cases h2 : y < x
    · rw [show cmpX x y = 1 from (if_neg h1).trans (if_pos h2)]
      go_enter Try.func77, Try.ntmps77
      go_wp2_with fail
      refine (isNaNI _ x).mono ?_
      rintro e x2 ⟨rfl, hx2⟩
      rw [hx2]
      clear hx2 x2
      go_wp2_with fail
      refine (isNaNI _ y).mono ?_
      rintro e x2 ⟨rfl, hx2⟩
      rw [hx2]
      clear hx2 x2
      go_wp2
      go_ret
      exact ⟨rfl, rfl⟩
    · rw [show cmpX x y = 0 from (if_neg h1).trans (if_neg h2)]
      go_enter Try.func77, Try.ntmps77
      go_wp2_with fail
      refine (isNaNI _ x).mono ?_
      rintro e x2 ⟨rfl, hx2⟩
      rw [hx2]
      clear hx2 x2
      go_wp2_with fail
      refine (isNaNI _ y).mono ?_
      rintro e x2 ⟨rfl, hx2⟩
      rw [hx2]
      clear hx2 x2
      go_wp2
      go_ret
      exact ⟨rfl, rfl⟩
end Go.Proofs.Ytllghgcancennaa
