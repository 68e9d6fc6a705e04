/-
  MsgOk says what its model says.
-/
import Derived.Test.YtoaenoakdbieaaaDoorMsgK
namespace Go.Proofs.YtoaenoakdbieaaaDoor
open Go.RowKit

theorem cOk_nil {cs : List (Int × Bool × Int)} (h : ((cs.length : Int) == 0) = true) : cOk cs = true := by
  have : cs = [] := List.eq_nil_of_length_eq_zero (by simpa using h)
  subst this; rfl
theorem nOk_nil {ns : List (Int × Int)} (h : ((ns.length : Int) == 0) = true) : nOk ns = true := by
  have : ns = [] := List.eq_nil_of_length_eq_zero (by simpa using h)
  subst this; rfl
theorem in_zero (c b : Int) (hb : 0 ≤ b) : (inB c 0 b || c == 0) = inB c 0 b := by
  by_cases h : c = 0
  · subst h; rw [inB_mk (by omega) hb]; rfl
  · rw [show (c == 0) = false from by simpa using h, Bool.or_false]

theorem bool1 (a b c d e f g h : Bool) (h1 : g = true → b = true) (h2 : h = true → c = true) : (true && a && b && c && (d && e && f && (false || g) && (false || h))) = (a && true && (d && e && f && g && h)) := by
  revert h1 h2; revert a b c d e f g h; decide
theorem bool2 (a b c d e f g h : Bool) (h2 : h = true → c = true) : (true && a && b && c && (d && e && f && (true || g) && (false || h))) = (a && (e && f && b) && (d && true && true && true && h)) := by
  revert h2; revert a b c d e f g h; decide
theorem bool3 (a b c d e f g h : Bool) (h2 : h = true → c = true) : (true && a && b && c && (d && e && f && (true || g) && (false || h))) = (a && b && (d && e && f && true && h)) := by
  revert h2; revert a b c d e f g h; decide
theorem bool4 (a b c d e f g h : Bool) (h1 : g = true → b = true) (h2 : h = true → c = true) : (true && a && b && c && (d && e && f && (false || g) && (false || h))) = (a && f && (d && e && true && g && h)) := by
  revert h1 h2; revert a b c d e f g h; decide
theorem bool5 (a b c d e f g h : Bool) (h1 : g = true → b = true) (h2 : h = true → c = true) : (true && a && b && c && (d && e && f && (false || g) && (false || h))) = (a && d && (true && e && f && g && h)) := by
  revert h1 h2; revert a b c d e f g h; decide
theorem bool6 (a b c d e f g h : Bool) (h1 : g = true → b = true) : (true && a && b && c && (d && e && f && (false || g) && (true || h))) = (a && (d && c) && (true && e && f && g && true)) := by
  revert h1; revert a b c d e f g h; decide

theorem mOk_spec (k i u c n : Int) (cs : List (Int × Bool × Int)) (ns : List (Int × Int)) : mSpec k i u c n cs ns = mOk k i u c n cs ns := by
  have h1 := @cOk_nil cs
  have h2 := @nOk_nil ns
  have e255 := in_zero c 255 (by omega)
  have eMax := in_zero n 16777215 (by omega)
  have e0 : ∀ x : Int, (x == x) = true := fun x => by simp
  cases hk : inB k 1 10 with
  | false =>
    unfold mSpec mOk
    rw [hk, pOk_none (inB_no hk)]
    simp
  | true =>
    unfold mSpec
    rw [hk]
    rcases kinds hk with rfl | rfl | rfl | rfl | rfl | rfl | rfl | rfl | rfl | rfl
    · exact bool1 _ _ _ _ _ _ _ _ h1 h2
    · show (true && inB i 1 1000000 && cOk cs && nOk ns && ((u == 0) && (inB c 0 255 || c == 0) && (inB n 0 16777215 || n == 0) && (true || _) && (false || _))) = (inB i 1 1000000 && (inB c 0 255 && inB n 0 16777215 && cOk cs) && ((u == 0) && (c == c) && (n == n) && ((cs.length : Int) == (cs.length : Int)) && ((ns.length : Int) == 0)))
      rw [e255, eMax, e0, e0, e0]
      exact bool2 _ _ _ _ _ _ _ _ h2
    · show _ = (inB i 1 1000000 && cOk cs && ((u == 0) && (c == 0) && (n == 0) && ((cs.length : Int) == (cs.length : Int)) && ((ns.length : Int) == 0)))
      rw [e0]
      exact bool3 _ _ _ _ _ _ _ _ h2
    · show (true && inB i 1 1000000 && cOk cs && nOk ns && ((u == 0) && (c == 0) && (inB n 0 16777215 || n == 0) && (false || _) && (false || _))) = (inB i 1 1000000 && inB n 0 16777215 && ((u == 0) && (c == 0) && (n == n) && ((cs.length : Int) == 0) && ((ns.length : Int) == 0)))
      rw [eMax, e0]
      exact bool4 _ _ _ _ _ _ _ _ h1 h2
    · show _ = (inB i 1 1000000 && inB u 1 1000000 && ((u == u) && (c == 0) && (n == 0) && ((cs.length : Int) == 0) && ((ns.length : Int) == 0)))
      rw [e0]
      exact bool5 _ _ _ _ _ _ _ _ h1 h2
    · show _ = (inB i 1 1000000 && (inB u 1 1000000 && nOk ns) && ((u == u) && (c == 0) && (n == 0) && ((cs.length : Int) == 0) && ((ns.length : Int) == (ns.length : Int))))
      rw [e0, e0]
      exact bool6 _ _ _ _ _ _ _ _ h1
    · show _ = (inB i 1 1000000 && (inB u 1 1000000 && nOk ns) && ((u == u) && (c == 0) && (n == 0) && ((cs.length : Int) == 0) && ((ns.length : Int) == (ns.length : Int))))
      rw [e0, e0]
      exact bool6 _ _ _ _ _ _ _ _ h1
    · show _ = (inB i 1 1000000 && (inB u 1 1000000 && nOk ns) && ((u == u) && (c == 0) && (n == 0) && ((cs.length : Int) == 0) && ((ns.length : Int) == (ns.length : Int))))
      rw [e0, e0]
      exact bool6 _ _ _ _ _ _ _ _ h1
    · show _ = (inB i 1 1000000 && inB u 1 1000000 && ((u == u) && (c == 0) && (n == 0) && ((cs.length : Int) == 0) && ((ns.length : Int) == 0)))
      rw [e0]
      exact bool5 _ _ _ _ _ _ _ _ h1 h2
    · show _ = (inB i 1 1000000 && (inB u 1 1000000 && nOk ns) && ((u == u) && (c == 0) && (n == 0) && ((cs.length : Int) == 0) && ((ns.length : Int) == (ns.length : Int))))
      rw [e0, e0]
      exact bool6 _ _ _ _ _ _ _ _ h1
end Go.Proofs.YtoaenoakdbieaaaDoor
