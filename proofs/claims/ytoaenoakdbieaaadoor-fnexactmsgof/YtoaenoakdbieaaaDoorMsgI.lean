/-
  What the program's kinds of messages are, and what ownKind, partsOk and noPartLost do.
-/
import Derived.Test.YtoaenoakdbieaaaDoorMsgW
namespace Go.Proofs.YtoaenoakdbieaaaDoor
open Go.RowKit

/-- A message of its own kind, as the program holds it. -/
def ownV (k i u c n : Int) (cv nv : Value) : Value :=
  if k = 1 then .iface 126 (.agg #[.int .i64 i])
  else if k = 2 then .iface 128 (.agg #[.int .i64 i, .int .i64 c, .int .i64 n, cv])
  else if k = 3 then .iface 130 (.agg #[.int .i64 i, cv])
  else if k = 4 then .iface 132 (.agg #[.int .i64 i, .int .i64 n])
  else if k = 5 then .iface 134 (.agg #[.int .i64 i, .int .i64 u])
  else if k = 6 then .iface 136 (.agg #[.int .i64 i, .int .i64 u, nv])
  else if k = 7 then .iface 137 (.agg #[.int .i64 i, .int .i64 u, nv])
  else if k = 8 then .iface 138 (.agg #[.int .i64 i, .int .i64 u, nv])
  else if k = 9 then .iface 139 (.agg #[.int .i64 i, .int .i64 u])
  else if k = 10 then .iface 140 (.agg #[.int .i64 i, .int .i64 u, nv])
  else .nilIface

theorem ownV_none {k i u c n : Int} {cv nv : Value} (h : k < 1 ∨ 10 < k) : ownV k i u c n cv nv = .nilIface := by
  unfold ownV
  rw [if_neg (by omega), if_neg (by omega), if_neg (by omega), if_neg (by omega), if_neg (by omega), if_neg (by omega), if_neg (by omega), if_neg (by omega), if_neg (by omega), if_neg (by omega)]

set_option maxRecDepth 100000 in
set_option maxHeartbeats 4000000 in
theorem ownImpl (w : World) (k i u c n : Int) (a5 a6 : Option Addr) (l5 c5 l6 c6 : Nat) :
    Calls Tryd.prog 52 #[msgV k i u c n (.slice a5 l5 c5) (.slice a6 l6 c6)] w fun e w' => e = .returned (ownV k i u c n (.slice a5 l5 c5) (.slice a6 l6 c6)) ∧ Below w.heap.size w w' := by
  unfold msgV
  cases hk : inB k 1 10 with
  | false =>
    have hn := inB_no hk
    rw [ownV_none hn]
    have h1 : (k == 1) = false := by simp; omega
    have h2 : (k == 2) = false := by simp; omega
    have h3 : (k == 3) = false := by simp; omega
    have h4 : (k == 4) = false := by simp; omega
    have h5 : (k == 5) = false := by simp; omega
    have h6 : (k == 6) = false := by simp; omega
    have h7 : (k == 7) = false := by simp; omega
    have h8 : (k == 8) = false := by simp; omega
    have h9 : (k == 9) = false := by simp; omega
    have h10 : (k == 10) = false := by simp; omega
    clear hk hn
    go_enter Tryd.func52, Tryd.ntmps52
    go_wp2
    go_ret
    exact ⟨rfl, (Below.refl _ _).alloc (Nat.le_refl _) _⟩
  | true =>
    rcases kinds hk with rfl | rfl | rfl | rfl | rfl | rfl | rfl | rfl | rfl | rfl
    all_goals
      clear hk
      go_enter Tryd.func52, Tryd.ntmps52
      go_wp2
      go_ret
      exact ⟨rfl, (Below.refl _ _).alloc (Nat.le_refl _) _⟩
end Go.Proofs.YtoaenoakdbieaaaDoor
