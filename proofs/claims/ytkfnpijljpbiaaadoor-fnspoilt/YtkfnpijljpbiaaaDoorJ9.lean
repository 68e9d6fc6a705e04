/-
  Joined: MsgI, MsgP.
-/
import Derived.Test.YtkfnpijljpbiaaaDoorKMsgW
/-
  What the program's kinds of messages are, and what ownKind, partsOk and noPartLost do.
-/
namespace Go.Proofs.YtkfnpijljpbiaaaDoor
open Go.RowKit

/-- A message of its own kind, as the program holds it. -/
def ownV (k i u c n : Int) (cv nv : Value) : Value :=
  if k = 1 then .iface 127 (.agg #[.int .i64 i])
  else if k = 2 then .iface 129 (.agg #[.int .i64 i, .int .i64 c, .int .i64 n, cv])
  else if k = 3 then .iface 131 (.agg #[.int .i64 i, cv])
  else if k = 4 then .iface 133 (.agg #[.int .i64 i, .int .i64 n])
  else if k = 5 then .iface 135 (.agg #[.int .i64 i, .int .i64 u])
  else if k = 6 then .iface 137 (.agg #[.int .i64 i, .int .i64 u, nv])
  else if k = 7 then .iface 138 (.agg #[.int .i64 i, .int .i64 u, nv])
  else if k = 8 then .iface 139 (.agg #[.int .i64 i, .int .i64 u, nv])
  else if k = 9 then .iface 140 (.agg #[.int .i64 i, .int .i64 u])
  else if k = 10 then .iface 141 (.agg #[.int .i64 i, .int .i64 u, nv])
  else .nilIface

theorem ownV_none {k i u c n : Int} {cv nv : Value} (h : k < 1 ∨ 10 < k) : ownV k i u c n cv nv = .nilIface := by
  unfold ownV
  rw [if_neg (by omega), if_neg (by omega), if_neg (by omega), if_neg (by omega), if_neg (by omega), if_neg (by omega), if_neg (by omega), if_neg (by omega), if_neg (by omega), if_neg (by omega)]

set_option maxRecDepth 100000 in
set_option maxHeartbeats 4000000 in
theorem ownImpl (w : World) (k i u c n : Int) (a5 a6 : Option Addr) (l5 c5 l6 c6 : Nat) :
    Calls Tryd.prog 73 #[msgV k i u c n (.slice a5 l5 c5) (.slice a6 l6 c6)] w fun e w' => e = .returned (ownV k i u c n (.slice a5 l5 c5) (.slice a6 l6 c6)) ∧ Below w.heap.size w w' := by
  unfold msgV
  cases hk : inB k 1 10 with
  | false =>
    have hn := inB_no hk
    rw [ownV_none hn]
    have h1 : (k == 1) = false := by simp; omega
    have h2 : (k == 2) = false := by simp; omega
    have h3 : (k == 3) = false := by simp; omega
    have h4 : (k == 4) = false := by simp; omega
    have h5 : (k == 5) = false := by simp; omega
    have h6 : (k == 6) = false := by simp; omega
    have h7 : (k == 7) = false := by simp; omega
    have h8 : (k == 8) = false := by simp; omega
    have h9 : (k == 9) = false := by simp; omega
    have h10 : (k == 10) = false := by simp; omega
    clear hk hn
    go_enter Tryd.func73, Tryd.ntmps73
    go_wp2
    go_ret
    exact ⟨rfl, (Below.refl _ _).alloc (Nat.le_refl _) _⟩
  | true =>
    rcases kinds hk with rfl | rfl | rfl | rfl | rfl | rfl | rfl | rfl | rfl | rfl
    all_goals
      clear hk
      go_enter Tryd.func73, Tryd.ntmps73
      go_wp2
      go_ret
      exact ⟨rfl, (Below.refl _ _).alloc (Nat.le_refl _) _⟩
end Go.Proofs.YtkfnpijljpbiaaaDoor
/-
  What partsOk does.
-/
namespace Go.Proofs.YtkfnpijljpbiaaaDoor
open Go.RowKit

/-- What partsOk says. -/
def pOk (k u c n : Int) (cs : List (Int × Bool × Int)) (ns : List (Int × Int)) : Bool :=
  if k = 1 then true
  else if k = 2 then inB c 0 255 && inB n 0 16777215 && cOk cs
  else if k = 3 then cOk cs
  else if k = 4 then inB n 0 16777215
  else if k = 5 ∨ k = 9 then inB u 1 1000000
  else if k = 6 ∨ k = 7 ∨ k = 8 ∨ k = 10 then inB u 1 1000000 && nOk ns
  else false

theorem pOk_none {k u c n : Int} {cs : List (Int × Bool × Int)} {ns : List (Int × Int)} (h : k < 1 ∨ 10 < k) : pOk k u c n cs ns = false := by
  unfold pOk
  rw [if_neg (by omega), if_neg (by omega), if_neg (by omega), if_neg (by omega), if_neg (by omega), if_neg (by omega)]

theorem ta1_1 (x : Value) (w : World) : (Instr.typeAssert (.iface 127 x) 111 127 true).run Tryd.prog w = .ok (.tuple #[x, .bool true]) w := by kernel_rfl
theorem ta0_1 (w : World) : (Instr.typeAssert .nilIface 111 127 true).run Tryd.prog w = .ok (.tuple #[.agg #[.int .i64 0], .bool false]) w := by kernel_rfl
theorem ta2_2 (x : Value) (w : World) : (Instr.typeAssert (.iface 129 x) 111 129 true).run Tryd.prog w = .ok (.tuple #[x, .bool true]) w := by kernel_rfl
theorem ta0_2 (w : World) : (Instr.typeAssert .nilIface 111 129 true).run Tryd.prog w = .ok (.tuple #[.agg #[.int .i64 0, .int .i64 0, .int .i64 0, .slice none 0 0], .bool false]) w := by kernel_rfl
theorem ta2_1 (x : Value) (w : World) : (Instr.typeAssert (.iface 129 x) 111 127 true).run Tryd.prog w = .ok (.tuple #[.agg #[.int .i64 0], .bool false]) w := by kernel_rfl
theorem ta3_3 (x : Value) (w : World) : (Instr.typeAssert (.iface 131 x) 111 131 true).run Tryd.prog w = .ok (.tuple #[x, .bool true]) w := by kernel_rfl
theorem ta0_3 (w : World) : (Instr.typeAssert .nilIface 111 131 true).run Tryd.prog w = .ok (.tuple #[.agg #[.int .i64 0, .slice none 0 0], .bool false]) w := by kernel_rfl
theorem ta3_1 (x : Value) (w : World) : (Instr.typeAssert (.iface 131 x) 111 127 true).run Tryd.prog w = .ok (.tuple #[.agg #[.int .i64 0], .bool false]) w := by kernel_rfl
theorem ta3_2 (x : Value) (w : World) : (Instr.typeAssert (.iface 131 x) 111 129 true).run Tryd.prog w = .ok (.tuple #[.agg #[.int .i64 0, .int .i64 0, .int .i64 0, .slice none 0 0], .bool false]) w := by kernel_rfl
theorem ta4_4 (x : Value) (w : World) : (Instr.typeAssert (.iface 133 x) 111 133 true).run Tryd.prog w = .ok (.tuple #[x, .bool true]) w := by kernel_rfl
theorem ta0_4 (w : World) : (Instr.typeAssert .nilIface 111 133 true).run Tryd.prog w = .ok (.tuple #[.agg #[.int .i64 0, .int .i64 0], .bool false]) w := by kernel_rfl
theorem ta4_1 (x : Value) (w : World) : (Instr.typeAssert (.iface 133 x) 111 127 true).run Tryd.prog w = .ok (.tuple #[.agg #[.int .i64 0], .bool false]) w := by kernel_rfl
theorem ta4_2 (x : Value) (w : World) : (Instr.typeAssert (.iface 133 x) 111 129 true).run Tryd.prog w = .ok (.tuple #[.agg #[.int .i64 0, .int .i64 0, .int .i64 0, .slice none 0 0], .bool false]) w := by kernel_rfl
theorem ta4_3 (x : Value) (w : World) : (Instr.typeAssert (.iface 133 x) 111 131 true).run Tryd.prog w = .ok (.tuple #[.agg #[.int .i64 0, .slice none 0 0], .bool false]) w := by kernel_rfl
theorem ta5_5 (x : Value) (w : World) : (Instr.typeAssert (.iface 135 x) 111 135 true).run Tryd.prog w = .ok (.tuple #[x, .bool true]) w := by kernel_rfl
theorem ta0_5 (w : World) : (Instr.typeAssert .nilIface 111 135 true).run Tryd.prog w = .ok (.tuple #[.agg #[.int .i64 0, .int .i64 0], .bool false]) w := by kernel_rfl
theorem ta5_1 (x : Value) (w : World) : (Instr.typeAssert (.iface 135 x) 111 127 true).run Tryd.prog w = .ok (.tuple #[.agg #[.int .i64 0], .bool false]) w := by kernel_rfl
theorem ta5_2 (x : Value) (w : World) : (Instr.typeAssert (.iface 135 x) 111 129 true).run Tryd.prog w = .ok (.tuple #[.agg #[.int .i64 0, .int .i64 0, .int .i64 0, .slice none 0 0], .bool false]) w := by kernel_rfl
theorem ta5_3 (x : Value) (w : World) : (Instr.typeAssert (.iface 135 x) 111 131 true).run Tryd.prog w = .ok (.tuple #[.agg #[.int .i64 0, .slice none 0 0], .bool false]) w := by kernel_rfl
theorem ta5_4 (x : Value) (w : World) : (Instr.typeAssert (.iface 135 x) 111 133 true).run Tryd.prog w = .ok (.tuple #[.agg #[.int .i64 0, .int .i64 0], .bool false]) w := by kernel_rfl
theorem ta6_6 (x : Value) (w : World) : (Instr.typeAssert (.iface 137 x) 111 137 true).run Tryd.prog w = .ok (.tuple #[x, .bool true]) w := by kernel_rfl
theorem ta0_6 (w : World) : (Instr.typeAssert .nilIface 111 137 true).run Tryd.prog w = .ok (.tuple #[.agg #[.int .i64 0, .int .i64 0, .slice none 0 0], .bool false]) w := by kernel_rfl
theorem ta6_1 (x : Value) (w : World) : (Instr.typeAssert (.iface 137 x) 111 127 true).run Tryd.prog w = .ok (.tuple #[.agg #[.int .i64 0], .bool false]) w := by kernel_rfl
theorem ta6_2 (x : Value) (w : World) : (Instr.typeAssert (.iface 137 x) 111 129 true).run Tryd.prog w = .ok (.tuple #[.agg #[.int .i64 0, .int .i64 0, .int .i64 0, .slice none 0 0], .bool false]) w := by kernel_rfl
theorem ta6_3 (x : Value) (w : World) : (Instr.typeAssert (.iface 137 x) 111 131 true).run Tryd.prog w = .ok (.tuple #[.agg #[.int .i64 0, .slice none 0 0], .bool false]) w := by kernel_rfl
theorem ta6_4 (x : Value) (w : World) : (Instr.typeAssert (.iface 137 x) 111 133 true).run Tryd.prog w = .ok (.tuple #[.agg #[.int .i64 0, .int .i64 0], .bool false]) w := by kernel_rfl
theorem ta6_5 (x : Value) (w : World) : (Instr.typeAssert (.iface 137 x) 111 135 true).run Tryd.prog w = .ok (.tuple #[.agg #[.int .i64 0, .int .i64 0], .bool false]) w := by kernel_rfl
theorem ta7_7 (x : Value) (w : World) : (Instr.typeAssert (.iface 138 x) 111 138 true).run Tryd.prog w = .ok (.tuple #[x, .bool true]) w := by kernel_rfl
theorem ta0_7 (w : World) : (Instr.typeAssert .nilIface 111 138 true).run Tryd.prog w = .ok (.tuple #[.agg #[.int .i64 0, .int .i64 0, .slice none 0 0], .bool false]) w := by kernel_rfl
theorem ta7_1 (x : Value) (w : World) : (Instr.typeAssert (.iface 138 x) 111 127 true).run Tryd.prog w = .ok (.tuple #[.agg #[.int .i64 0], .bool false]) w := by kernel_rfl
theorem ta7_2 (x : Value) (w : World) : (Instr.typeAssert (.iface 138 x) 111 129 true).run Tryd.prog w = .ok (.tuple #[.agg #[.int .i64 0, .int .i64 0, .int .i64 0, .slice none 0 0], .bool false]) w := by kernel_rfl
theorem ta7_3 (x : Value) (w : World) : (Instr.typeAssert (.iface 138 x) 111 131 true).run Tryd.prog w = .ok (.tuple #[.agg #[.int .i64 0, .slice none 0 0], .bool false]) w := by kernel_rfl
theorem ta7_4 (x : Value) (w : World) : (Instr.typeAssert (.iface 138 x) 111 133 true).run Tryd.prog w = .ok (.tuple #[.agg #[.int .i64 0, .int .i64 0], .bool false]) w := by kernel_rfl
theorem ta7_5 (x : Value) (w : World) : (Instr.typeAssert (.iface 138 x) 111 135 true).run Tryd.prog w = .ok (.tuple #[.agg #[.int .i64 0, .int .i64 0], .bool false]) w := by kernel_rfl
theorem ta7_6 (x : Value) (w : World) : (Instr.typeAssert (.iface 138 x) 111 137 true).run Tryd.prog w = .ok (.tuple #[.agg #[.int .i64 0, .int .i64 0, .slice none 0 0], .bool false]) w := by kernel_rfl
theorem ta8_8 (x : Value) (w : World) : (Instr.typeAssert (.iface 139 x) 111 139 true).run Tryd.prog w = .ok (.tuple #[x, .bool true]) w := by kernel_rfl
theorem ta0_8 (w : World) : (Instr.typeAssert .nilIface 111 139 true).run Tryd.prog w = .ok (.tuple #[.agg #[.int .i64 0, .int .i64 0, .slice none 0 0], .bool false]) w := by kernel_rfl
theorem ta8_1 (x : Value) (w : World) : (Instr.typeAssert (.iface 139 x) 111 127 true).run Tryd.prog w = .ok (.tuple #[.agg #[.int .i64 0], .bool false]) w := by kernel_rfl
theorem ta8_2 (x : Value) (w : World) : (Instr.typeAssert (.iface 139 x) 111 129 true).run Tryd.prog w = .ok (.tuple #[.agg #[.int .i64 0, .int .i64 0, .int .i64 0, .slice none 0 0], .bool false]) w := by kernel_rfl
theorem ta8_3 (x : Value) (w : World) : (Instr.typeAssert (.iface 139 x) 111 131 true).run Tryd.prog w = .ok (.tuple #[.agg #[.int .i64 0, .slice none 0 0], .bool false]) w := by kernel_rfl
theorem ta8_4 (x : Value) (w : World) : (Instr.typeAssert (.iface 139 x) 111 133 true).run Tryd.prog w = .ok (.tuple #[.agg #[.int .i64 0, .int .i64 0], .bool false]) w := by kernel_rfl
theorem ta8_5 (x : Value) (w : World) : (Instr.typeAssert (.iface 139 x) 111 135 true).run Tryd.prog w = .ok (.tuple #[.agg #[.int .i64 0, .int .i64 0], .bool false]) w := by kernel_rfl
theorem ta8_6 (x : Value) (w : World) : (Instr.typeAssert (.iface 139 x) 111 137 true).run Tryd.prog w = .ok (.tuple #[.agg #[.int .i64 0, .int .i64 0, .slice none 0 0], .bool false]) w := by kernel_rfl
theorem ta8_7 (x : Value) (w : World) : (Instr.typeAssert (.iface 139 x) 111 138 true).run Tryd.prog w = .ok (.tuple #[.agg #[.int .i64 0, .int .i64 0, .slice none 0 0], .bool false]) w := by kernel_rfl
theorem ta9_9 (x : Value) (w : World) : (Instr.typeAssert (.iface 140 x) 111 140 true).run Tryd.prog w = .ok (.tuple #[x, .bool true]) w := by kernel_rfl
theorem ta0_9 (w : World) : (Instr.typeAssert .nilIface 111 140 true).run Tryd.prog w = .ok (.tuple #[.agg #[.int .i64 0, .int .i64 0], .bool false]) w := by kernel_rfl
theorem ta9_1 (x : Value) (w : World) : (Instr.typeAssert (.iface 140 x) 111 127 true).run Tryd.prog w = .ok (.tuple #[.agg #[.int .i64 0], .bool false]) w := by kernel_rfl
theorem ta9_2 (x : Value) (w : World) : (Instr.typeAssert (.iface 140 x) 111 129 true).run Tryd.prog w = .ok (.tuple #[.agg #[.int .i64 0, .int .i64 0, .int .i64 0, .slice none 0 0], .bool false]) w := by kernel_rfl
theorem ta9_3 (x : Value) (w : World) : (Instr.typeAssert (.iface 140 x) 111 131 true).run Tryd.prog w = .ok (.tuple #[.agg #[.int .i64 0, .slice none 0 0], .bool false]) w := by kernel_rfl
theorem ta9_4 (x : Value) (w : World) : (Instr.typeAssert (.iface 140 x) 111 133 true).run Tryd.prog w = .ok (.tuple #[.agg #[.int .i64 0, .int .i64 0], .bool false]) w := by kernel_rfl
theorem ta9_5 (x : Value) (w : World) : (Instr.typeAssert (.iface 140 x) 111 135 true).run Tryd.prog w = .ok (.tuple #[.agg #[.int .i64 0, .int .i64 0], .bool false]) w := by kernel_rfl
theorem ta9_6 (x : Value) (w : World) : (Instr.typeAssert (.iface 140 x) 111 137 true).run Tryd.prog w = .ok (.tuple #[.agg #[.int .i64 0, .int .i64 0, .slice none 0 0], .bool false]) w := by kernel_rfl
theorem ta9_7 (x : Value) (w : World) : (Instr.typeAssert (.iface 140 x) 111 138 true).run Tryd.prog w = .ok (.tuple #[.agg #[.int .i64 0, .int .i64 0, .slice none 0 0], .bool false]) w := by kernel_rfl
theorem ta9_8 (x : Value) (w : World) : (Instr.typeAssert (.iface 140 x) 111 139 true).run Tryd.prog w = .ok (.tuple #[.agg #[.int .i64 0, .int .i64 0, .slice none 0 0], .bool false]) w := by kernel_rfl
theorem ta10_10 (x : Value) (w : World) : (Instr.typeAssert (.iface 141 x) 111 141 true).run Tryd.prog w = .ok (.tuple #[x, .bool true]) w := by kernel_rfl
theorem ta0_10 (w : World) : (Instr.typeAssert .nilIface 111 141 true).run Tryd.prog w = .ok (.tuple #[.agg #[.int .i64 0, .int .i64 0, .slice none 0 0], .bool false]) w := by kernel_rfl
theorem ta10_1 (x : Value) (w : World) : (Instr.typeAssert (.iface 141 x) 111 127 true).run Tryd.prog w = .ok (.tuple #[.agg #[.int .i64 0], .bool false]) w := by kernel_rfl
theorem ta10_2 (x : Value) (w : World) : (Instr.typeAssert (.iface 141 x) 111 129 true).run Tryd.prog w = .ok (.tuple #[.agg #[.int .i64 0, .int .i64 0, .int .i64 0, .slice none 0 0], .bool false]) w := by kernel_rfl
theorem ta10_3 (x : Value) (w : World) : (Instr.typeAssert (.iface 141 x) 111 131 true).run Tryd.prog w = .ok (.tuple #[.agg #[.int .i64 0, .slice none 0 0], .bool false]) w := by kernel_rfl
theorem ta10_4 (x : Value) (w : World) : (Instr.typeAssert (.iface 141 x) 111 133 true).run Tryd.prog w = .ok (.tuple #[.agg #[.int .i64 0, .int .i64 0], .bool false]) w := by kernel_rfl
theorem ta10_5 (x : Value) (w : World) : (Instr.typeAssert (.iface 141 x) 111 135 true).run Tryd.prog w = .ok (.tuple #[.agg #[.int .i64 0, .int .i64 0], .bool false]) w := by kernel_rfl
theorem ta10_6 (x : Value) (w : World) : (Instr.typeAssert (.iface 141 x) 111 137 true).run Tryd.prog w = .ok (.tuple #[.agg #[.int .i64 0, .int .i64 0, .slice none 0 0], .bool false]) w := by kernel_rfl
theorem ta10_7 (x : Value) (w : World) : (Instr.typeAssert (.iface 141 x) 111 138 true).run Tryd.prog w = .ok (.tuple #[.agg #[.int .i64 0, .int .i64 0, .slice none 0 0], .bool false]) w := by kernel_rfl
theorem ta10_8 (x : Value) (w : World) : (Instr.typeAssert (.iface 141 x) 111 139 true).run Tryd.prog w = .ok (.tuple #[.agg #[.int .i64 0, .int .i64 0, .slice none 0 0], .bool false]) w := by kernel_rfl
theorem ta10_9 (x : Value) (w : World) : (Instr.typeAssert (.iface 141 x) 111 140 true).run Tryd.prog w = .ok (.tuple #[.agg #[.int .i64 0, .int .i64 0], .bool false]) w := by kernel_rfl

set_option maxRecDepth 100000 in
set_option maxHeartbeats 8000000 in
theorem partsImpl (w : World) (k i u c n : Int) (cv nv : Value) (cs : List (Int × Bool × Int)) (ns : List (Int × Int)) (hc : Rd w w.heap.size 3 cv cs.length (cs.flatMap cellC)) (hn : Rd w w.heap.size 2 nv ns.length (ns.flatMap noteC))
    (hmc : cs.length ≤ 1048576) (hmn : ns.length ≤ 1048576) :
    Calls Tryd.prog 75 #[ownV k i u c n cv nv] w fun e w' => e = .returned (.bool (pOk k u c n cs ns)) ∧ Below w.heap.size w w' := by
  have HC := hide hc
  have HN := hide hn
  obtain ⟨a5, cap5, rfl, _⟩ := cells_at hc
  obtain ⟨a6, cap6, rfl, _⟩ := notes_at hn
  clear hc hn
  cases hk : inB k 1 10 with
  | false =>
    have hn := inB_no hk
    rw [ownV_none hn, pOk_none hn]
    clear hk hn
    have t1 := ta0_1
    have t2 := ta0_2
    have t3 := ta0_3
    have t4 := ta0_4
    have t5 := ta0_5
    have t6 := ta0_6
    have t7 := ta0_7
    have t8 := ta0_8
    have t9 := ta0_9
    have t10 := ta0_10
    go_enter Tryd.func75, Tryd.ntmps75
    go_wp2
    go_ret
    exact ⟨rfl, Below.refl _ _⟩
  | true =>
    rcases kinds hk with rfl | rfl | rfl | rfl | rfl | rfl | rfl | rfl | rfl | rfl
    · show Calls _ _ #[.iface 127 (.agg #[.int .i64 i])] _ _
      clear hk
      have t1 := ta1_1
      have HP : Hid (pOk 1 u c n cs ns = true) := hide rfl
      go_enter Tryd.func75, Tryd.ntmps75
      go_wp2
      go_ret
      exact ⟨by rw [HP.out]; rfl, ((Below.refl _ _).alloc (Nat.le_refl _) _)⟩
    · show Calls _ _ #[.iface 129 (.agg #[.int .i64 i, .int .i64 c, .int .i64 n, .slice a5 cs.length cap5])] _ _
      clear hk
      have t1 := ta2_1
      have t2 := ta2_2
      have HP : Hid (pOk 2 u c n cs ns = (inB c 0 255 && inB n 0 16777215 && cOk cs)) := hide rfl
      cases h1 : inB c 0 255 with
      | false =>
        rw [h1] at HP
        go_enter Tryd.func75, Tryd.ntmps75
        go_wp2_with (first | (go_at_call 38; refine (inImpl _ _ _ _).mono ?_; rintro e w' ⟨rfl, rfl⟩) | (go_at_call 74; refine (objImpl _ _).mono ?_; rintro e w' ⟨rfl, rfl⟩))
        go_ret
        exact ⟨by rw [HP.out]; rfl, ((Below.refl _ _).alloc (Nat.le_refl _) _)⟩
      | true =>
        cases h2 : inB n 0 16777215 with
        | false =>
          rw [h1, h2] at HP
          go_enter Tryd.func75, Tryd.ntmps75
          go_wp2_with (first | (go_at_call 38; refine (inImpl _ _ _ _).mono ?_; rintro e w' ⟨rfl, rfl⟩) | (go_at_call 74; refine (objImpl _ _).mono ?_; rintro e w' ⟨rfl, rfl⟩))
          go_ret
          exact ⟨by rw [HP.out]; rfl, ((Below.refl _ _).alloc (Nat.le_refl _) _)⟩
        | true =>
          rw [h1, h2] at HP
          go_enter Tryd.func75, Tryd.ntmps75
          go_wp2_with (first | (go_at_call 38; refine (inImpl _ _ _ _).mono ?_; rintro e w' ⟨rfl, rfl⟩) | (go_at_call 74; refine (objImpl _ _).mono ?_; rintro e w' ⟨rfl, rfl⟩))
          refine (cellsImpl _ _ _ _ (HC.out.at ((Below.refl _ _).alloc (Nat.le_refl _) _)) (Nat.le_refl _) hmc).mono ?_
          rintro e w2 ⟨rfl, b2⟩
          have HB := hide (((Below.refl _ _).alloc (Nat.le_refl _) _).trans (b2.mono (by simp)))
          clear b2
          go_wp2
          go_ret
          exact ⟨by rw [HP.out]; rfl, HB.out⟩
    · show Calls _ _ #[.iface 131 (.agg #[.int .i64 i, .slice a5 cs.length cap5])] _ _
      clear hk
      have t1 := ta3_1
      have t2 := ta3_2
      have t3 := ta3_3
      have HP : Hid (pOk 3 u c n cs ns = cOk cs) := hide rfl
      go_enter Tryd.func75, Tryd.ntmps75
      go_wp2_with fail
      refine (cellsImpl _ _ _ _ (HC.out.at ((Below.refl _ _).alloc (Nat.le_refl _) _)) (Nat.le_refl _) hmc).mono ?_
      rintro e w2 ⟨rfl, b2⟩
      have HB := hide (((Below.refl _ _).alloc (Nat.le_refl _) _).trans (b2.mono (by simp)))
      clear b2
      go_wp2
      go_ret
      exact ⟨by rw [HP.out]; rfl, HB.out⟩
    · show Calls _ _ #[.iface 133 (.agg #[.int .i64 i, .int .i64 n])] _ _
      clear hk
      have t1 := ta4_1
      have t2 := ta4_2
      have t3 := ta4_3
      have t4 := ta4_4
      have HP : Hid (pOk 4 u c n cs ns = inB n 0 16777215) := hide rfl
      go_enter Tryd.func75, Tryd.ntmps75
      go_wp2_with (first | (go_at_call 38; refine (inImpl _ _ _ _).mono ?_; rintro e w' ⟨rfl, rfl⟩) | (go_at_call 74; refine (objImpl _ _).mono ?_; rintro e w' ⟨rfl, rfl⟩))
      go_ret
      exact ⟨by rw [HP.out]; rfl, ((Below.refl _ _).alloc (Nat.le_refl _) _)⟩
    · show Calls _ _ #[.iface 135 (.agg #[.int .i64 i, .int .i64 u])] _ _
      clear hk
      have t1 := ta5_1
      have t2 := ta5_2
      have t3 := ta5_3
      have t4 := ta5_4
      have t5 := ta5_5
      have HP : Hid (pOk 5 u c n cs ns = inB u 1 1000000) := hide rfl
      go_enter Tryd.func75, Tryd.ntmps75
      go_wp2_with (first | (go_at_call 38; refine (inImpl _ _ _ _).mono ?_; rintro e w' ⟨rfl, rfl⟩) | (go_at_call 74; refine (objImpl _ _).mono ?_; rintro e w' ⟨rfl, rfl⟩))
      go_ret
      exact ⟨by rw [HP.out]; rfl, ((Below.refl _ _).alloc (Nat.le_refl _) _)⟩
    · show Calls _ _ #[.iface 137 (.agg #[.int .i64 i, .int .i64 u, .slice a6 ns.length cap6])] _ _
      clear hk
      have t1 := ta6_1
      have t2 := ta6_2
      have t3 := ta6_3
      have t4 := ta6_4
      have t5 := ta6_5
      have t6 := ta6_6
      have HP : Hid (pOk 6 u c n cs ns = (inB u 1 1000000 && nOk ns)) := hide rfl
      cases h1 : inB u 1 1000000 with
      | false =>
        rw [h1] at HP
        go_enter Tryd.func75, Tryd.ntmps75
        go_wp2_with (first | (go_at_call 38; refine (inImpl _ _ _ _).mono ?_; rintro e w' ⟨rfl, rfl⟩) | (go_at_call 74; refine (objImpl _ _).mono ?_; rintro e w' ⟨rfl, rfl⟩))
        go_ret
        exact ⟨by rw [HP.out]; rfl, ((Below.refl _ _).alloc (Nat.le_refl _) _)⟩
      | true =>
        rw [h1] at HP
        go_enter Tryd.func75, Tryd.ntmps75
        go_wp2_with (first | (go_at_call 38; refine (inImpl _ _ _ _).mono ?_; rintro e w' ⟨rfl, rfl⟩) | (go_at_call 74; refine (objImpl _ _).mono ?_; rintro e w' ⟨rfl, rfl⟩))
        refine (notesImpl _ _ _ _ (HN.out.at ((Below.refl _ _).alloc (Nat.le_refl _) _)) (Nat.le_refl _) hmn).mono ?_
        rintro e w2 ⟨rfl, b2⟩
        have HB := hide (((Below.refl _ _).alloc (Nat.le_refl _) _).trans (b2.mono (by simp)))
        clear b2
        go_wp2
        go_ret
        exact ⟨by rw [HP.out]; rfl, HB.out⟩
    · show Calls _ _ #[.iface 138 (.agg #[.int .i64 i, .int .i64 u, .slice a6 ns.length cap6])] _ _
      clear hk
      have t1 := ta7_1
      have t2 := ta7_2
      have t3 := ta7_3
      have t4 := ta7_4
      have t5 := ta7_5
      have t6 := ta7_6
      have t7 := ta7_7
      have HP : Hid (pOk 7 u c n cs ns = (inB u 1 1000000 && nOk ns)) := hide rfl
      cases h1 : inB u 1 1000000 with
      | false =>
        rw [h1] at HP
        go_enter Tryd.func75, Tryd.ntmps75
        go_wp2_with (first | (go_at_call 38; refine (inImpl _ _ _ _).mono ?_; rintro e w' ⟨rfl, rfl⟩) | (go_at_call 74; refine (objImpl _ _).mono ?_; rintro e w' ⟨rfl, rfl⟩))
        go_ret
        exact ⟨by rw [HP.out]; rfl, ((Below.refl _ _).alloc (Nat.le_refl _) _)⟩
      | true =>
        rw [h1] at HP
        go_enter Tryd.func75, Tryd.ntmps75
        go_wp2_with (first | (go_at_call 38; refine (inImpl _ _ _ _).mono ?_; rintro e w' ⟨rfl, rfl⟩) | (go_at_call 74; refine (objImpl _ _).mono ?_; rintro e w' ⟨rfl, rfl⟩))
        refine (notesImpl _ _ _ _ (HN.out.at ((Below.refl _ _).alloc (Nat.le_refl _) _)) (Nat.le_refl _) hmn).mono ?_
        rintro e w2 ⟨rfl, b2⟩
        have HB := hide (((Below.refl _ _).alloc (Nat.le_refl _) _).trans (b2.mono (by simp)))
        clear b2
        go_wp2
        go_ret
        exact ⟨by rw [HP.out]; rfl, HB.out⟩
    · show Calls _ _ #[.iface 139 (.agg #[.int .i64 i, .int .i64 u, .slice a6 ns.length cap6])] _ _
      clear hk
      have t1 := ta8_1
      have t2 := ta8_2
      have t3 := ta8_3
      have t4 := ta8_4
      have t5 := ta8_5
      have t6 := ta8_6
      have t7 := ta8_7
      have t8 := ta8_8
      have HP : Hid (pOk 8 u c n cs ns = (inB u 1 1000000 && nOk ns)) := hide rfl
      cases h1 : inB u 1 1000000 with
      | false =>
        rw [h1] at HP
        go_enter Tryd.func75, Tryd.ntmps75
        go_wp2_with (first | (go_at_call 38; refine (inImpl _ _ _ _).mono ?_; rintro e w' ⟨rfl, rfl⟩) | (go_at_call 74; refine (objImpl _ _).mono ?_; rintro e w' ⟨rfl, rfl⟩))
        go_ret
        exact ⟨by rw [HP.out]; rfl, ((Below.refl _ _).alloc (Nat.le_refl _) _)⟩
      | true =>
        rw [h1] at HP
        go_enter Tryd.func75, Tryd.ntmps75
        go_wp2_with (first | (go_at_call 38; refine (inImpl _ _ _ _).mono ?_; rintro e w' ⟨rfl, rfl⟩) | (go_at_call 74; refine (objImpl _ _).mono ?_; rintro e w' ⟨rfl, rfl⟩))
        refine (notesImpl _ _ _ _ (HN.out.at ((Below.refl _ _).alloc (Nat.le_refl _) _)) (Nat.le_refl _) hmn).mono ?_
        rintro e w2 ⟨rfl, b2⟩
        have HB := hide (((Below.refl _ _).alloc (Nat.le_refl _) _).trans (b2.mono (by simp)))
        clear b2
        go_wp2
        go_ret
        exact ⟨by rw [HP.out]; rfl, HB.out⟩
    · show Calls _ _ #[.iface 140 (.agg #[.int .i64 i, .int .i64 u])] _ _
      clear hk
      have t1 := ta9_1
      have t2 := ta9_2
      have t3 := ta9_3
      have t4 := ta9_4
      have t5 := ta9_5
      have t6 := ta9_6
      have t7 := ta9_7
      have t8 := ta9_8
      have t9 := ta9_9
      have HP : Hid (pOk 9 u c n cs ns = inB u 1 1000000) := hide rfl
      go_enter Tryd.func75, Tryd.ntmps75
      go_wp2_with (first | (go_at_call 38; refine (inImpl _ _ _ _).mono ?_; rintro e w' ⟨rfl, rfl⟩) | (go_at_call 74; refine (objImpl _ _).mono ?_; rintro e w' ⟨rfl, rfl⟩))
      go_ret
      exact ⟨by rw [HP.out]; rfl, ((Below.refl _ _).alloc (Nat.le_refl _) _)⟩
    · show Calls _ _ #[.iface 141 (.agg #[.int .i64 i, .int .i64 u, .slice a6 ns.length cap6])] _ _
      clear hk
      have t1 := ta10_1
      have t2 := ta10_2
      have t3 := ta10_3
      have t4 := ta10_4
      have t5 := ta10_5
      have t6 := ta10_6
      have t7 := ta10_7
      have t8 := ta10_8
      have t9 := ta10_9
      have t10 := ta10_10
      have HP : Hid (pOk 10 u c n cs ns = (inB u 1 1000000 && nOk ns)) := hide rfl
      cases h1 : inB u 1 1000000 with
      | false =>
        rw [h1] at HP
        go_enter Tryd.func75, Tryd.ntmps75
        go_wp2_with (first | (go_at_call 38; refine (inImpl _ _ _ _).mono ?_; rintro e w' ⟨rfl, rfl⟩) | (go_at_call 74; refine (objImpl _ _).mono ?_; rintro e w' ⟨rfl, rfl⟩))
        go_ret
        exact ⟨by rw [HP.out]; rfl, ((Below.refl _ _).alloc (Nat.le_refl _) _)⟩
      | true =>
        rw [h1] at HP
        go_enter Tryd.func75, Tryd.ntmps75
        go_wp2_with (first | (go_at_call 38; refine (inImpl _ _ _ _).mono ?_; rintro e w' ⟨rfl, rfl⟩) | (go_at_call 74; refine (objImpl _ _).mono ?_; rintro e w' ⟨rfl, rfl⟩))
        refine (notesImpl _ _ _ _ (HN.out.at ((Below.refl _ _).alloc (Nat.le_refl _) _)) (Nat.le_refl _) hmn).mono ?_
        rintro e w2 ⟨rfl, b2⟩
        have HB := hide (((Below.refl _ _).alloc (Nat.le_refl _) _).trans (b2.mono (by simp)))
        clear b2
        go_wp2
        go_ret
        exact ⟨by rw [HP.out]; rfl, HB.out⟩
end Go.Proofs.YtkfnpijljpbiaaaDoor
