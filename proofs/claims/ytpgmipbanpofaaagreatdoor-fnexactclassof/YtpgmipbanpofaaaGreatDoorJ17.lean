/-
  Joined: ClsTo, ClsM, DeepSz.
-/
import Derived.Test.YtpgmipbanpofaaaGreatDoorJ15
import Derived.Test.YtpgmipbanpofaaaGreatDoorJ16
import Derived.Deep.RegionWith
import Derived.Deep.CutRange
import Derived.BigRegion
import Derived.Test.YtpgmipbanpofaaaGreatDoorJ12
/-
  Rows that are filled one by one, and classes copied into new memory.
-/
namespace Go.Proofs.YtpgmipbanpofaaaGreatDoor
open Go.RowKit

theorem Tryz.infoMe : (Tryz.prog.info? 48).map (fun i => (i.zero, i.size, i.bytes)) = some (some (.agg #[.string ByteArray.empty, .slice none 0 0, .string ByteArray.empty, .int .i64 0, .slice none 0 0]), 5, 88) := by kernel_rfl
theorem loadMe {w : World} {g : Nat} {a0 a1 a2 a3 a4 : Value} (h : w.heap[g]? = some (.cells #[a0, a1, a2, a3, a4] 48 (0, 0))) : (loadVar 48 ⟨g, 0, none⟩).run Tryz.prog w = .ok (.agg #[a0, a1, a2, a3, a4]) w :=
  run_loadVar_row w g 48 48 #[a0, a1, a2, a3, a4] (0, 0) _ h Tryz.underlying48 rfl (by kernel_rfl)
theorem loadCl {w : World} {g : Nat} {a0 a1 a2 a3 a4 : Value} (h : w.heap[g]? = some (.cells #[a0, a1, a2, a3, a4] 27 (0, 0))) : (loadVar 27 ⟨g, 0, none⟩).run Tryz.prog w = .ok (.agg #[a0, a1, a2, a3, a4]) w :=
  run_loadVar_row w g 27 27 #[a0, a1, a2, a3, a4] (0, 0) _ h Tryz.underlying27 rfl (by kernel_rfl)
/-- A method that is not too great. -/
def MeG (x : Me) : Prop := x.ps.length ≤ 1048576 ∧ x.c.length ≤ 1048576 ∧ Byt x.c
/-- A class that is not too great. -/
structure ClG (x : Cl) : Prop where
  n : x.n.size ≤ 1048576
  s : x.s.size ≤ 1048576
  p : x.p.length ≤ 1048576
  f : x.f.length ≤ 1048576
  m : x.m.length ≤ 1048576
  ps : ∀ y ∈ x.p, y.a.size ≤ 1048576 ∧ y.b.size ≤ 1048576
  fs : ∀ y ∈ x.f, y.n.size ≤ 1048576 ∧ y.t.size ≤ 1048576
  ms : ∀ y ∈ x.m, y.n.size ≤ 1048576 ∧ y.r.size ≤ 1048576 ∧ MeG y ∧ (∀ s ∈ y.ps, s.size ≤ 1048576) ∧ (-9223372036854775808 ≤ y.l ∧ y.l ≤ 9223372036854775807)
end Go.Proofs.YtpgmipbanpofaaaGreatDoor
/-
  What ClassOk says, as a truth value; and its small parts, by the program and by its model.
-/
namespace Go.Proofs.YtpgmipbanpofaaaGreatDoor
open Go.RowKit

def eqK (x y : Kc) : Bool := (x.k == y.k) && (x.n == y.n) && (x.a.toList == y.a.toList) && (x.b.toList == y.b.toList)
def noTwo {α : Type} [Inhabited α] (e : α → α → Bool) (xs : List α) : Bool := (List.range xs.length).all fun j => (List.range j).all fun k => !e (xs.getD k default) (xs.getD j default)
def tyI : ByteArray := ⟨#[73]⟩
def clsB (s : ByteArray) : Bool := nameB s && !(s.toList == [73])
def kcB (x : Kc) : Bool := kOk x.k x.n x.a x.b
def fdB (x : Fd) : Bool := nameB x.n && nameB x.t
def meB (x : Me) : Bool := nameB x.n && (decide (x.ps.length ≤ 3) && x.ps.all nameB) && nameB x.r && inB x.l ((x.ps.length : Int) + 1) 6 && inB (x.c.length : Int) 1 90
def sameF (x y : Fd) : Bool := x.n.toList == y.n.toList
def sameN (x y : Me) : Bool := x.n.toList == y.n.toList
def poolB (p : List Kc) : Bool := decide (p.length ≤ 24) && p.all kcB && noTwo eqK p
def fldsB (f : List Fd) : Bool := decide (f.length ≤ 8) && f.all fdB && noTwo sameF f
def metsB (m : List Me) : Bool := decide (m.length ≤ 6) && m.all meB && noTwo sameN m
def namB (x : Cl) : Bool := clsB x.n && (x.s.toList.isEmpty || clsB x.s)
def clB (x : Cl) : Bool := namB x && poolB x.p && fldsB x.f && metsB x.m

/-- The first j are right, no two of them alike. -/
def RightJ {α : Type} [Inhabited α] (f : α → Bool) (e : α → α → Bool) (xs : List α) (j : Nat) : Prop := ∀ i, i < j → f (xs.getD i default) = true ∧ ∀ k, k < i → e (xs.getD k default) (xs.getD i default) = false
theorem RightJ.zero {α : Type} [Inhabited α] (f : α → Bool) (e : α → α → Bool) (xs : List α) : RightJ f e xs 0 := fun i hi => by omega
theorem RightJ.step {α : Type} [Inhabited α] {f : α → Bool} {e : α → α → Bool} {xs : List α} {j : Nat} (h : RightJ f e xs j) (h1 : f (xs.getD j default) = true) (h2 : ∀ k, k < j → e (xs.getD k default) (xs.getD j default) = false) : RightJ f e xs (j + 1) := fun i hi => by
  rcases Nat.lt_succ_iff_lt_or_eq.1 hi with h' | rfl
  · exact h i h'
  · exact ⟨h1, h2⟩
theorem all_no {α : Type} [Inhabited α] {f : α → Bool} {xs : List α} {j : Nat} (hj : j < xs.length) (h : f (xs.getD j default) = false) : xs.all f = false := by
  rw [List.all_eq_false]
  refine ⟨xs.getD j default, ?_, by rw [h]; decide⟩
  have : xs.getD j default = xs[j] := by simp [hj]
  rw [this]; exact List.getElem_mem _
theorem all_yes {α : Type} [Inhabited α] {f : α → Bool} {xs : List α} (h : ∀ j, j < xs.length → f (xs.getD j default) = true) : xs.all f = true := by
  rw [List.all_eq_true]
  intro x hx
  obtain ⟨j, hj, rfl⟩ := List.mem_iff_getElem.1 hx
  have := h j hj
  simpa [hj] using this
theorem noTwo_no {α : Type} [Inhabited α] {e : α → α → Bool} {xs : List α} {j k : Nat} (hj : j < xs.length) (hk : k < j) (h : e (xs.getD k default) (xs.getD j default) = true) : noTwo e xs = false := by
  unfold noTwo
  rw [List.all_eq_false]
  refine ⟨j, by simpa using hj, ?_⟩
  rw [Bool.not_eq_true, List.all_eq_false]
  exact ⟨k, by simpa using hk, by rw [h]; decide⟩
theorem noTwo_yes {α : Type} [Inhabited α] {e : α → α → Bool} {xs : List α} (h : ∀ j, j < xs.length → ∀ k, k < j → e (xs.getD k default) (xs.getD j default) = false) : noTwo e xs = true := by
  unfold noTwo
  rw [List.all_eq_true]
  intro j hj
  rw [List.all_eq_true]
  intro k hk
  rw [h j (by simpa using hj) k (by simpa using hk)]
  rfl
theorem RightJ.all {α : Type} [Inhabited α] {f : α → Bool} {e : α → α → Bool} {xs : List α} (h : RightJ f e xs xs.length) : xs.all f = true ∧ noTwo e xs = true :=
  ⟨all_yes (fun j hj => (h j hj).1), noTwo_yes (fun j hj => (h j hj).2)⟩
theorem tyI_name : nameB tyI = true := by decide +kernel
theorem tyI_list : tyI.toList = [73] := by rw [ByteArray.toList_eq]; rfl
theorem typeB (s : ByteArray) : ((s.toList == [73]) || clsB s) = nameB s := by
  unfold clsB
  cases h : (s.toList == [73]) with
  | true =>
    have h3 : s.toList = tyI.toList := by rw [tyI_list]; simpa using h
    have e : s = tyI := by
      have h2 : s.data = tyI.data := by
        rw [ByteArray.toList_eq, ByteArray.toList_eq] at h3
        exact Array.ext' h3
      cases s; cases h2; rfl
    subst e
    rw [tyI_name]; rfl
  | false => simp

set_option maxRecDepth 100000 in
set_option maxHeartbeats 1000000 in
theorem clsSpec (s : ByteArray) (w : World) (hs : s.size ≤ maxLen) :
    Calls Tryz.prog 57 #[.string s] w fun e w' => e = .returned (.bool (clsB s)) ∧ w' = w := by
  have HF : Hid (clsB s = (nameB s && !(s.toList == [73]))) := hide rfl
  go_enter Tryz.func57, Tryz.ntmps57
  go_wp2_with fail
  refine (nameSpec _ _ hs).mono ?_
  rintro e w1 ⟨rfl, rfl⟩
  cases c : nameB s with
  | false =>
    go_wp2
    go_ret
    exact ⟨by rw [HF.out, c]; rfl, rfl⟩
  | true =>
    go_wp2
    go_ret
    exact ⟨by rw [HF.out, c]; rfl, rfl⟩
set_option maxRecDepth 100000 in
set_option maxHeartbeats 1000000 in
theorem clsImpl (s : ByteArray) (w : World) (hs : s.size ≤ maxLen) :
    Calls Tryz.prog 69 #[.string s] w fun e w' => e = .returned (.bool (clsB s)) ∧ w' = w := by
  have HF : Hid (clsB s = (nameB s && !(s.toList == [73]))) := hide rfl
  go_enter Tryz.func69, Tryz.ntmps69
  go_wp2_with fail
  refine (nameImpl _ _ hs).mono ?_
  rintro e w1 ⟨rfl, rfl⟩
  cases c : nameB s with
  | false =>
    go_wp2
    go_ret
    exact ⟨by rw [HF.out, c]; rfl, rfl⟩
  | true =>
    go_wp2
    go_ret
    exact ⟨by rw [HF.out, c]; rfl, rfl⟩
set_option maxRecDepth 100000 in
set_option maxHeartbeats 1000000 in
theorem typImpl (s : ByteArray) (w : World) (hs : s.size ≤ maxLen) :
    Calls Tryz.prog 93 #[.string s] w fun e w' => e = .returned (.bool (nameB s)) ∧ w' = w := by
  have HF : Hid (nameB s = ((s.toList == [73]) || clsB s)) := hide (typeB s).symm
  by_cases c0 : s.toList = [73]
  · have c : (s.toList == [73]) = true := by rw [c0]; rfl
    have HC := hide c
    go_enter Tryz.func93, Tryz.ntmps93
    go_wp2_with fail
    go_ret
    exact ⟨by rw [HF.out, HC.out]; rfl, rfl⟩
  · have c : (s.toList == [73]) = false := by simpa using c0
    have HC := hide c
    go_enter Tryz.func93, Tryz.ntmps93
    go_wp2_with fail
    refine (clsImpl _ _ hs).mono ?_
    rintro e w1 ⟨rfl, rfl⟩
    go_wp2
    go_ret
    exact ⟨by rw [HF.out, HC.out]; rfl, rfl⟩
end Go.Proofs.YtpgmipbanpofaaaGreatDoor
/-
  Sums over rows, and what is left of a sum.
-/
namespace Go.Proofs.YtpgmipbanpofaaaGreatDoor

/-- What is left behind t of what was left. -/
def szR (left : Int) (t : Nat) : Int := if left < t then -1 else left - t
theorem szR_neg {left : Int} {t : Nat} (h : left < t) : szR left t = -1 := by unfold szR; rw [if_pos h]
theorem szR_pos {left : Int} {t : Nat} (h : ¬ left < t) : szR left t = left - t := by unfold szR; rw [if_neg h]
def tot {α : Type} (g : α → Nat) (xs : List α) : Nat := (xs.map g).sum
theorem tot_step {α : Type} [Inhabited α] (g : α → Nat) (xs : List α) (j : Nat) (h : j < xs.length) : tot g (xs.take (j + 1)) = tot g (xs.take j) + g (xs.getD j default) := by
  unfold tot
  rw [List.take_succ_eq_append_getElem h, List.map_append, List.sum_append, List.map_cons, List.map_nil, List.sum_cons, List.sum_nil]
  have : xs.getD j default = xs[j] := by simp [h]
  rw [this]; omega
theorem tot_le {α : Type} (g : α → Nat) (xs : List α) (j : Nat) : tot g (xs.take j) ≤ tot g xs := by
  unfold tot
  conv => rhs; rw [← List.take_append_drop j xs]
  rw [List.map_append, List.sum_append]
  omega
theorem tot_mem {α : Type} (g : α → Nat) {xs : List α} {x : α} (h : x ∈ xs) : g x ≤ tot g xs := by
  unfold tot
  induction xs with
  | nil => simp at h
  | cons y ys ih =>
    rcases List.mem_cons.1 h with rfl | h
    · simp
    · have := ih h; simp; omega
theorem getD_mem {α : Type} [Inhabited α] {Q : α → Prop} {xs : List α} (h : ∀ x ∈ xs, Q x) (j : Nat) (hj : j < xs.length) : Q (xs.getD j default) := by
  have : xs.getD j default = xs[j] := by simp [hj]
  rw [this]; exact h _ (List.getElem_mem _)
end Go.Proofs.YtpgmipbanpofaaaGreatDoor
