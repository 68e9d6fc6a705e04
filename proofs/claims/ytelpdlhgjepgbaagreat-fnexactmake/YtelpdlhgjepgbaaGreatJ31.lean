/-
  Joined: MemW, MemG.
-/
import Derived.Test.YtelpdlhgjepgbaaGreatJ28
import Derived.Test.YtelpdlhgjepgbaaGreatJ30
import Derived.Test.YtelpdlhgjepgbaaGreatJ24
/-
  One memory in the model: what is written.
-/
namespace Go.Proofs.YtelpdlhgjepgbaaGreat
open Go.RowKit

def writeX (m : Mm) (q at' : Int) (v : Vl) : Mm := if hasF m q at' = true then ⟨m.o.set (atM m q).toNat ⟨(m.o.getD (atM m q).toNat default).i, (m.o.getD (atM m q).toNat default).c, (fieldsM m q).set at'.toNat v⟩, m.l⟩ else m
def mmP2 (w w' : World) (x : Mm) (c : Bool) (e : Ending) : Prop := ∃ u1 u2, e = .returned (.tuple #[mmV x u1 u2, .bool c]) ∧ OwnDL w' w.heap.size w'.heap.size (mmD x) [u1, u2] ∧ Below w.heap.size w w'
theorem split_at' {xs : List Ob} {j : Nat} (h : j < xs.length) : ∃ ys zs, xs = ys ++ xs.getD j default :: zs ∧ ys.length = j ∧ ∀ z, xs.set j z = ys ++ z :: zs := by
  refine ⟨xs.take j, xs.drop (j + 1), ?_, by rw [List.length_take]; omega, fun z => ?_⟩
  · rw [List.getD_eq_getElem?_getD, List.getElem?_eq_getElem h, Option.getD_some, ← List.drop_eq_getElem_cons h, List.take_append_drop]
  · rw [List.set_eq_take_append_cons_drop, if_pos h]
end Go.Proofs.YtelpdlhgjepgbaaGreat
/-
  What is fresh, found and written is good.
-/
namespace Go.Proofs.YtelpdlhgjepgbaaGreat
open Go.RowKit

theorem freshX_ok {ks : List Kd} {c : Int} (hg : kinsG ks) : vlsG (freshX ks c) := by
  unfold freshX
  split
  · rename_i h
    have hin := inB_yes h
    have hk := getD_mem hg.2 c.toNat (by omega)
    refine ⟨by rw [List.length_map]; exact hk.f.1, fun y hy => ?_⟩
    obtain ⟨d, _, rfl⟩ := List.mem_map.1 hy
    exact ⟨by unfold frv; dsimp only; omega⟩
  · exact ⟨Nat.zero_le _, fun y hy => by simp at hy⟩
theorem at_lt {m : Mm} {q : Int} (h : 0 ≤ atM m q) : (atM m q).toNat < m.o.length := by
  have hat := obAt_lt (q := q) (xs := m.o) (n := 0)
  replace hat : atM m q = -1 ∨ (((0 : Nat) : Int) ≤ atM m q ∧ atM m q < ((0 + m.o.length : Nat) : Int)) := hat
  omega
theorem findX_ok {m : Mm} {q : Int} (hg : obsG m.o) : ObG (findX m q) := by
  unfold findX
  split
  · rename_i h
    exact getD_mem hg.2 _ (at_lt h)
  · exact ⟨by decide, by decide, ⟨Nat.zero_le _, fun y hy => by simp at hy⟩⟩
theorem findX_w (m : Mm) (q : Int) : obW (findX m q) ≤ mmW m := by
  unfold findX
  split
  · rename_i h
    have hl := at_lt h
    have := tot_mem obW (xs := m.o) (x := m.o.getD (atM m q).toNat default) (by rw [List.getD_eq_getElem?_getD, List.getElem?_eq_getElem hl]; exact List.getElem_mem hl)
    unfold mmW obsW
    omega
  · exact Nat.zero_le _
theorem hasF_at {m : Mm} {q at' : Int} (h : hasF m q at' = true) : 0 ≤ atM m q := by
  unfold hasF at h
  rw [Bool.and_eq_true] at h
  exact of_decide_eq_true h.1
theorem tot_set {α : Type} [Inhabited α] (f : α → Nat) : ∀ (xs : List α) (j : Nat) (y : α), j < xs.length → f y = f (xs.getD j default) → tot f (xs.set j y) = tot f xs
  | [], j, _, h, _ => by simp at h
  | x :: xs, 0, y, _, h => by
    rw [List.getD_cons_zero] at h
    simp [tot, h]
  | x :: xs, j + 1, y, hl, h => by
    rw [List.getD_cons_succ] at h
    have ih := tot_set f xs j y (by simpa using hl) h
    simp only [tot, List.set_cons_succ, List.map_cons, List.sum_cons] at ih ⊢
    omega
theorem set_all {α : Type} {P : α → Prop} {xs : List α} {j : Nat} {y : α} (h : ∀ x ∈ xs, P x) (hy : P y) : ∀ x ∈ xs.set j y, P x := fun x hx => by
  rcases List.mem_or_eq_of_mem_set hx with h1 | h1
  · exact h x h1
  · rw [h1]; exact hy
theorem writeX_ok {m : Mm} {q at' : Int} {v : Vl} (hg : MmG m) (hv : VlG v) : MmG (writeX m q at' v) := by
  unfold writeX
  split
  · rename_i h
    have hl := at_lt (hasF_at h)
    have hk := getD_mem hg.o.2 _ hl
    refine ⟨⟨by rw [List.length_set]; exact hg.o.1, set_all hg.o.2 ⟨hk.i, hk.c, ⟨?_, set_all hk.f.2 hv⟩⟩⟩, hg.l⟩
    show ((fieldsM m q).set at'.toNat v).length ≤ 1048576
    rw [List.length_set]
    exact hk.f.1
  · exact hg
theorem writeX_w (m : Mm) (q at' : Int) (v : Vl) : mmW (writeX m q at' v) = mmW m := by
  unfold writeX
  split
  · rename_i h
    have hl := at_lt (hasF_at h)
    unfold mmW obsW
    dsimp only
    rw [List.length_set, tot_set obW m.o _ _ hl]
    unfold obW vlsW fieldsM
    dsimp only
    rw [List.length_set]
  · rfl
end Go.Proofs.YtelpdlhgjepgbaaGreat
