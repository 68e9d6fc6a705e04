/-
  Joined: ObjW, StepM.
-/
import Derived.Test.YtelpdlhgjepgbaaGreatJ29
import Derived.Test.YtelpdlhgjepgbaaGreatJ18
import Derived.Test.YtelpdlhgjepgbaaGreatJ22
import Derived.Deep.MidRow
/-
  A field of one of several objects of one's own is written.
-/
namespace Go.Proofs.YtelpdlhgjepgbaaGreat
open Go.RowKit

theorem vlset : ∀ (xs : List Vl) (t : Nat) (v : Vl), t < xs.length → (((xs.flatMap vlD).set (t * 2) (.val (.bool v.r))).set (t * 2 + 1) (.val (.int .i64 v.n))) = (xs.set t v).flatMap vlD
  | [], t, _, h => by simp at h
  | x :: xs, 0, v, _ => by simp [vlD]
  | x :: xs, t + 1, v, h => by
    have ih := vlset xs t v (by simpa using h)
    have e : (t + 1) * 2 = t * 2 + 1 + 1 := by omega
    rw [List.set_cons_succ, List.flatMap_cons, List.flatMap_cons, ← ih, e]
    show (([.val (.bool x.r), .val (.int .i64 x.n)] ++ xs.flatMap vlD : List Dt).set _ _).set _ _ = _
    rfl
theorem vlget0 : ∀ (xs : List Vl) (t : Nat), t < xs.length → (xs.flatMap vlD)[t * 2]? = some (.val (.bool (xs.getD t default).r)) ∧ (xs.flatMap vlD)[t * 2 + 1]? = some (.val (.int .i64 (xs.getD t default).n))
  | [], t, h => by simp at h
  | x :: xs, 0, _ => ⟨rfl, rfl⟩
  | x :: xs, t + 1, h => by
    have ih := vlget0 xs t (by simpa using h)
    have e : (t + 1) * 2 = t * 2 + 1 + 1 := by omega
    rw [e, List.flatMap_cons, List.getD_cons_succ]
    exact ih
def objC (us : List Value) (n : Nat) (ys : List Ob) (y : Ob) : List Dt := .row 54 3 n (us.map .val) :: (ys.flatMap obD ++ [.val (.int .i64 y.i), .val (.int .i64 y.c)])
theorem objC_len {us us1 : List Value} {n : Nat} {ys : List Ob} {y : Ob} {u : Value} (hl : us1.length = ys.length * 3 + 2) : (u :: us1).length = (objC us n ys y).length := by
  have hf := flatD_len (f := obD) (k := 3) (fun _ => rfl) ys
  unfold objC
  simp [hf, hl]
theorem obs_mid (ys zs : List Ob) (y : Ob) : obs (ys ++ y :: zs) = .row 54 3 (ys ++ y :: zs).length (ys.flatMap obD ++ [.val (.int .i64 y.i), .val (.int .i64 y.c)] ++ vls y.f :: zs.flatMap obD) := by
  unfold obs
  rw [List.flatMap_append, List.flatMap_cons]
  simp [obD]
/-- Where the field lies, and the world behind its writing. -/
theorem writeOwn {w : World} {b hi : Nat} {ys zs : List Ob} {y : Ob} {c2 : List Dt} {u : Value} {v2 : List Value} (h : OwnDL w b hi (obs (ys ++ y :: zs) :: c2) (u :: v2)) {t : Nat} (ht : t < y.f.length) (v : Vl) :
    ∃ g c gb fc, u = .slice (some ⟨g, 0, none⟩) (ys ++ y :: zs).length c ∧ w.cell? ⟨g, ys.length * 3 + 2, none⟩ = some (.slice (some ⟨gb, 0, none⟩) y.f.length fc) ∧ (w.cell? ⟨gb, t * 2, none⟩).isSome = true ∧ w.frozen? ⟨gb, t * 2, none⟩ = false ∧ (w.cell? ⟨gb, t * 2 + 1, none⟩).isSome = true ∧ w.frozen? ⟨gb, t * 2 + 1, none⟩ = false ∧ b ≤ gb ∧ gb < hi ∧ g ≠ gb ∧
      OwnDL ((w.setCell ⟨gb, t * 2, none⟩ (.bool v.r)).setCell ⟨gb, t * 2 + 1, none⟩ (.int .i64 v.n)) b hi (obs (ys ++ ⟨y.i, y.c, y.f.set t v⟩ :: zs) :: c2) (u :: v2) := by
  have hsh : ∃ g c, u = .slice (some ⟨g, 0, none⟩) (ys ++ y :: zs).length c := by
    have h0 := OwnDL.mid (c1 := []) (v1 := []) h rfl
    unfold obs at h0
    have hpos : ∃ k, (ys ++ y :: zs).length = k + 1 := ⟨ys.length + zs.length, by simp; omega⟩
    obtain ⟨k, hk⟩ := hpos
    rw [hk] at h0 ⊢
    obtain ⟨F, h1, _, _⟩ := h0
    unfold Owns at h1
    obtain ⟨_, _, hr, _⟩ := h1
    exact ownsRow_shape hr
  obtain ⟨g, c, rfl⟩ := hsh
  rw [obs_mid] at h
  obtain ⟨us, hl1, hl2, ho⟩ := h.flat
  have hf := flatD_len (f := obD) (k := 3) (fun _ => rfl) ys
  have hfz := flatD_len (f := obD) (k := 3) (fun _ => rfl) zs
  have hlen : us.length = ys.length * 3 + 3 + zs.length * 3 := by rw [hl1]; simp [hf, hfz]; omega
  obtain ⟨us1, st, us2, rfl, hl4⟩ : ∃ us1 st us2, us = us1 ++ st :: us2 ∧ us1.length = ys.length * 3 + 2 := by
    refine ⟨us.take (ys.length * 3 + 2), us[ys.length * 3 + 2]'(by omega), us.drop (ys.length * 3 + 3), ?_, by rw [List.length_take]; omega⟩
    rw [← List.drop_eq_getElem_cons (by omega), List.take_append_drop]
  have ho' : OwnDL w b hi (objC (us1 ++ st :: us2) (ys ++ y :: zs).length ys y ++ vls y.f :: (zs.flatMap obD ++ c2)) ((.slice (some ⟨g, 0, none⟩) (ys ++ y :: zs).length c :: us1) ++ st :: (us2 ++ v2)) := by
    unfold objC
    simpa using ho
  have hst : ∃ gb fc, st = .slice (some ⟨gb, 0, none⟩) y.f.length fc := by
    have h0 := OwnDL.mid ho' (objC_len hl4)
    unfold vls at h0
    obtain ⟨k, hk⟩ : ∃ k, y.f.length = k + 1 := ⟨y.f.length - 1, by omega⟩
    rw [hk] at h0 ⊢
    obtain ⟨F, h1, _, _⟩ := h0
    unfold Owns at h1
    obtain ⟨_, _, hr, _⟩ := h1
    exact ownsRow_shape hr
  obtain ⟨gb, fc, rfl⟩ := hst
  have hcell : w.cell? ⟨g, ys.length * 3 + 2, none⟩ = some (.slice (some ⟨gb, 0, none⟩) y.f.length fc) := by
    have h0 : OwnDL w b hi ([] ++ .row 54 3 (ys ++ y :: zs).length ((us1 ++ .slice (some ⟨gb, 0, none⟩) y.f.length fc :: us2).map .val) :: (ys.flatMap obD ++ [.val (.int .i64 y.i), .val (.int .i64 y.c)] ++ vls y.f :: zs.flatMap obD ++ c2)) ([] ++ .slice (some ⟨g, 0, none⟩) (ys ++ y :: zs).length c :: (us1 ++ .slice (some ⟨gb, 0, none⟩) y.f.length fc :: us2 ++ v2)) := ho
    exact (OwnDL.cell (i := ys.length * 3 + 2) (z := .slice (some ⟨gb, 0, none⟩) y.f.length fc) h0 rfl (by rw [List.map_append, List.getElem?_append_right (by simp [hl4])]; simp [hl4]) .nilFunc).1
  have hg0 := vlget0 y.f t ht
  have hb := (OwnDL.mid ho' (objC_len hl4)).blk gb rfl
  obtain ⟨x1, x2, _, x4⟩ := OwnDL.cell (T := 85) (k := 2) (cs := y.f.flatMap vlD) ho' (objC_len hl4) hg0.1 (.bool v.r)
  obtain ⟨y1, y2, _, y4⟩ := OwnDL.cell x4 (objC_len hl4) (i := t * 2 + 1) (z := .int .i64 (y.f.getD t default).n) (by rw [List.getElem?_set_ne (by omega)]; exact hg0.2) (.int .i64 v.n)
  have z1 : w.cell? ⟨gb, t * 2 + 1, none⟩ = some (.int .i64 (y.f.getD t default).n) := (OwnDL.cell (T := 85) (k := 2) (cs := y.f.flatMap vlD) ho' (objC_len hl4) hg0.2 .nilFunc).1
  have z2 : w.frozen? ⟨gb, t * 2 + 1, none⟩ = false := (OwnDL.cell (T := 85) (k := 2) (cs := y.f.flatMap vlD) ho' (objC_len hl4) hg0.2 .nilFunc).2.1
  refine ⟨g, c, gb, fc, rfl, hcell, by rw [x1]; rfl, x2, by rw [z1]; rfl, z2, hb.1, hb.2, OwnDL.rowsNe (by unfold objC vls at ho'; exact ho') (by have := objC_len (us := us1 ++ .slice (some ⟨gb, 0, none⟩) y.f.length fc :: us2) (n := 0) (y := y) (u := .nilFunc) hl4; unfold objC at this; simpa using this) rfl rfl, ?_⟩
  rw [vlset y.f t v ht] at y4
  rw [obs_mid]
  have el : (ys ++ (⟨y.i, y.c, y.f.set t v⟩ : Ob) :: zs).length = (ys ++ y :: zs).length := by simp
  rw [el]
  refine OwnDL.unflat (us := us1 ++ .slice (some ⟨gb, 0, none⟩) y.f.length fc :: us2) ?_ (by simp [hf, hfz, hl4] at hlen ⊢; omega)
  unfold objC at y4
  have e2 : vls (y.f.set t v) = .row 85 2 y.f.length ((y.f.set t v).flatMap vlD) := by unfold vls; rw [List.length_set]
  show OwnDL _ _ _ (_ :: (ys.flatMap obD ++ [.val (.int .i64 y.i), .val (.int .i64 y.c)] ++ vls (y.f.set t v) :: zs.flatMap obD ++ c2)) _
  rw [e2]
  simpa using y4
end Go.Proofs.YtelpdlhgjepgbaaGreat
/-
  A store of several cells amid a row, in a region that draws its order.
-/
namespace Go.Proofs.YtelpdlhgjepgbaaGreat
open Go.RowKit

theorem step_storeMid {P : Program} {ops : Array Oper} {o : Oper} {a : Act} {w : World} {K : Act → World → Prop} {Q : Exit → Act → World → Prop} {E : Prop} (hgd : o.guard = none) (hd : o.dst = none) (ty : TypeId) (x y : Operand) (ho : o.op = .store ty x y)
    (g i : Nat) (cells : Array Value) (hx : a.eval x = .pointer (some ⟨g, i, none⟩)) (hy : a.eval y = .agg cells) (ht : w.there g i cells.size) (hi : (P.info? ty).map (·.size) = some cells.size) (h1 : cells.all (·.oneCell') = true)
    (h : K a (w.setCells g i cells.toList)) : if Region.wanted o (yielded ops a.tmps) = true then Oper.wp P o a w K Q else E := by
  have hw : Region.wanted o (yielded ops a.tmps) = true := by simp [Region.wanted, hgd]
  rw [if_pos hw]
  unfold Oper.wp execOp
  simp only [ho, hx, hy, Instr.storeAt, Instr.sureAddr, Sem.run_bind, Sem.run_pure, Result.andThen_ok, run_storeVar_mid w g i ty cells ht hi h1]
  show K (a.put o.dst undef) _
  rw [hd]
  exact h
end Go.Proofs.YtelpdlhgjepgbaaGreat
