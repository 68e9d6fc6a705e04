/-
  A thread's last frame: its stack among the rows of one's own.
-/
import Derived.Test.YtgkglebgpbehbaaDeepN
import Derived.Test.YtgkglebgpbehbaaThrM
namespace Go.Proofs.Ytgkglebgpbehbaa
open Go.RowKit

def frH (y : Fr) : List Dt := [.val (.int .i64 y.k), .val (.int .i64 y.m), .val (.int .i64 y.p), vls y.l]
def lastC (us : List Value) (ys : List Fr) (y : Fr) : List Dt := .row 54 5 (ys.length + 1) (us.map .val) :: (ys.flatMap frD ++ frH y)
theorem frs_last (ys : List Fr) (y : Fr) : frs (ys ++ [y]) = .row 54 5 (ys.length + 1) (ys.flatMap frD ++ frH y ++ [vls y.s]) := by
  unfold frs
  rw [List.length_append, List.flatMap_append]
  simp only [List.length_cons, List.length_nil, List.flatMap_cons, List.flatMap_nil, List.append_nil, List.append_assoc]
  rfl
theorem lastC_len {us us1 : List Value} {ys : List Fr} {y : Fr} {u : Value} (hl : us1.length = ys.length * 5 + 4) : (u :: us1).length = (lastC us ys y).length := by
  have hf := flatD_len (f := frD) (k := 5) (fun _ => rfl) ys
  unfold lastC frH
  simp [hf, hl]
theorem ownLast {w : World} {b hi : Nat} {ys : List Fr} {y : Fr} {u : Value} {c2 : List Dt} {v2 : List Value} (h : OwnDL w b hi (frs (ys ++ [y]) :: c2) (u :: v2)) :
    ∃ g c us1 a cc, u = .slice (some ⟨g, 0, none⟩) (ys.length + 1) c ∧ us1.length = ys.length * 5 + 4 ∧
      OwnDL w b hi (lastC (us1 ++ [.slice a y.s.length cc]) ys y ++ vls y.s :: c2) ((u :: us1) ++ .slice a y.s.length cc :: v2) := by
  have hsh : ∃ g c, u = .slice (some ⟨g, 0, none⟩) (ys.length + 1) c := by
    have h0 := OwnDL.mid (c1 := []) (v1 := []) h rfl
    rw [frs_last] at h0
    obtain ⟨F, h1, _, _⟩ := h0
    unfold Owns at h1
    obtain ⟨_, _, hr, _⟩ := h1
    exact ownsRow_shape hr
  rw [frs_last] at h
  obtain ⟨us, hl1, hl2, ho⟩ := h.flat
  have hl3 : us.length = ys.length * 5 + 5 := by rw [hl2]; omega
  obtain ⟨us1, st, rfl⟩ : ∃ us1 st, us = us1 ++ [st] := by
    cases e : us.reverse with
    | nil => have := congrArg List.length e; simp at this; rw [this] at hl3; simp at hl3
    | cons a rs => exact ⟨rs.reverse, a, by rw [← List.reverse_reverse us, e, List.reverse_cons]⟩
  have hl4 : us1.length = ys.length * 5 + 4 := by
    rw [List.length_append] at hl3
    simp only [List.length_cons, List.length_nil] at hl3
    omega
  have ho' : OwnDL w b hi (lastC (us1 ++ [st]) ys y ++ vls y.s :: c2) ((u :: us1) ++ st :: v2) := by
    unfold lastC
    simpa using ho
  obtain ⟨a, cc, rfl⟩ := (OwnDL.mid ho' (lastC_len hl4)).shape
  obtain ⟨g, c, rfl⟩ := hsh
  exact ⟨g, c, us1, a, cc, rfl, hl4, ho'⟩
theorem lastCell {w : World} {b hi g c : Nat} {ys : List Fr} {y : Fr} {us1 : List Value} {st st' : Value} {d : Dt} {c2 : List Dt} {v2 : List Value} (hl : us1.length = ys.length * 5 + 4)
    (h : OwnDL w b hi (lastC (us1 ++ [st]) ys y ++ d :: c2) ((.slice (some ⟨g, 0, none⟩) (ys.length + 1) c :: us1) ++ st' :: v2)) :
    w.cell? ⟨g, ys.length * 5 + 4, none⟩ = some st ∧ w.frozen? ⟨g, ys.length * 5 + 4, none⟩ = false ∧ b ≤ g ∧ g < hi := by
  have h0 : OwnDL w b hi ([] ++ .row 54 5 (ys.length + 1) ((us1 ++ [st]).map .val) :: (ys.flatMap frD ++ frH y ++ d :: c2)) ([] ++ .slice (some ⟨g, 0, none⟩) (ys.length + 1) c :: (us1 ++ st' :: v2)) := by
    unfold lastC at h
    simpa using h
  obtain ⟨e1, e2, e3, _⟩ := OwnDL.cell (i := ys.length * 5 + 4) (z := st) h0 rfl (by rw [List.map_append, List.getElem?_append_right (by simp [hl])]; simp [hl]) st'
  exact ⟨e1, e2, e3, ((OwnDL.mid h0 rfl).blk g rfl).2⟩
theorem lastOwn {w : World} {b hi g c : Nat} {ys : List Fr} {y : Fr} {us1 : List Value} {st st' : Value} {v : Vl} {c2 : List Dt} {v2 : List Value} (hl : us1.length = ys.length * 5 + 4)
    (h : OwnDL w b hi (lastC (us1 ++ [st]) ys y ++ .row 45 2 (y.s.length + 1) (y.s.flatMap vlD ++ vlD v) :: c2) ((.slice (some ⟨g, 0, none⟩) (ys.length + 1) c :: us1) ++ st' :: v2)) :
    OwnDL (w.setCell ⟨g, ys.length * 5 + 4, none⟩ st') b hi (frs (ys ++ [⟨y.k, y.m, y.p, y.l, y.s ++ [v]⟩]) :: c2) (.slice (some ⟨g, 0, none⟩) (ys.length + 1) c :: v2) := by
  have hf := flatD_len (f := frD) (k := 5) (fun _ => rfl) ys
  have h0 : OwnDL w b hi ([] ++ .row 54 5 (ys.length + 1) ((us1 ++ [st]).map .val) :: (ys.flatMap frD ++ frH y ++ [.row 45 2 (y.s.length + 1) (y.s.flatMap vlD ++ vlD v)] ++ c2)) ([] ++ .slice (some ⟨g, 0, none⟩) (ys.length + 1) c :: (us1 ++ [st'] ++ v2)) := by
    unfold lastC at h
    simpa using h
  obtain ⟨_, _, _, h1⟩ := OwnDL.cell (i := ys.length * 5 + 4) (z := st) h0 rfl (by rw [List.map_append, List.getElem?_append_right (by simp [hl])]; simp [hl]) st'
  rw [frs_last]
  refine OwnDL.unflat (us := us1 ++ [st']) ?_ (by unfold frH; simp [hf, hl])
  have e : ((us1 ++ [st]).map Dt.val).set (ys.length * 5 + 4) (.val st') = (us1 ++ [st']).map .val := by
    rw [List.map_append, List.map_append, List.set_append_right _ _ (by simp [hl])]
    simp [hl]
  rw [e] at h1
  have e2 : vls (y.s ++ [v]) = .row 45 2 (y.s.length + 1) (y.s.flatMap vlD ++ vlD v) := by
    unfold vls
    rw [List.length_append, List.flatMap_append]
    simp
  have e3 : frH ⟨y.k, y.m, y.p, y.l, y.s ++ [v]⟩ = frH y := rfl
  rw [e3]
  show OwnDL _ _ _ (_ :: (ys.flatMap frD ++ frH y ++ [vls (y.s ++ [v])] ++ c2)) _
  rw [e2]
  exact h1
theorem giveX_none (i s d : Int) (v : Vl) : giveX ⟨i, [], s, d⟩ v = ⟨i, [], s, d⟩ := rfl
theorem giveX_last (i s d : Int) (ys : List Fr) (y : Fr) (v : Vl) : giveX ⟨i, ys ++ [y], s, d⟩ v = ⟨i, ys ++ [puts y v], s, d⟩ := by
  unfold giveX
  have h : 0 < (ys ++ [y]).length := by simp
  dsimp only
  rw [if_pos h]
  have hl : (ys ++ [y]).length - 1 = ys.length := by simp
  rw [hl]
  have hg : (ys ++ [y]).getD ys.length default = y := by simp
  rw [hg, List.set_append_right _ _ (Nat.le_refl _)]
  simp
theorem puts_full {y : Fr} {v : Vl} (h : ¬ y.s.length < 6) : puts y v = y := by unfold puts; rw [if_neg h]
theorem puts_room {y : Fr} {v : Vl} (h : y.s.length < 6) : puts y v = ⟨y.k, y.m, y.p, y.l, y.s ++ [v]⟩ := by unfold puts; rw [if_pos h]
theorem last_of {α : Type} (xs : List α) : xs = [] ∨ ∃ ys y, xs = ys ++ [y] := by
  cases e : xs.reverse with
  | nil => exact .inl (by simpa using congrArg List.reverse e)
  | cons a rs => exact .inr ⟨rs.reverse, a, by rw [← List.reverse_reverse xs, e, List.reverse_cons]⟩
end Go.Proofs.Ytgkglebgpbehbaa
