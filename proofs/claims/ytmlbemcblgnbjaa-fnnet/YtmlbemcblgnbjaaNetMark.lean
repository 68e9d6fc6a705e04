/-
  What markNet, markPacket, heldNet and heldPacket do with packets of one's own.
-/
import Derived.Test.YtmlbemcblgnbjaaNetEq
namespace Go.Proofs.Ytmlbemcblgnbjaa
open Go.RowKit

theorem getD_mem {α : Type} [Inhabited α] (l : List α) (j : Nat) (h : j < l.length) : l.getD j default ∈ l := by
  rw [List.getD_eq_getElem?_getD, List.getElem?_eq_getElem h]
  exact List.getElem_mem _

/-- A packet marked from k on. -/
def markP (k : Nat) (p : Pk) : Pk := ⟨(k : Int), ((k + 1 : Nat) : Int), marks (k + 2) p.b.length, ((k + 2 + p.b.length : Nat) : Int) % 3 == 0⟩
/-- Packets marked from k on. -/
def marksP (k : Nat) (ps : List Pk) : List Pk := (List.range ps.length).map fun i => markP (k + 3 * i + upto ps i) (ps.getD i default)
/-- Where the marks end. -/
def endP (k : Nat) (ps : List Pk) : Nat := k + 3 * ps.length + upto ps ps.length

theorem marksP_len (k : Nat) (ps : List Pk) : (marksP k ps).length = ps.length := by simp [marksP]
theorem marksP_get (k : Nat) (ps : List Pk) (j : Nat) (h : j < ps.length) : (marksP k ps).getD j default = markP (k + 3 * j + upto ps j) (ps.getD j default) := by simp [marksP, h]
theorem byt_marks (k n : Nat) : Byt (marks k n) := by
  intro z hz
  obtain ⟨i, _, rfl⟩ := List.mem_map.1 hz
  omega
theorem marksP_good {k : Nat} {ps : List Pk} (h : Good ps) : Good (marksP k ps) := by
  intro p hp
  obtain ⟨i, hi, rfl⟩ := List.mem_map.1 hp
  have hi' : i < ps.length := List.mem_range.1 hi
  refine ⟨?_, byt_marks _ _⟩
  have : (markP (k + 3 * i + upto ps i) (ps.getD i default)).b.length = (ps.getD i default).b.length := by simp [markP, marks_len]
  rw [this]
  exact (h _ (by have : ps.getD i default = ps[i] := by simp [hi']
                 rw [this]; exact List.getElem_mem _)).1
theorem upto_le (ps : List Pk) : ∀ j, j ≤ ps.length → upto ps j ≤ tot ps
  | 0, _ => by simp [upto]
  | j + 1, h => by
    have h1 : upto ps (j + 1) ≤ upto ps ps.length := by
      unfold upto
      rw [List.take_length]
      have e := congrArg (List.foldr (fun (p : Pk) n => p.b.length + n) 0) (List.take_append_drop (j + 1) ps)
      rw [List.foldr_append] at e
      have e2 := fold_add (List.take (j + 1) ps) (List.foldr (fun p n => p.b.length + n) 0 (List.drop (j + 1) ps))
      omega
    have := upto_all ps
    omega

def mk1 (k : Nat) (xs : List (Pk × Value)) (i : Nat) : Pk × Value := (markP (k + 3 * i + upto (xs.map Prod.fst) i) (xs.getD i default).1, (xs.getD i default).2)
def mixX (k : Nat) (xs : List (Pk × Value)) (j : Nat) : List (Pk × Value) := (List.range xs.length).map fun i => if i < j then mk1 k xs i else xs.getD i default
theorem mixX_len (k : Nat) (xs : List (Pk × Value)) (j : Nat) : (mixX k xs j).length = xs.length := by simp [mixX]
theorem mixX_zero (k : Nat) (xs : List (Pk × Value)) : mixX k xs 0 = xs := by
  refine List.ext_getElem (mixX_len _ _ _) fun i h1 h2 => ?_
  simp [mixX, h2]
theorem mixX_step (k : Nat) (xs : List (Pk × Value)) (j : Nat) : (mixX k xs j).set j (mk1 k xs j) = mixX k xs (j + 1) := by
  refine List.ext_getElem (by simp [mixX]) fun i h1 h2 => ?_
  rw [List.getElem_set]
  have h3 : i < xs.length := by simpa [mixX] using h2
  simp only [mixX, List.getElem_map, List.getElem_range]
  by_cases e : j = i
  · subst e; simp
  · rw [if_neg e]
    by_cases hlt : i < j
    · rw [if_pos hlt, if_pos (by omega)]
    · rw [if_neg hlt, if_neg (by omega)]
theorem mixX_get (k : Nat) (xs : List (Pk × Value)) (j : Nat) (hj : j < xs.length) : (mixX k xs j)[j]? = some (xs.getD j default) := by
  rw [List.getElem?_eq_getElem (by rw [mixX_len]; exact hj)]
  simp [mixX]
theorem mixX_fst (k : Nat) (xs : List (Pk × Value)) : (mixX k xs xs.length).map Prod.fst = marksP k (xs.map Prod.fst) := by
  refine List.ext_getElem (by simp [mixX, marksP]) fun i h1 h2 => ?_
  have h3 : i < xs.length := by simpa [mixX] using h1
  simp [mixX, marksP, mk1, h3]

/-- A cell of packet j of a row of one's own stored: its place and its bytes stay. -/
theorem OwnX.cell {w : World} {b hi g n c : Nat} {xs : List (Pk × Value)} (h : OwnX w b hi (.slice (some ⟨g, 0, none⟩) n c) xs) (hn : xs.length = n) (j r : Nat) (hr : r < 4) (hj : j < n) (val : Value) (x y : Pk × Value) (hx : xs[j]? = some x)
    (hy : (pkC x).set r val = pkC y) (h2 : y.2 = x.2) (hb : y.1.b = x.1.b) :
    (∃ z, w.cell? ⟨g, j * 4 + r, none⟩ = some z) ∧ w.frozen? ⟨g, j * 4 + r, none⟩ = false ∧ OwnX (w.setCell ⟨g, j * 4 + r, none⟩ val) b hi (.slice (some ⟨g, 0, none⟩) n c) (xs.set j y) ∧ w.grownBy (w.setCell ⟨g, j * 4 + r, none⟩ val) (some g) := by
  subst hn
  obtain ⟨h0, ho, hs, hv, hxx⟩ := h
  have hl : (xs.flatMap pkC).length = xs.length * 4 := flat_len pkC 4 pkC_len xs
  have h1 := World.ownsRow.stored h0 (j * 4 + r) val
  have hm : (xs.set j y).map Prod.snd = xs.map Prod.snd := by
    rw [List.map_set, h2]
    refine List.ext_getElem (by simp) fun i h1 h3 => ?_
    rw [List.getElem_set]
    split
    · rename_i e; subst e
      have := List.getElem?_eq_some_iff.1 hx
      obtain ⟨hi', rfl⟩ := this
      simp
    · rfl
  refine ⟨?_, World.ownsRow.frozenAt h0 _, ?_, h1.2⟩
  · rw [World.ownsRow.cellAt h0 _ (by omega)]; exact ⟨_, List.getElem?_eq_getElem (by omega)⟩
  · have hfin := h1.1
    rw [flat_set pkC 4 pkC_len xs j r val y hr hj (fun z hz => by rw [hx] at hz; cases hz; exact hy)] at hfin
    refine OwnX.turn (w := w) (by rw [List.length_set]; exact hfin) h1.2 (fun z hz => ?_) (by rw [hm]; exact hs) hv (by rw [hm]; exact hxx)
    rcases List.mem_or_eq_of_mem_set hz with hz | rfl
    · exact ho z hz
    · rw [h2, hb]
      exact ho x (List.mem_of_getElem? hx)

/-- The bytes of packet j turned, in their place. -/
theorem OwnX.bytes {w w' : World} {b hi : Nat} {v : Value} {xs : List (Pk × Value)} (h : OwnX w b hi v xs) (j : Nat) (x : Pk × Value) (hx : xs[j]? = some x) (zs : List Int) (ho : Own w' b x.2 zs) (hg : w.grownBy w' x.2.ownBlock) :
    OwnX w' b hi v (xs.set j (⟨x.1.f, x.1.t, zs, x.1.s⟩, x.2)) := by
  obtain ⟨h0, h1, hs, hv, hxx⟩ := h
  have hj := (List.getElem?_eq_some_iff.1 hx).1
  have hxe := (List.getElem?_eq_some_iff.1 hx).2
  have hmem : x ∈ xs := List.mem_of_getElem? hx
  have hm : (xs.set j (⟨x.1.f, x.1.t, zs, x.1.s⟩, x.2)).map Prod.snd = xs.map Prod.snd := by
    rw [List.map_set]
    refine List.ext_getElem (by simp) fun i h1 h3 => ?_
    rw [List.getElem_set]
    split
    · rename_i e; subst e; simp [hxe]
    · rfl
  have hf : (xs.set j (⟨x.1.f, x.1.t, zs, x.1.s⟩, x.2)).flatMap pkC = xs.flatMap pkC := by
    have hmm : (xs.set j (⟨x.1.f, x.1.t, zs, x.1.s⟩, x.2)).map pkC = xs.map pkC := by
      rw [List.map_set]
      refine List.ext_getElem (by simp) fun i h1 h3 => ?_
      rw [List.getElem_set]
      split
      · rename_i e; subst e; rw [List.getElem_map, hxe]; rfl
      · rfl
    rw [List.flatMap_def, List.flatMap_def, hmm]
  refine ⟨?_, fun y hy => ?_, by rw [hm]; exact hs, hv, by rw [hm]; exact hxx⟩
  · rw [List.length_set, hf]
    refine World.ownsRow.kept h0 hg ?_
    cases hq : v.ownBlock with
    | none => exact .inl rfl
    | some q => exact .inr (fun e => hs.1 x.2 (List.mem_map_of_mem hmem) q e.symm hq)
  · obtain ⟨i, hi2, rfl⟩ := List.mem_iff_getElem.1 hy
    rw [List.length_set] at hi2
    rw [List.getElem_set]
    split
    · exact ho
    · rename_i hne
      refine ownKept (h1 _ (List.getElem_mem hi2)) hg (fun q hq e => ?_)
      have hp := List.pairwise_iff_getElem.1 hs.2
      rcases Nat.lt_or_gt_of_ne hne with hlt | hlt
      · have := hp j i (by simpa using hj) (by simpa using hi2) hlt q (by rw [List.getElem_map, hxe]; exact e)
        rw [List.getElem_map] at this
        exact this hq
      · have := hp i j (by simpa using hi2) (by simpa using hj) hlt q (by rw [List.getElem_map]; exact hq)
        rw [List.getElem_map, hxe] at this
        exact this e

end Go.Proofs.Ytmlbemcblgnbjaa
