/-
  Joined: NetEq, NetMark, SndMark.
-/
import Derived.Test.YtkfnpijljpbiaaaDoorJ11
import Derived.Test.YtkfnpijljpbiaaaDoorJ2
import Derived.Test.YtkfnpijljpbiaaaDoorJ12
/-
  Rows of packets and nets: copied into new memory, held against each other.
-/
namespace Go.Proofs.YtkfnpijljpbiaaaDoor
open Go.RowKit

theorem Tryd.infoPk : (Tryd.prog.info? 32).map (fun i => (i.zero, i.size, i.bytes)) = some (some (.agg #[.int .i64 0, .int .i64 0, .slice none 0 0, .bool false]), 4, 48) := by kernel_rfl

def zeroX : Pk × Value := (⟨0, 0, [], false⟩, .slice none 0 0)
theorem ownX_made {w : World} {b hi g n c : Nat} (h : w.ownsRow b 32 4 (.slice (some ⟨g, 0, none⟩) n c) n ((List.replicate n zeroX).flatMap pkC)) (hg : g < hi) : OwnX w b hi (.slice (some ⟨g, 0, none⟩) n c) (List.replicate n zeroX) := by
  refine ⟨by rw [List.length_replicate]; exact h, fun x hx => ?_, ⟨fun u hu q hq => ?_, ?_⟩, fun q hq => ?_, fun u hu q hq => ?_⟩
  · rw [(List.mem_replicate.1 hx).2]; exact World.ownsRow_nil _ _ _ _
  · rw [List.map_replicate] at hu
    rw [(List.mem_replicate.1 hu).2] at hq; cases hq
  · rw [List.map_replicate, List.pairwise_replicate]; right; intro q hq; cases hq
  · cases hq; exact hg
  · rw [List.map_replicate] at hu
    rw [(List.mem_replicate.1 hu).2] at hq; cases hq

end Go.Proofs.YtkfnpijljpbiaaaDoor
/-
  What markNet, markPacket, heldNet and heldPacket do with packets of one's own.
-/
namespace Go.Proofs.YtkfnpijljpbiaaaDoor
open Go.RowKit

theorem getD_mem {α : Type} [Inhabited α] (l : List α) (j : Nat) (h : j < l.length) : l.getD j default ∈ l := by
  rw [List.getD_eq_getElem?_getD, List.getElem?_eq_getElem h]
  exact List.getElem_mem _

/-- A packet marked from k on. -/
def markP (k : Nat) (p : Pk) : Pk := ⟨(k : Int), ((k + 1 : Nat) : Int), marks (k + 2) p.b.length, ((k + 2 + p.b.length : Nat) : Int) % 3 == 0⟩
/-- Packets marked from k on. -/
def marksP (k : Nat) (ps : List Pk) : List Pk := (List.range ps.length).map fun i => markP (k + 3 * i + upto ps i) (ps.getD i default)
/-- Where the marks end. -/
def endP (k : Nat) (ps : List Pk) : Nat := k + 3 * ps.length + upto ps ps.length

theorem marksP_len (k : Nat) (ps : List Pk) : (marksP k ps).length = ps.length := by simp [marksP]
theorem marksP_get (k : Nat) (ps : List Pk) (j : Nat) (h : j < ps.length) : (marksP k ps).getD j default = markP (k + 3 * j + upto ps j) (ps.getD j default) := by simp [marksP, h]
theorem byt_marks (k n : Nat) : Byt (marks k n) := by
  intro z hz
  obtain ⟨i, _, rfl⟩ := List.mem_map.1 hz
  omega
theorem marksP_good {k : Nat} {ps : List Pk} (h : Good ps) : Good (marksP k ps) := by
  intro p hp
  obtain ⟨i, hi, rfl⟩ := List.mem_map.1 hp
  have hi' : i < ps.length := List.mem_range.1 hi
  refine ⟨?_, byt_marks _ _⟩
  have : (markP (k + 3 * i + upto ps i) (ps.getD i default)).b.length = (ps.getD i default).b.length := by simp [markP, marks_len]
  rw [this]
  exact (h _ (by have : ps.getD i default = ps[i] := by simp [hi']
                 rw [this]; exact List.getElem_mem _)).1
theorem upto_le (ps : List Pk) : ∀ j, j ≤ ps.length → upto ps j ≤ tot ps
  | 0, _ => by simp [upto]
  | j + 1, h => by
    have h1 : upto ps (j + 1) ≤ upto ps ps.length := by
      unfold upto
      rw [List.take_length]
      have e := congrArg (List.foldr (fun (p : Pk) n => p.b.length + n) 0) (List.take_append_drop (j + 1) ps)
      rw [List.foldr_append] at e
      have e2 := fold_add (List.take (j + 1) ps) (List.foldr (fun p n => p.b.length + n) 0 (List.drop (j + 1) ps))
      omega
    have := upto_all ps
    omega

def mk1 (k : Nat) (xs : List (Pk × Value)) (i : Nat) : Pk × Value := (markP (k + 3 * i + upto (xs.map Prod.fst) i) (xs.getD i default).1, (xs.getD i default).2)
def mixX (k : Nat) (xs : List (Pk × Value)) (j : Nat) : List (Pk × Value) := (List.range xs.length).map fun i => if i < j then mk1 k xs i else xs.getD i default
theorem mixX_len (k : Nat) (xs : List (Pk × Value)) (j : Nat) : (mixX k xs j).length = xs.length := by simp [mixX]
theorem mixX_zero (k : Nat) (xs : List (Pk × Value)) : mixX k xs 0 = xs := by
  refine List.ext_getElem (mixX_len _ _ _) fun i h1 h2 => ?_
  simp [mixX, h2]
theorem mixX_step (k : Nat) (xs : List (Pk × Value)) (j : Nat) : (mixX k xs j).set j (mk1 k xs j) = mixX k xs (j + 1) := by
  refine List.ext_getElem (by simp [mixX]) fun i h1 h2 => ?_
  rw [List.getElem_set]
  have h3 : i < xs.length := by simpa [mixX] using h2
  simp only [mixX, List.getElem_map, List.getElem_range]
  by_cases e : j = i
  · subst e; simp
  · rw [if_neg e]
    by_cases hlt : i < j
    · rw [if_pos hlt, if_pos (by omega)]
    · rw [if_neg hlt, if_neg (by omega)]
theorem mixX_get (k : Nat) (xs : List (Pk × Value)) (j : Nat) (hj : j < xs.length) : (mixX k xs j)[j]? = some (xs.getD j default) := by
  rw [List.getElem?_eq_getElem (by rw [mixX_len]; exact hj)]
  simp [mixX]
theorem mixX_fst (k : Nat) (xs : List (Pk × Value)) : (mixX k xs xs.length).map Prod.fst = marksP k (xs.map Prod.fst) := by
  refine List.ext_getElem (by simp [mixX, marksP]) fun i h1 h2 => ?_
  have h3 : i < xs.length := by simpa [mixX] using h1
  simp [mixX, marksP, mk1, h3]

/-- A cell of packet j of a row of one's own stored: its place and its bytes stay. -/
theorem OwnX.cell {w : World} {b hi g n c : Nat} {xs : List (Pk × Value)} (h : OwnX w b hi (.slice (some ⟨g, 0, none⟩) n c) xs) (hn : xs.length = n) (j r : Nat) (hr : r < 4) (hj : j < n) (val : Value) (x y : Pk × Value) (hx : xs[j]? = some x)
    (hy : (pkC x).set r val = pkC y) (h2 : y.2 = x.2) (hb : y.1.b = x.1.b) :
    (∃ z, w.cell? ⟨g, j * 4 + r, none⟩ = some z) ∧ w.frozen? ⟨g, j * 4 + r, none⟩ = false ∧ OwnX (w.setCell ⟨g, j * 4 + r, none⟩ val) b hi (.slice (some ⟨g, 0, none⟩) n c) (xs.set j y) ∧ w.grownBy (w.setCell ⟨g, j * 4 + r, none⟩ val) (some g) := by
  subst hn
  obtain ⟨h0, ho, hs, hv, hxx⟩ := h
  have hl : (xs.flatMap pkC).length = xs.length * 4 := flat_len pkC 4 pkC_len xs
  have h1 := World.ownsRow.stored h0 (j * 4 + r) val
  have hm : (xs.set j y).map Prod.snd = xs.map Prod.snd := by
    rw [List.map_set, h2]
    refine List.ext_getElem (by simp) fun i h1 h3 => ?_
    rw [List.getElem_set]
    split
    · rename_i e; subst e
      have := List.getElem?_eq_some_iff.1 hx
      obtain ⟨hi', rfl⟩ := this
      simp
    · rfl
  refine ⟨?_, World.ownsRow.frozenAt h0 _, ?_, h1.2⟩
  · rw [World.ownsRow.cellAt h0 _ (by omega)]; exact ⟨_, List.getElem?_eq_getElem (by omega)⟩
  · have hfin := h1.1
    rw [flat_set pkC 4 pkC_len xs j r val y hr hj (fun z hz => by rw [hx] at hz; cases hz; exact hy)] at hfin
    refine OwnX.turn (w := w) (by rw [List.length_set]; exact hfin) h1.2 (fun z hz => ?_) (by rw [hm]; exact hs) hv (by rw [hm]; exact hxx)
    rcases List.mem_or_eq_of_mem_set hz with hz | rfl
    · exact ho z hz
    · rw [h2, hb]
      exact ho x (List.mem_of_getElem? hx)

/-- The bytes of packet j turned, in their place. -/
theorem OwnX.bytes {w w' : World} {b hi : Nat} {v : Value} {xs : List (Pk × Value)} (h : OwnX w b hi v xs) (j : Nat) (x : Pk × Value) (hx : xs[j]? = some x) (zs : List Int) (ho : Own w' b x.2 zs) (hg : w.grownBy w' x.2.ownBlock) :
    OwnX w' b hi v (xs.set j (⟨x.1.f, x.1.t, zs, x.1.s⟩, x.2)) := by
  obtain ⟨h0, h1, hs, hv, hxx⟩ := h
  have hj := (List.getElem?_eq_some_iff.1 hx).1
  have hxe := (List.getElem?_eq_some_iff.1 hx).2
  have hmem : x ∈ xs := List.mem_of_getElem? hx
  have hm : (xs.set j (⟨x.1.f, x.1.t, zs, x.1.s⟩, x.2)).map Prod.snd = xs.map Prod.snd := by
    rw [List.map_set]
    refine List.ext_getElem (by simp) fun i h1 h3 => ?_
    rw [List.getElem_set]
    split
    · rename_i e; subst e; simp [hxe]
    · rfl
  have hf : (xs.set j (⟨x.1.f, x.1.t, zs, x.1.s⟩, x.2)).flatMap pkC = xs.flatMap pkC := by
    have hmm : (xs.set j (⟨x.1.f, x.1.t, zs, x.1.s⟩, x.2)).map pkC = xs.map pkC := by
      rw [List.map_set]
      refine List.ext_getElem (by simp) fun i h1 h3 => ?_
      rw [List.getElem_set]
      split
      · rename_i e; subst e; rw [List.getElem_map, hxe]; rfl
      · rfl
    rw [List.flatMap_def, List.flatMap_def, hmm]
  refine ⟨?_, fun y hy => ?_, by rw [hm]; exact hs, hv, by rw [hm]; exact hxx⟩
  · rw [List.length_set, hf]
    refine World.ownsRow.kept h0 hg ?_
    cases hq : v.ownBlock with
    | none => exact .inl rfl
    | some q => exact .inr (fun e => hs.1 x.2 (List.mem_map_of_mem hmem) q e.symm hq)
  · obtain ⟨i, hi2, rfl⟩ := List.mem_iff_getElem.1 hy
    rw [List.length_set] at hi2
    rw [List.getElem_set]
    split
    · exact ho
    · rename_i hne
      refine ownKept (h1 _ (List.getElem_mem hi2)) hg (fun q hq e => ?_)
      have hp := List.pairwise_iff_getElem.1 hs.2
      rcases Nat.lt_or_gt_of_ne hne with hlt | hlt
      · have := hp j i (by simpa using hj) (by simpa using hi2) hlt q (by rw [List.getElem_map, hxe]; exact e)
        rw [List.getElem_map] at this
        exact this hq
      · have := hp i j (by simpa using hi2) (by simpa using hj) hlt q (by rw [List.getElem_map]; exact hq)
        rw [List.getElem_map, hxe] at this
        exact this e

end Go.Proofs.YtkfnpijljpbiaaaDoor
/-
  What markSender and heldSender do with messages of one's own.
-/
namespace Go.Proofs.YtkfnpijljpbiaaaDoor
open Go.RowKit

/-- How many marks a message takes. -/
def mkN (m : Ms) : Nat := 5 + 3 * m.cs.length + 2 * m.ns.length
/-- A message marked from k on. -/
def markM (k : Nat) (m : Ms) : Ms := ⟨(k : Int), (k : Int) + 1, (k : Int) + 1 + 1, (k : Int) + 1 + 1 + 1, (k : Int) + 1 + 1 + 1 + 1, marksC ((k : Int) + 1 + 1 + 1 + 1 + 1) m.cs.length, marksN ((k : Int) + 1 + 1 + 1 + 1 + 1 + 3 * (m.cs.length : Int)) m.ns.length⟩
/-- Messages marked from k on. -/
def marksS : Nat → List Ms → List Ms
  | _, [] => []
  | k, m :: ms => markM k m :: marksS (k + mkN m) ms
/-- Where the marks end. -/
def endS : Nat → List Ms → Nat
  | k, [] => k
  | k, m :: ms => endS (k + mkN m) ms
theorem marksS_len : ∀ (k : Nat) (ms : List Ms), (marksS k ms).length = ms.length
  | _, [] => rfl
  | k, m :: ms => by simp [marksS, marksS_len (k + mkN m) ms]
theorem marksS_app : ∀ (k : Nat) (xs ys : List Ms), marksS k (xs ++ ys) = marksS k xs ++ marksS (endS k xs) ys
  | _, [], _ => rfl
  | k, a :: xs, ys => by simp [marksS, endS, marksS_app (k + mkN a) xs ys]
theorem endS_app : ∀ (k : Nat) (xs ys : List Ms), endS k (xs ++ ys) = endS (endS k xs) ys
  | _, [], _ => rfl
  | k, a :: xs, ys => by simp [endS, endS_app (k + mkN a) xs ys]
theorem endS_ge : ∀ (k : Nat) (ms : List Ms), k ≤ endS k ms
  | _, [] => Nat.le_refl _
  | k, m :: ms => Nat.le_trans (Nat.le_add_right _ _) (endS_ge (k + mkN m) ms)
theorem endS_le : ∀ (k : Nat) (ms : List Ms), endS k ms ≤ k + 5 * totS ms
  | k, [] => by simp [endS]
  | k, m :: ms => by
    have h := endS_le (k + mkN m) ms
    have e : totS (m :: ms) = totS ms + (m.cs.length + m.ns.length + 1) := by
      unfold totS
      simp only [List.foldr_cons, List.length_cons]
      rw [foldS_add, foldS_add ms ms.length]; omega
    unfold endS
    unfold mkN at h ⊢
    omega
theorem marksS_good : ∀ (k : Nat) (ms : List Ms), GoodS ms → GoodS (marksS k ms)
  | _, [], _ => fun m hm => by cases hm
  | k, m :: ms, h => fun x hx => by
    rcases List.mem_cons.1 hx with rfl | hx
    · have := h m (by simp)
      exact ⟨by simpa [markM, marksC_len] using this.1, by simpa [markM, marksN_len] using this.2⟩
    · exact marksS_good (k + mkN m) ms (fun y hy => h y (by simp [hy])) x hx

/-- The five numbers of a message stored. -/
theorem flat_five (ys : List MsX) (x : MsX) (zs : List MsX) (k i u c n : Int) :
    ((((((ys ++ x :: zs).flatMap msC).set (ys.length * 7) (.int .i64 k)).set (ys.length * 7 + 1) (.int .i64 i)).set (ys.length * 7 + 2) (.int .i64 u)).set (ys.length * 7 + 3) (.int .i64 c)).set (ys.length * 7 + 4) (.int .i64 n) = (ys ++ (⟨k, i, u, c, n, x.1.cs, x.1.ns⟩, x.2) :: zs).flatMap msC := by
  have hl : (ys.flatMap msC).length = ys.length * 7 := flat_len msC 7 msC_len ys
  rw [List.flatMap_append, List.flatMap_append, ← hl]
  rw [List.set_append_right _ _ (Nat.le_refl _), List.set_append_right _ _ (by omega), List.set_append_right _ _ (by omega), List.set_append_right _ _ (by omega), List.set_append_right _ _ (by omega)]
  congr 1
  simp only [Nat.sub_self, Nat.add_sub_cancel_left, List.flatMap_cons]
  rfl

theorem OwnY.five {w : World} {b hi g n c : Nat} {ys zs : List MsX} {x : MsX} (h : OwnY w b hi (.slice (some ⟨g, 0, none⟩) n c) (ys ++ x :: zs)) (hn : (ys ++ x :: zs).length = n) (j : Nat) (hj : ys.length = j) (k i u d m : Int) :
    (∀ r, r < 7 → w.cell? ⟨g, j * 7 + r, none⟩ = (msC x)[r]?) ∧ (∀ r, w.frozen? ⟨g, r, none⟩ = false) ∧
    OwnY (((((w.setCell ⟨g, j * 7, none⟩ (.int .i64 k)).setCell ⟨g, j * 7 + 1, none⟩ (.int .i64 i)).setCell ⟨g, j * 7 + 2, none⟩ (.int .i64 u)).setCell ⟨g, j * 7 + 3, none⟩ (.int .i64 d)).setCell ⟨g, j * 7 + 4, none⟩ (.int .i64 m)) b hi (.slice (some ⟨g, 0, none⟩) n c) (ys ++ (⟨k, i, u, d, m, x.1.cs, x.1.ns⟩, x.2) :: zs) ∧
    Out b hi w (((((w.setCell ⟨g, j * 7, none⟩ (.int .i64 k)).setCell ⟨g, j * 7 + 1, none⟩ (.int .i64 i)).setCell ⟨g, j * 7 + 2, none⟩ (.int .i64 u)).setCell ⟨g, j * 7 + 3, none⟩ (.int .i64 d)).setCell ⟨g, j * 7 + 4, none⟩ (.int .i64 m)) := by
  subst hj
  obtain ⟨h0, ho, hs, hvv, hx⟩ := h
  rw [hn] at h0
  have hl : ((ys ++ x :: zs).flatMap msC).length = n * 7 := by rw [flat_len msC 7 msC_len, hn]
  have hjn : ys.length < n := by rw [← hn]; simp
  have s0 := World.ownsRow.stored h0 (ys.length * 7) (.int .i64 k)
  have s1 := World.ownsRow.stored s0.1 (ys.length * 7 + 1) (.int .i64 i)
  have s2 := World.ownsRow.stored s1.1 (ys.length * 7 + 2) (.int .i64 u)
  have s3 := World.ownsRow.stored s2.1 (ys.length * 7 + 3) (.int .i64 d)
  have s4 := World.ownsRow.stored s3.1 (ys.length * 7 + 4) (.int .i64 m)
  have hg := grownBy_trans (grownBy_trans (grownBy_trans (grownBy_trans s0.2 s1.2) s2.2) s3.2) s4.2
  have ev : vals (ys ++ (⟨k, i, u, d, m, x.1.cs, x.1.ns⟩, x.2) :: zs) = vals (ys ++ x :: zs) := by simp [vals]
  refine ⟨fun r hr => ?_, fun r => World.ownsRow.frozenAt h0 r, ?_, Out.row hg (fun q hq => by cases hq; exact ⟨(World.ownsRow.lt h0 g rfl).1, hvv g rfl⟩)⟩
  · rw [World.ownsRow.cellAt h0 _ (by omega), flat_get msC 7 msC_len _ default ys.length r (by rw [hn]; exact hjn) hr]
    simp
  · have hfin := s4.1
    rw [flat_five] at hfin
    refine OwnY.turn (w := w) (by rw [show (ys ++ (⟨k, i, u, d, m, x.1.cs, x.1.ns⟩, x.2) :: zs).length = n by rw [← hn]; simp]; exact hfin) hg (fun y hy => ?_) (by rw [ev]; exact hs) hvv (by rw [ev]; exact hx)
    rcases List.mem_append.1 hy with hy | hy
    · exact ho y (by simp [hy])
    · rcases List.mem_cons.1 hy with rfl | hy
      · exact ho x (by simp)
      · exact ho y (by simp [hy])

/-- One's parts turned in their place. -/
theorem OwnY.parts {w w1 w2 : World} {b hi : Nat} {v : Value} {ys zs : List MsX} {x : MsX} (h : OwnY w b hi v (ys ++ x :: zs)) (cs : List (Int × Bool × Int)) (ns : List (Int × Int))
    (hc : OwnC w1 b x.2.1 cs) (hg1 : w.grownBy w1 x.2.1.ownBlock) (hn : OwnN w2 b x.2.2 ns) (hg2 : w1.grownBy w2 x.2.2.ownBlock) :
    OwnY w2 b hi v (ys ++ ({ x.1 with cs := cs, ns := ns }, x.2) :: zs) ∧ Out b hi w w2 := by
  obtain ⟨h0, ho, hs, hvv, hx⟩ := h
  have ev : vals (ys ++ ({ x.1 with cs := cs, ns := ns }, x.2) :: zs) = vals (ys ++ x :: zs) := by simp [vals]
  have ef : (ys ++ ({ x.1 with cs := cs, ns := ns }, x.2) :: zs).flatMap msC = (ys ++ x :: zs).flatMap msC := by simp [msC]
  have hm : x ∈ ys ++ x :: zs := by simp
  have hq := vals_mem hm
  have hsp : ∀ (y : MsX), y ∈ ys ∨ y ∈ zs → ∀ u, (u = y.2.1 ∨ u = y.2.2) → ∀ q, u.ownBlock = some q → x.2.1.ownBlock ≠ some q ∧ x.2.2.ownBlock ≠ some q := by
    have e2 : vals (ys ++ x :: zs) = vals ys ++ ([x.2.1, x.2.2] ++ vals zs) := by simp [vals]
    have hp := hs.2
    rw [e2, List.pairwise_append, List.pairwise_append] at hp
    obtain ⟨_, ⟨_, _, p2⟩, p3⟩ := hp
    intro y hy u hu q hq
    rcases hy with hy | hy
    · have hmu : u ∈ vals ys := by rcases hu with rfl | rfl; exact (vals_mem hy).1; exact (vals_mem hy).2
      exact ⟨p3 u hmu x.2.1 (by simp) q hq, p3 u hmu x.2.2 (by simp) q hq⟩
    · have hmu : u ∈ vals zs := by rcases hu with rfl | rfl; exact (vals_mem hy).1; exact (vals_mem hy).2
      exact ⟨fun e => p2 x.2.1 (by simp) u hmu q e hq, fun e => p2 x.2.2 (by simp) u hmu q e hq⟩
  have hcn : ∀ q, x.2.1.ownBlock = some q → x.2.2.ownBlock ≠ some q := by
    have e2 : vals (ys ++ x :: zs) = vals ys ++ ([x.2.1, x.2.2] ++ vals zs) := by simp [vals]
    have hp := hs.2
    rw [e2, List.pairwise_append, List.pairwise_append] at hp
    obtain ⟨_, ⟨p1, _, _⟩, _⟩ := hp
    rw [List.pairwise_cons] at p1
    exact fun q hq => p1.1 x.2.2 (by simp) q hq
  have hlt1 : ∀ q, x.2.1.ownBlock = some q → b ≤ q ∧ q < hi := fun q hq' => ⟨(World.ownsRow.lt hc q hq').1, hx _ hq.1 q hq'⟩
  have hlt2 : ∀ q, x.2.2.ownBlock = some q → b ≤ q ∧ q < hi := fun q hq' => ⟨(World.ownsRow.lt hn q hq').1, hx _ hq.2 q hq'⟩
  refine ⟨⟨?_, fun y hy => ?_, by rw [ev]; exact hs, hvv, by rw [ev]; exact hx⟩, (Out.row hg1 hlt1).trans (Out.row hg2 hlt2)⟩
  · rw [ef, show (ys ++ ({ x.1 with cs := cs, ns := ns }, x.2) :: zs).length = (ys ++ x :: zs).length by simp]
    have k1 : w1.ownsRow b 39 7 v (ys ++ x :: zs).length ((ys ++ x :: zs).flatMap msC) := World.ownsRow.kept h0 hg1 (by
      cases hv : v.ownBlock with
      | none => exact .inl rfl
      | some q => exact .inr (fun e => hs.1 _ hq.1 q e.symm hv))
    exact World.ownsRow.kept k1 hg2 (by
      cases hv : v.ownBlock with
      | none => exact .inl rfl
      | some q => exact .inr (fun e => hs.1 _ hq.2 q e.symm hv))
  · have keep : ∀ y, y ∈ ys ∨ y ∈ zs → y ∈ ys ++ x :: zs → OwnC w2 b y.2.1 y.1.cs ∧ OwnN w2 b y.2.2 y.1.ns := fun y hy hy' =>
      ⟨ownC_kept (ownC_kept (ho y hy').1 hg1 (fun q hq => (hsp y hy _ (.inl rfl) q hq).1)) hg2 (fun q hq => (hsp y hy _ (.inl rfl) q hq).2),
       ownN_kept (ownN_kept (ho y hy').2 hg1 (fun q hq => (hsp y hy _ (.inr rfl) q hq).1)) hg2 (fun q hq => (hsp y hy _ (.inr rfl) q hq).2)⟩
    rcases List.mem_append.1 hy with hy | hy
    · exact keep y (.inl hy) (by simp [hy])
    · rcases List.mem_cons.1 hy with rfl | hy
      · exact ⟨ownC_kept hc hg2 (fun q hq => hcn q hq), hn⟩
      · exact keep y (.inr hy) (by simp [hy])

end Go.Proofs.YtkfnpijljpbiaaaDoor
