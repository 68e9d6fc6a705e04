/-
  Joined: DeepMk, DeepSz.
-/
import Derived.Test.YtllghgcancennaaJ5
/-
  What is left of rows of one's own whose cells are stored into.
-/
namespace Go.Proofs.Ytllghgcancennaa
open Go.RowKit

/-- All old blocks but these are as they were. -/
structure Chg (F : List Nat) (w w' : World) : Prop where
  os : w'.os = w.os
  tape : w'.tape = w.tape
  output : w'.output = w.output
  size : w.heap.size ≤ w'.heap.size
  block : ∀ q, q < w.heap.size → q ∉ F → w'.heap[q]? = w.heap[q]?
theorem Chg.refl (F : List Nat) (w : World) : Chg F w w := ⟨rfl, rfl, rfl, Nat.le_refl _, fun _ _ _ => rfl⟩
theorem Chg.trans {F : List Nat} {u v w : World} (h : Chg F u v) (k : Chg F v w) : Chg F u w :=
  ⟨k.os.trans h.os, k.tape.trans h.tape, k.output.trans h.output, Nat.le_trans h.size k.size, fun q hq hr => (k.block q (Nat.lt_of_lt_of_le hq h.size) hr).trans (h.block q hq hr)⟩
theorem Chg.mono {F F' : List Nat} {w w' : World} (h : Chg F w w') (hF : ∀ q ∈ F, q ∈ F') : Chg F' w w' := ⟨h.os, h.tape, h.output, h.size, fun q hq hr => h.block q hq (fun hm => hr (hF q hm))⟩
theorem Chg.of_below {F : List Nat} {w w' : World} (h : Below w.heap.size w w') : Chg F w w' := ⟨h.os, h.tape, h.output, h.size, fun q hq _ => h.block q hq⟩
theorem Chg.of_grown {F : List Nat} {w w' : World} {r : Option Nat} (h : w.grownBy w' r) (hr : ∀ q, r = some q → q ∈ F) : Chg F w w' := ⟨h.os, h.tape, h.output, h.size, fun q hq hm => h.block q hq (fun e => hm (hr q e.symm))⟩
theorem Chg.set {F : List Nat} {w wr : World} (h : Chg F w wr) {g : Nat} (hg : g ∈ F) (o : Nat) (u : Value) : Chg F w (wr.setCell ⟨g, o, none⟩ u) :=
  ⟨h.os, h.tape, h.output, Nat.le_trans h.size (by simp), fun q hq hr => (heap_setCell_other wr ⟨g, o, none⟩ q _ (fun e => hr (by rw [e]; exact hg))).trans (h.block q hq hr)⟩
theorem Chg.below {F : List Nat} {B : Nat} {w w' : World} (h : Chg F w w') (hF : ∀ q ∈ F, B ≤ q) (hB : B ≤ w.heap.size) : Below B w w' := ⟨h.os, h.tape, h.output, h.size, fun q hq => h.block q (by omega) (fun hm => by have := hF q hm; omega)⟩

theorem split_at {α : Type} (cs : List α) (i : Nat) (d : α) (h : cs[i]? = some d) : cs = cs.take i ++ [d] ++ cs.drop (i + 1) ∧ i < cs.length ∧ (cs.take i).length = i := by
  obtain ⟨hi, e⟩ := List.getElem?_eq_some_iff.1 h
  refine ⟨?_, hi, by simp; omega⟩
  rw [← e, List.append_assoc, List.singleton_append, List.getElem_cons_drop, List.take_append_drop]
theorem set_at {α : Type} (cs : List α) (i : Nat) (d' : α) (h : i < cs.length) : cs.set i d' = cs.take i ++ [d'] ++ cs.drop (i + 1) := by
  rw [List.set_eq_take_append_cons_drop, if_pos h, List.append_assoc]; rfl

/-- A plain cell of a row of one's own, and another one in its place. -/
theorem Owns.cell {w : World} {b : Nat} {T : TypeId} {k n c g : Nat} {cs : List Dt} {F : List Nat} (h : Owns w b (.row T k n cs) (.slice (some ⟨g, 0, none⟩) n c) F) (hn : F.Nodup) {i : Nat} {z : Value} (hi : cs[i]? = some (.val z)) (u : Value) :
    w.cell? ⟨g, i, none⟩ = some z ∧ w.frozen? ⟨g, i, none⟩ = false ∧ g ∈ F ∧ Owns (w.setCell ⟨g, i, none⟩ u) b (.row T k n (cs.set i (.val u))) (.slice (some ⟨g, 0, none⟩) n c) F := by
  obtain ⟨e1, hil, htl⟩ := split_at cs i _ hi
  rw [set_at cs i _ hil]
  generalize cs.take i = c1 at *
  generalize cs.drop (i + 1) = c2 at *
  subst e1
  unfold Owns at h ⊢
  obtain ⟨vs, G, h1, h2, rfl⟩ := h
  obtain ⟨v12, v3, G12, G3, rfl, rfl, h3, h4⟩ := OwnsL.app h2
  obtain ⟨v1, v2, G1, G2, rfl, rfl, h5, h6⟩ := OwnsL.app h3
  obtain ⟨z', vs', F1, F2, rfl, rfl, h7, h8⟩ := ownsL_cons h6
  unfold OwnsL at h8
  obtain ⟨rfl, rfl⟩ := h8
  unfold Owns at h7
  obtain ⟨rfl, rfl⟩ := h7
  have hv1 : v1.length = i := by rw [h5.len, htl]
  have hg : (Value.slice (some ⟨g, 0, none⟩) n c).ownBlock.toList = [g] := rfl
  rw [hg] at hn ⊢
  rw [List.singleton_append, List.nodup_cons] at hn
  have hlen := h1.1
  have hin : i < n * k := by rw [← hlen]; simp only [List.length_append, List.length_cons, List.length_nil]; omega
  have hst := World.ownsRow.stored h1 i u
  have e2 : (v1 ++ [z'] ++ v3).set i u = v1 ++ [u] ++ v3 := by
    subst hv1
    rw [List.append_assoc, List.set_append_right _ _ (Nat.le_refl _), Nat.sub_self, List.append_assoc]; rfl
  rw [e2] at hst
  have keep : ∀ {cs : List Dt} {ws : List Value} {H : List Nat}, OwnsL w b cs ws H → g ∉ H → OwnsL (w.setCell ⟨g, i, none⟩ u) b cs ws H := by
    intro cs ws H ho hm
    exact ho.same (fun q hq => heap_setCell_other w ⟨g, i, none⟩ q _ (fun e => hm (by simp at e; rw [← e]; exact hq)))
  refine ⟨?_, World.ownsRow.frozenAt h1 i, by simp, v1 ++ [u] ++ v3, G1 ++ ([] ++ []) ++ G3, hst.1, ?_, rfl⟩
  · rw [World.ownsRow.cellAt h1 i hin]
    subst hv1
    simp
  · exact ((keep h5 (fun hm => hn.1 (by simp [hm]))).join (ownsL_mk owns_val ownsL_nil)).join (keep h4 (fun hm => hn.1 (by simp [hm])))
/-- A part of a row of one's own, and another one in its place. -/
theorem Owns.part {w : World} {b : Nat} {T : TypeId} {k n c g : Nat} {cs : List Dt} {F : List Nat} (h : Owns w b (.row T k n cs) (.slice (some ⟨g, 0, none⟩) n c) F) (hn : F.Nodup) {i : Nat} {d : Dt} (hi : cs[i]? = some d) :
    ∃ u Fd, w.cell? ⟨g, i, none⟩ = some u ∧ Owns w b d u Fd ∧ Fd.Nodup ∧ (∀ q ∈ Fd, q ∈ F) ∧
      ∀ w' d', Owns w' b d' u Fd → (∀ q ∈ F, q ∉ Fd → w'.heap[q]? = w.heap[q]?) → Owns w' b (.row T k n (cs.set i d')) (.slice (some ⟨g, 0, none⟩) n c) F := by
  obtain ⟨e1, hil, htl⟩ := split_at cs i _ hi
  have hset : ∀ d', cs.set i d' = cs.take i ++ [d'] ++ cs.drop (i + 1) := fun d' => set_at cs i _ hil
  generalize cs.take i = c1 at *
  generalize cs.drop (i + 1) = c2 at *
  unfold Owns at h
  obtain ⟨vs, G, h1, h2, rfl⟩ := h
  rw [e1] at h2
  obtain ⟨v12, v3, G12, G3, rfl, rfl, h3, h4⟩ := OwnsL.app h2
  obtain ⟨v1, v2, G1, G2, rfl, rfl, h5, h6⟩ := OwnsL.app h3
  obtain ⟨u, vs', F1, F2, rfl, rfl, h7, h8⟩ := ownsL_cons h6
  unfold OwnsL at h8
  obtain ⟨rfl, rfl⟩ := h8
  rw [List.append_nil] at hn
  have hv1 : v1.length = i := by rw [h5.len, htl]
  have hg : (Value.slice (some ⟨g, 0, none⟩) n c).ownBlock.toList = [g] := rfl
  rw [hg] at hn
  rw [List.singleton_append, List.nodup_cons] at hn
  have hnd := hn.2
  rw [List.append_assoc] at hnd
  have n1 := List.nodup_append.1 hnd
  have n2 := List.nodup_append.1 n1.2.1
  have hlen := h1.1
  have hin : i < n * k := by rw [← hlen]; simp only [List.length_append, List.length_cons, List.length_nil]; omega
  refine ⟨u, F1, ?_, h7, n2.1, fun q hq => by simp [hq], fun w' d' hd' hs => ?_⟩
  · rw [World.ownsRow.cellAt h1 i hin]
    subst hv1
    simp
  · rw [hset]
    unfold Owns
    have hgF : g ∉ F1 := fun hm => hn.1 (by simp [hm])
    have k1 : OwnsL w' b c1 v1 G1 := h5.same (fun q hq => hs q (by simp [hq]) (fun hm => n1.2.2 q hq q (by simp [hm]) rfl))
    have k3 : OwnsL w' b c2 v3 G3 := h4.same (fun q hq => hs q (by simp [hq]) (fun hm => n2.2.2 q hm q hq rfl))
    refine ⟨v1 ++ [u] ++ v3, G1 ++ (F1 ++ []) ++ G3, rowSame h1 (fun q hq => ?_), (k1.join (ownsL_mk hd' ownsL_nil)).join k3, rfl⟩
    have : q = g := by simpa [Value.ownBlock] using hq.symm
    subst this
    exact hs q (by simp [hg]) hgF
theorem rows_set {k : Nat} : ∀ (rs : List (List Dt)) (j i : Nat) (d : Dt), (∀ r ∈ rs, r.length = k) → j < rs.length → i < k → rs.flatten.set (j * k + i) d = (rs.set j ((rs.getD j []).set i d)).flatten
  | [], j, i, d, h, hj, hi => by simp at hj
  | r :: rs, 0, i, d, h, hj, hi => by
    have := h r (by simp)
    simp [List.set_append_left, this, hi]
  | r :: rs, j + 1, i, d, h, hj, hi => by
    have hr := h r (by simp)
    rw [List.flatten_cons, List.set_append_right _ _ (by rw [hr, Nat.succ_mul]; omega), hr, show (j + 1) * k + i - k = j * k + i from by rw [Nat.succ_mul]; omega]
    rw [rows_set rs j i d (fun x hx => h x (by simp [hx])) (by simpa using hj) hi]
    simp
theorem rows_get {k : Nat} : ∀ (rs : List (List Dt)) (j i : Nat), (∀ r ∈ rs, r.length = k) → j < rs.length → i < k → rs.flatten[j * k + i]? = (rs.getD j [])[i]?
  | [], j, i, h, hj, hi => by simp at hj
  | r :: rs, 0, i, h, hj, hi => by
    have := h r (by simp)
    simp [List.getElem?_append_left, this, hi]
  | r :: rs, j + 1, i, h, hj, hi => by
    have hr := h r (by simp)
    rw [List.flatten_cons, List.getElem?_append_right (by rw [hr, Nat.succ_mul]; omega), hr, show (j + 1) * k + i - k = j * k + i from by rw [Nat.succ_mul]; omega]
    rw [rows_get rs j i (fun x hx => h x (by simp [hx])) (by simpa using hj) hi]
    simp
/-- Rows, the first j of them marked. -/
def mixR {α : Type} (f : α → List Dt) (ms xs : List α) (j : Nat) : List (List Dt) := (ms.take j ++ xs.drop j).map f
theorem mixR_len {α : Type} (f : α → List Dt) {ms xs : List α} (h : ms.length = xs.length) {j : Nat} (hj : j ≤ xs.length) : (mixR f ms xs j).length = xs.length := by unfold mixR; simp; omega
theorem mixR_all {α : Type} {f : α → List Dt} {k : Nat} (hf : ∀ x, (f x).length = k) (ms xs : List α) (j : Nat) : ∀ r ∈ mixR f ms xs j, r.length = k := by
  intro r hr
  obtain ⟨x, _, rfl⟩ := List.mem_map.1 hr
  exact hf x
theorem mixR_get {α : Type} [Inhabited α] (f : α → List Dt) {ms xs : List α} (h : ms.length = xs.length) {j : Nat} (hj : j < xs.length) : (mixR f ms xs j).getD j [] = f (xs.getD j default) := by
  unfold mixR
  rw [List.getD_eq_getElem?_getD, List.getElem?_map, List.getElem?_append_right (by simp; omega)]
  simp [List.getElem?_drop, show min j ms.length = j by omega, hj]
theorem mixR_step {α : Type} [Inhabited α] (f : α → List Dt) {ms xs : List α} (h : ms.length = xs.length) {j : Nat} (hj : j < xs.length) : (mixR f ms xs j).set j (f (ms.getD j default)) = mixR f ms xs (j + 1) := by
  unfold mixR
  have hm : ms.getD j default = ms[j]'(by omega) := by simp [h, hj]
  rw [List.map_append, List.set_append_right _ _ (by simp; omega), List.length_map, List.length_take, Nat.min_eq_left (by omega), Nat.sub_self]
  rw [List.drop_eq_getElem_cons hj, List.map_cons, List.set_cons_zero, List.take_succ_eq_append_getElem (by omega), hm, List.map_append, List.map_append, List.append_assoc]
  rfl
theorem mixR_zero {α : Type} (f : α → List Dt) (ms xs : List α) : (mixR f ms xs 0).flatten = xs.flatMap f := by unfold mixR; simp [List.flatMap]
theorem mixR_end {α : Type} (f : α → List Dt) {ms xs : List α} (h : ms.length = xs.length) : (mixR f ms xs xs.length).flatten = ms.flatMap f := by
  unfold mixR
  rw [List.drop_length, List.append_nil, ← h, List.take_length]
  simp [List.flatMap]

theorem Owns.slice {w : World} {b : Nat} {T : TypeId} {k n : Nat} {cs : List Dt} {v : Value} {F : List Nat} (h : Owns w b (.row T k n cs) v F) : (v = .slice none 0 0 ∧ n = 0) ∨ ∃ g c, v = .slice (some ⟨g, 0, none⟩) n c := by
  unfold Owns at h
  obtain ⟨us, G, h2, _⟩ := h
  rcases h2.2 with ⟨rfl, h0⟩ | ⟨g, c, _, rfl, _⟩
  · exact .inl ⟨rfl, h0⟩
  · exact .inr ⟨_, _, rfl⟩
theorem owns_bytes {w : World} {b : Nat} {v : Value} {zs : List Int} {F : List Nat} (h : Owns w b (byts zs) v F) : Own w b v zs ∧ F = v.ownBlock.toList := by
  unfold byts Owns at h
  obtain ⟨us, G, h4, h5, rfl⟩ := h
  rw [byts_cells] at h5
  have key : ∀ (xs us : List Value) (G : List Nat), OwnsL w b (xs.map Dt.val) us G → us = xs ∧ G = [] := by
    intro xs
    induction xs with
    | nil => intro us G h; unfold OwnsL at h; exact h
    | cons x xs ih =>
      intro us G h
      obtain ⟨u, us', F1, F2, rfl, rfl, q, h'⟩ := ownsL_cons h
      unfold Owns at q
      obtain ⟨rfl, rfl⟩ := q
      obtain ⟨rfl, rfl⟩ := ih _ _ h'
      exact ⟨rfl, rfl⟩
  obtain ⟨rfl, rfl⟩ := key _ _ _ h5
  exact ⟨h4, by simp⟩
theorem bytes_owns {w : World} {b : Nat} {v : Value} {zs : List Int} (h : Own w b v zs) : Owns w b (byts zs) v v.ownBlock.toList := by
  unfold byts Owns
  refine ⟨zs.map (Value.int .u8), [], h, ?_, by simp⟩
  rw [byts_cells]
  exact ownsL_vals _
theorem Owns.sl {w : World} {b : Nat} {T : TypeId} {k n : Nat} {cs : List Dt} {v : Value} {F : List Nat} (h : Owns w b (.row T k n cs) v F) : ∃ a c, v = .slice a n c := by
  obtain ⟨a, c, e, _⟩ := (Owns.reads (Nat.le_refl _) _ _ _ h).shape
  exact ⟨a, c, e⟩
theorem Own.sameB {w w' : World} {b : Nat} {v : Value} {zs : List Int} (h : Own w b v zs) (hs : ∀ q, v.ownBlock = some q → w'.heap[q]? = w.heap[q]?) : Own w' b v zs := rowSame h hs
end Go.Proofs.Ytllghgcancennaa
/-
  Sums over rows, and what is left of a sum.
-/
namespace Go.Proofs.Ytllghgcancennaa

/-- What is left behind t of what was left. -/
def szR (left : Int) (t : Nat) : Int := if left < t then -1 else left - t
theorem szR_neg {left : Int} {t : Nat} (h : left < t) : szR left t = -1 := by unfold szR; rw [if_pos h]
theorem szR_pos {left : Int} {t : Nat} (h : ¬ left < t) : szR left t = left - t := by unfold szR; rw [if_neg h]
def tot {α : Type} (g : α → Nat) (xs : List α) : Nat := (xs.map g).sum
theorem tot_step {α : Type} [Inhabited α] (g : α → Nat) (xs : List α) (j : Nat) (h : j < xs.length) : tot g (xs.take (j + 1)) = tot g (xs.take j) + g (xs.getD j default) := by
  unfold tot
  rw [List.take_succ_eq_append_getElem h, List.map_append, List.sum_append, List.map_cons, List.map_nil, List.sum_cons, List.sum_nil]
  have : xs.getD j default = xs[j] := by simp [h]
  rw [this]; omega
theorem tot_le {α : Type} (g : α → Nat) (xs : List α) (j : Nat) : tot g (xs.take j) ≤ tot g xs := by
  unfold tot
  conv => rhs; rw [← List.take_append_drop j xs]
  rw [List.map_append, List.sum_append]
  omega
theorem tot_mem {α : Type} (g : α → Nat) {xs : List α} {x : α} (h : x ∈ xs) : g x ≤ tot g xs := by
  unfold tot
  induction xs with
  | nil => simp at h
  | cons y ys ih =>
    rcases List.mem_cons.1 h with rfl | h
    · simp
    · have := ih h; simp; omega
theorem getD_mem {α : Type} [Inhabited α] {Q : α → Prop} {xs : List α} (h : ∀ x ∈ xs, Q x) (j : Nat) (hj : j < xs.length) : Q (xs.getD j default) := by
  have : xs.getD j default = xs[j] := by simp [hj]
  rw [this]; exact h _ (List.getElem_mem _)
end Go.Proofs.Ytllghgcancennaa
