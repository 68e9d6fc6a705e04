/-
  Joined: DeepN, BldW.
-/
import Derived.Test.YtllghgcancennaaJ15
import Derived.Test.YtllghgcancennaaJ14
/-
  A row and what its cells own, beside each other: a row of plain cells and its cells' data.
-/
namespace Go.Proofs.Ytllghgcancennaa
open Go.RowKit

theorem ownsL_plain {w : World} {b : Nat} : ∀ {us vs : List Value} {G : List Nat}, OwnsL w b (us.map .val) vs G → vs = us ∧ G = []
  | [], vs, G, h => by unfold OwnsL at h; exact ⟨h.1, h.2⟩
  | u :: us, vs, G, h => by
    obtain ⟨v, vs', F1, F2, rfl, rfl, h1, h2⟩ := ownsL_cons h
    unfold Owns at h1
    obtain ⟨rfl, rfl⟩ := h1
    obtain ⟨rfl, rfl⟩ := ownsL_plain h2
    exact ⟨rfl, rfl⟩
theorem OwnDL.flat {w : World} {b hi : Nat} {T : TypeId} {k n : Nat} {cs c2 : List Dt} {u : Value} {v2 : List Value} (h : OwnDL w b hi (.row T k n cs :: c2) (u :: v2)) :
    ∃ us, us.length = cs.length ∧ us.length = n * k ∧ OwnDL w b hi (.row T k n (us.map .val) :: (cs ++ c2)) (u :: (us ++ v2)) := by
  obtain ⟨F, h1, h2, h3⟩ := h
  obtain ⟨u', us', F1, F2, e, rfl, h4, h5⟩ := ownsL_cons h1
  cases e
  unfold Owns at h4
  obtain ⟨us, G, hr, hL, rfl⟩ := h4
  rw [List.append_assoc] at h2 h3
  refine ⟨us, hL.len, hr.1, u.ownBlock.toList ++ (G ++ F2), ?_, h2, h3⟩
  refine ownsL_mk (F1 := u.ownBlock.toList) ?_ (hL.join h5)
  unfold Owns
  exact ⟨us, [], hr, ownsL_vals us, by simp⟩
theorem OwnDL.unflat {w : World} {b hi : Nat} {T : TypeId} {k n : Nat} {cs c2 : List Dt} {u : Value} {us v2 : List Value} (h : OwnDL w b hi (.row T k n (us.map .val) :: (cs ++ c2)) (u :: (us ++ v2))) (hl : us.length = cs.length) : OwnDL w b hi (.row T k n cs :: c2) (u :: v2) := by
  obtain ⟨F, h1, h2, h3⟩ := h
  obtain ⟨u', us', F1, F2, e, rfl, h4, h5⟩ := ownsL_cons h1
  cases e
  unfold Owns at h4
  obtain ⟨vs, G, hr, hv, rfl⟩ := h4
  obtain ⟨rfl, rfl⟩ := ownsL_plain hv
  obtain ⟨x1, x2, G1, G2, e2, rfl, h6, h7⟩ := OwnsL.app h5
  obtain ⟨rfl, rfl⟩ := List.append_inj e2 (by rw [hl, h6.len])
  rw [List.append_nil, ← List.append_assoc] at h2 h3
  refine ⟨(u.ownBlock.toList ++ G1) ++ G2, ownsL_mk ?_ h7, h2, h3⟩
  unfold Owns
  exact ⟨_, G1, hr, h6, rfl⟩
theorem OwnD.blk {w : World} {b hi : Nat} {T : TypeId} {k n : Nat} {cs : List Dt} {v : Value} (h : OwnD w b hi (.row T k n cs) v) : ∀ q, v.ownBlock = some q → b ≤ q ∧ q < hi := fun q hq => by
  obtain ⟨F, h1, _, h3⟩ := h
  unfold Owns at h1
  obtain ⟨vs, G, hr, _, rfl⟩ := h1
  exact ⟨(World.ownsRow.lt hr q hq).1, h3 q (by rw [hq]; simp)⟩
theorem OwnDL.apartOf {w w' : World} {b hi g n c : Nat} {T : TypeId} {k : Nat} {cs ds : List Dt} {us : List Value} (h : OwnDL w b hi (cs ++ [.row T k n ds]) (us ++ [.slice (some ⟨g, 0, none⟩) n c])) (hl : us.length = cs.length) (hs : ∀ q, q ≠ g → q < w.heap.size → w'.heap[q]? = w.heap[q]?) : OwnDL w' b hi cs us := by
  obtain ⟨F, h1, h2, h3⟩ := h
  obtain ⟨u1, u2, F1, F2, e, rfl, h4, h5⟩ := OwnsL.app h1
  obtain ⟨rfl, rfl⟩ := List.append_inj e (by rw [h4.len, hl])
  obtain ⟨y, ys, G1, G2, e2, rfl, h6, _⟩ := ownsL_cons h5
  cases e2
  unfold Owns at h6
  obtain ⟨vs, G, hr, _, rfl⟩ := h6
  have nd := List.nodup_append.1 h2
  have lt := OwnsL.lt _ _ _ h4
  exact ⟨F1, h4.same (fun q hq => hs q (fun e => nd.2.2 q hq q (by rw [e]; simp [Value.ownBlock]) rfl) (lt q hq).2), nd.1, fun q hq => h3 q (by simp [hq])⟩
theorem OwnDL.rowsNe {w : World} {b hi : Nat} {T T' : TypeId} {k k' n n' : Nat} {cs cs' c1 c2 : List Dt} {u v : Value} {v1 v2 : List Value} {g gb : Nat} (h : OwnDL w b hi ((.row T k n cs :: c1) ++ .row T' k' n' cs' :: c2) ((u :: v1) ++ v :: v2)) (hl : v1.length = c1.length) (hu : u.ownBlock = some g) (hv : v.ownBlock = some gb) : g ≠ gb := by
  obtain ⟨F, h1, h2, _⟩ := h
  obtain ⟨x, xs, F1, F2, e, rfl, h4, h5⟩ := ownsL_cons h1
  cases e
  obtain ⟨y1, y2, G1, G2, e2, rfl, h6, h7⟩ := OwnsL.app h5
  obtain ⟨rfl, rfl⟩ := List.append_inj e2 (by rw [h6.len, hl])
  obtain ⟨z, zs, H1, H2, e3, rfl, h8, _⟩ := ownsL_cons h7
  cases e3
  unfold Owns at h4 h8
  obtain ⟨_, A, _, _, rfl⟩ := h4
  obtain ⟨_, B, _, _, rfl⟩ := h8
  have nd := List.nodup_append.1 h2
  intro e
  exact nd.2.2 g (by rw [hu]; simp) g (by rw [hv, e]; simp) rfl
theorem ownD_box {w : World} {A : Nat} {T : TypeId} {vs : List Value} (h : w.heap[A]? = some (.cells vs.toArray T (0, 0))) (_hv : 0 < vs.length) : OwnD w A (A + 1) (.row T vs.length 1 (vs.map .val)) (.slice (some ⟨A, 0, none⟩) 1 1) := by
  refine ⟨[A], ?_, by simp, fun q hq => by simp at hq; omega⟩
  unfold Owns
  exact ⟨vs, [], ⟨by simp, .inr ⟨A, 1, vs.toArray, rfl, Nat.le_refl _, h, Nat.le_refl _, by decide, by simp, by simp⟩⟩, ownsL_vals vs, rfl⟩
end Go.Proofs.Ytllghgcancennaa
/-
  A variable that is built: a field gets a row that is new.
-/
namespace Go.Proofs.Ytllghgcancennaa
open Go.RowKit

theorem Bv.fresh {W wr w' : World} {L m : Nat} {T : TypeId} {c d : Dt} {c1 c2 : List Dt} {v1 v2 : List Value} {x v' : Value} (h : Bv W wr L T (c1 ++ c :: c2) (v1 ++ x :: v2)) (i : Nat) (hi : v1.length = i) (hl : v1.length = c1.length) (hb : Below wr.heap.size wr w') (ho : OwnD w' m w'.heap.size d v') (hm : wr.heap.size ≤ m) :
    Bv W (w'.setCell ⟨L, i, none⟩ v') L T (c1 ++ d :: c2) (v1 ++ v' :: v2) := by
  have h3 := h.lt
  subst hi
  have hx := (hb.block L h3).trans h.box
  have hs := hb.size
  refine ⟨?_, ?_, ?_⟩
  · rw [heap_setCell_same w' L v1.length _ _ _ hx]
    simp
  · have h4 := (h.own.below hb).repl hl ho hm (by omega) hs
    exact (h4.same (fun q hq _ _ => heap_setCell_other _ _ _ _ (by simp; omega))).up (by simp)
  · exact (h.bel.trans (hb.mono (Nat.le_of_lt h3))).setCell (by simp) _
theorem ownDL_vals (w : World) (b hi : Nat) (vs : List Value) : OwnDL w b hi (vs.map .val) vs := ⟨[], ownsL_vals vs, List.nodup_nil, fun q hq => by simp at hq⟩
theorem ownD_zero (w : World) (T : TypeId) (k : Nat) : OwnD (w.alloc (.cells #[] T)) w.heap.size (w.alloc (.cells #[] T)).heap.size (.row T k 0 []) (.slice (some ⟨w.heap.size, 0, none⟩) 0 0) := by
  refine ⟨[w.heap.size], ?_, by simp, fun q hq => by simp at hq ⊢; omega⟩
  unfold Owns
  exact ⟨[], [], World.ownsRow_lit w #[] 0 (Nat.le_refl _) (by decide) (by simp), ownsL_nil, rfl⟩
end Go.Proofs.Ytllghgcancennaa
