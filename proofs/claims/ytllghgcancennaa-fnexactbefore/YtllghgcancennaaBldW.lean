/-
  A variable that is built: a field gets a row that is new.
-/
import Derived.Test.YtllghgcancennaaBldV
namespace Go.Proofs.Ytllghgcancennaa
open Go.RowKit

theorem Bv.fresh {W wr w' : World} {L m : Nat} {T : TypeId} {c d : Dt} {c1 c2 : List Dt} {v1 v2 : List Value} {x v' : Value} (h : Bv W wr L T (c1 ++ c :: c2) (v1 ++ x :: v2)) (i : Nat) (hi : v1.length = i) (hl : v1.length = c1.length) (hb : Below wr.heap.size wr w') (ho : OwnD w' m w'.heap.size d v') (hm : wr.heap.size ≤ m) :
    Bv W (w'.setCell ⟨L, i, none⟩ v') L T (c1 ++ d :: c2) (v1 ++ v' :: v2) := by
  have h3 := h.lt
  subst hi
  have hx := (hb.block L h3).trans h.box
  have hs := hb.size
  refine ⟨?_, ?_, ?_⟩
  · rw [heap_setCell_same w' L v1.length _ _ _ hx]
    simp
  · have h4 := (h.own.below hb).repl hl ho hm (by omega) hs
    exact (h4.same (fun q hq _ _ => heap_setCell_other _ _ _ _ (by simp; omega))).up (by simp)
  · exact (h.bel.trans (hb.mono (Nat.le_of_lt h3))).setCell (by simp) _
theorem ownDL_vals (w : World) (b hi : Nat) (vs : List Value) : OwnDL w b hi (vs.map .val) vs := ⟨[], ownsL_vals vs, List.nodup_nil, fun q hq => by simp at hq⟩
theorem ownD_zero (w : World) (T : TypeId) (k : Nat) : OwnD (w.alloc (.cells #[] T)) w.heap.size (w.alloc (.cells #[] T)).heap.size (.row T k 0 []) (.slice (some ⟨w.heap.size, 0, none⟩) 0 0) := by
  refine ⟨[w.heap.size], ?_, by simp, fun q hq => by simp at hq ⊢; omega⟩
  unfold Owns
  exact ⟨[], [], World.ownsRow_lit w #[] 0 (Nat.le_refl _) (by decide) (by simp), ownsL_nil, rfl⟩
end Go.Proofs.Ytllghgcancennaa
