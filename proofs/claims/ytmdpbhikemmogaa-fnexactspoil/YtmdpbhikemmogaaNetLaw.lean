/-
  What the laws over nets lean on: boxes that stay, answers that are not too great.
-/
import Derived.Test.YtmdpbhikemmogaaNetTwoS
import Derived.Test.YtmdpbhikemmogaaNetMark
namespace Go.Proofs.Ytmdpbhikemmogaa
open Go.RowKit

/-- The block g holds just these cells. -/
def Bx (w : World) (g : Nat) (vs : Array Value) (T : TypeId) : Prop := w.heap[g]? = some (.cells vs T (0, 0))
theorem Bx.lt {w : World} {g : Nat} {vs : Array Value} {T : TypeId} (h : Bx w g vs T) : g < w.heap.size := (Array.getElem?_eq_some_iff.1 h).1
theorem Bx.below {w w' : World} {g : Nat} {vs : Array Value} {T : TypeId} (h : Bx w g vs T) (hb : Below w.heap.size w w') : Bx w' g vs T := (hb.block g h.lt).trans h
theorem Bx.out {w w' : World} {g c d : Nat} {vs : Array Value} {T : TypeId} (h : Bx w g vs T) (ho : Out c d w w') (hd : g < c ∨ d ≤ g) : Bx w' g vs T := (ho.block g h.lt hd).trans h
theorem Bx.drewN {w : World} {g : Nat} {vs : Array Value} {T : TypeId} (h : Bx w g vs T) (q : Nat) : Bx (w.drewN q) g vs T := h
theorem Bx.new (w : World) (vs : Array Value) (T : TypeId) : Bx (w.alloc (.cells vs T)) w.heap.size vs T := heap_alloc_new w _

/-- A net's answer: not too great. -/
def Small (ps : List Pk) : Prop := ps.length ≤ 60 ∧ (∀ p ∈ ps, p.b.length ≤ 4000) ∧ Good ps
theorem fold_le : ∀ (ps : List Pk), (∀ p ∈ ps, p.b.length ≤ 4000) → ps.foldr (fun p n => p.b.length + n) 0 ≤ 4000 * ps.length
  | [], _ => by simp
  | p :: ps, h => by
    have h1 := fold_le ps (fun q hq => h q (List.mem_cons_of_mem _ hq))
    have h2 := h p (List.mem_cons_self ..)
    simp only [List.foldr_cons, List.length_cons]
    omega
theorem Small.tot {ps : List Pk} (h : Small ps) : tot ps ≤ 300000 := by
  have h1 := fold_le ps h.2.1
  have h2 := h.1
  unfold Go.Proofs.Ytmdpbhikemmogaa.tot
  rw [fold_add]
  omega
theorem asN_small {size : Int} {ps : List Pk} (h : Good ps) : Small (asN size ps).2 := by
  refine ⟨asN_len size ps, fun p hp => ?_, asN_good h⟩
  unfold asN at hp
  cases hok : netOk size ps
  · rw [hok] at hp; simp at hp
  · rw [hok] at hp
    exact pkOk_len ((netOk_all hok).2.2 p hp)
theorem postN_small {size : Int} {ps : List Pk} {p : Pk} (h : Good ps) (hp : p.b.length ≤ 1048576 ∧ Byt p.b) : Small (postN size ps p).1.2 := by
  cases hok : netOk size (ps ++ [p])
  · rw [postN_no hok]; exact asN_small h
  · rw [postN_yes hok]
    exact ⟨(netOk_all hok).2.1, fun q hq => pkOk_len ((netOk_all hok).2.2 q hq), h.snoc hp⟩
theorem twiceN_small {size : Int} {ps : List Pk} {i : Int} (h : Good ps) : Small (twiceN size ps i).1.2 := by
  cases hok : hasN size ps i
  · rw [twiceN_no hok]; exact asN_small h
  · rw [twiceN_yes hok]
    obtain ⟨j, rfl, hj, _⟩ := hasN_at hok
    exact postN_small h (h _ (getD_mem ps j hj))
end Go.Proofs.Ytmdpbhikemmogaa
