/-
  What the law over Post leans on besides.
-/
import Derived.Test.YtmdpbhikemmogaaNetLaw
import Derived.Test.YtmdpbhikemmogaaNetTake
namespace Go.Proofs.Ytmdpbhikemmogaa
open Go.RowKit

theorem nxt {c l x : World} (h : Below c.heap.size c l) (b : Below l.heap.size l x) : Below c.heap.size c x := h.trans (b.mono h.size)
theorem nxtZ {c l x : World} {o : Obj} (h : Below c.heap.size c l) (b : Below (l.alloc o).heap.size (l.alloc o) x) : Below c.heap.size c x := (h.alloc h.size o).trans (b.mono (by have := h.size; simp; omega))
theorem newZ {l x : World} {vs : Array Value} {T : TypeId} (b : Below (l.alloc (.cells vs T)).heap.size (l.alloc (.cells vs T)) x) : Bx x l.heap.size vs T := (b.block l.heap.size (by simp)).trans (heap_alloc_new l _)
/-- A net stored into a variable that lay there already. -/
theorem finZ {c x : World} {g : Nat} {z0 z1 r : Value} {pR : List Pk} (EZ : Bx x g #[z0, z1] 26) (hz : c.heap.size ≤ g) (hd : Below c.heap.size c x) (ho : ∃ b, OwnP x b x.heap.size r pR ∧ g < b) (s : Int) :
    ∃ b, Bx ((x.setCell ⟨g, 0, none⟩ (.int .i64 s)).setCell ⟨g, 1, none⟩ r) g #[.int .i64 s, r] 26 ∧ OwnP ((x.setCell ⟨g, 0, none⟩ (.int .i64 s)).setCell ⟨g, 1, none⟩ r) b ((x.setCell ⟨g, 0, none⟩ (.int .i64 s)).setCell ⟨g, 1, none⟩ r).heap.size r pR ∧
      Below c.heap.size c ((x.setCell ⟨g, 0, none⟩ (.int .i64 s)).setCell ⟨g, 1, none⟩ r) ∧ c.heap.size ≤ b ∧ c.heap.size ≤ g ∧ g < ((x.setCell ⟨g, 0, none⟩ (.int .i64 s)).setCell ⟨g, 1, none⟩ r).heap.size := by
  obtain ⟨b, h1, h2⟩ := ho
  refine ⟨b, put2 EZ _ _, (h1.same (fun q hq _ _ => ?_)).up (by simp), (hd.setCell (p := ⟨g, 0, none⟩) hz _).setCell (p := ⟨g, 1, none⟩) hz _, by omega, hz, by have := EZ.lt; simpa using this⟩
  rw [heap_setCell_other _ _ _ _ (by dsimp only; omega), heap_setCell_other _ _ _ _ (by dsimp only; omega)]
/-- A net laid into a new variable. -/
theorem finA {c x : World} {r : Value} {b : Nat} {pR : List Pk} (hd : Below c.heap.size c x) (ho : OwnP x b x.heap.size r pR) (hb : c.heap.size ≤ b) (s : Int) :
    ∃ b, Bx (x.alloc (.cells #[.int .i64 s, r] 26)) x.heap.size #[.int .i64 s, r] 26 ∧ OwnP (x.alloc (.cells #[.int .i64 s, r] 26)) b (x.alloc (.cells #[.int .i64 s, r] 26)).heap.size r pR ∧
      Below c.heap.size c (x.alloc (.cells #[.int .i64 s, r] 26)) ∧ c.heap.size ≤ b ∧ c.heap.size ≤ x.heap.size ∧ x.heap.size < (x.alloc (.cells #[.int .i64 s, r] 26)).heap.size :=
  ⟨b, Bx.new x _ _, (ho.below ((Below.refl _ _).alloc (Nat.le_refl _) _)).up (by simp), hd.alloc hd.size _, hb, hd.size, by simp⟩
end Go.Proofs.Ytmdpbhikemmogaa
