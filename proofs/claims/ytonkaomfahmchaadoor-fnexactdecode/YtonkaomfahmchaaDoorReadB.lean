/-
  The variables of a face over a reader.
-/
import Derived.Test.YtonkaomfahmchaaDoorTake
import Derived.Defers
import Derived.Recover
import Derived.Laws.Pointers
import Derived.RegionTactic
import Derived.ChangeAlike
namespace Go.Proofs.YtonkaomfahmchaaDoor
open Go.RowKit

/-- The four new variables, behind a call that has turned none but the last one. -/
theorem four_new {w w1 : World} {x0 : Value} {T : TypeId} {k : Int} (hg : ((((w.alloc (.cells #[x0] T)).alloc (.cells #[.int .i64 0] 3)).alloc (.cells #[.bool false] 4)).alloc (.cells #[.int .i64 k] 3)).grownBy w1 (some (w.heap.size + 1 + 1 + 1))) :
    w1.heap[w.heap.size]? = some (.cells #[x0] T (0, 0)) ∧ w1.heap[w.heap.size + 1]? = some (.cells #[.int .i64 0] 3 (0, 0)) ∧ w1.heap[w.heap.size + 1 + 1]? = some (.cells #[.bool false] 4 (0, 0)) ∧ Below w.heap.size w w1 := by
  have hs : ((((w.alloc (.cells #[x0] T)).alloc (.cells #[.int .i64 0] 3)).alloc (.cells #[.bool false] 4)).alloc (.cells #[.int .i64 k] 3)).heap.size = w.heap.size + 4 := by simp
  have e0 := heap_alloc_new w (.cells #[x0] T)
  have e1 := heap_alloc_new (w.alloc (.cells #[x0] T)) (.cells #[.int .i64 0] 3)
  have e2 := heap_alloc_new ((w.alloc (.cells #[x0] T)).alloc (.cells #[.int .i64 0] 3)) (.cells #[.bool false] 4)
  have n1 : (w.alloc (.cells #[x0] T)).heap.size = w.heap.size + 1 := by simp
  have n2 : ((w.alloc (.cells #[x0] T)).alloc (.cells #[.int .i64 0] 3)).heap.size = w.heap.size + 1 + 1 := by simp
  have n3 : (((w.alloc (.cells #[x0] T)).alloc (.cells #[.int .i64 0] 3)).alloc (.cells #[.bool false] 4)).heap.size = w.heap.size + 1 + 1 + 1 := by simp
  rw [n1] at e1
  rw [n2] at e2
  refine ⟨?_, ?_, ?_, ?_⟩
  · rw [hg.block _ (by omega) (by simp; omega), Below.heap_alloc _ _ _ (by omega), Below.heap_alloc _ _ _ (by omega), Below.heap_alloc _ _ _ (by omega), e0]
  · rw [hg.block _ (by omega) (by simp), Below.heap_alloc _ _ _ (by omega), Below.heap_alloc _ _ _ (by omega), e1]
  · rw [hg.block _ (by omega) (by simp), Below.heap_alloc _ _ _ (by omega), e2]
  · exact ((((Below.refl _ _).alloc (Nat.le_refl _) _).alloc (by simp) _).alloc (by simp; omega) _ |>.alloc (by simp; omega) _).grown hg (by simp; omega) (fun k hk => by cases hk; omega)

theorem Err.low {w W : World} {t : TypeId} {v : Value} (h : Err w t v) (hb : Below w.heap.size w W) (h0 : 0 < w.heap.size) : Err W t v :=
  (hb.cell (p := ⟨0, 0, none⟩) h0).trans h

end Go.Proofs.YtonkaomfahmchaaDoor
