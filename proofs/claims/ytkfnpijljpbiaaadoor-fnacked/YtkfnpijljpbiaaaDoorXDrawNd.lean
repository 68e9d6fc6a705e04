/-
  Two nodes and a line, drawn.
-/
import Derived.Test.YtkfnpijljpbiaaaDoorKDrawLn
namespace Go.Proofs.YtkfnpijljpbiaaaDoor
open Go.RowKit

theorem results_ttc {fn : Func} {p q u : Tmp} {ty : TypeId} {v : Value} {g : Addr} (h : fn.results = #[.tmp p, .tmp q, .cell u ty]) (tmps : Array Value) (P : Program) (w : World) (hg : tmps.getD u undef = .pointer (some g)) (hl : (loadVar ty g).run P w = .ok v w) :
    (results fn tmps).run P w = .ok (.tuple #[tmps.getD p undef, tmps.getD q undef, v]) w := by
  have h' : ((asAddr (tmps.getD u undef)).run P w).andThen (fun a w₁ => ((loadVar ty a).run P w₁).andThen fun y w₂ => Result.ok (Value.tuple #[tmps.getD p undef, tmps.getD q undef, y]) w₂) = Result.ok (Value.tuple #[tmps.getD p undef, tmps.getD q undef, v]) w := by
    rw [hg]
    simp [asAddr, Result.andThen, hl]
  simp only [results, h]
  simpa [Sem.run_bind, Result.andThen] using h'
theorem loadLd {w : World} {g : Nat} {a0 a1 a2 : Value} (h : w.heap[g]? = some (.cells #[a0, a1, a2] 28 (0, 0))) : (loadVar 28 ⟨g, 0, none⟩).run Tryd.prog w.drew = .ok (.agg #[a0, a1, a2]) w.drew := loadL (w := w.drew) h
/-- Two nodes and a line are drawn. -/
def DNd (w : World) (e : Ending) (w' : World) : Prop := ∃ f t base got v xs, e = .returned (.tuple #[.int .i64 f, .int .i64 t, lnV base got v]) ∧ (-1 ≤ base ∧ base ≤ 16777216) ∧ (-1 ≤ got ∧ got ≤ 16777215) ∧ OwnY w' w.heap.size w'.heap.size v xs ∧ Sh xs ∧ Below w.heap.size w w'
set_option maxRecDepth 100000 in
set_option maxHeartbeats 4000000 in
theorem drawNod (w : World) (a : Option Addr) (len cap : Nat) (zs : List Int) (hin : In w w.heap.size a len zs) :
    Calls Tryd.prog 6 #[.slice a len cap] w (DNd w) := by
  have bA := (Below.refl w.heap.size w).alloc (Nat.le_refl _) (.cells #[.int .i64 0, .slice none 0 0, .int .i64 0] 28)
  have HI := hide ((hin.kept bA.block).up bA.size)
  have E := hide (heap_alloc_new w (.cells #[.int .i64 0, .slice none 0 0, .int .i64 0] 28))
  have HB := hide bA
  have hs0 := (Array.getElem?_eq_some_iff.1 E.out).1
  clear bA hin
  go_enter Tryd.func6, Tryd.ntmps6
  go_wp2_with fail
  generalize w.alloc (.cells #[.int .i64 0, .slice none 0 0, .int .i64 0] 28) = W at *
  refine (drawWrap _ _ _ _ _ HI.out).mono ?_
  rintro e w1 ⟨f, t, base, got, i, v, xs, rfl, hft, hbb, hgo, hi, ho, hsh, b1⟩
  obtain ⟨av, cv, rfl⟩ := ho.shape
  unfold lnV
  have bD := (Below.refl w1.heap.size w1).alloc (Nat.le_refl _) (.cells #[.int .i64 base, .slice av xs.length cv, .int .i64 got] 28)
  have bE := b1.trans (bD.mono b1.size)
  have HL := hide (heap_alloc_new w1 (.cells #[.int .i64 base, .slice av xs.length cv, .int .i64 got] 28))
  replace E := hide ((bE.block w.heap.size hs0).trans E.out)
  replace HB := hide (HB.out.trans (bE.mono HB.out.size))
  have HO := hide (ho.below bD)
  have hs1 : w1.heap.size < (w1.alloc (.cells #[.int .i64 base, .slice av xs.length cv, .int .i64 got] 28)).heap.size := by simp
  have hs2 := b1.size
  clear bD bE b1 ho HI
  go_upto_region 2 with fail
  generalize w1.alloc (.cells #[.int .i64 base, .slice av xs.length cv, .int .i64 got] 28) = W1 at *
  generalize w1.heap.size = l at *
  have c0 := (box_of HL.out).1 0 _ rfl
  have c1 := (box_of HL.out).1 1 _ rfl
  have c2 := (box_of HL.out).1 2 _ rfl
  have r0 := (box_of E.out).1 0 _ rfl
  have r1 := (box_of E.out).1 1 _ rfl
  have r2 := (box_of E.out).1 2 _ rfl
  have rz := (box_of E.out).2
  go_region
  all_goals (
    go_wp2
    refine bodyPost_ret (v := .tuple #[.int .i64 f, .int .i64 t, .agg #[.int .i64 base, .slice av xs.length cv, .int .i64 got]]) (results_ttc Tryd.results6 _ _ _ rfl (loadLd (put3 E.out _ _ _))) rfl ⟨_, _, _, _, _, xs, rfl, hbb, hgo, ?_, hsh, (((HB.out.setCell (Nat.le_refl _) _).setCell (Nat.le_refl _) _).setCell (Nat.le_refl _) _).drew⟩
    refine (((HO.out.same (fun q hq _ _ => ?_)).below (Below.refl _ _).drew).mono (Nat.le_of_lt hs0)).up (by simpa using Nat.le_of_lt hs1)
    rw [heap_setCell_other _ _ _ _ (by simp; omega), heap_setCell_other _ _ _ _ (by simp; omega), heap_setCell_other _ _ _ _ (by simp; omega)])
end Go.Proofs.YtkfnpijljpbiaaaDoor
