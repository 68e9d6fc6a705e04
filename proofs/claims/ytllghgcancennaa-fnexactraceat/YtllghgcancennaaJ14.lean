/-
  Joined: StepX, BldV.
-/
import Derived.Test.YtllghgcancennaaJ13
import Derived.Laws.Tables
import Derived.Laws.CopyOwn
/-
  Steps of a region that draws its order: an operation that runs, a store of a whole variable.
-/
namespace Go.Proofs.Ytllghgcancennaa
open Go.RowKit

theorem step_runX {P : Program} {ops : Array Oper} {o : Oper} {a : Act} {w w' : World} {K : Act → World → Prop} {Q : Exit → Act → World → Prop} {E : Prop} {v : Value} (d : Option Tmp) (hd : o.dst = d) (hw : Region.wanted o (yielded ops a.tmps) = true)
    (hrun : (execOp a.eval o).run P w = .ok (.value v) w') (h : K (a.put d v) w') : if Region.wanted o (yielded ops a.tmps) = true then Oper.wp P o a w K Q else E := by
  subst hd
  rw [if_pos hw]
  unfold Oper.wp
  rw [hrun, Oper.upon_value]
  exact h
theorem step_storeX {P : Program} {ops : Array Oper} {o : Oper} {a : Act} {w : World} {K : Act → World → Prop} {Q : Exit → Act → World → Prop} {E : Prop} (hgd : o.guard = none) (hd : o.dst = none) (ty : TypeId) (x y : Operand) (ho : o.op = .store ty x y)
    (g : Nat) (cells : Array Value) (hx : a.eval x = .pointer (some ⟨g, 0, none⟩)) (hy : a.eval y = .agg cells) (t : TypeId) (old : Array Value) (hg : w.heap[g]? = some (.cells old t (0, 0))) (hi : (P.info? ty).map (·.size) = some cells.size)
    (hold : old.size = cells.size) (h1 : cells.all (·.oneCell') = true) (h : K a (w.setRow g cells)) : if Region.wanted o (yielded ops a.tmps) = true then Oper.wp P o a w K Q else E := by
  have hw : Region.wanted o (yielded ops a.tmps) = true := by simp [Region.wanted, hgd]
  rw [if_pos hw]
  refine wp_store_row ty x y ho g cells hx hy t old hg hi hold h1 ?_
  rw [hd]
  exact h
end Go.Proofs.Ytllghgcancennaa
/-
  A variable of one's own that is being built, rows and all: its block, what it owns, and that all before it stays.
-/
namespace Go.Proofs.Ytllghgcancennaa
open Go.RowKit

theorem run_storeVar_cell {P : Program} (w : World) (g i : Nat) (ty : TypeId) (old v : Value) (hc : w.cell? ⟨g, i, none⟩ = some old) (hz : w.frozen? ⟨g, i, none⟩ = false) (hi : (P.info? ty).map (·.size) = some 1) (h1 : v.oneCell' = true) :
    (storeVar ty ⟨g, i, none⟩ v).run P w = .ok () (w.setCell ⟨g, i, none⟩ v) := by
  have hcs : v.cells = #[v] := by cases v <;> first | rfl | cases h1
  have hadd : (⟨g, i, none⟩ : Addr).add 0 = ⟨g, i, none⟩ := by unfold Addr.add; split <;> simp_all
  have hst : (store ((⟨g, i, none⟩ : Addr).add 0) v).run P w = .ok () (w.setCell ⟨g, i, none⟩ v) := by
    rw [hadd, run_store P w _ v _ h1]
    simp [hc, hz]
  cases hq : P.info? ty with
  | none => simp [hq] at hi
  | some q =>
    have hs : q.size = 1 := by simpa [hq] using hi
    simp [storeVar, sizeOf, typeInfo, hq, hcs, hs, storeCells, hst]
theorem step_store1 {P : Program} {ops : Array Oper} {o : Oper} {a : Act} {w : World} {K : Act → World → Prop} {Q : Exit → Act → World → Prop} {E : Prop} (hgd : o.guard = none) (hd : o.dst = none) (ty : TypeId) (x y : Operand) (ho : o.op = .store ty x y)
    (g i : Nat) (v : Value) (hx : a.eval x = .pointer (some ⟨g, i, none⟩)) (hy : a.eval y = v) (h1 : v.oneCell' = true) (old : Value) (hc : w.cell? ⟨g, i, none⟩ = some old) (hz : w.frozen? ⟨g, i, none⟩ = false) (hi : (P.info? ty).map (·.size) = some 1)
    (h : K a (w.setCell ⟨g, i, none⟩ v)) : if Region.wanted o (yielded ops a.tmps) = true then Oper.wp P o a w K Q else E := by
  have hw : Region.wanted o (yielded ops a.tmps) = true := by simp [Region.wanted, hgd]
  rw [if_pos hw]
  unfold Oper.wp execOp
  simp only [ho, hx, hy, Instr.storeAt, Instr.sureAddr, Sem.run_bind, Sem.run_pure, Result.andThen_ok, run_storeVar_cell w g i ty old v hc hz hi h1]
  show K (a.put o.dst undef) _
  rw [hd]
  exact h

theorem OwnDL.setRowA {w : World} {b hi : Nat} {cs : List Dt} {us : List Value} (h : OwnDL w b hi cs us) (g : Nat) (cells : Array Value) (hg : g < b ∨ hi ≤ g) : OwnDL (w.setRow g cells) b hi cs us := h.same (fun q h1 h2 _ => setRow_other _ _ _ _ (by omega))
theorem calls_same {P : Program} {f : FuncId} {args : Array Value} {w : World} {e0 : Ending} (h : Calls P f args w fun e w' => e = e0 ∧ w' = w) : Calls P f args w fun e w' => e = e0 ∧ Below w.heap.size w w' := h.mono (fun _ _ h => ⟨h.1, h.2 ▸ Below.refl _ _⟩)
/-- A row of one's own as an answer. -/
def rowP (w w' : World) (D : Dt) (e : Ending) : Prop := ∃ r, e = .returned r ∧ OwnD w' w.heap.size w'.heap.size D r ∧ Below w.heap.size w w'
structure Bv (W wr : World) (L : Nat) (T : TypeId) (ds : List Dt) (vs : List Value) : Prop where
  box : wr.heap[L]? = some (.cells vs.toArray T (0, 0))
  own : OwnDL wr (L + 1) wr.heap.size ds vs
  bel : Below L W wr
theorem Bv.lt {W wr : World} {L : Nat} {T : TypeId} {ds : List Dt} {vs : List Value} (h : Bv W wr L T ds vs) : L < wr.heap.size := (Array.getElem?_eq_some_iff.1 h.box).1
theorem Bv.call {W wr w' : World} {L : Nat} {T : TypeId} {ds : List Dt} {vs : List Value} (h : Bv W wr L T ds vs) (hb : Below wr.heap.size wr w') : Bv W w' L T ds vs :=
  ⟨(hb.block L h.lt).trans h.box, (h.own.below hb).up hb.size, h.bel.trans (hb.mono (Nat.le_of_lt h.lt))⟩
theorem Bv.new (W : World) (T : TypeId) {ds : List Dt} {vs : List Value} (h : OwnDL (W.alloc (.cells vs.toArray T)) (W.heap.size + 1) (W.alloc (.cells vs.toArray T)).heap.size ds vs) : Bv W (W.alloc (.cells vs.toArray T)) W.heap.size T ds vs :=
  ⟨heap_alloc_new _ _, h, (Below.refl W.heap.size W).alloc (Nat.le_refl _) _⟩
theorem Bv.app {W wr w' : World} {L : Nat} {T : TypeId} {ds ds' : List Dt} {v1 v2 : List Value} {x v' : Value} {own : Option Nat} (h : Bv W wr L T ds (v1 ++ x :: v2)) (i : Nat) (hi : v1.length = i) (ho : OwnDL w' (L + 1) w'.heap.size ds' (v1 ++ v' :: v2)) (hg : wr.grownBy w' own) (hq : ∀ q, own = some q → L + 1 ≤ q) :
    w'.heap[L]? = some (.cells (v1 ++ x :: v2).toArray T (0, 0)) ∧ Bv W (w'.setCell ⟨L, i, none⟩ v') L T ds' (v1 ++ v' :: v2) := by
  have h3 := h.lt
  subst hi
  have hb := (hg.block L h3 (fun e => by have := hq L e.symm; omega)).trans h.box
  refine ⟨hb, ?_, ?_, ?_⟩
  · rw [heap_setCell_same w' L v1.length _ _ _ hb]
    simp
  · exact (ho.same (fun q hq _ _ => heap_setCell_other _ _ _ _ (by simp; omega))).up (by simp)
  · exact (h.bel.grown hg (Nat.le_of_lt h3) (fun q hq' => by have := hq q hq'; omega)).setCell (by simp) _
theorem Bv.set {W wr : World} {L : Nat} {T : TypeId} {c1 c2 : List Dt} {v1 v2 : List Value} {x z : Value} (h : Bv W wr L T (c1 ++ .val z :: c2) (v1 ++ x :: v2)) (i : Nat) (hi : v1.length = i) (hl : v1.length = c1.length) (v' : Value) : Bv W (wr.setCell ⟨L, i, none⟩ v') L T (c1 ++ .val v' :: c2) (v1 ++ v' :: v2) := by
  subst hi
  refine ⟨?_, ?_, h.bel.setCell (by simp) _⟩
  · rw [heap_setCell_same wr L v1.length _ _ _ h.box]
    simp
  · exact ((h.own.setVal hl v').same (fun q hq _ _ => heap_setCell_other _ _ _ _ (by simp; omega))).up (by simp)
end Go.Proofs.Ytllghgcancennaa
