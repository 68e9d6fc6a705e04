/-
  Variables as boxes of cells: what is read of them, and what stays of them; results that lie in a variable.
-/
import Derived.Test.YtllghgcancennaaBytes
namespace Go.Proofs.Ytllghgcancennaa
open Go.RowKit

/-- The cells of a variable. -/
def Box (w : World) (g : Nat) (vs : List Value) : Prop := ∀ j v, vs[j]? = some v → w.cell? ⟨g, j, none⟩ = some v
theorem Box.below {w w' : World} {g : Nat} {vs : List Value} (h : Box w g vs) (hg : g < w.heap.size) (hb : Below w.heap.size w w') : Box w' g vs :=
  fun j v hv => (hb.cell (p := ⟨g, j, none⟩) hg).trans (h j v hv)
theorem Box.new (w : World) (vs : Array Value) (T : TypeId) : Box (w.alloc (.cells vs T)) w.heap.size vs.toList := fun j v hv => by
  rw [World.cell?_alloc_new]; simpa using hv
/-- The cells of a block. -/
theorem box_of {w : World} {g : Nat} {T : TypeId} {vs : Array Value} (h : w.heap[g]? = some (.cells vs T (0, 0))) : Box w g vs.toList ∧ ∀ j, w.frozen? ⟨g, j, none⟩ = false :=
  ⟨fun j v hv => by rw [cell_of_row w g j _ T (0, 0) h]; simpa using hv, fun j => frozen_of_row w g j _ T h⟩
theorem Box.apart {w w' : World} {g : Nat} {row : Option Nat} {vs : List Value} (h : Box w g vs) (hg : g < w.heap.size) (hgr : w.grownBy w' row) (hne : row ≠ some g) : Box w' g vs :=
  fun j v hv => (World.cell?_of_block (w := w) (hgr.block g hg (fun e => hne e.symm))).trans (h j v hv)
theorem boxDrewN {w : World} {g : Nat} {vs : List Value} (h : Box w g vs) (q : Nat) : Box (w.drewN q) g vs := h
theorem ownKept {w w' : World} {b : Nat} {v : Value} {row : Option Nat} {zs : List Int} (h : Own w b v zs) (hg : w.grownBy w' row) (hne : ∀ q, v.ownBlock = some q → row ≠ some q) : Own w' b v zs := by
  refine World.ownsRow.kept h hg ?_
  cases hv : v.ownBlock with
  | none => exact .inl rfl
  | some q => exact .inr (fun e => hne q hv e.symm)
theorem grown_set {w wr : World} {g : Nat} (h : w.grownBy wr (some g)) (o : Nat) (v : Value) : w.grownBy (wr.setCell ⟨g, o, none⟩ v) (some g) :=
  grownBy_trans h ⟨rfl, rfl, rfl, by simp, fun k _ hk => heap_setCell_other wr ⟨g, o, none⟩ k _ (fun e => hk (by rw [e]))⟩
theorem own_set {w : World} {b e sz n : Nat} {v : Value} {cs : List Value} (h : w.ownsRow b e sz v n cs) {g : Nat} (hg : g < b) (o : Nat) (u : Value) : (w.setCell ⟨g, o, none⟩ u).ownsRow b e sz v n cs := ownsRow_setCell_below h (a := ⟨g, o, none⟩) hg u
theorem results_one {fn : Func} {p : Tmp} {ty : TypeId} {v : Value} {g : Addr} (h : fn.results = #[.cell p ty]) (tmps : Array Value) (P : Program) (w : World) (hg : tmps.getD p undef = .pointer (some g)) (hl : (loadVar ty g).run P w = .ok v w) :
    (results fn tmps).run P w = .ok v w := by
  have h' : ((asAddr (tmps.getD p undef)).run P w).andThen (fun a w₁ => (loadVar ty a).run P w₁) = .ok v w := by rw [hg]; simpa [asAddr, Result.andThen] using hl
  simp only [results, h]
  simpa [Sem.run_bind, Result.andThen] using h'
theorem results_ct {fn : Func} {p u : Tmp} {ty : TypeId} {v : Value} {g : Addr} (h : fn.results = #[.cell p ty, .tmp u]) (tmps : Array Value) (P : Program) (w : World) (hg : tmps.getD p undef = .pointer (some g)) (hl : (loadVar ty g).run P w = .ok v w) :
    (results fn tmps).run P w = .ok (.tuple #[v, tmps.getD u undef]) w := by
  rw [results_cell_tmp h, hg]
  simp [asAddr, Result.andThen, hl]
theorem results_cct {fn : Func} {p0 p1 u : Tmp} {t0 t1 : TypeId} {v0 v1 : Value} {g0 g1 : Addr} (h : fn.results = #[.cell p0 t0, .cell p1 t1, .tmp u]) (tmps : Array Value) (P : Program) (w : World)
    (hg0 : tmps.getD p0 undef = .pointer (some g0)) (hg1 : tmps.getD p1 undef = .pointer (some g1)) (hl0 : (loadVar t0 g0).run P w = .ok v0 w) (hl1 : (loadVar t1 g1).run P w = .ok v1 w) :
    (results fn tmps).run P w = .ok (.tuple #[v0, v1, tmps.getD u undef]) w := by
  have h' : ((asAddr (tmps.getD p0 undef)).run P w).andThen (fun a w₁ => ((loadVar t0 a).run P w₁).andThen fun x w₂ => ((asAddr (tmps.getD p1 undef)).run P w₂).andThen (fun a w₃ => ((loadVar t1 a).run P w₃).andThen fun y w₄ => Result.ok (Value.tuple #[x, y, tmps.getD u undef]) w₄)) = Result.ok (Value.tuple #[v0, v1, tmps.getD u undef]) w := by
    rw [hg0, hg1]
    simp [asAddr, Result.andThen, hl0, hl1]
  simp only [results, h]
  simpa [Sem.run_bind, Result.andThen] using h'
end Go.Proofs.Ytllghgcancennaa
