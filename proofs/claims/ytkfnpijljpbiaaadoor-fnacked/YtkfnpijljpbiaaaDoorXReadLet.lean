/-
  What readAt makes of a nod.
-/
import Derived.Test.YtkfnpijljpbiaaaDoorXTakeLet
import Derived.Deep.RegionHeldLaw
import Derived.Defers
import Derived.Recover
namespace Go.Proofs.YtkfnpijljpbiaaaDoor
open Go.RowKit

set_option maxRecDepth 100000 in
theorem catchIdleL (g : Nat) (w : World) :
    CallsD Tryd.prog 67 #[.pointer (some ⟨g, 0, none⟩), .pointer (some ⟨g + 1, 0, none⟩), .pointer (some ⟨g + 1 + 1, 0, none⟩)] .returning w fun e u' w' => e = .returned (.tuple #[]) ∧ u' = .returning ∧ w' = w := by
  refine callsD_of_wpS Tryd.func67 rfl fun c₀ cs hu => ?_
  apply wpS_seq
  apply wpS_region
  simp [wpOpsS, go_sem, recoverD, hu, Tryd.ntmps67, Exit.thenS]
  refine wpS_cond (t := false) (by simp [Act.eval, Array.replicate]) ?_
  simp only [Bool.false_eq_true, if_false]
  refine wpS_of_wp (wp_skip ?_)
  cases c₀
  simp_all [bodyPostS, results, Tryd.results67]
theorem results3L {fn : Func} {p0 p1 p2 : Tmp} {t0 t1 t2 : TypeId} {v0 v1 v2 : Value} {g0 g1 g2 : Addr} (h : fn.results = #[.cell p0 t0, .cell p1 t1, .cell p2 t2]) (tmps : Array Value) (P : Program) (w : World)
    (hg0 : tmps.getD p0 undef = .pointer (some g0)) (hg1 : tmps.getD p1 undef = .pointer (some g1)) (hg2 : tmps.getD p2 undef = .pointer (some g2))
    (hl0 : (loadVar t0 g0).run P w = .ok v0 w) (hl1 : (loadVar t1 g1).run P w = .ok v1 w) (hl2 : (loadVar t2 g2).run P w = .ok v2 w) :
    (results fn tmps).run P w = .ok (.tuple #[v0, v1, v2]) w := by
  have h' : ((asAddr (tmps.getD p0 undef)).run P w).andThen (fun a w₁ => ((loadVar t0 a).run P w₁).andThen fun x w₂ => ((asAddr (tmps.getD p1 undef)).run P w₂).andThen (fun a w₃ => ((loadVar t1 a).run P w₃).andThen fun y w₄ => ((asAddr (tmps.getD p2 undef)).run P w₄).andThen (fun a w₅ => ((loadVar t2 a).run P w₅).andThen fun z w₆ => Result.ok (Value.tuple #[x, y, z]) w₆))) = Result.ok (Value.tuple #[v0, v1, v2]) w := by
    rw [hg0, hg1, hg2]
    simp [asAddr, Result.andThen, hl0, hl1, hl2]
  simp only [results, h]
  simpa [Sem.run_bind, Result.andThen] using h'
theorem ldIntL {w : World} {g : Nat} {x : Int} (h : w.heap[g]? = some (.cells #[.int .i64 x] 3 (0, 0))) : (loadVar 3 ⟨g, 0, none⟩).run Tryd.prog w = .ok (.int .i64 x) w := by
  have c := (box_of h).1 0 _ rfl
  simp [go_sem, c]
theorem ldBoolL {w : World} {g : Nat} {x : Bool} (h : w.heap[g]? = some (.cells #[.bool x] 4 (0, 0))) : (loadVar 4 ⟨g, 0, none⟩).run Tryd.prog w = .ok (.bool x) w := by
  have c := (box_of h).1 0 _ rfl
  simp [go_sem, c]
theorem step_storeL {P : Program} {ops : Array Oper} {o : Oper} {a : Act} {w : World} {K : Act → World → Prop} {Q : Exit → Act → World → Prop} {E : Prop} (hgd : o.guard = none) (hd : o.dst = none) (ty : TypeId) (x y : Operand) (ho : o.op = .store ty x y)
    (g : Nat) (cells : Array Value) (hx : a.eval x = .pointer (some ⟨g, 0, none⟩)) (hy : a.eval y = .agg cells) (t : TypeId) (old : Array Value) (hg : w.heap[g]? = some (.cells old t (0, 0))) (hi : (P.info? ty).map (·.size) = some cells.size)
    (hold : old.size = cells.size) (h1 : cells.all (·.oneCell') = true) (h : K a (w.setRow g cells)) : if Region.wanted o (yielded ops a.tmps) = true then Oper.wp P o a w K Q else E := by
  have hw : Region.wanted o (yielded ops a.tmps) = true := by simp [Region.wanted, hgd]
  rw [if_pos hw]
  refine wp_store_row ty x y ho g cells hx hy t old hg hi hold h1 ?_
  rw [hd]
  exact h
theorem put10L {w : World} {g : Nat} {T : TypeId} {a0 a1 a2 a3 a4 a5 a6 a7 a8 a9 : Value} (h : w.heap[g]? = some (.cells #[a0, a1, a2, a3, a4, a5, a6, a7, a8, a9] T (0, 0))) (b0 b1 b2 b3 b4 b5 b6 b7 b8 b9 : Value) :
    ((((((((((w.setCell ⟨g, 0, none⟩ b0).setCell ⟨g, 1, none⟩ b1).setCell ⟨g, 2, none⟩ b2).setCell ⟨g, 3, none⟩ b3).setCell ⟨g, 4, none⟩ b4).setCell ⟨g, 5, none⟩ b5).setCell ⟨g, 6, none⟩ b6).setCell ⟨g, 7, none⟩ b7).setCell ⟨g, 8, none⟩ b8).setCell ⟨g, 9, none⟩ b9).heap[g]? = some (.cells #[b0, b1, b2, b3, b4, b5, b6, b7, b8, b9] T (0, 0)) := by
  have h0 : (w.setCell ⟨g, 0, none⟩ b0).heap[g]? = some (.cells #[b0, a1, a2, a3, a4, a5, a6, a7, a8, a9] T (0, 0)) := heap_setCell_same _ g 0 _ T b0 h
  have h1 : ((w.setCell ⟨g, 0, none⟩ b0).setCell ⟨g, 1, none⟩ b1).heap[g]? = some (.cells #[b0, b1, a2, a3, a4, a5, a6, a7, a8, a9] T (0, 0)) := heap_setCell_same _ g 1 _ T b1 h0
  have h2 : (((w.setCell ⟨g, 0, none⟩ b0).setCell ⟨g, 1, none⟩ b1).setCell ⟨g, 2, none⟩ b2).heap[g]? = some (.cells #[b0, b1, b2, a3, a4, a5, a6, a7, a8, a9] T (0, 0)) := heap_setCell_same _ g 2 _ T b2 h1
  have h3 : ((((w.setCell ⟨g, 0, none⟩ b0).setCell ⟨g, 1, none⟩ b1).setCell ⟨g, 2, none⟩ b2).setCell ⟨g, 3, none⟩ b3).heap[g]? = some (.cells #[b0, b1, b2, b3, a4, a5, a6, a7, a8, a9] T (0, 0)) := heap_setCell_same _ g 3 _ T b3 h2
  have h4 : (((((w.setCell ⟨g, 0, none⟩ b0).setCell ⟨g, 1, none⟩ b1).setCell ⟨g, 2, none⟩ b2).setCell ⟨g, 3, none⟩ b3).setCell ⟨g, 4, none⟩ b4).heap[g]? = some (.cells #[b0, b1, b2, b3, b4, a5, a6, a7, a8, a9] T (0, 0)) := heap_setCell_same _ g 4 _ T b4 h3
  have h5 : ((((((w.setCell ⟨g, 0, none⟩ b0).setCell ⟨g, 1, none⟩ b1).setCell ⟨g, 2, none⟩ b2).setCell ⟨g, 3, none⟩ b3).setCell ⟨g, 4, none⟩ b4).setCell ⟨g, 5, none⟩ b5).heap[g]? = some (.cells #[b0, b1, b2, b3, b4, b5, a6, a7, a8, a9] T (0, 0)) := heap_setCell_same _ g 5 _ T b5 h4
  have h6 : (((((((w.setCell ⟨g, 0, none⟩ b0).setCell ⟨g, 1, none⟩ b1).setCell ⟨g, 2, none⟩ b2).setCell ⟨g, 3, none⟩ b3).setCell ⟨g, 4, none⟩ b4).setCell ⟨g, 5, none⟩ b5).setCell ⟨g, 6, none⟩ b6).heap[g]? = some (.cells #[b0, b1, b2, b3, b4, b5, b6, a7, a8, a9] T (0, 0)) := heap_setCell_same _ g 6 _ T b6 h5
  have h7 : ((((((((w.setCell ⟨g, 0, none⟩ b0).setCell ⟨g, 1, none⟩ b1).setCell ⟨g, 2, none⟩ b2).setCell ⟨g, 3, none⟩ b3).setCell ⟨g, 4, none⟩ b4).setCell ⟨g, 5, none⟩ b5).setCell ⟨g, 6, none⟩ b6).setCell ⟨g, 7, none⟩ b7).heap[g]? = some (.cells #[b0, b1, b2, b3, b4, b5, b6, b7, a8, a9] T (0, 0)) := heap_setCell_same _ g 7 _ T b7 h6
  have h8 : (((((((((w.setCell ⟨g, 0, none⟩ b0).setCell ⟨g, 1, none⟩ b1).setCell ⟨g, 2, none⟩ b2).setCell ⟨g, 3, none⟩ b3).setCell ⟨g, 4, none⟩ b4).setCell ⟨g, 5, none⟩ b5).setCell ⟨g, 6, none⟩ b6).setCell ⟨g, 7, none⟩ b7).setCell ⟨g, 8, none⟩ b8).heap[g]? = some (.cells #[b0, b1, b2, b3, b4, b5, b6, b7, b8, a9] T (0, 0)) := heap_setCell_same _ g 8 _ T b8 h7
  have h9 : ((((((((((w.setCell ⟨g, 0, none⟩ b0).setCell ⟨g, 1, none⟩ b1).setCell ⟨g, 2, none⟩ b2).setCell ⟨g, 3, none⟩ b3).setCell ⟨g, 4, none⟩ b4).setCell ⟨g, 5, none⟩ b5).setCell ⟨g, 6, none⟩ b6).setCell ⟨g, 7, none⟩ b7).setCell ⟨g, 8, none⟩ b8).setCell ⟨g, 9, none⟩ b9).heap[g]? = some (.cells #[b0, b1, b2, b3, b4, b5, b6, b7, b8, b9] T (0, 0)) := heap_setCell_same _ g 9 _ T b9 h8
  exact h9
theorem put12L {w : World} {g : Nat} {T : TypeId} {a0 a1 a2 a3 a4 a5 a6 a7 a8 a9 y0 z0 : Value} (h : w.heap[g]? = some (.cells #[a0, a1, a2, a3, a4, a5, a6, a7, a8, a9] T (0, 0))) (h1 : w.heap[g + 1]? = some (.cells #[y0] 3 (0, 0))) (h2 : w.heap[g + 1 + 1]? = some (.cells #[z0] 4 (0, 0))) (b0 b1 b2 b3 b4 b5 b6 b7 b8 b9 y z : Value) :
    ((((((((((((w.setCell ⟨g, 0, none⟩ b0).setCell ⟨g, 1, none⟩ b1).setCell ⟨g, 2, none⟩ b2).setCell ⟨g, 3, none⟩ b3).setCell ⟨g, 4, none⟩ b4).setCell ⟨g, 5, none⟩ b5).setCell ⟨g, 6, none⟩ b6).setCell ⟨g, 7, none⟩ b7).setCell ⟨g, 8, none⟩ b8).setCell ⟨g, 9, none⟩ b9).setCell ⟨g + 1, 0, none⟩ y).setCell ⟨g + 1 + 1, 0, none⟩ z).heap[g]? = some (.cells #[b0, b1, b2, b3, b4, b5, b6, b7, b8, b9] T (0, 0)) ∧ ((((((((((((w.setCell ⟨g, 0, none⟩ b0).setCell ⟨g, 1, none⟩ b1).setCell ⟨g, 2, none⟩ b2).setCell ⟨g, 3, none⟩ b3).setCell ⟨g, 4, none⟩ b4).setCell ⟨g, 5, none⟩ b5).setCell ⟨g, 6, none⟩ b6).setCell ⟨g, 7, none⟩ b7).setCell ⟨g, 8, none⟩ b8).setCell ⟨g, 9, none⟩ b9).setCell ⟨g + 1, 0, none⟩ y).setCell ⟨g + 1 + 1, 0, none⟩ z).heap[g + 1]? = some (.cells #[y] 3 (0, 0)) ∧ ((((((((((((w.setCell ⟨g, 0, none⟩ b0).setCell ⟨g, 1, none⟩ b1).setCell ⟨g, 2, none⟩ b2).setCell ⟨g, 3, none⟩ b3).setCell ⟨g, 4, none⟩ b4).setCell ⟨g, 5, none⟩ b5).setCell ⟨g, 6, none⟩ b6).setCell ⟨g, 7, none⟩ b7).setCell ⟨g, 8, none⟩ b8).setCell ⟨g, 9, none⟩ b9).setCell ⟨g + 1, 0, none⟩ y).setCell ⟨g + 1 + 1, 0, none⟩ z).heap[g + 1 + 1]? = some (.cells #[z] 4 (0, 0)) := by
  have p0 := put10L h b0 b1 b2 b3 b4 b5 b6 b7 b8 b9
  have oth : ∀ q, q ≠ g → ((((((((((w.setCell ⟨g, 0, none⟩ b0).setCell ⟨g, 1, none⟩ b1).setCell ⟨g, 2, none⟩ b2).setCell ⟨g, 3, none⟩ b3).setCell ⟨g, 4, none⟩ b4).setCell ⟨g, 5, none⟩ b5).setCell ⟨g, 6, none⟩ b6).setCell ⟨g, 7, none⟩ b7).setCell ⟨g, 8, none⟩ b8).setCell ⟨g, 9, none⟩ b9).heap[q]? = w.heap[q]? := fun q hq => by
    rw [heap_setCell_other _ _ _ _ hq, heap_setCell_other _ _ _ _ hq, heap_setCell_other _ _ _ _ hq, heap_setCell_other _ _ _ _ hq, heap_setCell_other _ _ _ _ hq, heap_setCell_other _ _ _ _ hq, heap_setCell_other _ _ _ _ hq, heap_setCell_other _ _ _ _ hq, heap_setCell_other _ _ _ _ hq, heap_setCell_other _ _ _ _ hq]
  have p1 := (oth (g + 1) (by omega)).trans h1
  have p2 := (oth (g + 1 + 1) (by omega)).trans h2
  generalize ((((((((((w.setCell ⟨g, 0, none⟩ b0).setCell ⟨g, 1, none⟩ b1).setCell ⟨g, 2, none⟩ b2).setCell ⟨g, 3, none⟩ b3).setCell ⟨g, 4, none⟩ b4).setCell ⟨g, 5, none⟩ b5).setCell ⟨g, 6, none⟩ b6).setCell ⟨g, 7, none⟩ b7).setCell ⟨g, 8, none⟩ b8).setCell ⟨g, 9, none⟩ b9) = W at p0 p1 p2 ⊢
  refine ⟨?_, ?_, ?_⟩
  · rw [heap_setCell_other _ _ _ _ (by simp; omega), heap_setCell_other _ _ _ _ (by simp)]; exact p0
  · rw [heap_setCell_other _ _ _ _ (by simp)]; exact heap_setCell_same W (g + 1) 0 _ 3 y p1
  · exact heap_setCell_same _ (g + 1 + 1) 0 _ 4 z ((heap_setCell_other W ⟨g + 1, 0, none⟩ (g + 1 + 1) y (by simp)).trans p2)
theorem below_put12L {B : Nat} {w0 w : World} (h : Below B w0 w) {g : Nat} (hg : B ≤ g) (b0 b1 b2 b3 b4 b5 b6 b7 b8 b9 y z : Value) : Below B w0 ((((((((((((w.setCell ⟨g, 0, none⟩ b0).setCell ⟨g, 1, none⟩ b1).setCell ⟨g, 2, none⟩ b2).setCell ⟨g, 3, none⟩ b3).setCell ⟨g, 4, none⟩ b4).setCell ⟨g, 5, none⟩ b5).setCell ⟨g, 6, none⟩ b6).setCell ⟨g, 7, none⟩ b7).setCell ⟨g, 8, none⟩ b8).setCell ⟨g, 9, none⟩ b9).setCell ⟨g + 1, 0, none⟩ y).setCell ⟨g + 1 + 1, 0, none⟩ z) :=
  (((((((((((h.setCell (p := ⟨g, 0, none⟩) hg b0).setCell (p := ⟨g, 1, none⟩) hg b1).setCell (p := ⟨g, 2, none⟩) hg b2).setCell (p := ⟨g, 3, none⟩) hg b3).setCell (p := ⟨g, 4, none⟩) hg b4).setCell (p := ⟨g, 5, none⟩) hg b5).setCell (p := ⟨g, 6, none⟩) hg b6).setCell (p := ⟨g, 7, none⟩) hg b7).setCell (p := ⟨g, 8, none⟩) hg b8).setCell (p := ⟨g, 9, none⟩) hg b9).setCell (p := ⟨g + 1, 0, none⟩) (by simp; omega) y).setCell (p := ⟨g + 1 + 1, 0, none⟩) (by simp; omega) z
theorem loadLetd {w : World} {g : Nat} {a0 a1 a2 a3 a4 a5 a6 a7 a8 a9 : Value} (h : w.heap[g]? = some (.cells #[a0, a1, a2, a3, a4, a5, a6, a7, a8, a9] 52 (0, 0))) : (loadVar 52 ⟨g, 0, none⟩).run Tryd.prog w.drew = .ok (.agg #[a0, a1, a2, a3, a4, a5, a6, a7, a8, a9]) w.drew := loadLet (w := w.drew) h
theorem ldIntLd {w : World} {g : Nat} {x : Int} (h : w.heap[g]? = some (.cells #[.int .i64 x] 3 (0, 0))) : (loadVar 3 ⟨g, 0, none⟩).run Tryd.prog w.drew = .ok (.int .i64 x) w.drew := ldIntL (w := w.drew) h
theorem ldBoolLd {w : World} {g : Nat} {x : Bool} (h : w.heap[g]? = some (.cells #[.bool x] 4 (0, 0))) : (loadVar 4 ⟨g, 0, none⟩).run Tryd.prog w.drew = .ok (.bool x) w.drew := ldBoolL (w := w.drew) h
theorem step_store1 {P : Program} {ops : Array Oper} {o : Oper} {a : Act} {w : World} {K : Act → World → Prop} {Q : Exit → Act → World → Prop} {E : Prop} (hgd : o.guard = none) (hd : o.dst = none) (ty : TypeId) (x y : Operand) (ho : o.op = .store ty x y)
    (g : Nat) (v : Value) (hx : a.eval x = .pointer (some ⟨g, 0, none⟩)) (hy : a.eval y = v) (h1 : v.oneCell' = true) (t : TypeId) (old : Value) (hg : w.heap[g]? = some (.cells #[old] t (0, 0))) (hi : (P.info? ty).map (·.size) = some 1)
    (h : K a (w.setRow g #[v])) : if Region.wanted o (yielded ops a.tmps) = true then Oper.wp P o a w K Q else E := by
  have hw : Region.wanted o (yielded ops a.tmps) = true := by simp [Region.wanted, hgd]
  rw [if_pos hw]
  subst hy
  unfold Oper.wp execOp
  simp only [ho, hx, Instr.storeAt, Instr.sureAddr, Sem.run_bind, Sem.run_pure, Result.andThen_ok, run_storeVar_one w g t ty old _ hg hi h1]
  show K (a.put o.dst undef) _
  rw [hd]
  exact h
set_option maxRecDepth 100000 in
set_option maxHeartbeats 4000000 in
theorem readNod (w : World) (a : Option Addr) (len cap : Nat) (zs : List Int) (t : TypeId) (v : Value) (k1 nx : Nat) (n : Int) (h0 : 0 < w.heap.size) (hin : In w w.heap.size a len zs) (hE : Err w t v) (hf : rFlag zs 0 = some (false, k1)) (hn : gnF zs 4 k1 0 1 = some (n, nx)) :
    Calls Tryd.prog 50 #[.slice a len cap, .int .i64 0, .func (.func 51) #[] #[]] w fun e w' => e = .returned (.tuple #[nodV n, .int .i64 (nx : Int), .bool true]) ∧ Below w.heap.size w w' := by
  have hmf : ∀ (fn : Fn) (first cap : Array Value) (w : World), (Instr.makeFunc fn first cap).run Tryd.prog w = .ok (.func fn first cap) w := fun _ _ _ _ => rfl
  have bA := (((Below.refl w.heap.size w).alloc (Nat.le_refl _) (.cells #[.bool false, .int .i64 0, .int .i64 0, .int .i64 0, .int .i64 0, .int .i64 0, .int .i64 0, .int .i64 0, .slice none 0 0, .slice none 0 0] 52)).alloc (by simp) (.cells #[.int .i64 0] 3)).alloc (by simp; omega) (.cells #[.bool false] 4) |>.alloc (by simp; omega) (.cells #[.int .i64 0] 3)
  have e0 := heap_alloc_new w (.cells #[.bool false, .int .i64 0, .int .i64 0, .int .i64 0, .int .i64 0, .int .i64 0, .int .i64 0, .int .i64 0, .slice none 0 0, .slice none 0 0] 52)
  have e1 := heap_alloc_new (w.alloc (.cells #[.bool false, .int .i64 0, .int .i64 0, .int .i64 0, .int .i64 0, .int .i64 0, .int .i64 0, .int .i64 0, .slice none 0 0, .slice none 0 0] 52)) (.cells #[.int .i64 0] 3)
  have e2 := heap_alloc_new ((w.alloc (.cells #[.bool false, .int .i64 0, .int .i64 0, .int .i64 0, .int .i64 0, .int .i64 0, .int .i64 0, .int .i64 0, .slice none 0 0, .slice none 0 0] 52)).alloc (.cells #[.int .i64 0] 3)) (.cells #[.bool false] 4)
  have e3 := heap_alloc_new (((w.alloc (.cells #[.bool false, .int .i64 0, .int .i64 0, .int .i64 0, .int .i64 0, .int .i64 0, .int .i64 0, .int .i64 0, .slice none 0 0, .slice none 0 0] 52)).alloc (.cells #[.int .i64 0] 3)).alloc (.cells #[.bool false] 4)) (.cells #[.int .i64 0] 3)
  simp only [World.size_alloc] at e1 e2 e3
  have f0 : ((((w.alloc (.cells #[.bool false, .int .i64 0, .int .i64 0, .int .i64 0, .int .i64 0, .int .i64 0, .int .i64 0, .int .i64 0, .slice none 0 0, .slice none 0 0] 52)).alloc (.cells #[.int .i64 0] 3)).alloc (.cells #[.bool false] 4)).alloc (.cells #[.int .i64 0] 3)).heap[w.heap.size]? = some (.cells #[.bool false, .int .i64 0, .int .i64 0, .int .i64 0, .int .i64 0, .int .i64 0, .int .i64 0, .int .i64 0, .slice none 0 0, .slice none 0 0] 52 (0, 0)) := by rw [Below.heap_alloc _ _ _ (by first | (simp; done) | (simp; omega)), Below.heap_alloc _ _ _ (by first | (simp; done) | (simp; omega)), Below.heap_alloc _ _ _ (by first | (simp; done) | (simp; omega))]; exact e0
  have f1 : ((((w.alloc (.cells #[.bool false, .int .i64 0, .int .i64 0, .int .i64 0, .int .i64 0, .int .i64 0, .int .i64 0, .int .i64 0, .slice none 0 0, .slice none 0 0] 52)).alloc (.cells #[.int .i64 0] 3)).alloc (.cells #[.bool false] 4)).alloc (.cells #[.int .i64 0] 3)).heap[w.heap.size + 1]? = some (.cells #[.int .i64 0] 3 (0, 0)) := by rw [Below.heap_alloc _ _ _ (by first | (simp; done) | (simp; omega)), Below.heap_alloc _ _ _ (by first | (simp; done) | (simp; omega))]; exact e1
  have f2 : ((((w.alloc (.cells #[.bool false, .int .i64 0, .int .i64 0, .int .i64 0, .int .i64 0, .int .i64 0, .int .i64 0, .int .i64 0, .slice none 0 0, .slice none 0 0] 52)).alloc (.cells #[.int .i64 0] 3)).alloc (.cells #[.bool false] 4)).alloc (.cells #[.int .i64 0] 3)).heap[w.heap.size + 1 + 1]? = some (.cells #[.bool false] 4 (0, 0)) := by rw [Below.heap_alloc _ _ _ (by first | (simp; done) | (simp; omega))]; exact e2
  have HRd : Hid (Rdr ((((w.alloc (.cells #[.bool false, .int .i64 0, .int .i64 0, .int .i64 0, .int .i64 0, .int .i64 0, .int .i64 0, .int .i64 0, .slice none 0 0, .slice none 0 0] 52)).alloc (.cells #[.int .i64 0] 3)).alloc (.cells #[.bool false] 4)).alloc (.cells #[.int .i64 0] 3)) w.heap.size a len zs (w.heap.size + 1 + 1 + 1) 0 t v) := hide ⟨hin.low bA (Nat.le_refl _), by omega, by omega, hE.low bA h0, e3⟩
  have HBA := hide bA
  have H0 := hide f0
  have H1 := hide f1
  have H2 := hide f2
  have hsz : ((((w.alloc (.cells #[.bool false, .int .i64 0, .int .i64 0, .int .i64 0, .int .i64 0, .int .i64 0, .int .i64 0, .int .i64 0, .slice none 0 0, .slice none 0 0] 52)).alloc (.cells #[.int .i64 0] 3)).alloc (.cells #[.bool false] 4)).alloc (.cells #[.int .i64 0] 3)).heap.size = w.heap.size + 1 + 1 + 1 + 1 := by simp
  have HSZ := hide hsz
  clear bA e0 e1 e2 e3 f0 f1 f2 hin hE hsz
  go_enter_defers Tryd.func50, Tryd.ntmps50
  go_wp2_with fail
  generalize ((((w.alloc (.cells #[.bool false, .int .i64 0, .int .i64 0, .int .i64 0, .int .i64 0, .int .i64 0, .int .i64 0, .int .i64 0, .slice none 0 0, .slice none 0 0] 52)).alloc (.cells #[.int .i64 0] 3)).alloc (.cells #[.bool false] 4)).alloc (.cells #[.int .i64 0] 3)) = W4 at *
  refine (rdNod cap HRd.out k1 nx n hf hn).mono ?_
  rintro e w1 ⟨rfl, hp1, hg1⟩
  have hz1 := HSZ.out
  have H0a := hide ((hg1.block w.heap.size (by omega) (fun e => by simp only [Option.some.injEq] at e; omega)).trans H0.out)
  have H1a := hide ((hg1.block (w.heap.size + 1) (by omega) (fun e => by simp only [Option.some.injEq] at e; omega)).trans H1.out)
  have H2a := hide ((hg1.block (w.heap.size + 1 + 1) (by omega) (fun e => by simp only [Option.some.injEq] at e; omega)).trans H2.out)
  have H3a := hide hp1
  have HB := hide (HBA.out.grown hg1 HBA.out.size (fun k hk => by simp only [Option.some.injEq] at hk; omega))
  have hi : ((Tryd.prog.info? 52).map (·.size)) = some 10 := by kernel_rfl
  clear hp1 hg1 H0 H1 H2 HBA HRd HSZ hz1 hf hn
  unfold nodV
  go_upto_region 4 with (refine wpList_store_rowTo rfl 52 (.tmp 6) (.tmp 14) rfl rfl w.heap.size #[.bool false, .int .i64 0, .int .i64 n, .int .i64 0, .int .i64 0, .int .i64 0, .int .i64 0, .int .i64 0, .slice none 0 0, .slice none 0 0] rfl rfl _ _ H0a.out hi rfl (by simp [Value.oneCell']) ?_)
  have G0 : Hid ((w1.setRow w.heap.size #[.bool false, .int .i64 0, .int .i64 n, .int .i64 0, .int .i64 0, .int .i64 0, .int .i64 0, .int .i64 0, .slice none 0 0, .slice none 0 0]).heap[w.heap.size]? = some (.cells #[.bool false, .int .i64 0, .int .i64 n, .int .i64 0, .int .i64 0, .int .i64 0, .int .i64 0, .int .i64 0, .slice none 0 0, .slice none 0 0] 52 (0, 0))) := hide (setRow_heap w1 w.heap.size _ #[.bool false, .int .i64 0, .int .i64 n, .int .i64 0, .int .i64 0, .int .i64 0, .int .i64 0, .int .i64 0, .slice none 0 0, .slice none 0 0] _ _ H0a.out)
  have G1 := hide ((setRow_other w1 w.heap.size (w.heap.size + 1) #[.bool false, .int .i64 0, .int .i64 n, .int .i64 0, .int .i64 0, .int .i64 0, .int .i64 0, .int .i64 0, .slice none 0 0, .slice none 0 0] (by omega)).trans H1a.out)
  have G2 := hide ((setRow_other w1 w.heap.size (w.heap.size + 1 + 1) #[.bool false, .int .i64 0, .int .i64 n, .int .i64 0, .int .i64 0, .int .i64 0, .int .i64 0, .int .i64 0, .slice none 0 0, .slice none 0 0] (by omega)).trans H2a.out)
  have G3 := hide ((setRow_other w1 w.heap.size (w.heap.size + 1 + 1 + 1) #[.bool false, .int .i64 0, .int .i64 n, .int .i64 0, .int .i64 0, .int .i64 0, .int .i64 0, .int .i64 0, .slice none 0 0, .slice none 0 0] (by omega)).trans H3a.out)
  replace HB := hide (below_setRow HB.out (Nat.le_refl _) #[.bool false, .int .i64 0, .int .i64 n, .int .i64 0, .int .i64 0, .int .i64 0, .int .i64 0, .int .i64 0, .slice none 0 0, .slice none 0 0])
  clear H0a H1a H2a H3a
  generalize w1.setRow w.heap.size #[.bool false, .int .i64 0, .int .i64 n, .int .i64 0, .int .i64 0, .int .i64 0, .int .i64 0, .int .i64 0, .slice none 0 0, .slice none 0 0] = W at *
  have c0 : W.cell? ⟨w.heap.size, 0, none⟩ = some (.bool false) := (box_of G0.out).1 0 _ rfl
  have c1 : W.cell? ⟨w.heap.size, 1, none⟩ = some (.int .i64 0) := (box_of G0.out).1 1 _ rfl
  have c2 : W.cell? ⟨w.heap.size, 2, none⟩ = some (.int .i64 n) := (box_of G0.out).1 2 _ rfl
  have c3 : W.cell? ⟨w.heap.size, 3, none⟩ = some (.int .i64 0) := (box_of G0.out).1 3 _ rfl
  have c4 : W.cell? ⟨w.heap.size, 4, none⟩ = some (.int .i64 0) := (box_of G0.out).1 4 _ rfl
  have c5 : W.cell? ⟨w.heap.size, 5, none⟩ = some (.int .i64 0) := (box_of G0.out).1 5 _ rfl
  have c6 : W.cell? ⟨w.heap.size, 6, none⟩ = some (.int .i64 0) := (box_of G0.out).1 6 _ rfl
  have c7 : W.cell? ⟨w.heap.size, 7, none⟩ = some (.int .i64 0) := (box_of G0.out).1 7 _ rfl
  have c8 : W.cell? ⟨w.heap.size, 8, none⟩ = some (.slice none 0 0) := (box_of G0.out).1 8 _ rfl
  have c9 : W.cell? ⟨w.heap.size, 9, none⟩ = some (.slice none 0 0) := (box_of G0.out).1 9 _ rfl
  have d3 : W.cell? ⟨w.heap.size + 1 + 1 + 1, 0, none⟩ = some (.int .i64 (nx : Int)) := (box_of G3.out).1 0 _ rfl
  have d1 : W.cell? ⟨w.heap.size + 1, 0, none⟩ = some (.int .i64 0) := (box_of G1.out).1 0 _ rfl
  have d2 : W.cell? ⟨w.heap.size + 1 + 1, 0, none⟩ = some (.bool false) := (box_of G2.out).1 0 _ rfl
  have z0 : ∀ k, W.frozen? ⟨w.heap.size, k, none⟩ = false := (box_of G0.out).2
  have z1 : ∀ k, W.frozen? ⟨w.heap.size + 1, k, none⟩ = false := (box_of G1.out).2
  have z2 : ∀ k, W.frozen? ⟨w.heap.size + 1 + 1, k, none⟩ = false := (box_of G2.out).2
  have DD0 := G0
  have DD1 := G1
  have DD2 := G2
  clear G0 G1 G2 G3
  go_region
  all_goals (
    go_wp2
    refine leaves_cons (f := 67) (args := #[.pointer (some ⟨w.heap.size, 0, none⟩), .pointer (some ⟨w.heap.size + 1, 0, none⟩), .pointer (some ⟨w.heap.size + 1 + 1, 0, none⟩)]) (by simp) (by simp [go_sem]) ?_
    refine (catchIdleL _ _).mono ?_
    rintro e u' w'' ⟨rfl, rfl, rfl⟩
    have P12 := put12L DD0.out DD1.out DD2.out (.bool false) (.int .i64 0) (.int .i64 n) (.int .i64 0) (.int .i64 0) (.int .i64 0) (.int .i64 0) (.int .i64 0) (.slice none 0 0) (.slice none 0 0) (.int .i64 (nx : Int)) (.bool true)
    exact ⟨.tuple #[.agg #[.bool false, .int .i64 0, .int .i64 n, .int .i64 0, .int .i64 0, .int .i64 0, .int .i64 0, .int .i64 0, .slice none 0 0, .slice none 0 0], .int .i64 (nx : Int), .bool true], results3L Tryd.results50 _ _ _ rfl rfl rfl (loadLetd P12.1) (ldIntLd P12.2.1) (ldBoolLd P12.2.2), rfl, (below_put12L HB.out (Nat.le_refl _) _ _ _ _ _ _ _ _ _ _ _ _).drew⟩)
end Go.Proofs.YtkfnpijljpbiaaaDoor
