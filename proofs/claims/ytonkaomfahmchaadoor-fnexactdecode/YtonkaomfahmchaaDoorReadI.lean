/-
  What readAt does with takeCode.
-/
import Derived.Test.YtonkaomfahmchaaDoorReadB
import Derived.Test.YtonkaomfahmchaaDoorRdrB
import Derived.Test.YtonkaomfahmchaaDoorInsD
namespace Go.Proofs.YtonkaomfahmchaaDoor
open Go.RowKit

theorem catchPanicI (g : Nat) (t : TypeId) (pv : Value) (older : List PanicEntry) (w : World) (x : Value) (y : Int) (z : Bool)
    (hp : w.cell? ⟨g, 0, none⟩ = some x) (hq : w.cell? ⟨g + 1, 0, none⟩ = some (.int .i64 y)) (hr : w.cell? ⟨g + 1 + 1, 0, none⟩ = some (.bool z))
    (fp : w.frozen? ⟨g, 0, none⟩ = false) (fq : w.frozen? ⟨g + 1, 0, none⟩ = false) (fr : w.frozen? ⟨g + 1 + 1, 0, none⟩ = false) :
    CallsD Tryd.prog 23 #[.pointer (some ⟨g, 0, none⟩), .pointer (some ⟨g + 1, 0, none⟩), .pointer (some ⟨g + 1 + 1, 0, none⟩)] (.panicking ({ v := .iface t pv, recovered := false } :: older)) w fun e u' w' =>
      e = .returned (.tuple #[]) ∧ u' = .panicking ({ v := .iface t pv, recovered := true } :: older) ∧ w' = ((w.setCell ⟨g, 0, none⟩ (.slice none 0 0)).setCell ⟨g + 1, 0, none⟩ (.int .i64 0)).setCell ⟨g + 1 + 1, 0, none⟩ (.bool false) := by
  refine callsD_of_wpS Tryd.func23 rfl fun c₀ cs hu => ?_
  apply wpS_seq
  apply wpS_region
  simp [wpOpsS, go_sem, recoverD, hu, Tryd.ntmps23, Exit.thenS]
  refine wpS_cond (t := true) (by simp [Act.eval, Array.replicate]) ?_
  simp only [if_true]
  apply wpS_seq
  apply wpS_region
  simp [wpOpsS, go_sem, Exit.thenS]
  apply wpS_region
  simp [wpOpsS, go_sem, hp, hq, hr, fp, fq, fr, bodyPostS, results, Tryd.results23]

theorem catchIdleI (g : Nat) (w : World) :
    CallsD Tryd.prog 23 #[.pointer (some ⟨g, 0, none⟩), .pointer (some ⟨g + 1, 0, none⟩), .pointer (some ⟨g + 1 + 1, 0, none⟩)] .returning w fun e u' w' => e = .returned (.tuple #[]) ∧ u' = .returning ∧ w' = w := by
  refine callsD_of_wpS Tryd.func23 rfl fun c₀ cs hu => ?_
  apply wpS_seq
  apply wpS_region
  simp [wpOpsS, go_sem, recoverD, hu, Tryd.ntmps23, Exit.thenS]
  refine wpS_cond (t := false) (by simp [Act.eval, Array.replicate]) ?_
  simp only [Bool.false_eq_true, if_false]
  refine wpS_of_wp (wp_skip ?_)
  cases c₀
  simp_all [bodyPostS, results, Tryd.results23]

/-- What readAt answers of code. -/
def ansI (b : Nat) (r : Option (List Isn × Nat)) (e : Ending) (w' : World) : Prop :=
  match r with
  | some (xs, nx) => ∃ u, e = .returned (.tuple #[u, .int .i64 (nx : Int), .bool true]) ∧ OwnD w' b w'.heap.size (inss xs) u
  | none => e = .returned (.tuple #[.slice none 0 0, .int .i64 0, .bool false])
set_option maxRecDepth 100000 in
set_option maxHeartbeats 1000000 in
theorem readInsL (w : World) (a : Option Addr) (len cap : Nat) (k : Int) (t : TypeId) (v : Value) (r : Option (List Isn × Nat))
    (hT : ∀ W : World, Below w.heap.size w W → W.heap[w.heap.size + 1 + 1 + 1]? = some (.cells #[.int .i64 k] 3 (0, 0)) →
      Calls Tryd.prog 17 #[.slice a len cap, .pointer (some ⟨w.heap.size + 1 + 1 + 1, 0, none⟩)] W (tookL (fun w' u xs => OwnD w' W.heap.size w'.heap.size (inss xs) u) W (w.heap.size + 1 + 1 + 1) t v r)) :
    Calls Tryd.prog 16 #[.slice a len cap, .int .i64 k, .func (.func 17) #[] #[]] w fun e w' => ansI w.heap.size r e w' ∧ Below w.heap.size w w' := by
  have hmf : ∀ (fn : Fn) (first cap : Array Value) (w : World), (Instr.makeFunc fn first cap).run Tryd.prog w = .ok (.func fn first cap) w := fun _ _ _ _ => rfl
  have HT := hide hT
  clear hT
  go_enter_defers Tryd.func16, Tryd.ntmps16
  go_wp2_with fail
  refine (unhide HT _ ((((Below.refl _ _).alloc (Nat.le_refl _) _).alloc (by simp) _).alloc (by simp; omega) _ |>.alloc (by simp; omega) _) (by
    have := heap_alloc_new (((w.alloc (.cells #[.slice none 0 0] 23)).alloc (.cells #[.int .i64 0] 3)).alloc (.cells #[.bool false] 4)) (.cells #[.int .i64 k] 3)
    simpa using this)).mono ?_
  clear HT
  rintro e w1 ⟨hres, hg1⟩
  obtain ⟨g0, g1, g2, hb1⟩ := four_new hg1
  have HB := hide hb1
  have hs1 : w.heap.size + 4 ≤ w1.heap.size := by have := hg1.size; simp at this; omega
  clear hg1 hb1
  have c0 : w1.cell? ⟨w.heap.size, 0, none⟩ = some (.slice none 0 0) := by rw [cell_of_row _ _ 0 _ 23 (0, 0) g0]; rfl
  have c1 : w1.cell? ⟨w.heap.size + 1, 0, none⟩ = some (.int .i64 0) := by rw [cell_of_row _ _ 0 _ 3 (0, 0) g1]; rfl
  have c2 : w1.cell? ⟨w.heap.size + 1 + 1, 0, none⟩ = some (.bool false) := by rw [cell_of_row _ _ 0 _ 4 (0, 0) g2]; rfl
  have f0 : w1.frozen? ⟨w.heap.size, 0, none⟩ = false := frozen_of_row _ _ 0 _ 23 g0
  have f1 : w1.frozen? ⟨w.heap.size + 1, 0, none⟩ = false := frozen_of_row _ _ 0 _ 3 g1
  have f2 : w1.frozen? ⟨w.heap.size + 1 + 1, 0, none⟩ = false := frozen_of_row _ _ 0 _ 4 g2
  clear g0 g1 g2
  rcases hres with ⟨xs, nx, u, rfl, rfl, ho, hp1⟩ | ⟨rfl, rfl⟩
  · have c3 : w1.cell? ⟨w.heap.size + 1 + 1 + 1, 0, none⟩ = some (.int .i64 (nx : Int)) := by rw [cell_of_row _ _ 0 _ 3 (0, 0) hp1]; rfl
    obtain ⟨ua, uc, hu, _⟩ := (ho.rd (Nat.le_refl _)).shape
    subst hu
    have HO := hide ho
    clear hp1 ho
    go_wp2
    go_region
    go_wp2
    refine leaves_cons (f := 23) (args := #[.pointer (some ⟨w.heap.size, 0, none⟩), .pointer (some ⟨w.heap.size + 1, 0, none⟩), .pointer (some ⟨w.heap.size + 1 + 1, 0, none⟩)]) (by simp) (by simp [go_sem]) ?_
    refine (catchIdleI _ _).mono ?_
    rintro e u' w'' ⟨rfl, rfl, rfl⟩
    simp [Leaves, settle, results, Tryd.results16, go_sem, c0, c1, c2, ansI]
    refine ⟨?_, ((((HB.out.setCell (Nat.le_refl _) _).setCell (Nat.le_refl _) _).setCell (Nat.le_succ _) _).setCell (Nat.le_add_right _ 2) _).drew⟩
    refine OwnD.drewN (((OwnD.same (HO.out.mono (b' := w.heap.size + 1 + 1 + 1) (by simp)) (fun q hq _ _ => ?_)).mono (by omega))) 1
    rw [heap_setCell_other _ _ _ _ (by simp; omega), heap_setCell_other _ _ _ _ (by simp; omega), heap_setCell_other _ _ _ _ (by simp; omega), heap_setCell_other _ _ _ _ (by simp; omega)]
  · go_wp2
    refine leaves_cons (f := 23) (args := #[.pointer (some ⟨w.heap.size, 0, none⟩), .pointer (some ⟨w.heap.size + 1, 0, none⟩), .pointer (some ⟨w.heap.size + 1 + 1, 0, none⟩)]) (by simp) (by simp [go_sem]) ?_
    refine (catchPanicI _ _ _ _ _ _ _ _ c0 c1 c2 f0 f1 f2).mono ?_
    rintro e u' w'' ⟨rfl, rfl, rfl⟩
    simp [Leaves, settle, results, Tryd.results16, go_sem, c0, c1, c2, ansI]
    exact ((HB.out.setCell (Nat.le_refl _) _).setCell (Nat.le_succ _) _).setCell (Nat.le_add_right _ 2) _

end Go.Proofs.YtonkaomfahmchaaDoor
