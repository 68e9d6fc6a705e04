/-
  What readAt does with takeNum: the number, the place behind it and true; 0, 0 and false, where there is none.
-/
import Derived.Test.YtfomgkkiaklpfaaDoorTakeNum
import Derived.Defers
import Derived.Recover
import Derived.Laws.Pointers
import Derived.RegionTactic
import Derived.ChangeAlike
namespace Go.Proofs.YtfomgkkiaklpfaaDoor
open Go.RowKit

theorem catchPanic (g : Nat) (t : TypeId) (pv : Value) (older : List PanicEntry) (w : World) (x y : Int) (z : Bool)
    (hp : w.cell? ⟨g, 0, none⟩ = some (.int .i64 x)) (hq : w.cell? ⟨g + 1, 0, none⟩ = some (.int .i64 y)) (hr : w.cell? ⟨g + 1 + 1, 0, none⟩ = some (.bool z))
    (fp : w.frozen? ⟨g, 0, none⟩ = false) (fq : w.frozen? ⟨g + 1, 0, none⟩ = false) (fr : w.frozen? ⟨g + 1 + 1, 0, none⟩ = false) :
    CallsD Tryd.prog 47 #[.pointer (some ⟨g, 0, none⟩), .pointer (some ⟨g + 1, 0, none⟩), .pointer (some ⟨g + 1 + 1, 0, none⟩)] (.panicking ({ v := .iface t pv, recovered := false } :: older)) w fun e u' w' =>
      e = .returned (.tuple #[]) ∧ u' = .panicking ({ v := .iface t pv, recovered := true } :: older) ∧ w' = ((w.setCell ⟨g, 0, none⟩ (.int .i64 0)).setCell ⟨g + 1, 0, none⟩ (.int .i64 0)).setCell ⟨g + 1 + 1, 0, none⟩ (.bool false) := by
  refine callsD_of_wpS Tryd.func47 rfl fun c₀ cs hu => ?_
  apply wpS_seq
  apply wpS_region
  simp [wpOpsS, go_sem, recoverD, hu, Tryd.ntmps47, Exit.thenS]
  refine wpS_cond (t := true) (by simp [Act.eval, Array.replicate]) ?_
  simp only [if_true]
  apply wpS_seq
  apply wpS_region
  simp [wpOpsS, go_sem, Exit.thenS]
  apply wpS_region
  simp [wpOpsS, go_sem, hp, hq, hr, fp, fq, fr, bodyPostS, results, Tryd.results47]

theorem catchIdle (g : Nat) (w : World) :
    CallsD Tryd.prog 47 #[.pointer (some ⟨g, 0, none⟩), .pointer (some ⟨g + 1, 0, none⟩), .pointer (some ⟨g + 1 + 1, 0, none⟩)] .returning w fun e u' w' => e = .returned (.tuple #[]) ∧ u' = .returning ∧ w' = w := by
  refine callsD_of_wpS Tryd.func47 rfl fun c₀ cs hu => ?_
  apply wpS_seq
  apply wpS_region
  simp [wpOpsS, go_sem, recoverD, hu, Tryd.ntmps47, Exit.thenS]
  refine wpS_cond (t := false) (by simp [Act.eval, Array.replicate]) ?_
  simp only [Bool.false_eq_true, if_false]
  refine wpS_of_wp (wp_skip ?_)
  cases c₀
  simp_all [bodyPostS, results, Tryd.results47]

/-- What readAt answers. -/
def ans (r : Option (Int × Nat)) : Value :=
  match r with
  | some (n, nx) => .tuple #[.int .i64 n, .int .i64 (nx : Int), .bool true]
  | none => .tuple #[.int .i64 0, .int .i64 0, .bool false]

/-- The four new variables, behind a call that has turned none but the last one. -/
theorem four_new {w w1 : World} {x0 : Value} {T : TypeId} {k : Int} (hg : ((((w.alloc (.cells #[x0] T)).alloc (.cells #[.int .i64 0] 3)).alloc (.cells #[.bool false] 4)).alloc (.cells #[.int .i64 k] 3)).grownBy w1 (some (w.heap.size + 1 + 1 + 1))) :
    w1.heap[w.heap.size]? = some (.cells #[x0] T (0, 0)) ∧ w1.heap[w.heap.size + 1]? = some (.cells #[.int .i64 0] 3 (0, 0)) ∧ w1.heap[w.heap.size + 1 + 1]? = some (.cells #[.bool false] 4 (0, 0)) ∧ Below w.heap.size w w1 := by
  have hs : ((((w.alloc (.cells #[x0] T)).alloc (.cells #[.int .i64 0] 3)).alloc (.cells #[.bool false] 4)).alloc (.cells #[.int .i64 k] 3)).heap.size = w.heap.size + 4 := by simp
  have e0 := heap_alloc_new w (.cells #[x0] T)
  have e1 := heap_alloc_new (w.alloc (.cells #[x0] T)) (.cells #[.int .i64 0] 3)
  have e2 := heap_alloc_new ((w.alloc (.cells #[x0] T)).alloc (.cells #[.int .i64 0] 3)) (.cells #[.bool false] 4)
  have n1 : (w.alloc (.cells #[x0] T)).heap.size = w.heap.size + 1 := by simp
  have n2 : ((w.alloc (.cells #[x0] T)).alloc (.cells #[.int .i64 0] 3)).heap.size = w.heap.size + 1 + 1 := by simp
  have n3 : (((w.alloc (.cells #[x0] T)).alloc (.cells #[.int .i64 0] 3)).alloc (.cells #[.bool false] 4)).heap.size = w.heap.size + 1 + 1 + 1 := by simp
  rw [n1] at e1
  rw [n2] at e2
  refine ⟨?_, ?_, ?_, ?_⟩
  · rw [hg.block _ (by omega) (by simp; omega), Below.heap_alloc _ _ _ (by omega), Below.heap_alloc _ _ _ (by omega), Below.heap_alloc _ _ _ (by omega), e0]
  · rw [hg.block _ (by omega) (by simp), Below.heap_alloc _ _ _ (by omega), Below.heap_alloc _ _ _ (by omega), e1]
  · rw [hg.block _ (by omega) (by simp), Below.heap_alloc _ _ _ (by omega), e2]
  · exact ((((Below.refl _ _).alloc (Nat.le_refl _) _).alloc (by simp) _).alloc (by simp; omega) _ |>.alloc (by simp; omega) _).grown hg (by simp; omega) (fun k hk => by cases hk; omega)

set_option maxHeartbeats 1000000 in
theorem readNum (w : World) (a : Option Addr) (len cap : Nat) (k : Int) (t : TypeId) (v : Value) (r : Option (Int × Nat))
    (hT : ∀ W : World, Below w.heap.size w W → W.heap[w.heap.size + 1 + 1 + 1]? = some (.cells #[.int .i64 k] 3 (0, 0)) →
      Calls Tryd.prog 37 #[.slice a len cap, .pointer (some ⟨w.heap.size + 1 + 1 + 1, 0, none⟩)] W (took W (w.heap.size + 1 + 1 + 1) t v r)) :
    Calls Tryd.prog 36 #[.slice a len cap, .int .i64 k, .func (.func 37) #[] #[]] w fun e w' => e = .returned (ans r) ∧ Below w.heap.size w w' := by
  have hmf : ∀ (fn : Fn) (first cap : Array Value) (w : World), (Instr.makeFunc fn first cap).run Tryd.prog w = .ok (.func fn first cap) w := fun _ _ _ _ => rfl
  have HT := hide hT
  clear hT
  go_enter_defers Tryd.func36, Tryd.ntmps36
  go_wp2_with fail
  refine (unhide HT _ ((((Below.refl _ _).alloc (Nat.le_refl _) _).alloc (by simp) _).alloc (by simp; omega) _ |>.alloc (by simp; omega) _) (by
    have := heap_alloc_new (((w.alloc (.cells #[.int .i64 0] 3)).alloc (.cells #[.int .i64 0] 3)).alloc (.cells #[.bool false] 4)) (.cells #[.int .i64 k] 3)
    simpa using this)).mono ?_
  clear HT
  rintro e w1 ⟨hres, hg1⟩
  obtain ⟨g0, g1, g2, hb1⟩ := four_new hg1
  have HB := hide hb1
  have hs1 : w.heap.size + 4 ≤ w1.heap.size := by have := hg1.size; simp at this; omega
  clear hg1 hb1
  have c0 : w1.cell? ⟨w.heap.size, 0, none⟩ = some (.int .i64 0) := by rw [cell_of_row _ _ 0 _ 3 (0, 0) g0]; rfl
  have c1 : w1.cell? ⟨w.heap.size + 1, 0, none⟩ = some (.int .i64 0) := by rw [cell_of_row _ _ 0 _ 3 (0, 0) g1]; rfl
  have c2 : w1.cell? ⟨w.heap.size + 1 + 1, 0, none⟩ = some (.bool false) := by rw [cell_of_row _ _ 0 _ 4 (0, 0) g2]; rfl
  have f0 : w1.frozen? ⟨w.heap.size, 0, none⟩ = false := frozen_of_row _ _ 0 _ 3 g0
  have f1 : w1.frozen? ⟨w.heap.size + 1, 0, none⟩ = false := frozen_of_row _ _ 0 _ 3 g1
  have f2 : w1.frozen? ⟨w.heap.size + 1 + 1, 0, none⟩ = false := frozen_of_row _ _ 0 _ 4 g2
  clear g0 g1 g2
  rcases hres with ⟨n, nx, rfl, rfl, hp1⟩ | ⟨rfl, rfl⟩
  · have c3 : w1.cell? ⟨w.heap.size + 1 + 1 + 1, 0, none⟩ = some (.int .i64 (nx : Int)) := by rw [cell_of_row _ _ 0 _ 3 (0, 0) hp1]; rfl
    clear hp1
    go_wp2
    go_region
    go_wp2
    refine leaves_cons (f := 47) (args := #[.pointer (some ⟨w.heap.size, 0, none⟩), .pointer (some ⟨w.heap.size + 1, 0, none⟩), .pointer (some ⟨w.heap.size + 1 + 1, 0, none⟩)]) (by simp) (by simp [go_sem]) ?_
    refine (catchIdle _ _).mono ?_
    rintro e u' w'' ⟨rfl, rfl, rfl⟩
    simp [Leaves, settle, results, Tryd.results36, go_sem, c0, c1, c2, ans]
    exact ((((HB.out.setCell (Nat.le_refl _) _).setCell (Nat.le_refl _) _).setCell (Nat.le_succ _) _).setCell (Nat.le_add_right _ 2) _).drew
  · go_wp2
    refine leaves_cons (f := 47) (args := #[.pointer (some ⟨w.heap.size, 0, none⟩), .pointer (some ⟨w.heap.size + 1, 0, none⟩), .pointer (some ⟨w.heap.size + 1 + 1, 0, none⟩)]) (by simp) (by simp [go_sem]) ?_
    refine (catchPanic _ _ _ _ _ _ _ _ c0 c1 c2 f0 f1 f2).mono ?_
    rintro e u' w'' ⟨rfl, rfl, rfl⟩
    simp [Leaves, settle, results, Tryd.results36, go_sem, c0, c1, c2, ans]
    exact ((HB.out.setCell (Nat.le_refl _) _).setCell (Nat.le_succ _) _).setCell (Nat.le_add_right _ 2) _

theorem Err.low {w W : World} {t : TypeId} {v : Value} (h : Err w t v) (hb : Below w.heap.size w W) (h0 : 0 < w.heap.size) : Err W t v :=
  (hb.cell (p := ⟨0, 0, none⟩) h0).trans h

set_option maxHeartbeats 400000 in
theorem getNumImpl (w : World) (a : Option Addr) (len cap : Nat) (zs : List Int) (k : Int) (t : TypeId) (v : Value) (h0 : 0 < w.heap.size) (hin : In w w.heap.size a len zs) (hE : Err w t v) :
    Calls Tryd.prog 12 #[.slice a len cap, .int .i64 k] w fun e w' => e = .returned (ans (gn zs k)) ∧ Below w.heap.size w w' := by
  have hR : Calls Tryd.prog 36 #[.slice a len cap, .int .i64 k, .func (.func 37) #[] #[]] w fun e w' => e = .returned (ans (gn zs k)) ∧ Below w.heap.size w w' := by
    refine readNum w a len cap k t v (gn zs k) (fun W hb hp => ?_)
    by_cases hk : 0 ≤ k
    · obtain ⟨k0, rfl⟩ := Int.eq_ofNat_of_zero_le hk
      have e1 : gn zs (k0 : Int) = gnF zs 4 k0 0 1 := by simp [gn]
      rw [e1]
      exact takeNum W a len cap zs w.heap.size _ k0 t v (hin.low hb (Nat.le_refl _)) (Nat.le_add_right _ 3) (by omega) (hE.low hb h0) hp
    · have e1 : gn zs k = none := by simp [gn, hk]
      rw [e1]
      exact takeNumNeg W a len cap _ k t v (by omega) (hE.low hb h0) hp
  have HR := hide hR
  clear hR hin hE
  generalize gn zs k = r at *
  go_enter Tryd.func12, Tryd.ntmps12
  go_wp2_with fail
  refine (unhide HR).mono ?_
  rintro e w1 ⟨rfl, hb⟩
  have HB := hide hb
  clear hb
  cases r with
  | none =>
    unfold ans
    go_wp2
    go_ret3
    exact ⟨rfl, HB.out⟩
  | some q =>
    obtain ⟨n, nx⟩ := q
    unfold ans
    go_wp2
    go_ret3
    exact ⟨rfl, HB.out⟩

end Go.Proofs.YtfomgkkiaklpfaaDoor
