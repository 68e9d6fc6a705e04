/-
  What readAt does with takeMsg.
-/
import Derived.Test.YtoaenoakdbieaaaDoorTakeM
import Derived.Test.YtoaenoakdbieaaaDoorReadAt
namespace Go.Proofs.YtoaenoakdbieaaaDoor
open Go.RowKit

def zeroM : Value := .agg #[.int .i64 0, .int .i64 0, .int .i64 0, .int .i64 0, .int .i64 0, .slice none 0 0, .slice none 0 0]

set_option maxRecDepth 100000 in
set_option maxHeartbeats 4000000 in
theorem catchPanicM (g : Nat) (t : TypeId) (pv : Value) (older : List PanicEntry) (w : World) (x0 x1 x2 x3 x4 x5 x6 : Value) (y : Int) (z : Bool) (hg : g + 1 + 1 < w.heap.size)
    (h0 : w.heap[g]? = some (.cells #[x0, x1, x2, x3, x4, x5, x6] 27 (0, 0))) (h1 : w.heap[g + 1]? = some (.cells #[.int .i64 y] 3 (0, 0))) (h2 : w.heap[g + 1 + 1]? = some (.cells #[.bool z] 4 (0, 0))) :
    CallsD Tryd.prog 102 #[.pointer (some ⟨g, 0, none⟩), .pointer (some ⟨g + 1, 0, none⟩), .pointer (some ⟨g + 1 + 1, 0, none⟩)] (.panicking ({ v := .iface t pv, recovered := false } :: older)) w fun e u' w' =>
      e = .returned (.tuple #[]) ∧ u' = .panicking ({ v := .iface t pv, recovered := true } :: older) ∧ w' = (((((((((w.alloc (.cells #[.int .i64 0, .int .i64 0, .int .i64 0, .int .i64 0, .int .i64 0, .slice none 0 0, .slice none 0 0] 27)).setCell ⟨g, 0, none⟩ (.int .i64 0)).setCell ⟨g, 1, none⟩ (.int .i64 0)).setCell ⟨g, 2, none⟩ (.int .i64 0)).setCell ⟨g, 3, none⟩ (.int .i64 0)).setCell ⟨g, 4, none⟩ (.int .i64 0)).setCell ⟨g, 5, none⟩ (.slice none 0 0)).setCell ⟨g, 6, none⟩ (.slice none 0 0)).setCell ⟨g + 1, 0, none⟩ (.int .i64 0)).setCell ⟨g + 1 + 1, 0, none⟩ (.bool false) := by
  have X0 := box_of h0
  have X1 := box_of h1
  have X2 := box_of h2
  have HX0 := hide X0.1
  have c0 := HX0.out 0 _ rfl
  have c1 := HX0.out 1 _ rfl
  have c2 := HX0.out 2 _ rfl
  have c3 := HX0.out 3 _ rfl
  have c4 := HX0.out 4 _ rfl
  have c5 := HX0.out 5 _ rfl
  have c6 := HX0.out 6 _ rfl
  have d0 := X1.1 0 _ rfl
  have e0 := X2.1 0 _ rfl
  have z0 := X0.2
  have z1 := X1.2
  have z2 := X2.2
  have l0 : g < w.heap.size := by omega
  have l1 : g + 1 < w.heap.size := by omega
  clear X0 X1 X2 h0 h1 h2
  refine callsD_of_wpS Tryd.func102 rfl fun c₀ cs hu => ?_
  apply wpS_seq
  apply wpS_region
  simp [wpOpsS, go_sem, recoverD, hu, Tryd.ntmps102, Exit.thenS]
  refine wpS_cond (t := true) (by simp [Act.eval, Array.replicate]) ?_
  simp only [if_true]
  apply wpS_seq
  apply wpS_region
  simp [wpOpsS, go_sem, Exit.thenS]
  apply wpS_region
  simp [wpOpsS, go_sem, c0, c1, c2, c3, c4, c5, c6, d0, e0, z0, z1, z2, l0, l1, hg, bodyPostS, results, Tryd.results102]

set_option maxRecDepth 100000 in
theorem catchIdleM (g : Nat) (w : World) :
    CallsD Tryd.prog 102 #[.pointer (some ⟨g, 0, none⟩), .pointer (some ⟨g + 1, 0, none⟩), .pointer (some ⟨g + 1 + 1, 0, none⟩)] .returning w fun e u' w' => e = .returned (.tuple #[]) ∧ u' = .returning ∧ w' = w := by
  refine callsD_of_wpS Tryd.func102 rfl fun c₀ cs hu => ?_
  apply wpS_seq
  apply wpS_region
  simp [wpOpsS, go_sem, recoverD, hu, Tryd.ntmps102, Exit.thenS]
  refine wpS_cond (t := false) (by simp [Act.eval, Array.replicate]) ?_
  simp only [Bool.false_eq_true, if_false]
  refine wpS_of_wp (wp_skip ?_)
  cases c₀
  simp_all [bodyPostS, results, Tryd.results102]
end Go.Proofs.YtoaenoakdbieaaaDoor
