/-
  KindOf, FieldOf, MethodOf and Sub, in the program and in its model.
-/
import Derived.Test.YtcocipbcoplmdaaPrgF
namespace Go.Proofs.Ytcocipbcoplmdaa
open Go.RowKit

set_option maxRecDepth 100000 in
set_option maxHeartbeats 4000000 in
theorem kindImpl (w : World) (x : Pg) (u : Value) (s : ByteArray) (h : Reads w w.heap.size (kins x.k) u) (hm : x.k.length ≤ 1048576) :
    Calls Try.prog 27 #[pgV x u, .string s] w fun e w' => e = .returned (.int .i64 (kindX x.k s)) ∧ Below w.heap.size w w' := by
  obtain ⟨a1, c1, e1, _⟩ := h.shape
  subst e1
  have bA := ((Below.refl w.heap.size w).alloc (Nat.le_refl _) (.cells #[.slice a1 x.k.length c1] 31)).alloc (by simp) (.cells #[.string s] 9)
  have HR := hide (h.at bA)
  have HB := hide bA
  have G1 := heap_alloc_new (w.alloc (.cells #[.slice a1 x.k.length c1] 31)) (.cells #[.string s] 9)
  simp only [World.size_alloc] at G1
  have HC := hide ((box_of G1).1 0 _ rfl)
  have HS : Hid (w.heap.size + 1 < ((w.alloc (.cells #[.slice a1 x.k.length c1] 31)).alloc (.cells #[.string s] 9)).heap.size) := hide (by simp)
  clear h bA G1
  unfold pgV
  go_enter Try.func27, Try.ntmps27
  go_wp2_with fail
  refine (idxKind _ _ x.k _ s HR.out hm HC.out HS.out).mono ?_
  rintro e w1 ⟨rfl, b1⟩
  replace HB := hide (HB.out.trans (b1.mono HB.out.size))
  clear b1
  go_wp2
  go_ret
  exact ⟨rfl, HB.out⟩
set_option maxRecDepth 100000 in
set_option maxHeartbeats 4000000 in
theorem hasImpl (w : World) (x : Pg) (a : Option Addr) (n c : Nat) (k : Int) (hn : n ≤ 1048576) :
    Calls Try.prog 23 #[pgV x (.slice a n c), .int .i64 k] w fun e w' => e = .returned (.bool (inB k 0 ((n : Int) - 1))) ∧ Below w.heap.size w w' := by
  have hw : IntKind.i64.wrap ((n : Int) - 1) = (n : Int) - 1 := by rw [IntKind.wrap_i64]; omega
  unfold pgV
  go_enter Try.func23, Try.ntmps23
  go_wp2_with fail
  refine (inImpl _ _ _ _).mono ?_
  rintro e w1 ⟨rfl, rfl⟩
  go_wp2
  go_ret
  exact ⟨rfl, (Below.refl _ _).alloc (Nat.le_refl _) _⟩
end Go.Proofs.Ytcocipbcoplmdaa
