/-
  The draws of clocks: what they draw lies in new memory, and is short.
-/
import Derived.Test.YtebilohcdpecoabDrawC
namespace Go.Proofs.Ytebilohcdpecoab
open Go.RowKit

set_option maxRecDepth 100000 in
set_option maxHeartbeats 8000000 in
theorem drawOkC (w : World) (a : Option Addr) (len cap : Nat) (zs : List Int) (hin : In w w.heap.size a len zs) :
    Calls Try.prog 18 #[.slice a len cap] w fun e w' => ∃ xs v, e = .returned v ∧ OwnD w' w.heap.size w'.heap.size (smps xs) v ∧ (∀ y ∈ xs, SmpG y) ∧ xs.length ≤ 30 ∧ Below w.heap.size w w' := by
  go_enter Try.func18, Try.ntmps18
  go_wp2_with fail
  refine (newDraw _ a len cap zs hin).mono ?_
  rintro e w1 ⟨rfl, hc1, b1⟩
  go_wp2_with fail
  refine (drawC _ _ hc1).mono ?_
  rintro e w2 ⟨xs, v, rfl, o2, hs, hl, hc2, hg2⟩
  obtain ⟨va, vc, ev⟩ := o2.shape
  subst ev
  have HO := hide (o2.mono b1.size)
  have HS := hide hs
  have HB := hide (b1.grown hg2 b1.size (fun k hk => by cases hk; exact Nat.le_refl _))
  clear o2 hs hc2 hg2 hc1 b1
  go_wp2
  go_ret
  exact ⟨xs, _, rfl, HO.out, HS.out, hl, HB.out⟩
set_option maxRecDepth 100000 in
set_option maxHeartbeats 8000000 in
theorem drawCountC (w : World) (a : Option Addr) (len cap : Nat) (zs : List Int) (hin : In w w.heap.size a len zs) :
    Calls Try.prog 17 #[.slice a len cap] w fun e w' => ∃ xs v q, e = .returned (.tuple #[v, .int .i64 q]) ∧ OwnD w' w.heap.size w'.heap.size (smps xs) v ∧ (∀ y ∈ xs, SmpG y) ∧ xs.length ≤ 30 ∧ 0 ≤ q ∧ q ≤ 20 ∧ Below w.heap.size w w' := by
  go_enter Try.func17, Try.ntmps17
  go_wp2_with fail
  refine (newDraw _ a len cap zs hin).mono ?_
  rintro e w1 ⟨rfl, hc1, b1⟩
  go_wp2_with fail
  refine (drawC _ _ hc1).mono ?_
  rintro e w2 ⟨xs, v, rfl, o2, hs, hl, hc2, hg2⟩
  obtain ⟨va, vc, ev⟩ := o2.shape
  subst ev
  have HC2 := hide hc2
  have HO := hide o2
  have HS := hide hs
  have hlt := hc1.lt
  have hs1 := b1.size
  have HB := hide (b1.grown hg2 b1.size (fun k hk => by cases hk; exact Nat.le_refl _))
  clear o2 hs hc2 hg2 hc1 b1
  go_wp2_with fail
  refine (belowDraw _ _ 20 (by decide) (by decide) HC2.out).mono ?_
  rintro e w3 ⟨q, rfl, hq0, hq1, hc3, hg3⟩
  have HO3 := hide ((HO.out.grownP hg3 hlt).up hg3.size)
  have HB3 := hide (HB.out.grown hg3 HB.out.size (fun k hk => by cases hk; exact Nat.le_refl _))
  clear hc3 hg3
  go_wp2
  go_ret2
  exact ⟨xs, _, q, rfl, HO3.out.mono hs1, HS.out, hl, hq0, by omega, HB3.out⟩
set_option maxRecDepth 100000 in
set_option maxHeartbeats 8000000 in
theorem drawTickC (w : World) (a : Option Addr) (len cap : Nat) (zs : List Int) (hin : In w w.heap.size a len zs) :
    Calls Try.prog 15 #[.slice a len cap] w fun e w' => ∃ xs v q, e = .returned (.tuple #[v, .int .i64 q]) ∧ OwnD w' w.heap.size w'.heap.size (smps xs) v ∧ (∀ y ∈ xs, SmpG y) ∧ xs.length ≤ 30 ∧ 0 ≤ q ∧ q ≤ 1000001 ∧ Below w.heap.size w w' := by
  go_enter Try.func15, Try.ntmps15
  go_wp2_with fail
  refine (newDraw _ a len cap zs hin).mono ?_
  rintro e w1 ⟨rfl, hc1, b1⟩
  go_wp2_with fail
  refine (drawC _ _ hc1).mono ?_
  rintro e w2 ⟨xs, v, rfl, o2, hs, hl, hc2, hg2⟩
  obtain ⟨va, vc, ev⟩ := o2.shape
  subst ev
  have HC2 := hide hc2
  have HO := hide o2
  have HS := hide hs
  have hlt := hc1.lt
  have hs1 := b1.size
  have HLT := hide (Nat.lt_of_lt_of_le hlt hg2.size)
  have HB := hide (b1.grown hg2 b1.size (fun k hk => by cases hk; exact Nat.le_refl _))
  clear o2 hs hc2 hg2 hc1 b1
  go_wp2_with fail
  refine (pickDraw _ _ w2.heap.size 7 [1, 2, 3, 10, 0, 1000000, 1000001] rfl (by decide) (by decide) HLT.out (HC2.out.alloc _) (heap_alloc_new w2 _)).mono ?_
  rintro e w3 ⟨q, rfl, hq, hc3, hg3⟩
  have hqb : 0 ≤ q ∧ q ≤ 1000001 := by simp at hq; omega
  have hg4 := alloc_grown hg3
  have HO3 := hide ((HO.out.grownP hg4 hlt).up hg4.size)
  have HB3 := hide (HB.out.grown hg4 HB.out.size (fun k hk => by cases hk; exact Nat.le_refl _))
  clear hc3 hg3 hg4 hq
  go_wp2
  go_ret2
  exact ⟨xs, _, q, rfl, HO3.out.mono hs1, HS.out, hl, hqb.1, hqb.2, HB3.out⟩
end Go.Proofs.Ytebilohcdpecoab
