/-
  Proved: at every argument the program's Before answers as its model does, writes into no argument, and its answer owns its memory (the law FnExactBefore returns true), without any condition.
-/
import Derived.Test.YtllghgcancennaaRows
import Derived.Test.YtllghgcancennaaClcB
import Derived.Test.YtllghgcancennaaClcV
import Derived.Test.YtllghgcancennaaStepW
import Derived.Deep.CutRange
import Derived.Deep.RegionWith
import Derived.Deep.RegionHeld
import Derived.BigRegion
import Derived.WalkKit
import Derived.ProofKit
import Derived.OpenShut
import Derived.ShutString
import Derived.ChangeOld
import Derived.Below
namespace Go.Proofs.Ytllghgcancennaa.fnExactBefore
open Go.ChangeShapes Go.WideShapes Go.ChangeAt Go.RowKit
open Go.ChangeMaps (open_string shut_string)
set_option linter.unusedVariables false

theorem own : ownKnob Try.prog.godebug = none := by kernel_rfl
theorem laidOut : laidOutB Try.prog = true := by kernel_rfl
set_option maxRecDepth 100000 in
set_option maxHeartbeats 8000000 in
theorem walk (v0 : Value) (i : Int) (j : Int) (w : World) (h0 : IsEvts w v0) (_hi : -9223372036854775808 ≤ i ∧ i ≤ 9223372036854775807) (_hj : -9223372036854775808 ≤ j ∧ j ≤ 9223372036854775807) :
    Calls Try.prog 3 #[v0, .int .i64 i, .int .i64 j] w fun e w' => e = .returned (.bool true) ∧ Below w.heap.size w w' := by
  obtain ⟨x, gx1, rx⟩ := h0
  obtain ⟨ax1, cx1, ex1, _⟩ := gx1.shape
  subst ex1
  have Px1 := hide gx1
  have Rx := hide rx
  clear rx gx1
  have HB := hide (Below.refl w.heap.size w)
  obtain ⟨V0, hV0⟩ : ∃ V, beforeX x i j = V := ⟨_, rfl⟩
  have HV0 := hide hV0
  clear hV0
  have hne0 : (V0 != V0) = false := by simp
  go_enter Try.func3, Try.ntmps3
  go_wp2_with fail
  refine (szEvts _ _ x _ (Px1.out.at HB.out) (by omega) (by omega) Rx.out).mono ?_
  rintro e w1 ⟨rfl, b9⟩
  have z1 := b9.size
  replace HB := hide (HB.out.trans (b9.mono HB.out.size))
  clear b9
  by_cases hmx : (1048576 : Int) < (evtsW x : Int)
  · rw [szR_neg hmx]
    go_wp2
    go_ret
    exact ⟨rfl, HB.out⟩
  · skip
    rw [szR_pos hmx]
    have hwx : evtsW x ≤ 1048576 := by omega
    have HGx := hide (evtsG_of Rx.out (by omega))
    have hnx : ¬ (1048576 : Int) - (evtsW x : Int) < 0 := by omega
    have hqx : (1048576 : Int) - (evtsW x : Int) ≤ 1048576 := by omega
    have hTx : (1048576 : Int) - (evtsW x : Int) + ((evtsW x : Int) : Int) ≤ 1048576 := by omega
    generalize (1048576 : Int) - (evtsW x : Int) = mx at *
    clear hmx
    go_wp2_with fail
    refine (toEvts _ _ x (Px1.out.at HB.out) HGx.out).mono ?_
    rintro e w2 ⟨n2_1, rfl, o9, b9⟩
    obtain ⟨p2_1, q2_1, f2_1⟩ := o9.shape
    subst f2_1
    have O2 := hide o9
    clear o9
    have z2 := b9.size
    replace HB := hide (HB.out.trans (b9.mono HB.out.size))
    clear b9
    go_wp2_with fail
    refine (beforeS _ x _ i j (O2.out.rd (Nat.le_refl _)) HGx.out.1).mono ?_
    rintro e w3 ⟨rfl, b9⟩
    rw [HV0.out]
    replace O2 := hide (O2.out.below b9)
    have z3 := b9.size
    replace HB := hide (HB.out.trans (b9.mono HB.out.size))
    clear b9
    go_wp2_with fail
    refine (toEvts _ _ x (Px1.out.at HB.out) HGx.out).mono ?_
    rintro e w4 ⟨n4_1, rfl, o9, b9⟩
    obtain ⟨p4_1, q4_1, f4_1⟩ := o9.shape
    subst f4_1
    have O4 := hide o9
    clear o9
    replace O2 := hide (O2.out.below b9)
    have z4 := b9.size
    replace HB := hide (HB.out.trans (b9.mono HB.out.size))
    clear b9
    go_wp2_with fail
    refine (beforeI _ x _ i j (O4.out.rd (Nat.le_refl _)) HGx.out.1).mono ?_
    rintro e w5 ⟨rfl, b9⟩
    rw [HV0.out]
    replace O2 := hide (O2.out.below b9)
    replace O4 := hide (O4.out.below b9)
    have z5 := b9.size
    replace HB := hide (HB.out.trans (b9.mono HB.out.size))
    clear b9
    go_wp2_with fail
    refine (toEvts _ _ x (Px1.out.at HB.out) HGx.out).mono ?_
    rintro e w6 ⟨n6_1, rfl, o9, b9⟩
    obtain ⟨p6_1, q6_1, f6_1⟩ := o9.shape
    subst f6_1
    have O6 := hide o9
    clear o9
    replace O2 := hide (O2.out.below b9)
    replace O4 := hide (O4.out.below b9)
    have z6 := b9.size
    replace HB := hide (HB.out.trans (b9.mono HB.out.size))
    clear b9
    go_wp2_with fail
    refine (eqEvts _ _ _ x (O4.out.rd (Nat.le_refl _)) (O6.out.rd (Nat.le_refl _)) HGx.out).mono ?_
    rintro e w7 ⟨rfl, b9⟩
    replace O2 := hide (O2.out.below b9)
    replace O4 := hide (O4.out.below b9)
    replace O6 := hide (O6.out.below b9)
    have z7 := b9.size
    replace HB := hide (HB.out.trans (b9.mono HB.out.size))
    clear b9
    go_wp2
    go_ret
    exact ⟨rfl, HB.out⟩

set_option maxRecDepth 100000 in
theorem lifted (os : Os) (started : os.Started) (H : Type) (enc : TypeId × Value → H) :
    ReturnsInHanded {} Try.checked os 3 .any (Rows.fnExactBeforeSpec.pre6 enc Try.prog Try.f3 Rows.fnExactBeforeRow.domain false) (Rows.fnExactBeforeSpec.post enc Try.prog Try.f3 false true false false) := by
  refine returnsInHanded_of_change (C := Try.checked) own started (by kernel_rfl) Try.func3
    (ChangeSpec.witness6 (enc := enc) (C := Try.checked) false ⟨#[], #[.slice none 0 0, .int .i64 0, .int .i64 0], []⟩ 8 (by kernel_rfl) (by kernel_rfl) (by kernel_rfl) (by kernel_rfl)) ?_
  intro W base args ds gs before hval0 hW hcnd _
  have hval : ∀ (j : Nat) t v, Try.f3.params[j]? = some t → args[j]? = some v → Value.okWide Try.prog W .any base t v := hval0
  have hW' := hW
  obtain ⟨p, q, hA0, hV, rfl, hfz, hnd⟩ := hW
  have hA : DataW.TrodAll enc Try.prog W 0 (fun _ => true) true Try.f3.params.toList args.toList ds p := hA0
  rw [Try.params3] at hA hval
  obtain ⟨v0, vs0, d0, ds0, p0, q0, hargs, rfl, rfl, h0, r0⟩ := trodAll_cons hA
  obtain ⟨v1, vs1, d1, ds1, p1, q1, rfl, rfl, rfl, h1, r1⟩ := trodAll_cons r0
  obtain ⟨v2, vs2, d2, ds2, p2, q2, rfl, rfl, rfl, h2, r2⟩ := trodAll_cons r1
  obtain ⟨rfl, rfl, rfl⟩ := trodAll_nil r2
  obtain rfl : args = #[v0, v1, v2] := by cases args; simp_all
  obtain ⟨rfl, rfl⟩ := trodVars_none hV
  have k0 := h0
  have lt0 : ∀ x ∈ p0, x.block < W.heap.size := by obtain ⟨m, hm⟩ := k0; exact DataW.trod_lt m _ _ _ hm
  have w0 := openEvts (hval 0 22 v0 rfl rfl) h0
  obtain ⟨a1, rfl, rfl, rfl, w1⟩ := open_int Try.underlying3 (hval 1 3 v1 rfl rfl) h1
  obtain ⟨a2, rfl, rfl, rfl, w2⟩ := open_int Try.underlying3 (hval 2 3 v2 rfl rfl) h2
  clear hA0 hval0
  refine (walk v0 a1 a2 W w0 (bounds_i64 w1) (bounds_i64 w2)).mono fun e W' ⟨he, bel⟩ => ?_
  subst he
  exact ⟨_, rfl, _, _, _, [], _, [], hW', trodAll_mk1 (shut_bool Try.underlying4 _), (trodAll_cons_mk (Below.trod laidOut (by kernel_rfl) (of_decide_eq_true (by kernel_rfl)) k0 bel lt0) (trodAll_cons_mk (shut_int Try.underlying3 w1) (trodAll_cons_mk (shut_int Try.underlying3 w2) trodAll_mk0))), rfl, bel.frame _, fun h => by cases h⟩

theorem over : Rows.fnExactBeforeRow.holds Try.pinned (OpenSpec.ofChange Rows.fnExactBeforeSpec) :=
  OpenClaim.holds_of_wide 3 Try.f3 rfl rfl rfl rfl rfl rfl rfl ⟨rfl, rfl, rfl, rfl, rfl⟩ rfl rfl rfl rfl rfl (by kernel_rfl) Try.func3 (by kernel_rfl)
    (of_decide_eq_true (by kernel_rfl)) (by unfold Func.isWrapper; first | (rw [if_pos (by decide +kernel)]; kernel_rfl) | (rw [if_neg (by decide +kernel)]; exact ⟨rfl, rfl⟩))
    (fun os started H enc _ => lifted os started H enc)

end Go.Proofs.Ytllghgcancennaa.fnExactBefore
namespace Go.Proofs.Ytllghgcancennaa
theorem fnExactBefore_holds : Rows.FnExactBeforeSaid := fnExactBefore.over
#print axioms fnExactBefore_holds
end Go.Proofs.Ytllghgcancennaa
