/-
  Proved: at every argument the program's ReadCopy answers as its model does, writes into no argument, and its answer owns its memory (the law FnExactReadCopy returns true), without any condition.
-/
import Derived.Test.YtofnpgheppgcaaaRows
import Derived.Test.YtofnpgheppgcaaaCpRK
import Derived.Test.YtofnpgheppgcaaaCpG
import Derived.Test.YtofnpgheppgcaaaCpS
import Derived.Test.YtofnpgheppgcaaaCpJ
import Derived.Test.YtofnpgheppgcaaaStepW
import Derived.Deep.CutRange
import Derived.Deep.RegionWith
import Derived.Deep.RegionHeld
import Derived.BigRegion
import Derived.WalkKit
import Derived.ProofKit
import Derived.OpenShut
import Derived.ShutString
import Derived.ChangeOld
import Derived.Below
namespace Go.Proofs.Ytofnpgheppgcaaa.fnExactReadCopy
open Go.ChangeShapes Go.WideShapes Go.ChangeAt Go.RowKit
open Go.ChangeMaps (open_string shut_string)
set_option linter.unusedVariables false

theorem own : ownKnob Try.prog.godebug = none := by kernel_rfl
theorem laidOut : laidOutB Try.prog = true := by kernel_rfl
set_option maxRecDepth 100000 in
set_option maxHeartbeats 8000000 in
theorem walk (v0 : Value) (q : Int) (p : Int) (w : World) (h0 : IsCpys w v0) (_hq : -9223372036854775808 ≤ q ∧ q ≤ 9223372036854775807) (_hp : -9223372036854775808 ≤ p ∧ p ≤ 9223372036854775807) :
    Calls Try.prog 5 #[v0, .int .i64 q, .int .i64 p] w fun e w' => e = .returned (.bool true) ∧ Below w.heap.size w w' := by
  obtain ⟨x, gx1, rx⟩ := h0
  obtain ⟨ax1, cx1, ex1, _⟩ := gx1.shape
  subst ex1
  have Px1 := hide gx1
  have Rx := hide rx
  clear rx gx1
  have HB := hide (Below.refl w.heap.size w)
  obtain ⟨V0, hV0⟩ : ∃ V, readC x q p = V := ⟨_, rfl⟩
  have HV0 := hide hV0
  clear hV0
  obtain ⟨V1, hV1⟩ : ∃ V, hasC x q p = V := ⟨_, rfl⟩
  have HV1 := hide hV1
  clear hV1
  have hne1 : (V1 != V1) = false := by simp
  go_enter Try.func5, Try.ntmps5
  go_wp2_with fail
  refine (szCpys _ _ x _ (Px1.out.at HB.out) (by omega) (by omega) Rx.out).mono ?_
  rintro e w1 ⟨rfl, b9⟩
  have z1 := b9.size
  replace HB := hide (HB.out.trans (b9.mono HB.out.size))
  clear b9
  by_cases hmx : (1048576 : Int) < (cpysW x : Int)
  · rw [szR_neg hmx]
    go_wp2
    go_ret
    exact ⟨rfl, HB.out⟩
  · skip
    rw [szR_pos hmx]
    have hwx : cpysW x ≤ 1048576 := by omega
    have HGx := hide (cpysG_of Rx.out (by omega))
    have hnx : ¬ (1048576 : Int) - (cpysW x : Int) < 0 := by omega
    have hqx : (1048576 : Int) - (cpysW x : Int) ≤ 1048576 := by omega
    have hTx : (1048576 : Int) - (cpysW x : Int) + ((cpysW x : Int) : Int) ≤ 1048576 := by omega
    generalize (1048576 : Int) - (cpysW x : Int) = mx at *
    clear hmx
    go_wp2_with fail
    refine (toCpys _ _ x (Px1.out.at HB.out) HGx.out).mono ?_
    rintro e w2 ⟨n2_1, rfl, o9, b9⟩
    obtain ⟨p2_1, q2_1, f2_1⟩ := o9.shape
    subst f2_1
    have O2 := hide o9
    clear o9
    have z2 := b9.size
    replace HB := hide (HB.out.trans (b9.mono HB.out.size))
    clear b9
    go_wp2_with fail
    refine (readCS _ x _ q p (O2.out.rd (Nat.le_refl _)) HGx.out).mono ?_
    rintro e w3 ⟨rfl, b9⟩
    rw [HV0.out]
    rw [HV1.out]
    unfold vlV
    replace O2 := hide (O2.out.below b9)
    have z3 := b9.size
    replace HB := hide (HB.out.trans (b9.mono HB.out.size))
    clear b9
    have bD := (Below.refl w3.heap.size w3).alloc (Nat.le_refl _) (.cells #[.bool V0.r, .int .i64 V0.n] 48)
    have X8 := hide (heap_alloc_new w3 (.cells #[.bool V0.r, .int .i64 V0.n] 48))
    have z4 : w3.heap.size < (w3.alloc (.cells #[.bool V0.r, .int .i64 V0.n] 48)).heap.size := by simp
    replace O2 := hide (O2.out.below bD)
    have z5 := bD.size
    replace HB := hide (HB.out.trans (bD.mono HB.out.size))
    clear bD
    go_wp2_with fail
    generalize w3.alloc (.cells #[.bool V0.r, .int .i64 V0.n] 48) = w4 at *
    refine (toCpys _ _ x (Px1.out.at HB.out) HGx.out).mono ?_
    rintro e w5 ⟨n5_1, rfl, o9, b9⟩
    obtain ⟨p5_1, q5_1, f5_1⟩ := o9.shape
    subst f5_1
    have O5 := hide o9
    clear o9
    replace X8 := hide ((b9.block _ (Array.getElem?_eq_some_iff.1 X8.out).1).trans X8.out)
    replace O2 := hide (O2.out.below b9)
    have z6 := b9.size
    replace HB := hide (HB.out.trans (b9.mono HB.out.size))
    clear b9
    go_wp2_with fail
    refine (readCI _ x _ q p (O5.out.rd (Nat.le_refl _)) HGx.out).mono ?_
    rintro e w6 ⟨rfl, b9⟩
    rw [HV0.out]
    rw [HV1.out]
    unfold vlV
    replace X8 := hide ((b9.block _ (Array.getElem?_eq_some_iff.1 X8.out).1).trans X8.out)
    replace O2 := hide (O2.out.below b9)
    replace O5 := hide (O5.out.below b9)
    have z7 := b9.size
    replace HB := hide (HB.out.trans (b9.mono HB.out.size))
    clear b9
    have bD := (Below.refl w6.heap.size w6).alloc (Nat.le_refl _) (.cells #[.bool V0.r, .int .i64 V0.n] 48)
    have X11 := hide (heap_alloc_new w6 (.cells #[.bool V0.r, .int .i64 V0.n] 48))
    have z8 : w6.heap.size < (w6.alloc (.cells #[.bool V0.r, .int .i64 V0.n] 48)).heap.size := by simp
    replace X8 := hide ((bD.block _ (Array.getElem?_eq_some_iff.1 X8.out).1).trans X8.out)
    replace O2 := hide (O2.out.below bD)
    replace O5 := hide (O5.out.below bD)
    have z9 := bD.size
    replace HB := hide (HB.out.trans (bD.mono HB.out.size))
    clear bD
    have y0_0 := (box_of X11.out).1 0 _ rfl
    have y0_1 := (box_of X11.out).1 1 _ rfl
    have y1_0 := (box_of X8.out).1 0 _ rfl
    have y1_1 := (box_of X8.out).1 1 _ rfl
    go_wp2_with fail
    clear y0_0 y0_1 y1_0 y1_1
    generalize w6.alloc (.cells #[.bool V0.r, .int .i64 V0.n] 48) = w7 at *
    refine (eqVl _ V0).mono ?_
    rintro e w8 ⟨rfl, b9⟩
    replace X8 := hide ((b9.block _ (Array.getElem?_eq_some_iff.1 X8.out).1).trans X8.out)
    replace X11 := hide ((b9.block _ (Array.getElem?_eq_some_iff.1 X11.out).1).trans X11.out)
    replace O2 := hide (O2.out.below b9)
    replace O5 := hide (O5.out.below b9)
    have z10 := b9.size
    replace HB := hide (HB.out.trans (b9.mono HB.out.size))
    clear b9
    go_wp2_with fail
    refine (toCpys _ _ x (Px1.out.at HB.out) HGx.out).mono ?_
    rintro e w9 ⟨n9_1, rfl, o9, b9⟩
    obtain ⟨p9_1, q9_1, f9_1⟩ := o9.shape
    subst f9_1
    have O9 := hide o9
    clear o9
    replace X8 := hide ((b9.block _ (Array.getElem?_eq_some_iff.1 X8.out).1).trans X8.out)
    replace X11 := hide ((b9.block _ (Array.getElem?_eq_some_iff.1 X11.out).1).trans X11.out)
    replace O2 := hide (O2.out.below b9)
    replace O5 := hide (O5.out.below b9)
    have z11 := b9.size
    replace HB := hide (HB.out.trans (b9.mono HB.out.size))
    clear b9
    go_wp2_with fail
    refine (eqCpys _ _ _ x (O5.out.rd (Nat.le_refl _)) (O9.out.rd (Nat.le_refl _)) HGx.out).mono ?_
    rintro e w10 ⟨rfl, b9⟩
    replace X8 := hide ((b9.block _ (Array.getElem?_eq_some_iff.1 X8.out).1).trans X8.out)
    replace X11 := hide ((b9.block _ (Array.getElem?_eq_some_iff.1 X11.out).1).trans X11.out)
    replace O2 := hide (O2.out.below b9)
    replace O5 := hide (O5.out.below b9)
    replace O9 := hide (O9.out.below b9)
    have z12 := b9.size
    replace HB := hide (HB.out.trans (b9.mono HB.out.size))
    clear b9
    go_wp2
    go_ret
    exact ⟨rfl, HB.out⟩

set_option maxRecDepth 100000 in
theorem lifted (os : Os) (started : os.Started) (H : Type) (enc : TypeId × Value → H) :
    ReturnsInHanded {} Try.checked os 5 .any (Rows.fnExactReadCopySpec.pre6 enc Try.prog Try.f5 Rows.fnExactReadCopyRow.domain false) (Rows.fnExactReadCopySpec.post enc Try.prog Try.f5 false true false false) := by
  refine returnsInHanded_of_change (C := Try.checked) own started (by kernel_rfl) Try.func5
    (ChangeSpec.witness6 (enc := enc) (C := Try.checked) false ⟨#[], #[.slice none 0 0, .int .i64 0, .int .i64 0], []⟩ 8 (by kernel_rfl) (by kernel_rfl) (by kernel_rfl) (by kernel_rfl)) ?_
  intro W base args ds gs before hval0 hW hcnd _
  have hval : ∀ (j : Nat) t v, Try.f5.params[j]? = some t → args[j]? = some v → Value.okWide Try.prog W .any base t v := hval0
  have hW' := hW
  obtain ⟨p, q, hA0, hV, rfl, hfz, hnd⟩ := hW
  have hA : DataW.TrodAll enc Try.prog W 0 (fun _ => true) true Try.f5.params.toList args.toList ds p := hA0
  rw [Try.params5] at hA hval
  obtain ⟨v0, vs0, d0, ds0, p0, q0, hargs, rfl, rfl, h0, r0⟩ := trodAll_cons hA
  obtain ⟨v1, vs1, d1, ds1, p1, q1, rfl, rfl, rfl, h1, r1⟩ := trodAll_cons r0
  obtain ⟨v2, vs2, d2, ds2, p2, q2, rfl, rfl, rfl, h2, r2⟩ := trodAll_cons r1
  obtain ⟨rfl, rfl, rfl⟩ := trodAll_nil r2
  obtain rfl : args = #[v0, v1, v2] := by cases args; simp_all
  obtain ⟨rfl, rfl⟩ := trodVars_none hV
  have k0 := h0
  have lt0 : ∀ x ∈ p0, x.block < W.heap.size := by obtain ⟨m, hm⟩ := k0; exact DataW.trod_lt m _ _ _ hm
  have w0 := openCpys (hval 0 25 v0 rfl rfl) h0
  obtain ⟨a1, rfl, rfl, rfl, w1⟩ := open_int Try.underlying3 (hval 1 3 v1 rfl rfl) h1
  obtain ⟨a2, rfl, rfl, rfl, w2⟩ := open_int Try.underlying3 (hval 2 3 v2 rfl rfl) h2
  clear hA0 hval0
  refine (walk v0 a1 a2 W w0 (bounds_i64 w1) (bounds_i64 w2)).mono fun e W' ⟨he, bel⟩ => ?_
  subst he
  exact ⟨_, rfl, _, _, _, [], _, [], hW', trodAll_mk1 (shut_bool Try.underlying4 _), (trodAll_cons_mk (Below.trod laidOut (by kernel_rfl) (of_decide_eq_true (by kernel_rfl)) k0 bel lt0) (trodAll_cons_mk (shut_int Try.underlying3 w1) (trodAll_cons_mk (shut_int Try.underlying3 w2) trodAll_mk0))), rfl, bel.frame _, fun h => by cases h⟩

theorem over : Rows.fnExactReadCopyRow.holds Try.pinned (OpenSpec.ofChange Rows.fnExactReadCopySpec) :=
  OpenClaim.holds_of_wide 5 Try.f5 rfl rfl rfl rfl rfl rfl rfl ⟨rfl, rfl, rfl, rfl, rfl⟩ rfl rfl rfl rfl rfl (by kernel_rfl) Try.func5 (by kernel_rfl)
    (of_decide_eq_true (by kernel_rfl)) (by unfold Func.isWrapper; first | (rw [if_pos (by decide +kernel)]; kernel_rfl) | (rw [if_neg (by decide +kernel)]; exact ⟨rfl, rfl⟩))
    (fun os started H enc _ => lifted os started H enc)

end Go.Proofs.Ytofnpgheppgcaaa.fnExactReadCopy
namespace Go.Proofs.Ytofnpgheppgcaaa
theorem fnExactReadCopy_holds : Rows.FnExactReadCopySaid := fnExactReadCopy.over
#print axioms fnExactReadCopy_holds
end Go.Proofs.Ytofnpgheppgcaaa
