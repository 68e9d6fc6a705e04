/-
  Proved: at every argument the program's RaceAt answers as its model does, writes into no argument, and its answer owns its memory (the law FnExactRaceAt returns true), without any condition.
-/
import Derived.Test.YtllghgcancennaaRows
import Derived.Test.YtllghgcancennaaJ19
import Derived.Test.YtllghgcancennaaJ30
import Derived.Test.YtllghgcancennaaJ13
import Derived.Deep.CutRange
import Derived.Deep.RegionWith
import Derived.Deep.RegionHeld
import Derived.BigRegion
import Derived.WalkKit
import Derived.ProofKit
import Derived.OpenShut
import Derived.ShutString
import Derived.ChangeOld
import Derived.Below
namespace Go.Proofs.Ytllghgcancennaa.fnExactRaceAt
open Go.ChangeShapes Go.WideShapes Go.ChangeAt Go.RowKit
open Go.ChangeMaps (open_string shut_string)
set_option linter.unusedVariables false

theorem own : ownKnob Try.prog.godebug = none := by kernel_rfl
theorem laidOut : laidOutB Try.prog = true := by kernel_rfl
set_option maxRecDepth 100000 in
set_option maxHeartbeats 8000000 in
theorem walk (v0 : Value) (w : World) (h0 : IsEvts w v0) :
    Calls Try.prog 5 #[v0] w fun e w' => e = .returned (.bool true) ∧ Below w.heap.size w w' := by
  obtain ⟨x, gx1, rx⟩ := h0
  obtain ⟨ax1, cx1, ex1, _⟩ := gx1.shape
  subst ex1
  have Px1 := hide gx1
  have Rx := hide rx
  clear rx gx1
  have HB := hide (Below.refl w.heap.size w)
  obtain ⟨V0, hV0⟩ : ∃ V, raceX x = V := ⟨_, rfl⟩
  have HV0 := hide hV0
  clear hV0
  have hne0 : (V0 != V0) = false := by simp
  go_enter Try.func5, Try.ntmps5
  go_wp2_with fail
  refine (szEvts _ _ x _ (Px1.out.at HB.out) (by omega) (by omega) Rx.out).mono ?_
  rintro e w1 ⟨rfl, b9⟩
  have z1 := b9.size
  replace HB := hide (HB.out.trans (b9.mono HB.out.size))
  clear b9
  by_cases hmx : (1048576 : Int) < (evtsW x : Int)
  · rw [szR_neg hmx]
    go_wp2
    go_ret
    exact ⟨rfl, HB.out⟩
  · skip
    rw [szR_pos hmx]
    have hwx : evtsW x ≤ 1048576 := by omega
    have HGx := hide (evtsG_of Rx.out (by omega))
    have hnx : ¬ (1048576 : Int) - (evtsW x : Int) < 0 := by omega
    have hqx : (1048576 : Int) - (evtsW x : Int) ≤ 1048576 := by omega
    have hTx : (1048576 : Int) - (evtsW x : Int) + ((evtsW x : Int) : Int) ≤ 1048576 := by omega
    generalize (1048576 : Int) - (evtsW x : Int) = mx at *
    clear hmx
    go_wp2_with fail
    refine (toEvts _ _ x (Px1.out.at HB.out) HGx.out).mono ?_
    rintro e w2 ⟨n2_1, rfl, o9, b9⟩
    obtain ⟨p2_1, q2_1, f2_1⟩ := o9.shape
    subst f2_1
    have O2 := hide o9
    clear o9
    have z2 := b9.size
    replace HB := hide (HB.out.trans (b9.mono HB.out.size))
    clear b9
    go_wp2_with fail
    refine (raceS _ x _ (O2.out.rd (Nat.le_refl _)) HGx.out.1).mono ?_
    rintro e w3 ⟨rfl, b9⟩
    rw [HV0.out]
    replace O2 := hide (O2.out.below b9)
    have z3 := b9.size
    replace HB := hide (HB.out.trans (b9.mono HB.out.size))
    clear b9
    go_wp2_with fail
    refine (toEvts _ _ x (Px1.out.at HB.out) HGx.out).mono ?_
    rintro e w4 ⟨n4_1, rfl, o9, b9⟩
    obtain ⟨p4_1, q4_1, f4_1⟩ := o9.shape
    subst f4_1
    have O4 := hide o9
    clear o9
    replace O2 := hide (O2.out.below b9)
    have z4 := b9.size
    replace HB := hide (HB.out.trans (b9.mono HB.out.size))
    clear b9
    go_wp2_with fail
    refine (raceI _ x _ (O4.out.rd (Nat.le_refl _)) HGx.out.1).mono ?_
    rintro e w5 ⟨rfl, b9⟩
    rw [HV0.out]
    replace O2 := hide (O2.out.below b9)
    replace O4 := hide (O4.out.below b9)
    have z5 := b9.size
    replace HB := hide (HB.out.trans (b9.mono HB.out.size))
    clear b9
    go_wp2_with fail
    refine (toEvts _ _ x (Px1.out.at HB.out) HGx.out).mono ?_
    rintro e w6 ⟨n6_1, rfl, o9, b9⟩
    obtain ⟨p6_1, q6_1, f6_1⟩ := o9.shape
    subst f6_1
    have O6 := hide o9
    clear o9
    replace O2 := hide (O2.out.below b9)
    replace O4 := hide (O4.out.below b9)
    have z6 := b9.size
    replace HB := hide (HB.out.trans (b9.mono HB.out.size))
    clear b9
    go_wp2_with fail
    refine (eqEvts _ _ _ x (O4.out.rd (Nat.le_refl _)) (O6.out.rd (Nat.le_refl _)) HGx.out).mono ?_
    rintro e w7 ⟨rfl, b9⟩
    replace O2 := hide (O2.out.below b9)
    replace O4 := hide (O4.out.below b9)
    replace O6 := hide (O6.out.below b9)
    have z7 := b9.size
    replace HB := hide (HB.out.trans (b9.mono HB.out.size))
    clear b9
    go_wp2
    go_ret
    exact ⟨rfl, HB.out⟩

set_option maxRecDepth 100000 in
theorem lifted (os : Os) (started : os.Started) (H : Type) (enc : TypeId × Value → H) :
    ReturnsInHanded {} Try.checked os 5 .any (Rows.fnExactRaceAtSpec.pre6 enc Try.prog Try.f5 Rows.fnExactRaceAtRow.domain false) (Rows.fnExactRaceAtSpec.post enc Try.prog Try.f5 false true false false) := by
  refine returnsInHanded_of_change (C := Try.checked) own started (by kernel_rfl) Try.func5
    (ChangeSpec.witness6 (enc := enc) (C := Try.checked) false ⟨#[], #[.slice none 0 0], []⟩ 8 (by kernel_rfl) (by kernel_rfl) (by kernel_rfl) (by kernel_rfl)) ?_
  intro W base args ds gs before hval0 hW hcnd _
  have hval : ∀ (j : Nat) t v, Try.f5.params[j]? = some t → args[j]? = some v → Value.okWide Try.prog W .any base t v := hval0
  have hW' := hW
  obtain ⟨p, q, hA0, hV, rfl, hfz, hnd⟩ := hW
  have hA : DataW.TrodAll enc Try.prog W 0 (fun _ => true) true Try.f5.params.toList args.toList ds p := hA0
  rw [Try.params5] at hA hval
  obtain ⟨v0, vs0, d0, ds0, p0, q0, hargs, rfl, rfl, h0, r0⟩ := trodAll_cons hA
  obtain ⟨rfl, rfl, rfl⟩ := trodAll_nil r0
  obtain rfl : args = #[v0] := by cases args; simp_all
  obtain ⟨rfl, rfl⟩ := trodVars_none hV
  have k0 := h0
  have lt0 : ∀ x ∈ p0, x.block < W.heap.size := by obtain ⟨m, hm⟩ := k0; exact DataW.trod_lt m _ _ _ hm
  have w0 := openEvts (hval 0 22 v0 rfl rfl) h0
  clear hA0 hval0
  refine (walk v0 W w0).mono fun e W' ⟨he, bel⟩ => ?_
  subst he
  exact ⟨_, rfl, _, _, _, [], _, [], hW', trodAll_mk1 (shut_bool Try.underlying4 _), (trodAll_cons_mk (Below.trod laidOut (by kernel_rfl) (of_decide_eq_true (by kernel_rfl)) k0 bel lt0) trodAll_mk0), rfl, bel.frame _, fun h => by cases h⟩

theorem over : Rows.fnExactRaceAtRow.holds Try.pinned (OpenSpec.ofChange Rows.fnExactRaceAtSpec) :=
  OpenClaim.holds_of_wide 5 Try.f5 rfl rfl rfl rfl rfl rfl rfl ⟨rfl, rfl, rfl, rfl, rfl⟩ rfl rfl rfl rfl rfl (by kernel_rfl) Try.func5 (by kernel_rfl)
    (of_decide_eq_true (by kernel_rfl)) (by unfold Func.isWrapper; first | (rw [if_pos (by decide +kernel)]; kernel_rfl) | (rw [if_neg (by decide +kernel)]; exact ⟨rfl, rfl⟩))
    (fun os started H enc _ => lifted os started H enc)

end Go.Proofs.Ytllghgcancennaa.fnExactRaceAt
namespace Go.Proofs.Ytllghgcancennaa
theorem fnExactRaceAt_holds : Rows.FnExactRaceAtSaid := fnExactRaceAt.over
#print axioms fnExactRaceAt_holds
end Go.Proofs.Ytllghgcancennaa
