/-
  Proved: at every row of places the program's CodeOk answers as its model does and writes into no argument (the law FnExactCodeOk returns true), without any condition.
-/
import Derived.Test.YtonkaomfahmchaaRows
import Derived.Test.YtonkaomfahmchaaInsOkS
import Derived.Test.YtonkaomfahmchaaInsCodeI
import Derived.WalkKit
import Derived.ProofKit
import Derived.OpenShut
import Derived.ShutString
import Derived.ChangeOld
import Derived.Below
namespace Go.Proofs.Ytonkaomfahmchaa.fnExactCodeOk
open Go.ChangeShapes Go.WideShapes Go.ChangeAt Go.RowKit
open Go.ChangeMaps (open_string shut_string)
set_option linter.unusedVariables false

theorem own : ownKnob Try.prog.godebug = none := by kernel_rfl
theorem laidOut : laidOutB Try.prog = true := by kernel_rfl
set_option maxRecDepth 100000 in
set_option maxHeartbeats 4000000 in
theorem walk (v0 : Value) (w : World) (h0 : IsInss w v0) :
    Calls Try.prog 4 #[v0] w fun e w' => e = .returned (.bool true) ∧ Below w.heap.size w w' := by
  obtain ⟨xs, hx, hm, _⟩ := h0
  have hne : (codeB xs != codeB xs) = false := by simp
  have HR := hide hx
  obtain ⟨a, cap, rfl, _⟩ := ins_at hx
  clear hx
  go_enter Try.func4, Try.ntmps4
  go_wp2_with fail
  refine (szIns _ _ _ _ hm).mono ?_
  rintro e w1 ⟨m, rfl, hw1, hz⟩
  rw [hw1]
  clear hw1 w1
  have HB0 := hide (Below.refl w.heap.size w)
  rcases hz with hz | ⟨hz0, hz1, hz2⟩
  · go_wp2
    go_ret
    exact ⟨rfl, HB0.out⟩
  · have hz' : ¬ m < 0 := by omega
    have HM := hide hz2
    clear hz2
    go_wp2_with fail
    refine (toIns _ _ xs HR.out HM.out).mono ?_
    rintro e w1 ⟨v1, rfl, o1, b1⟩
    have HO1 := hide (o1.rd (Nat.le_refl _))
    have HB1 := hide b1
    have HR1 := hide (HR.out.at b1)
    clear o1 b1
    go_wp2_with fail
    refine (codeOkSpec _ _ xs HO1.out HM.out).mono ?_
    rintro e w2 ⟨rfl, b2⟩
    have HB2 := hide (HB1.out.trans (b2.mono HB1.out.size))
    have HR2 := hide (HR1.out.at b2)
    clear b2 HO1
    go_wp2_with fail
    refine (toIns _ _ xs HR2.out HM.out).mono ?_
    rintro e w3 ⟨v3, rfl, o3, b3⟩
    obtain ⟨a3, c3, hv3, _⟩ := (o3.rd (Nat.le_refl _)).shape
    have hv3' : v3 = .slice a3 xs.length c3 := hv3
    subst hv3'
    have HO3 := hide (o3.rd (Nat.le_refl _))
    have HB3 := hide (HB2.out.trans (b3.mono HB2.out.size))
    have HR3 := hide (HR2.out.at b3)
    clear b3 o3 hv3
    go_wp2_with fail
    refine (codeOkImpl _ _ xs HO3.out HM.out).mono ?_
    rintro e w4 ⟨rfl, b4⟩
    have HO4 := hide (HO3.out.at b4)
    have HB4 := hide (HB3.out.trans (b4.mono HB3.out.size))
    have HR4 := hide (HR3.out.at b4)
    clear b4
    go_wp2_with fail
    refine (toIns _ _ xs HR4.out HM.out).mono ?_
    rintro e w5 ⟨v5, rfl, o5, b5⟩
    have HO5 := hide (o5.rd (Nat.le_refl _))
    have HO6 := hide (HO4.out.at b5)
    have HB5 := hide (HB4.out.trans (b5.mono HB4.out.size))
    clear b5 o5
    go_wp2_with fail
    refine (eqInss _ _ _ xs HO6.out HO5.out HM.out).mono ?_
    rintro e w6 ⟨rfl, b6⟩
    have HB6 := hide (HB5.out.trans (b6.mono HB5.out.size))
    clear b6
    go_wp2_with fail
    go_ret
    exact ⟨rfl, HB6.out⟩

set_option maxRecDepth 100000 in
theorem lifted (os : Os) (started : os.Started) (H : Type) (enc : TypeId × Value → H) :
    ReturnsInHanded {} Try.checked os 4 .any (Rows.fnExactCodeOkSpec.pre6 enc Try.prog Try.f4 Rows.fnExactCodeOkRow.domain false) (Rows.fnExactCodeOkSpec.post enc Try.prog Try.f4 false true false false) := by
  refine returnsInHanded_of_change (C := Try.checked) own started (by kernel_rfl) Try.func4
    (ChangeSpec.witness6 (enc := enc) (C := Try.checked) false ⟨#[], #[.slice none 0 0], []⟩ 8 (by kernel_rfl) (by kernel_rfl) (by kernel_rfl) (by kernel_rfl)) ?_
  intro W base args ds gs before hval0 hW hcnd _
  have hval : ∀ (j : Nat) t v, Try.f4.params[j]? = some t → args[j]? = some v → Value.okWide Try.prog W .any base t v := hval0
  have hW' := hW
  obtain ⟨p, q, hA0, hV, rfl, hfz, hnd⟩ := hW
  have hA : DataW.TrodAll enc Try.prog W 0 (fun _ => true) true Try.f4.params.toList args.toList ds p := hA0
  rw [Try.params4] at hA hval
  obtain ⟨v0, vs0, d0, ds0, p0, q0, hargs, rfl, rfl, h0, r0⟩ := trodAll_cons hA
  obtain ⟨rfl, rfl, rfl⟩ := trodAll_nil r0
  obtain rfl : args = #[v0] := by cases args; simp_all
  obtain ⟨rfl, rfl⟩ := trodVars_none hV
  have k0 := h0
  have lt0 : ∀ x ∈ p0, x.block < W.heap.size := by obtain ⟨m, hm⟩ := k0; exact DataW.trod_lt m _ _ _ hm
  have w0 := openInss (hval 0 23 v0 rfl rfl) h0
  clear hA0 hval0
  refine (walk v0 W w0).mono fun e W' ⟨he, bel⟩ => ?_
  subst he
  exact ⟨_, rfl, _, _, _, [], _, [], hW', trodAll_mk1 (shut_bool Try.underlying4 _), (trodAll_cons_mk (Below.trod laidOut (by kernel_rfl) (of_decide_eq_true (by kernel_rfl)) k0 bel lt0) trodAll_mk0), rfl, bel.frame _, fun h => by cases h⟩

theorem over : Rows.fnExactCodeOkRow.holds Try.pinned (OpenSpec.ofChange Rows.fnExactCodeOkSpec) :=
  OpenClaim.holds_of_wide 4 Try.f4 rfl rfl rfl rfl rfl rfl rfl ⟨rfl, rfl, rfl, rfl, rfl⟩ rfl rfl rfl rfl rfl (by kernel_rfl) Try.func4 (by kernel_rfl)
    (of_decide_eq_true (by kernel_rfl)) (by unfold Func.isWrapper; first | (rw [if_pos (by decide +kernel)]; kernel_rfl) | (rw [if_neg (by decide +kernel)]; exact ⟨rfl, rfl⟩))
    (fun os started H enc _ => lifted os started H enc)

end Go.Proofs.Ytonkaomfahmchaa.fnExactCodeOk
namespace Go.Proofs.Ytonkaomfahmchaa
theorem fnExactCodeOk_holds : Rows.FnExactCodeOkSaid := fnExactCodeOk.over
#print axioms fnExactCodeOk_holds
end Go.Proofs.Ytonkaomfahmchaa
