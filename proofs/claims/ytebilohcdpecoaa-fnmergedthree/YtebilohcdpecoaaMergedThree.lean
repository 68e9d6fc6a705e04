/-
  Proved: whatever bytes three rows of notes are drawn from, it is one which two are merged first, and in which order (the law FnMergedThree returns true), without any condition.
-/
import Derived.Test.YtebilohcdpecoaaRows
import Derived.Test.YtebilohcdpecoaaRowIn
import Derived.Test.YtebilohcdpecoaaAtW
import Derived.Test.YtebilohcdpecoaaDrawNt
import Derived.Test.YtebilohcdpecoaaSameN
import Derived.Test.YtebilohcdpecoaaNteP
import Derived.Test.YtebilohcdpecoaaNteQ
import Derived.Test.YtebilohcdpecoaaNteT
import Derived.Test.YtebilohcdpecoaaStepW
import Derived.WalkKit
import Derived.ProofKit
import Derived.OpenShut
import Derived.ShutString
import Derived.ChangeOld
import Derived.Below
namespace Go.Proofs.Ytebilohcdpecoaa.fnMergedThree
open Go.ChangeShapes Go.WideShapes Go.ChangeAt Go.RowKit
open Go.ChangeMaps (open_string shut_string)
set_option linter.unusedVariables false

theorem own : ownKnob Try.prog.godebug = none := by kernel_rfl
theorem laidOut : laidOutB Try.prog = true := by kernel_rfl
set_option maxRecDepth 100000 in
set_option maxHeartbeats 8000000 in
theorem walk (a0 : Option Addr) (len0 cap0 : Nat) (z0 : List Int) (w : World) (w0 : IsRow .u8 w a0 len0 cap0 z0) :
    Calls Try.prog 8 #[.slice a0 len0 cap0] w fun e w' => e = .returned (.bool true) ∧ Below w.heap.size w w' := by
  by_cases hbig : (1048576 : Int) < (len0 : Int)
  · clear w0
    go_enter Try.func8, Try.ntmps8
    go_wp2_with (go_at_call 22; refine (bigYes _ _ _ _ hbig).mono ?_; rintro e wb ⟨rfl, rfl⟩)
    go_ret
    exact ⟨rfl, Below.refl _ _⟩
  · have hin := in_of w0 (by omega)
    clear w0
    generalize z0.take len0 = zs at hin
    have HIN := hide hin
    clear hin
    have HBw := hide (Below.refl w.heap.size w)
    go_enter Try.func8, Try.ntmps8
    go_wp2_with fail
    refine (bigNo _ _ _ _ (by omega)).mono ?_
    rintro e wb ⟨rfl, hw⟩
    subst wb
    go_wp2_with fail
    refine (drawMergeNt _ _ _ _ _ HIN.out).mono ?_
    rintro e k1 ⟨a, b, v9, v8, rfl, r1, r2, hla, hlb, b9⟩
    obtain ⟨p1, q1, f1, _⟩ := r1.shape
    obtain ⟨p1x, q1x, f1x, _⟩ := r2.shape
    subst f1 f1x
    replace HIN := hide (HIN.out.at b9)
    replace HBw := hide (HBw.out.trans (b9.mono HBw.out.size))
    clear b9
    have HA := hide r1
    have HB := hide r2
    clear r1 r2
    go_wp2_with fail
    refine (drawCoversNt _ _ _ _ _ HIN.out).mono ?_
    rintro e k2 ⟨c, d, v9, v8, rfl, r1, r2, hlc, hld, b9⟩
    obtain ⟨p2, q2, f2, _⟩ := r1.shape
    obtain ⟨p2x, q2x, f2x, _⟩ := r2.shape
    subst f2 f2x
    replace HIN := hide (HIN.out.at b9)
    replace HA := hide (HA.out.at b9)
    replace HB := hide (HB.out.at b9)
    replace HBw := hide (HBw.out.trans (b9.mono HBw.out.size))
    clear b9
    have HC := hide r1
    have HD := hide r2
    clear r1 r2
    clear HIN
    clear HD
    go_wp2_with fail
    refine (mergeI _ a b _ _ HA.out HB.out (by omega) (by omega) (by omega)).mono ?_
    rintro e k3 ⟨u9, rfl, o9, b9⟩
    obtain ⟨p3, q3, f3⟩ := o9.shape
    subst f3
    replace HA := hide (HA.out.at b9)
    replace HB := hide (HB.out.at b9)
    replace HC := hide (HC.out.at b9)
    replace HBw := hide (HBw.out.trans (b9.mono HBw.out.size))
    clear b9
    have HM := hide (o9.rd (Nat.le_refl _))
    clear o9
    have hml : (mergeX a b).length ≤ 540 := by
      have := mergeX_len (a := a) (b := b)
      omega
    go_wp2_with fail
    refine (mergeS _ a b _ _ HA.out HB.out (by omega) (by omega) (by omega)).mono ?_
    rintro e k4 ⟨u9, rfl, o9, b9⟩
    obtain ⟨p4, q4, f4⟩ := o9.shape
    subst f4
    replace HA := hide (HA.out.at b9)
    replace HB := hide (HB.out.at b9)
    replace HC := hide (HC.out.at b9)
    replace HM := hide (HM.out.at b9)
    replace HBw := hide (HBw.out.trans (b9.mono HBw.out.size))
    clear b9
    have HX := hide (o9.rd (Nat.le_refl _))
    clear o9
    go_wp2_with fail
    refine (sameNt _ _ _ (mergeX a b) HM.out HX.out (by omega)).mono ?_
    rintro e k5 ⟨he, b9⟩
    subst he
    replace HA := hide (HA.out.at b9)
    replace HB := hide (HB.out.at b9)
    replace HC := hide (HC.out.at b9)
    replace HM := hide (HM.out.at b9)
    replace HX := hide (HX.out.at b9)
    replace HBw := hide (HBw.out.trans (b9.mono HBw.out.size))
    clear b9
    clear HX
    cases kaa : ntkB a with
    | false =>
      go_wp2_with fail
      refine (notesOkI _ a _ HA.out (by omega)).mono ?_
      rintro e k6 ⟨he, b9⟩
      rw [kaa] at he
      subst he
      replace HA := hide (HA.out.at b9)
      replace HB := hide (HB.out.at b9)
      replace HC := hide (HC.out.at b9)
      replace HM := hide (HM.out.at b9)
      replace HBw := hide (HBw.out.trans (b9.mono HBw.out.size))
      clear b9
      go_wp2
      go_ret
      exact ⟨rfl, HBw.out⟩
    | true =>
      go_wp2_with fail
      refine (notesOkI _ a _ HA.out (by omega)).mono ?_
      rintro e k7 ⟨he, b9⟩
      rw [kaa] at he
      subst he
      replace HA := hide (HA.out.at b9)
      replace HB := hide (HB.out.at b9)
      replace HC := hide (HC.out.at b9)
      replace HM := hide (HM.out.at b9)
      replace HBw := hide (HBw.out.trans (b9.mono HBw.out.size))
      clear b9
      cases kbb : ntkB b with
      | false =>
        go_wp2_with fail
        refine (notesOkI _ b _ HB.out (by omega)).mono ?_
        rintro e k8 ⟨he, b9⟩
        rw [kbb] at he
        subst he
        replace HA := hide (HA.out.at b9)
        replace HB := hide (HB.out.at b9)
        replace HC := hide (HC.out.at b9)
        replace HM := hide (HM.out.at b9)
        replace HBw := hide (HBw.out.trans (b9.mono HBw.out.size))
        clear b9
        go_wp2
        go_ret
        exact ⟨rfl, HBw.out⟩
      | true =>
        go_wp2_with fail
        refine (notesOkI _ b _ HB.out (by omega)).mono ?_
        rintro e k9 ⟨he, b9⟩
        rw [kbb] at he
        subst he
        replace HA := hide (HA.out.at b9)
        replace HB := hide (HB.out.at b9)
        replace HC := hide (HC.out.at b9)
        replace HM := hide (HM.out.at b9)
        replace HBw := hide (HBw.out.trans (b9.mono HBw.out.size))
        clear b9
        cases kcc : ntkB c with
        | false =>
          go_wp2_with fail
          refine (notesOkI _ c _ HC.out (by omega)).mono ?_
          rintro e k10 ⟨he, b9⟩
          rw [kcc] at he
          subst he
          replace HA := hide (HA.out.at b9)
          replace HB := hide (HB.out.at b9)
          replace HC := hide (HC.out.at b9)
          replace HM := hide (HM.out.at b9)
          replace HBw := hide (HBw.out.trans (b9.mono HBw.out.size))
          clear b9
          go_wp2
          go_ret
          exact ⟨rfl, HBw.out⟩
        | true =>
          go_wp2_with fail
          refine (notesOkI _ c _ HC.out (by omega)).mono ?_
          rintro e k11 ⟨he, b9⟩
          rw [kcc] at he
          subst he
          replace HA := hide (HA.out.at b9)
          replace HB := hide (HB.out.at b9)
          replace HC := hide (HC.out.at b9)
          replace HM := hide (HM.out.at b9)
          replace HBw := hide (HBw.out.trans (b9.mono HBw.out.size))
          clear b9
          by_cases hl9 : (130 : Int) < (a.length : Int) + (b.length : Int) + (c.length : Int)
          · go_wp2
            go_ret
            exact ⟨rfl, HBw.out⟩
          · have hl8 : a.length + b.length + c.length ≤ 130 := by omega
            go_wp2_with fail
            refine (mergeI _ (mergeX a b) c _ _ HM.out HC.out (by omega) (by omega) (by omega)).mono ?_
            rintro e k12 ⟨u9, rfl, o9, b9⟩
            obtain ⟨p12, q12, f12⟩ := o9.shape
            subst f12
            replace HA := hide (HA.out.at b9)
            replace HB := hide (HB.out.at b9)
            replace HC := hide (HC.out.at b9)
            replace HM := hide (HM.out.at b9)
            replace HBw := hide (HBw.out.trans (b9.mono HBw.out.size))
            clear b9
            have HE := hide (o9.rd (Nat.le_refl _))
            clear o9
            go_wp2_with fail
            refine (mergeI _ b c _ _ HB.out HC.out (by omega) (by omega) (by omega)).mono ?_
            rintro e k13 ⟨u9, rfl, o9, b9⟩
            obtain ⟨p13, q13, f13⟩ := o9.shape
            subst f13
            replace HA := hide (HA.out.at b9)
            replace HB := hide (HB.out.at b9)
            replace HC := hide (HC.out.at b9)
            replace HM := hide (HM.out.at b9)
            replace HE := hide (HE.out.at b9)
            replace HBw := hide (HBw.out.trans (b9.mono HBw.out.size))
            clear b9
            have HF := hide (o9.rd (Nat.le_refl _))
            clear o9
            have hfl : (mergeX b c).length ≤ 540 := by
              have := mergeX_len (a := b) (b := c)
              omega
            go_wp2_with fail
            refine (mergeI _ a (mergeX b c) _ _ HA.out HF.out (by omega) (by omega) (by omega)).mono ?_
            rintro e k14 ⟨u9, rfl, o9, b9⟩
            obtain ⟨p14, q14, f14⟩ := o9.shape
            subst f14
            replace HA := hide (HA.out.at b9)
            replace HB := hide (HB.out.at b9)
            replace HC := hide (HC.out.at b9)
            replace HM := hide (HM.out.at b9)
            replace HE := hide (HE.out.at b9)
            replace HF := hide (HF.out.at b9)
            replace HBw := hide (HBw.out.trans (b9.mono HBw.out.size))
            clear b9
            have HG := hide (o9.rd (Nat.le_refl _))
            clear o9
            have HG2 : Hid (Reads k14 k14.heap.size (ntes (mergeX (mergeX a b) c)) (.slice p14 (mergeX a (mergeX b c)).length q14)) := hide (by
              have h := HG.out
              have e9 : ntes (mergeX a (mergeX b c)) = ntes (mergeX (mergeX a b) c) := congrArg ntes ((mergeX_three kaa kbb kcc hl8).symm)
              rw [e9] at h
              exact h)
            clear HG
            go_wp2_with fail
            refine (sameNt _ _ _ (mergeX (mergeX a b) c) HE.out HG2.out (by have := mergeX_len (a := mergeX a b) (b := c); omega)).mono ?_
            rintro e k15 ⟨he, b9⟩
            subst he
            replace HA := hide (HA.out.at b9)
            replace HB := hide (HB.out.at b9)
            replace HC := hide (HC.out.at b9)
            replace HM := hide (HM.out.at b9)
            replace HE := hide (HE.out.at b9)
            replace HF := hide (HF.out.at b9)
            replace HBw := hide (HBw.out.trans (b9.mono HBw.out.size))
            clear b9
            clear HE HF HG2
            go_wp2_with fail
            refine (mergeI _ b a _ _ HB.out HA.out (by omega) (by omega) (by omega)).mono ?_
            rintro e k16 ⟨u9, rfl, o9, b9⟩
            obtain ⟨p16, q16, f16⟩ := o9.shape
            subst f16
            replace HA := hide (HA.out.at b9)
            replace HB := hide (HB.out.at b9)
            replace HC := hide (HC.out.at b9)
            replace HM := hide (HM.out.at b9)
            replace HBw := hide (HBw.out.trans (b9.mono HBw.out.size))
            clear b9
            have HH := hide (o9.rd (Nat.le_refl _))
            clear o9
            have HH2 : Hid (Reads k16 k16.heap.size (ntes (mergeX a b)) (.slice p16 (mergeX b a).length q16)) := hide (by
              have h := HH.out
              have e9 : ntes (mergeX b a) = ntes (mergeX a b) := congrArg ntes (mergeX_comm kaa kbb (by omega))
              rw [e9] at h
              exact h)
            clear HH
            go_wp2_with fail
            refine (sameNt _ _ _ (mergeX a b) HH2.out HM.out (by omega)).mono ?_
            rintro e k17 ⟨he, b9⟩
            subst he
            replace HA := hide (HA.out.at b9)
            replace HB := hide (HB.out.at b9)
            replace HC := hide (HC.out.at b9)
            replace HM := hide (HM.out.at b9)
            replace HBw := hide (HBw.out.trans (b9.mono HBw.out.size))
            clear b9
            go_wp2
            go_ret
            exact ⟨rfl, HBw.out⟩

set_option maxRecDepth 100000 in
theorem lifted (os : Os) (started : os.Started) (H : Type) (enc : TypeId × Value → H) :
    ReturnsInHanded {} Try.checked os 8 .any (Rows.fnMergedThreeSpec.pre6 enc Try.prog Try.f8 Rows.fnMergedThreeRow.domain false) (Rows.fnMergedThreeSpec.post enc Try.prog Try.f8 false true false false) := by
  refine returnsInHanded_of_change (C := Try.checked) own started (by kernel_rfl) Try.func8
    (ChangeSpec.witness6 (enc := enc) (C := Try.checked) false ⟨#[], #[.slice none 0 0], []⟩ 8 (by kernel_rfl) (by kernel_rfl) (by kernel_rfl) (by kernel_rfl)) ?_
  intro W base args ds gs before hval0 hW hcnd _
  have hval : ∀ (j : Nat) t v, Try.f8.params[j]? = some t → args[j]? = some v → Value.okWide Try.prog W .any base t v := hval0
  have hW' := hW
  obtain ⟨p, q, hA0, hV, rfl, hfz, hnd⟩ := hW
  have hA : DataW.TrodAll enc Try.prog W 0 (fun _ => true) true Try.f8.params.toList args.toList ds p := hA0
  rw [Try.params8] at hA hval
  obtain ⟨v0, vs0, d0, ds0, p0, q0, hargs, rfl, rfl, h0, r0⟩ := trodAll_cons hA
  obtain ⟨rfl, rfl, rfl⟩ := trodAll_nil r0
  obtain rfl : args = #[v0] := by cases args; simp_all
  obtain ⟨rfl, rfl⟩ := trodVars_none hV
  obtain ⟨a0, len0, cap0, rfl⟩ := okWide_slice Try.underlying33 (hval 0 33 v0 rfl rfl)
  have k0 := h0
  have lt0 : ∀ x ∈ p0, x.block < W.heap.size := by obtain ⟨m, hm⟩ := k0; exact DataW.trod_lt m _ _ _ hm
  obtain ⟨z0, w0⟩ : ∃ zs, IsRow .u8 W a0 len0 cap0 zs := by
    obtain ⟨fuel, hf⟩ := h0
    rcases open_ints Try.underlying33 Try.underlying5 (by kernel_rfl) hf with ⟨hcs, _⟩ | ⟨x, l, c, zs, hcs, _, hl, hm, hz, _, hcell, hwz⟩
    · simp [Value.cells] at hcs
      obtain ⟨rfl, rfl, rfl⟩ := hcs
      exact ⟨[], .inl ⟨rfl, rfl, rfl, rfl⟩⟩
    · simp [Value.cells] at hcs
      obtain ⟨rfl, rfl, rfl⟩ := hcs
      exact ⟨zs, .inr ⟨_, rfl, hl, hm, by simpa using hz, hcell, hwz⟩⟩
  clear hA0 hval0
  refine (walk a0 len0 cap0 z0 W w0).mono fun e W' ⟨he, bel⟩ => ?_
  subst he
  exact ⟨_, rfl, _, _, _, [], _, [], hW', trodAll_mk1 (shut_bool Try.underlying4 _), (trodAll_cons_mk (Below.trod laidOut (by kernel_rfl) (of_decide_eq_true (by kernel_rfl)) k0 bel lt0) trodAll_mk0), rfl, bel.frame _, fun h => by cases h⟩

theorem over : Rows.fnMergedThreeRow.holds Try.pinned (OpenSpec.ofChange Rows.fnMergedThreeSpec) :=
  OpenClaim.holds_of_wide 8 Try.f8 rfl rfl rfl rfl rfl rfl rfl ⟨rfl, rfl, rfl, rfl, rfl⟩ rfl rfl rfl rfl rfl (by kernel_rfl) Try.func8 (by kernel_rfl)
    (of_decide_eq_true (by kernel_rfl)) (by unfold Func.isWrapper; first | (rw [if_pos (by decide +kernel)]; kernel_rfl) | (rw [if_neg (by decide +kernel)]; exact ⟨rfl, rfl⟩))
    (fun os started H enc _ => lifted os started H enc)

end Go.Proofs.Ytebilohcdpecoaa.fnMergedThree
namespace Go.Proofs.Ytebilohcdpecoaa
theorem fnMergedThree_holds : Rows.FnMergedThreeSaid := fnMergedThree.over
#print axioms fnMergedThree_holds
end Go.Proofs.Ytebilohcdpecoaa
