/-
  Proved: whatever bytes values and cells are drawn from, what is different, patched and apart is as the model says; what is different is patched, and what is apart in any order (the law FnDiffs returns true), without any condition.
-/
import Derived.Test.YtabeeppfgkeahaaRows
import Derived.Test.YtabeeppfgkeahaaRowIn
import Derived.Test.YtabeeppfgkeahaaAtW
import Derived.Test.YtabeeppfgkeahaaDrawG
import Derived.Test.YtabeeppfgkeahaaSameV
import Derived.Test.YtabeeppfgkeahaaDifQ
import Derived.Test.YtabeeppfgkeahaaDifS
import Derived.Test.YtabeeppfgkeahaaDifA
import Derived.Test.YtabeeppfgkeahaaDifP
import Derived.Test.YtabeeppfgkeahaaDifI
import Derived.Test.YtabeeppfgkeahaaStepW
import Derived.WalkKit
import Derived.ProofKit
import Derived.OpenShut
import Derived.ShutString
import Derived.ChangeOld
import Derived.Below
namespace Go.Proofs.Ytabeeppfgkeahaa.fnDiffs
open Go.ChangeShapes Go.WideShapes Go.ChangeAt Go.RowKit
open Go.ChangeMaps (open_string shut_string)
set_option linter.unusedVariables false

theorem own : ownKnob Try.prog.godebug = none := by kernel_rfl
theorem laidOut : laidOutB Try.prog = true := by kernel_rfl
set_option maxRecDepth 100000 in
set_option maxHeartbeats 8000000 in
theorem walk (a0 : Option Addr) (len0 cap0 : Nat) (z0 : List Int) (w : World) (w0 : IsRow .u8 w a0 len0 cap0 z0) :
    Calls Try.prog 6 #[.slice a0 len0 cap0] w fun e w' => e = .returned (.bool true) ∧ Below w.heap.size w w' := by
  by_cases hbig : (1048576 : Int) < (len0 : Int)
  · clear w0
    go_enter Try.func6, Try.ntmps6
    go_wp2_with (go_at_call 23; refine (bigYes _ _ _ _ hbig).mono ?_; rintro e wb ⟨rfl, rfl⟩)
    go_ret
    exact ⟨rfl, Below.refl _ _⟩
  · have hin := in_of w0 (by omega)
    clear w0
    generalize z0.take len0 = zs at hin
    have HIN := hide hin
    clear hin
    have HBw := hide (Below.refl w.heap.size w)
    go_enter Try.func6, Try.ntmps6
    go_wp2_with fail
    refine (bigNo _ _ _ _ (by omega)).mono ?_
    rintro e wb ⟨rfl, hw⟩
    subst wb
    go_wp2_with fail
    refine (drawDiff _ _ _ _ _ HIN.out).mono ?_
    rintro e k1 ⟨a, b, v9, v8, rfl, r1, r2, hla, hlb, hya, hyb, b9⟩
    obtain ⟨p1, q1, f1, _⟩ := r1.shape
    obtain ⟨p1x, q1x, f1x, _⟩ := r2.shape
    subst f1 f1x
    replace HIN := hide (HIN.out.at b9)
    replace HBw := hide (HBw.out.trans (b9.mono HBw.out.size))
    clear b9
    have HA := hide r1
    have HB := hide r2
    clear r1 r2
    have hGa : vlsG a := ⟨by omega, hya⟩
    have hGb : vlsG b := ⟨by omega, hyb⟩
    go_wp2_with fail
    refine (diffI _ a b _ _ HA.out HB.out hGa hGb).mono ?_
    rintro e k2 ⟨u9, rfl, o9, b9⟩
    obtain ⟨p2, q2, f2⟩ := o9.shape
    subst f2
    replace HIN := hide (HIN.out.at b9)
    replace HA := hide (HA.out.at b9)
    replace HB := hide (HB.out.at b9)
    replace HBw := hide (HBw.out.trans (b9.mono HBw.out.size))
    clear b9
    have HD := hide (o9.rd (Nat.le_refl _))
    clear o9
    go_wp2_with fail
    refine (drawPatch _ _ _ _ _ HIN.out).mono ?_
    rintro e k3 ⟨f, cs, v9, v8, rfl, r1, r2, hlf, hlcs, hyf, hycs, b9⟩
    obtain ⟨p3, q3, f3, _⟩ := r1.shape
    obtain ⟨p3x, q3x, f3x, _⟩ := r2.shape
    subst f3 f3x
    replace HIN := hide (HIN.out.at b9)
    replace HA := hide (HA.out.at b9)
    replace HB := hide (HB.out.at b9)
    replace HD := hide (HD.out.at b9)
    replace HBw := hide (HBw.out.trans (b9.mono HBw.out.size))
    clear b9
    have HF := hide r1
    have HC := hide r2
    clear r1 r2
    have hGf : vlsG f := ⟨by omega, hyf⟩
    have hGcs : celsG cs := ⟨by omega, hycs⟩
    go_wp2_with fail
    refine (drawApart _ _ _ _ _ HIN.out).mono ?_
    rintro e k4 ⟨x, y, v9, v8, rfl, r1, r2, hlx, hly, hyx, hyy, b9⟩
    obtain ⟨p4, q4, f4, _⟩ := r1.shape
    obtain ⟨p4x, q4x, f4x, _⟩ := r2.shape
    subst f4 f4x
    replace HIN := hide (HIN.out.at b9)
    replace HA := hide (HA.out.at b9)
    replace HB := hide (HB.out.at b9)
    replace HD := hide (HD.out.at b9)
    replace HF := hide (HF.out.at b9)
    replace HC := hide (HC.out.at b9)
    replace HBw := hide (HBw.out.trans (b9.mono HBw.out.size))
    clear b9
    have HX := hide r1
    have HY := hide r2
    clear r1 r2
    have hGx : celsG x := ⟨by omega, hyx⟩
    have hGy : celsG y := ⟨by omega, hyy⟩
    clear HIN
    have hdl : (difX a b).length ≤ 1048576 := (difX_ok hGb).1
    have HPL : Hid ((patX f cs).length = f.length) := hide (patX_len cs f)
    have hpl2 : (patX f cs).length ≤ 1048576 := by have := HPL.out; omega
    obtain ⟨P, hP⟩ : ∃ P, apX x y = P := ⟨_, rfl⟩
    have HP := hide hP
    have hPP : (P != P) = false := by simp
    clear hP
    go_wp2_with fail
    refine (apartI _ x y _ _ HX.out HY.out hGx hGy).mono ?_
    rintro e k5 ⟨he, b9⟩
    rw [HP.out] at he
    subst he
    replace HA := hide (HA.out.at b9)
    replace HB := hide (HB.out.at b9)
    replace HD := hide (HD.out.at b9)
    replace HF := hide (HF.out.at b9)
    replace HC := hide (HC.out.at b9)
    replace HX := hide (HX.out.at b9)
    replace HY := hide (HY.out.at b9)
    replace HBw := hide (HBw.out.trans (b9.mono HBw.out.size))
    clear b9
    go_wp2_with fail
    refine (diffS _ a b _ _ HA.out HB.out hGa hGb).mono ?_
    rintro e k6 ⟨u9, rfl, o9, b9⟩
    obtain ⟨p6, q6, f6⟩ := o9.shape
    subst f6
    replace HA := hide (HA.out.at b9)
    replace HB := hide (HB.out.at b9)
    replace HD := hide (HD.out.at b9)
    replace HF := hide (HF.out.at b9)
    replace HC := hide (HC.out.at b9)
    replace HX := hide (HX.out.at b9)
    replace HY := hide (HY.out.at b9)
    replace HBw := hide (HBw.out.trans (b9.mono HBw.out.size))
    clear b9
    have HE := hide (o9.rd (Nat.le_refl _))
    clear o9
    go_wp2_with fail
    refine (sameCel _ _ _ (difX a b) HD.out HE.out hdl).mono ?_
    rintro e k7 ⟨he, b9⟩
    subst he
    replace HA := hide (HA.out.at b9)
    replace HB := hide (HB.out.at b9)
    replace HD := hide (HD.out.at b9)
    replace HF := hide (HF.out.at b9)
    replace HC := hide (HC.out.at b9)
    replace HX := hide (HX.out.at b9)
    replace HY := hide (HY.out.at b9)
    replace HE := hide (HE.out.at b9)
    replace HBw := hide (HBw.out.trans (b9.mono HBw.out.size))
    clear b9
    clear HE
    go_wp2_with fail
    refine (patchI _ f cs _ _ HF.out HC.out hGf hGcs.1).mono ?_
    rintro e k8 ⟨u9, rfl, o9, b9⟩
    obtain ⟨p8, q8, f8⟩ := o9.shape
    subst f8
    replace HA := hide (HA.out.at b9)
    replace HB := hide (HB.out.at b9)
    replace HD := hide (HD.out.at b9)
    replace HF := hide (HF.out.at b9)
    replace HC := hide (HC.out.at b9)
    replace HX := hide (HX.out.at b9)
    replace HY := hide (HY.out.at b9)
    replace HBw := hide (HBw.out.trans (b9.mono HBw.out.size))
    clear b9
    have HE := hide (o9.rd (Nat.le_refl _))
    clear o9
    go_wp2_with fail
    refine (patchS _ f cs _ _ HF.out HC.out hGf hGcs.1).mono ?_
    rintro e k9 ⟨u9, rfl, o9, b9⟩
    obtain ⟨p9, q9, f9⟩ := o9.shape
    subst f9
    replace HA := hide (HA.out.at b9)
    replace HB := hide (HB.out.at b9)
    replace HD := hide (HD.out.at b9)
    replace HF := hide (HF.out.at b9)
    replace HC := hide (HC.out.at b9)
    replace HX := hide (HX.out.at b9)
    replace HY := hide (HY.out.at b9)
    replace HE := hide (HE.out.at b9)
    replace HBw := hide (HBw.out.trans (b9.mono HBw.out.size))
    clear b9
    have HG := hide (o9.rd (Nat.le_refl _))
    clear o9
    go_wp2_with fail
    refine (sameVl _ _ _ (patX f cs) HE.out HG.out hpl2).mono ?_
    rintro e k10 ⟨he, b9⟩
    subst he
    replace HA := hide (HA.out.at b9)
    replace HB := hide (HB.out.at b9)
    replace HD := hide (HD.out.at b9)
    replace HF := hide (HF.out.at b9)
    replace HC := hide (HC.out.at b9)
    replace HX := hide (HX.out.at b9)
    replace HY := hide (HY.out.at b9)
    replace HE := hide (HE.out.at b9)
    replace HG := hide (HG.out.at b9)
    replace HBw := hide (HBw.out.trans (b9.mono HBw.out.size))
    clear b9
    clear HE HG
    go_wp2_with fail
    refine (apartS _ x y _ _ HX.out HY.out hGx.1 hGy.1).mono ?_
    rintro e k11 ⟨he, b9⟩
    rw [HP.out] at he
    subst he
    replace HA := hide (HA.out.at b9)
    replace HB := hide (HB.out.at b9)
    replace HD := hide (HD.out.at b9)
    replace HF := hide (HF.out.at b9)
    replace HC := hide (HC.out.at b9)
    replace HX := hide (HX.out.at b9)
    replace HY := hide (HY.out.at b9)
    replace HBw := hide (HBw.out.trans (b9.mono HBw.out.size))
    clear b9
    go_wp2_with fail
    refine (apartI _ y x _ _ HY.out HX.out hGy hGx).mono ?_
    rintro e k12 ⟨he, b9⟩
    rw [apX_comm, HP.out] at he
    subst he
    replace HA := hide (HA.out.at b9)
    replace HB := hide (HB.out.at b9)
    replace HD := hide (HD.out.at b9)
    replace HF := hide (HF.out.at b9)
    replace HC := hide (HC.out.at b9)
    replace HX := hide (HX.out.at b9)
    replace HY := hide (HY.out.at b9)
    replace HBw := hide (HBw.out.trans (b9.mono HBw.out.size))
    clear b9
    cases P with
    | false =>
      go_upto_region 12 with fail
      go_wp2_with fail
      refine (diffI _ a a _ _ HA.out HA.out hGa hGa).mono ?_
      rintro e k13 ⟨u9, rfl, o9, b9⟩
      have HDS : Hid ((difX a a).length = 0) := hide (by rw [difX_self]; rfl)
      obtain ⟨p13, q13, f13⟩ := o9.shape
      subst f13
      replace HA := hide (HA.out.at b9)
      replace HB := hide (HB.out.at b9)
      replace HD := hide (HD.out.at b9)
      replace HF := hide (HF.out.at b9)
      replace HC := hide (HC.out.at b9)
      replace HX := hide (HX.out.at b9)
      replace HY := hide (HY.out.at b9)
      replace HBw := hide (HBw.out.trans (b9.mono HBw.out.size))
      clear b9
      clear o9
      have hde : (((difX a a).length : Int) == 0) = true := by rw [HDS.out]; rfl
      cases hle : ((a.length : Int) != (b.length : Int)) with
      | true =>
        go_wp2_with fail
        refine (patchI _ f cs _ _ HF.out HC.out hGf hGcs.1).mono ?_
        rintro e k14 ⟨u9, rfl, o9, b9⟩
        obtain ⟨p14, q14, f14⟩ := o9.shape
        subst f14
        replace HA := hide (HA.out.at b9)
        replace HB := hide (HB.out.at b9)
        replace HD := hide (HD.out.at b9)
        replace HF := hide (HF.out.at b9)
        replace HC := hide (HC.out.at b9)
        replace HX := hide (HX.out.at b9)
        replace HY := hide (HY.out.at b9)
        replace HBw := hide (HBw.out.trans (b9.mono HBw.out.size))
        clear b9
        clear o9
        have hfe : (((patX f cs).length : Int) == (f.length : Int)) = true := by rw [HPL.out]; simp
        go_wp2
        go_ret
        exact ⟨rfl, HBw.out⟩
      | false =>
        have hab : a.length = b.length := by
          have h1 := bne_eq_false_iff_eq.1 hle
          omega
        have HAB := hide hab
        clear hab
        by_cases h8 : (8 : Int) < (a.length : Int)
        · go_wp2_with fail
          refine (patchI _ f cs _ _ HF.out HC.out hGf hGcs.1).mono ?_
          rintro e k14 ⟨u9, rfl, o9, b9⟩
          obtain ⟨p14, q14, f14⟩ := o9.shape
          subst f14
          replace HA := hide (HA.out.at b9)
          replace HB := hide (HB.out.at b9)
          replace HD := hide (HD.out.at b9)
          replace HF := hide (HF.out.at b9)
          replace HC := hide (HC.out.at b9)
          replace HX := hide (HX.out.at b9)
          replace HY := hide (HY.out.at b9)
          replace HBw := hide (HBw.out.trans (b9.mono HBw.out.size))
          clear b9
          clear o9
          have hfe : (((patX f cs).length : Int) == (f.length : Int)) = true := by rw [HPL.out]; simp
          go_wp2
          go_ret
          exact ⟨rfl, HBw.out⟩
        · go_wp2_with fail
          refine (patchI _ a (difX a b) _ _ HA.out HD.out hGa hdl).mono ?_
          rintro e k15 ⟨u9, rfl, o9, b9⟩
          obtain ⟨p15, q15, f15⟩ := o9.shape
          subst f15
          replace HA := hide (HA.out.at b9)
          replace HB := hide (HB.out.at b9)
          replace HD := hide (HD.out.at b9)
          replace HF := hide (HF.out.at b9)
          replace HC := hide (HC.out.at b9)
          replace HX := hide (HX.out.at b9)
          replace HY := hide (HY.out.at b9)
          replace HBw := hide (HBw.out.trans (b9.mono HBw.out.size))
          clear b9
          have HE := hide (o9.rd (Nat.le_refl _))
          clear o9
          have HPB : Hid ((patX a (difX a b)).length = b.length) := hide (by rw [dif_patch HAB.out (by omega)])
          go_wp2_with fail
          have HE2 : Hid (Reads k15 k15.heap.size (vls b) (.slice p15 (patX a (difX a b)).length q15)) := hide (by
            have h := HE.out
            have e9 : vls (patX a (difX a b)) = vls b := congrArg vls (dif_patch HAB.out (by omega))
            rw [e9] at h
            exact h)
          refine (sameVl _ _ _ b HE2.out HB.out (by omega)).mono ?_
          rintro e k16 ⟨he, b9⟩
          subst he
          replace HA := hide (HA.out.at b9)
          replace HB := hide (HB.out.at b9)
          replace HD := hide (HD.out.at b9)
          replace HF := hide (HF.out.at b9)
          replace HC := hide (HC.out.at b9)
          replace HX := hide (HX.out.at b9)
          replace HY := hide (HY.out.at b9)
          replace HBw := hide (HBw.out.trans (b9.mono HBw.out.size))
          clear b9
          clear HE HE2
          go_wp2_with fail
          refine (patchI _ f cs _ _ HF.out HC.out hGf hGcs.1).mono ?_
          rintro e k14 ⟨u9, rfl, o9, b9⟩
          obtain ⟨p14, q14, f14⟩ := o9.shape
          subst f14
          replace HA := hide (HA.out.at b9)
          replace HB := hide (HB.out.at b9)
          replace HD := hide (HD.out.at b9)
          replace HF := hide (HF.out.at b9)
          replace HC := hide (HC.out.at b9)
          replace HX := hide (HX.out.at b9)
          replace HY := hide (HY.out.at b9)
          replace HBw := hide (HBw.out.trans (b9.mono HBw.out.size))
          clear b9
          clear o9
          have hfe : (((patX f cs).length : Int) == (f.length : Int)) = true := by rw [HPL.out]; simp
          go_wp2
          go_ret
          exact ⟨rfl, HBw.out⟩
    | true =>
      go_wp2_with fail
      refine (patchI _ f x _ _ HF.out HX.out hGf hGx.1).mono ?_
      rintro e k17 ⟨u9, rfl, o9, b9⟩
      obtain ⟨p17, q17, f17⟩ := o9.shape
      subst f17
      replace HA := hide (HA.out.at b9)
      replace HB := hide (HB.out.at b9)
      replace HD := hide (HD.out.at b9)
      replace HF := hide (HF.out.at b9)
      replace HC := hide (HC.out.at b9)
      replace HX := hide (HX.out.at b9)
      replace HY := hide (HY.out.at b9)
      replace HBw := hide (HBw.out.trans (b9.mono HBw.out.size))
      clear b9
      have HE := hide (o9.rd (Nat.le_refl _))
      clear o9
      go_wp2_with fail
      refine (patchI _ (patX f x) y _ _ HE.out HY.out (patX_ok hGf hGx.2) hGy.1).mono ?_
      rintro e k18 ⟨u9, rfl, o9, b9⟩
      obtain ⟨p18, q18, f18⟩ := o9.shape
      subst f18
      replace HA := hide (HA.out.at b9)
      replace HB := hide (HB.out.at b9)
      replace HD := hide (HD.out.at b9)
      replace HF := hide (HF.out.at b9)
      replace HC := hide (HC.out.at b9)
      replace HX := hide (HX.out.at b9)
      replace HY := hide (HY.out.at b9)
      replace HE := hide (HE.out.at b9)
      replace HBw := hide (HBw.out.trans (b9.mono HBw.out.size))
      clear b9
      have HG := hide (o9.rd (Nat.le_refl _))
      clear o9
      go_wp2_with fail
      refine (patchI _ f y _ _ HF.out HY.out hGf hGy.1).mono ?_
      rintro e k19 ⟨u9, rfl, o9, b9⟩
      obtain ⟨p19, q19, f19⟩ := o9.shape
      subst f19
      replace HA := hide (HA.out.at b9)
      replace HB := hide (HB.out.at b9)
      replace HD := hide (HD.out.at b9)
      replace HF := hide (HF.out.at b9)
      replace HC := hide (HC.out.at b9)
      replace HX := hide (HX.out.at b9)
      replace HY := hide (HY.out.at b9)
      replace HE := hide (HE.out.at b9)
      replace HG := hide (HG.out.at b9)
      replace HBw := hide (HBw.out.trans (b9.mono HBw.out.size))
      clear b9
      have HH := hide (o9.rd (Nat.le_refl _))
      clear o9
      go_wp2_with fail
      refine (patchI _ (patX f y) x _ _ HH.out HX.out (patX_ok hGf hGy.2) hGx.1).mono ?_
      rintro e k20 ⟨u9, rfl, o9, b9⟩
      obtain ⟨p20, q20, f20⟩ := o9.shape
      subst f20
      replace HA := hide (HA.out.at b9)
      replace HB := hide (HB.out.at b9)
      replace HD := hide (HD.out.at b9)
      replace HF := hide (HF.out.at b9)
      replace HC := hide (HC.out.at b9)
      replace HX := hide (HX.out.at b9)
      replace HY := hide (HY.out.at b9)
      replace HE := hide (HE.out.at b9)
      replace HG := hide (HG.out.at b9)
      replace HH := hide (HH.out.at b9)
      replace HBw := hide (HBw.out.trans (b9.mono HBw.out.size))
      clear b9
      have HK := hide (o9.rd (Nat.le_refl _))
      clear o9
      have HK2 : Hid (Reads k20 k20.heap.size (vls (patX (patX f x) y)) (.slice p20 (patX (patX f y) x).length q20)) := hide (by
        have h := HK.out
        have e9 : vls (patX (patX f y) x) = vls (patX (patX f x) y) := congrArg vls (patX_comm f HP.out).symm
        rw [e9] at h
        exact h)
      clear HK
      have hpm : (patX (patX f x) y).length ≤ 1048576 := by rw [patX_len, patX_len]; omega
      go_wp2_with fail
      refine (sameVl _ _ _ (patX (patX f x) y) HG.out HK2.out hpm).mono ?_
      rintro e k21 ⟨he, b9⟩
      subst he
      replace HA := hide (HA.out.at b9)
      replace HB := hide (HB.out.at b9)
      replace HD := hide (HD.out.at b9)
      replace HF := hide (HF.out.at b9)
      replace HC := hide (HC.out.at b9)
      replace HX := hide (HX.out.at b9)
      replace HY := hide (HY.out.at b9)
      replace HE := hide (HE.out.at b9)
      replace HG := hide (HG.out.at b9)
      replace HH := hide (HH.out.at b9)
      replace HBw := hide (HBw.out.trans (b9.mono HBw.out.size))
      clear b9
      clear HE HG HH HK2 hpm
      go_upto_region 12 with fail
      go_wp2_with fail
      refine (diffI _ a a _ _ HA.out HA.out hGa hGa).mono ?_
      rintro e k22 ⟨u9, rfl, o9, b9⟩
      have HDS : Hid ((difX a a).length = 0) := hide (by rw [difX_self]; rfl)
      obtain ⟨p22, q22, f22⟩ := o9.shape
      subst f22
      replace HA := hide (HA.out.at b9)
      replace HB := hide (HB.out.at b9)
      replace HD := hide (HD.out.at b9)
      replace HF := hide (HF.out.at b9)
      replace HC := hide (HC.out.at b9)
      replace HX := hide (HX.out.at b9)
      replace HY := hide (HY.out.at b9)
      replace HBw := hide (HBw.out.trans (b9.mono HBw.out.size))
      clear b9
      clear o9
      have hde : (((difX a a).length : Int) == 0) = true := by rw [HDS.out]; rfl
      cases hle : ((a.length : Int) != (b.length : Int)) with
      | true =>
        go_wp2_with fail
        refine (patchI _ f cs _ _ HF.out HC.out hGf hGcs.1).mono ?_
        rintro e k23 ⟨u9, rfl, o9, b9⟩
        obtain ⟨p23, q23, f23⟩ := o9.shape
        subst f23
        replace HA := hide (HA.out.at b9)
        replace HB := hide (HB.out.at b9)
        replace HD := hide (HD.out.at b9)
        replace HF := hide (HF.out.at b9)
        replace HC := hide (HC.out.at b9)
        replace HX := hide (HX.out.at b9)
        replace HY := hide (HY.out.at b9)
        replace HBw := hide (HBw.out.trans (b9.mono HBw.out.size))
        clear b9
        clear o9
        have hfe : (((patX f cs).length : Int) == (f.length : Int)) = true := by rw [HPL.out]; simp
        go_wp2
        go_ret
        exact ⟨rfl, HBw.out⟩
      | false =>
        have hab : a.length = b.length := by
          have h1 := bne_eq_false_iff_eq.1 hle
          omega
        have HAB := hide hab
        clear hab
        by_cases h8 : (8 : Int) < (a.length : Int)
        · go_wp2_with fail
          refine (patchI _ f cs _ _ HF.out HC.out hGf hGcs.1).mono ?_
          rintro e k23 ⟨u9, rfl, o9, b9⟩
          obtain ⟨p23, q23, f23⟩ := o9.shape
          subst f23
          replace HA := hide (HA.out.at b9)
          replace HB := hide (HB.out.at b9)
          replace HD := hide (HD.out.at b9)
          replace HF := hide (HF.out.at b9)
          replace HC := hide (HC.out.at b9)
          replace HX := hide (HX.out.at b9)
          replace HY := hide (HY.out.at b9)
          replace HBw := hide (HBw.out.trans (b9.mono HBw.out.size))
          clear b9
          clear o9
          have hfe : (((patX f cs).length : Int) == (f.length : Int)) = true := by rw [HPL.out]; simp
          go_wp2
          go_ret
          exact ⟨rfl, HBw.out⟩
        · go_wp2_with fail
          refine (patchI _ a (difX a b) _ _ HA.out HD.out hGa hdl).mono ?_
          rintro e k24 ⟨u9, rfl, o9, b9⟩
          obtain ⟨p24, q24, f24⟩ := o9.shape
          subst f24
          replace HA := hide (HA.out.at b9)
          replace HB := hide (HB.out.at b9)
          replace HD := hide (HD.out.at b9)
          replace HF := hide (HF.out.at b9)
          replace HC := hide (HC.out.at b9)
          replace HX := hide (HX.out.at b9)
          replace HY := hide (HY.out.at b9)
          replace HBw := hide (HBw.out.trans (b9.mono HBw.out.size))
          clear b9
          have HE := hide (o9.rd (Nat.le_refl _))
          clear o9
          have HPB : Hid ((patX a (difX a b)).length = b.length) := hide (by rw [dif_patch HAB.out (by omega)])
          go_wp2_with fail
          have HE2 : Hid (Reads k24 k24.heap.size (vls b) (.slice p24 (patX a (difX a b)).length q24)) := hide (by
            have h := HE.out
            have e9 : vls (patX a (difX a b)) = vls b := congrArg vls (dif_patch HAB.out (by omega))
            rw [e9] at h
            exact h)
          refine (sameVl _ _ _ b HE2.out HB.out (by omega)).mono ?_
          rintro e k25 ⟨he, b9⟩
          subst he
          replace HA := hide (HA.out.at b9)
          replace HB := hide (HB.out.at b9)
          replace HD := hide (HD.out.at b9)
          replace HF := hide (HF.out.at b9)
          replace HC := hide (HC.out.at b9)
          replace HX := hide (HX.out.at b9)
          replace HY := hide (HY.out.at b9)
          replace HBw := hide (HBw.out.trans (b9.mono HBw.out.size))
          clear b9
          clear HE HE2
          go_wp2_with fail
          refine (patchI _ f cs _ _ HF.out HC.out hGf hGcs.1).mono ?_
          rintro e k23 ⟨u9, rfl, o9, b9⟩
          obtain ⟨p23, q23, f23⟩ := o9.shape
          subst f23
          replace HA := hide (HA.out.at b9)
          replace HB := hide (HB.out.at b9)
          replace HD := hide (HD.out.at b9)
          replace HF := hide (HF.out.at b9)
          replace HC := hide (HC.out.at b9)
          replace HX := hide (HX.out.at b9)
          replace HY := hide (HY.out.at b9)
          replace HBw := hide (HBw.out.trans (b9.mono HBw.out.size))
          clear b9
          clear o9
          have hfe : (((patX f cs).length : Int) == (f.length : Int)) = true := by rw [HPL.out]; simp
          go_wp2
          go_ret
          exact ⟨rfl, HBw.out⟩

set_option maxRecDepth 100000 in
theorem lifted (os : Os) (started : os.Started) (H : Type) (enc : TypeId × Value → H) :
    ReturnsInHanded {} Try.checked os 6 .any (Rows.fnDiffsSpec.pre6 enc Try.prog Try.f6 Rows.fnDiffsRow.domain false) (Rows.fnDiffsSpec.post enc Try.prog Try.f6 false true false false) := by
  refine returnsInHanded_of_change (C := Try.checked) own started (by kernel_rfl) Try.func6
    (ChangeSpec.witness6 (enc := enc) (C := Try.checked) false ⟨#[], #[.slice none 0 0], []⟩ 8 (by kernel_rfl) (by kernel_rfl) (by kernel_rfl) (by kernel_rfl)) ?_
  intro W base args ds gs before hval0 hW hcnd _
  have hval : ∀ (j : Nat) t v, Try.f6.params[j]? = some t → args[j]? = some v → Value.okWide Try.prog W .any base t v := hval0
  have hW' := hW
  obtain ⟨p, q, hA0, hV, rfl, hfz, hnd⟩ := hW
  have hA : DataW.TrodAll enc Try.prog W 0 (fun _ => true) true Try.f6.params.toList args.toList ds p := hA0
  rw [Try.params6] at hA hval
  obtain ⟨v0, vs0, d0, ds0, p0, q0, hargs, rfl, rfl, h0, r0⟩ := trodAll_cons hA
  obtain ⟨rfl, rfl, rfl⟩ := trodAll_nil r0
  obtain rfl : args = #[v0] := by cases args; simp_all
  obtain ⟨rfl, rfl⟩ := trodVars_none hV
  obtain ⟨a0, len0, cap0, rfl⟩ := okWide_slice Try.underlying39 (hval 0 39 v0 rfl rfl)
  have k0 := h0
  have lt0 : ∀ x ∈ p0, x.block < W.heap.size := by obtain ⟨m, hm⟩ := k0; exact DataW.trod_lt m _ _ _ hm
  obtain ⟨z0, w0⟩ : ∃ zs, IsRow .u8 W a0 len0 cap0 zs := by
    obtain ⟨fuel, hf⟩ := h0
    rcases open_ints Try.underlying39 Try.underlying5 (by kernel_rfl) hf with ⟨hcs, _⟩ | ⟨x, l, c, zs, hcs, _, hl, hm, hz, _, hcell, hwz⟩
    · simp [Value.cells] at hcs
      obtain ⟨rfl, rfl, rfl⟩ := hcs
      exact ⟨[], .inl ⟨rfl, rfl, rfl, rfl⟩⟩
    · simp [Value.cells] at hcs
      obtain ⟨rfl, rfl, rfl⟩ := hcs
      exact ⟨zs, .inr ⟨_, rfl, hl, hm, by simpa using hz, hcell, hwz⟩⟩
  clear hA0 hval0
  refine (walk a0 len0 cap0 z0 W w0).mono fun e W' ⟨he, bel⟩ => ?_
  subst he
  exact ⟨_, rfl, _, _, _, [], _, [], hW', trodAll_mk1 (shut_bool Try.underlying4 _), (trodAll_cons_mk (Below.trod laidOut (by kernel_rfl) (of_decide_eq_true (by kernel_rfl)) k0 bel lt0) trodAll_mk0), rfl, bel.frame _, fun h => by cases h⟩

theorem over : Rows.fnDiffsRow.holds Try.pinned (OpenSpec.ofChange Rows.fnDiffsSpec) :=
  OpenClaim.holds_of_wide 6 Try.f6 rfl rfl rfl rfl rfl rfl rfl ⟨rfl, rfl, rfl, rfl, rfl⟩ rfl rfl rfl rfl rfl (by kernel_rfl) Try.func6 (by kernel_rfl)
    (of_decide_eq_true (by kernel_rfl)) (by unfold Func.isWrapper; first | (rw [if_pos (by decide +kernel)]; kernel_rfl) | (rw [if_neg (by decide +kernel)]; exact ⟨rfl, rfl⟩))
    (fun os started H enc _ => lifted os started H enc)

end Go.Proofs.Ytabeeppfgkeahaa.fnDiffs
namespace Go.Proofs.Ytabeeppfgkeahaa
theorem fnDiffs_holds : Rows.FnDiffsSaid := fnDiffs.over
#print axioms fnDiffs_holds
end Go.Proofs.Ytabeeppfgkeahaa
