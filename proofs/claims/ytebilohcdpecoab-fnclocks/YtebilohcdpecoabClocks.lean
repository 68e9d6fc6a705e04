/-
  Proved: whatever bytes clocks are drawn from, they are joined, counted, ticked and compared as their model does it; who joined two knows both, joining is the same both ways round, and who ticks knows what it knew (the law FnClocks returns true), without any condition.
-/
import Derived.Test.YtebilohcdpecoabRows
import Derived.Test.YtebilohcdpecoabRowIn
import Derived.Test.YtebilohcdpecoabAtW
import Derived.Test.YtebilohcdpecoabDrawE
import Derived.Test.YtebilohcdpecoabSameK
import Derived.Test.YtebilohcdpecoabClkI
import Derived.Test.YtebilohcdpecoabClkQ
import Derived.WalkKit
import Derived.ProofKit
import Derived.OpenShut
import Derived.ShutString
import Derived.ChangeOld
import Derived.Below
namespace Go.Proofs.Ytebilohcdpecoab.fnClocks
open Go.ChangeShapes Go.WideShapes Go.ChangeAt Go.RowKit
open Go.ChangeMaps (open_string shut_string)
set_option linter.unusedVariables false

theorem own : ownKnob Try.prog.godebug = none := by kernel_rfl
theorem laidOut : laidOutB Try.prog = true := by kernel_rfl
set_option maxRecDepth 100000 in
set_option maxHeartbeats 8000000 in
theorem walk (a0 : Option Addr) (len0 cap0 : Nat) (z0 : List Int) (w : World) (w0 : IsRow .u8 w a0 len0 cap0 z0) :
    Calls Try.prog 3 #[.slice a0 len0 cap0] w fun e w' => e = .returned (.bool true) ∧ Below w.heap.size w w' := by
  by_cases hbig : (1048576 : Int) < (len0 : Int)
  · clear w0
    go_enter Try.func3, Try.ntmps3
    go_wp2_with (go_at_call 7; refine (bigYes _ _ _ _ hbig).mono ?_; rintro e wb ⟨rfl, rfl⟩)
    go_ret
    exact ⟨rfl, Below.refl _ _⟩
  · have hin := in_of w0 (by omega)
    clear w0
    generalize z0.take len0 = zs at hin
    have HIN := hide hin
    clear hin
    go_enter Try.func3, Try.ntmps3
    go_wp2_with fail
    refine (bigNo _ _ _ _ (by omega)).mono ?_
    rintro e wb ⟨rfl, hw⟩
    subst wb
    go_wp2_with fail
    refine (drawJoin2C _ _ _ _ _ HIN.out).mono ?_
    rintro e x1 ⟨xs, ys, v1, u1, rfl, r1, s1, g1, h1, l1, m1, b1⟩
    obtain ⟨a1, c1, e1, _⟩ := r1.shape
    subst e1
    obtain ⟨d1, f1, e1, _⟩ := s1.shape
    subst e1
    have HA := hide r1
    have HE := hide s1
    have HAg : Hid (smpsG xs) := hide ⟨by omega, g1⟩
    have HEg : Hid (smpsG ys) := hide ⟨by omega, h1⟩
    have HB := hide b1
    clear r1 s1 g1 h1 b1
    have hxl : xs.length ≤ 60 := by assumption
    have hyl : ys.length ≤ 60 := by assumption
    have hJl : (joinC xs ys).length ≤ 120 := by
      unfold joinC
      split
      · have := joinK_len xs ys
        omega
      · simp
    go_wp2_with fail
    refine (join2I _ xs ys _ _ HA.out HE.out (by omega) (by omega) (by omega)).mono ?_
    rintro e x2 ⟨v2, rfl, o2, b2⟩
    obtain ⟨a2, c2, e2⟩ := o2.shape
    subst e2
    have HJ := hide (o2.rd (Nat.le_refl _))
    replace HA := hide (HA.out.at b2)
    replace HE := hide (HE.out.at b2)
    replace HB := hide (HB.out.trans (b2.mono HB.out.size))
    clear b2 o2
    go_wp2_with fail
    refine (join2S _ xs ys _ _ HA.out HE.out (by omega) (by omega) (by omega)).mono ?_
    rintro e x3 ⟨v3, rfl, o3, b3⟩
    obtain ⟨a3, c3, e3⟩ := o3.shape
    subst e3
    have HJ2 := hide (o3.rd (Nat.le_refl _))
    replace HA := hide (HA.out.at b3)
    replace HE := hide (HE.out.at b3)
    replace HJ := hide (HJ.out.at b3)
    replace HB := hide (HB.out.trans (b3.mono HB.out.size))
    clear b3 o3
    go_wp2_with fail
    refine (sameK _ _ _ (joinC xs ys) HJ.out HJ2.out (by omega)).mono ?_
    rintro e x4 ⟨rfl, b4⟩
    replace HA := hide (HA.out.at b4)
    replace HE := hide (HE.out.at b4)
    replace HJ := hide (HJ.out.at b4)
    replace HB := hide (HB.out.trans (b4.mono HB.out.size))
    clear b4
    clear HJ2
    go_wp2_with fail
    refine (clockOkI _ xs _ HA.out (by omega)).mono ?_
    rintro e x5 ⟨rfl, b5⟩
    replace HA := hide (HA.out.at b5)
    replace HE := hide (HE.out.at b5)
    replace HJ := hide (HJ.out.at b5)
    replace HB := hide (HB.out.trans (b5.mono HB.out.size))
    clear b5
    go_wp2_with fail
    refine (clockOkS _ xs _ HA.out (by omega)).mono ?_
    rintro e x6 ⟨rfl, b6⟩
    replace HA := hide (HA.out.at b6)
    replace HE := hide (HE.out.at b6)
    replace HJ := hide (HJ.out.at b6)
    replace HB := hide (HB.out.trans (b6.mono HB.out.size))
    clear b6
    have e1 : (clkB xs != clkB xs) = false := by simp
    go_wp2_with fail
    refine (drawKnowsC _ _ _ _ _ (HIN.out.at HB.out)).mono ?_
    rintro e x7 ⟨cs, ds, v7, u7, rfl, r7, s7, g7, h7, l7, m7, b7⟩
    obtain ⟨a7, c7, e7, _⟩ := r7.shape
    subst e7
    obtain ⟨d7, f7, e7, _⟩ := s7.shape
    subst e7
    have HC := hide r7
    have HD := hide s7
    have HCg : Hid (smpsG cs) := hide ⟨by omega, g7⟩
    have HDg : Hid (smpsG ds) := hide ⟨by omega, h7⟩
    replace HA := hide (HA.out.at b7)
    replace HE := hide (HE.out.at b7)
    replace HJ := hide (HJ.out.at b7)
    replace HB := hide (HB.out.trans (b7.mono HB.out.size))
    clear r7 s7 g7 h7 b7
    have hcl : cs.length ≤ 60 := by assumption
    have hdl : ds.length ≤ 60 := by assumption
    go_wp2_with fail
    refine (drawTickC _ _ _ _ _ (HIN.out.at HB.out)).mono ?_
    rintro e x8 ⟨es, v8, q, rfl, o8, g8, l8, q8, r8, b8⟩
    obtain ⟨a8, c8, e8⟩ := o8.shape
    subst e8
    have HT := hide (o8.rd (Nat.le_refl _))
    have HTg : Hid (smpsG es) := hide ⟨by omega, g8⟩
    replace HA := hide (HA.out.at b8)
    replace HE := hide (HE.out.at b8)
    replace HJ := hide (HJ.out.at b8)
    replace HC := hide (HC.out.at b8)
    replace HD := hide (HD.out.at b8)
    replace HB := hide (HB.out.trans (b8.mono HB.out.size))
    clear o8 g8 b8
    have hTl : (tickX es q).length ≤ 1048576 := (tickX_ok HTg.out).1
    go_wp2_with fail
    refine (tickI _ es _ q HT.out HTg.out).mono ?_
    rintro e x9 ⟨v9, rfl, o9, b9⟩
    obtain ⟨a9, c9, e9⟩ := o9.shape
    subst e9
    have HU := hide (o9.rd (Nat.le_refl _))
    replace HA := hide (HA.out.at b9)
    replace HE := hide (HE.out.at b9)
    replace HJ := hide (HJ.out.at b9)
    replace HC := hide (HC.out.at b9)
    replace HD := hide (HD.out.at b9)
    replace HT := hide (HT.out.at b9)
    replace HB := hide (HB.out.trans (b9.mono HB.out.size))
    clear b9 o9
    go_wp2_with fail
    refine (drawCountC _ _ _ _ _ (HIN.out.at HB.out)).mono ?_
    rintro e x10 ⟨fs, v10, u, rfl, o10, g10, l10, q10, r10, b10⟩
    obtain ⟨a10, c10, e10⟩ := o10.shape
    subst e10
    have HF := hide (o10.rd (Nat.le_refl _))
    have HFg : Hid (smpsG fs) := hide ⟨by omega, g10⟩
    replace HA := hide (HA.out.at b10)
    replace HE := hide (HE.out.at b10)
    replace HJ := hide (HJ.out.at b10)
    replace HC := hide (HC.out.at b10)
    replace HD := hide (HD.out.at b10)
    replace HT := hide (HT.out.at b10)
    replace HU := hide (HU.out.at b10)
    replace HB := hide (HB.out.trans (b10.mono HB.out.size))
    clear o10 g10 b10
    go_wp2_with fail
    refine (drawOkC _ _ _ _ _ (HIN.out.at HB.out)).mono ?_
    rintro e x11 ⟨gs, v11, rfl, o11, g11, l11, b11⟩
    obtain ⟨a11, c11, e11⟩ := o11.shape
    subst e11
    have HG := hide (o11.rd (Nat.le_refl _))
    have HGg : Hid (smpsG gs) := hide ⟨by omega, g11⟩
    replace HA := hide (HA.out.at b11)
    replace HE := hide (HE.out.at b11)
    replace HJ := hide (HJ.out.at b11)
    replace HC := hide (HC.out.at b11)
    replace HD := hide (HD.out.at b11)
    replace HT := hide (HT.out.at b11)
    replace HU := hide (HU.out.at b11)
    replace HF := hide (HF.out.at b11)
    replace HB := hide (HB.out.trans (b11.mono HB.out.size))
    clear o11 g11 b11
    go_wp2_with fail
    refine (knowsI _ cs ds _ _ HC.out HD.out (by omega) (by omega)).mono ?_
    rintro e x12 ⟨rfl, b12⟩
    replace HA := hide (HA.out.at b12)
    replace HE := hide (HE.out.at b12)
    replace HJ := hide (HJ.out.at b12)
    replace HC := hide (HC.out.at b12)
    replace HD := hide (HD.out.at b12)
    replace HT := hide (HT.out.at b12)
    replace HU := hide (HU.out.at b12)
    replace HF := hide (HF.out.at b12)
    replace HG := hide (HG.out.at b12)
    replace HB := hide (HB.out.trans (b12.mono HB.out.size))
    clear b12
    go_wp2_with fail
    refine (knowsS _ cs ds _ _ HC.out HD.out (by omega) (by omega)).mono ?_
    rintro e x13 ⟨rfl, b13⟩
    replace HA := hide (HA.out.at b13)
    replace HE := hide (HE.out.at b13)
    replace HJ := hide (HJ.out.at b13)
    replace HC := hide (HC.out.at b13)
    replace HD := hide (HD.out.at b13)
    replace HT := hide (HT.out.at b13)
    replace HU := hide (HU.out.at b13)
    replace HF := hide (HF.out.at b13)
    replace HG := hide (HG.out.at b13)
    replace HB := hide (HB.out.trans (b13.mono HB.out.size))
    clear b13
    have e2 : (knowsB cs ds != knowsB cs ds) = false := by simp
    go_wp2_with fail
    refine (tickS _ es _ q HT.out HTg.out).mono ?_
    rintro e x14 ⟨v14, rfl, o14, b14⟩
    obtain ⟨a14, c14, e14⟩ := o14.shape
    subst e14
    have HV := hide (o14.rd (Nat.le_refl _))
    replace HA := hide (HA.out.at b14)
    replace HE := hide (HE.out.at b14)
    replace HJ := hide (HJ.out.at b14)
    replace HC := hide (HC.out.at b14)
    replace HD := hide (HD.out.at b14)
    replace HT := hide (HT.out.at b14)
    replace HU := hide (HU.out.at b14)
    replace HF := hide (HF.out.at b14)
    replace HG := hide (HG.out.at b14)
    replace HB := hide (HB.out.trans (b14.mono HB.out.size))
    clear b14 o14
    go_wp2_with fail
    refine (sameK _ _ _ (tickX es q) HU.out HV.out hTl).mono ?_
    rintro e x15 ⟨rfl, b15⟩
    replace HA := hide (HA.out.at b15)
    replace HE := hide (HE.out.at b15)
    replace HJ := hide (HJ.out.at b15)
    replace HC := hide (HC.out.at b15)
    replace HD := hide (HD.out.at b15)
    replace HT := hide (HT.out.at b15)
    replace HU := hide (HU.out.at b15)
    replace HF := hide (HF.out.at b15)
    replace HG := hide (HG.out.at b15)
    replace HB := hide (HB.out.trans (b15.mono HB.out.size))
    clear b15
    clear HV
    go_wp2_with fail
    refine (countI _ fs _ u HF.out (by omega)).mono ?_
    rintro e x16 ⟨rfl, b16⟩
    replace HA := hide (HA.out.at b16)
    replace HE := hide (HE.out.at b16)
    replace HJ := hide (HJ.out.at b16)
    replace HC := hide (HC.out.at b16)
    replace HD := hide (HD.out.at b16)
    replace HT := hide (HT.out.at b16)
    replace HU := hide (HU.out.at b16)
    replace HF := hide (HF.out.at b16)
    replace HG := hide (HG.out.at b16)
    replace HB := hide (HB.out.trans (b16.mono HB.out.size))
    clear b16
    go_wp2_with fail
    refine (countS _ fs _ u HF.out (by omega)).mono ?_
    rintro e x17 ⟨rfl, hx17⟩
    rw [hx17]
    clear hx17 x17
    have e3 : (cntX fs u != cntX fs u) = false := by simp
    go_wp2_with fail
    refine (clockOkI _ gs _ HG.out (by omega)).mono ?_
    rintro e x18 ⟨rfl, b18⟩
    replace HA := hide (HA.out.at b18)
    replace HE := hide (HE.out.at b18)
    replace HJ := hide (HJ.out.at b18)
    replace HC := hide (HC.out.at b18)
    replace HD := hide (HD.out.at b18)
    replace HT := hide (HT.out.at b18)
    replace HU := hide (HU.out.at b18)
    replace HF := hide (HF.out.at b18)
    replace HG := hide (HG.out.at b18)
    replace HB := hide (HB.out.trans (b18.mono HB.out.size))
    clear b18
    go_wp2_with fail
    refine (clockOkS _ gs _ HG.out (by omega)).mono ?_
    rintro e x19 ⟨rfl, b19⟩
    replace HA := hide (HA.out.at b19)
    replace HE := hide (HE.out.at b19)
    replace HJ := hide (HJ.out.at b19)
    replace HC := hide (HC.out.at b19)
    replace HD := hide (HD.out.at b19)
    replace HT := hide (HT.out.at b19)
    replace HU := hide (HU.out.at b19)
    replace HF := hide (HF.out.at b19)
    replace HG := hide (HG.out.at b19)
    replace HB := hide (HB.out.trans (b19.mono HB.out.size))
    clear b19
    have e4 : (clkB gs != clkB gs) = false := by simp
    clear HC HD HF HG HCg HDg HFg HGg
    cases hE : clkB es with
    | false =>
      go_wp2_with fail
      refine (clockOkI _ es _ HT.out (by omega)).mono ?_
      rintro e x20 ⟨rfl, b20⟩
      rw [hE]
      replace HA := hide (HA.out.at b20)
      replace HE := hide (HE.out.at b20)
      replace HJ := hide (HJ.out.at b20)
      replace HT := hide (HT.out.at b20)
      replace HU := hide (HU.out.at b20)
      replace HB := hide (HB.out.trans (b20.mono HB.out.size))
      clear b20
      go_wp2_with fail
      refine (countI _ (tickX es q) _ q HU.out hTl).mono ?_
      rintro e x21 ⟨rfl, b21⟩
      replace HA := hide (HA.out.at b21)
      replace HE := hide (HE.out.at b21)
      replace HJ := hide (HJ.out.at b21)
      replace HT := hide (HT.out.at b21)
      replace HU := hide (HU.out.at b21)
      replace HB := hide (HB.out.trans (b21.mono HB.out.size))
      clear b21
      go_wp2_with fail
      refine (countI _ es _ q HT.out (by omega)).mono ?_
      rintro e x22 ⟨rfl, b22⟩
      replace HA := hide (HA.out.at b22)
      replace HE := hide (HE.out.at b22)
      replace HJ := hide (HJ.out.at b22)
      replace HT := hide (HT.out.at b22)
      replace HU := hide (HU.out.at b22)
      replace HB := hide (HB.out.trans (b22.mono HB.out.size))
      clear b22
      by_cases hlt : cntX es q < cntX (tickX es q) q
      · have HAH := hide (tick_ahead hlt)
        go_wp2_with fail
        refine (knowsI _ es (tickX es q) _ _ HT.out HU.out (by omega) hTl).mono ?_
        rintro e x23 ⟨rfl, b23⟩
        rw [HAH.out]
        replace HA := hide (HA.out.at b23)
        replace HE := hide (HE.out.at b23)
        replace HJ := hide (HJ.out.at b23)
        replace HT := hide (HT.out.at b23)
        replace HU := hide (HU.out.at b23)
        replace HB := hide (HB.out.trans (b23.mono HB.out.size))
        clear b23
        clear HAH
        clear HT HU
        cases hA : clkB xs with
        | false =>
          go_wp2_with fail
          refine (clockOkI _ xs _ HA.out (by omega)).mono ?_
          rintro e x24 ⟨rfl, b24⟩
          rw [hA]
          replace HA := hide (HA.out.at b24)
          replace HE := hide (HE.out.at b24)
          replace HJ := hide (HJ.out.at b24)
          replace HB := hide (HB.out.trans (b24.mono HB.out.size))
          clear b24
          have hJ0 : (joinC xs ys).length = 0 := by rw [joinC_no (fun h => by simp_all)]; rfl
          have hJI : (((joinC xs ys).length : Nat) : Int) = 0 := by omega
          go_wp2
          go_ret
          exact ⟨by simp, HB.out⟩
        | true =>
          go_wp2_with fail
          refine (clockOkI _ xs _ HA.out (by omega)).mono ?_
          rintro e x25 ⟨rfl, b25⟩
          rw [hA]
          replace HA := hide (HA.out.at b25)
          replace HE := hide (HE.out.at b25)
          replace HJ := hide (HJ.out.at b25)
          replace HB := hide (HB.out.trans (b25.mono HB.out.size))
          clear b25
          cases hB : clkB ys with
          | false =>
            go_wp2_with fail
            refine (clockOkI _ ys _ HE.out (by omega)).mono ?_
            rintro e x26 ⟨rfl, b26⟩
            rw [hB]
            replace HA := hide (HA.out.at b26)
            replace HE := hide (HE.out.at b26)
            replace HJ := hide (HJ.out.at b26)
            replace HB := hide (HB.out.trans (b26.mono HB.out.size))
            clear b26
            have hJ0 : (joinC xs ys).length = 0 := by rw [joinC_no (fun h => by simp_all)]; rfl
            have hJI : (((joinC xs ys).length : Nat) : Int) = 0 := by omega
            go_wp2
            go_ret
            exact ⟨by simp, HB.out⟩
          | true =>
            go_wp2_with fail
            refine (clockOkI _ ys _ HE.out (by omega)).mono ?_
            rintro e x27 ⟨rfl, b27⟩
            rw [hB]
            replace HA := hide (HA.out.at b27)
            replace HE := hide (HE.out.at b27)
            replace HJ := hide (HJ.out.at b27)
            replace HB := hide (HB.out.trans (b27.mono HB.out.size))
            clear b27
            go_wp2_with fail
            refine (knowsI _ (joinC xs ys) xs _ _ HJ.out HA.out (by omega) (by omega)).mono ?_
            rintro e x28 ⟨rfl, b28⟩
            rw [join_knows1 hA hB]
            replace HA := hide (HA.out.at b28)
            replace HE := hide (HE.out.at b28)
            replace HJ := hide (HJ.out.at b28)
            replace HB := hide (HB.out.trans (b28.mono HB.out.size))
            clear b28
            go_wp2_with fail
            refine (knowsI _ (joinC xs ys) ys _ _ HJ.out HE.out (by omega) (by omega)).mono ?_
            rintro e x29 ⟨rfl, b29⟩
            rw [join_knows2 hA hB]
            replace HA := hide (HA.out.at b29)
            replace HE := hide (HE.out.at b29)
            replace HJ := hide (HJ.out.at b29)
            replace HB := hide (HB.out.trans (b29.mono HB.out.size))
            clear b29
            go_wp2_with fail
            refine (join2I _ ys xs _ _ HE.out HA.out (by omega) (by omega) (by omega)).mono ?_
            rw [join_comm hA hB]
            rintro e x30 ⟨v30, rfl, o30, b30⟩
            obtain ⟨a30, c30, e30⟩ := o30.shape
            subst e30
            have HK := hide (o30.rd (Nat.le_refl _))
            replace HA := hide (HA.out.at b30)
            replace HE := hide (HE.out.at b30)
            replace HJ := hide (HJ.out.at b30)
            replace HB := hide (HB.out.trans (b30.mono HB.out.size))
            clear b30 o30
            go_wp2_with fail
            refine (sameK _ _ _ (joinC xs ys) HK.out HJ.out (by omega)).mono ?_
            rintro e x31 ⟨rfl, b31⟩
            replace HA := hide (HA.out.at b31)
            replace HE := hide (HE.out.at b31)
            replace HJ := hide (HJ.out.at b31)
            replace HB := hide (HB.out.trans (b31.mono HB.out.size))
            clear b31
            clear HK
            go_wp2_with fail
            refine (join2I _ xs xs _ _ HA.out HA.out (by omega) (by omega) (by omega)).mono ?_
            rw [join_self hA]
            rintro e x32 ⟨v32, rfl, o32, b32⟩
            obtain ⟨a32, c32, e32⟩ := o32.shape
            subst e32
            have HK := hide (o32.rd (Nat.le_refl _))
            replace HA := hide (HA.out.at b32)
            replace HE := hide (HE.out.at b32)
            replace HJ := hide (HJ.out.at b32)
            replace HB := hide (HB.out.trans (b32.mono HB.out.size))
            clear b32 o32
            go_wp2_with fail
            refine (sameK _ _ _ xs HK.out HA.out (by omega)).mono ?_
            rintro e x33 ⟨rfl, b33⟩
            replace HA := hide (HA.out.at b33)
            replace HE := hide (HE.out.at b33)
            replace HJ := hide (HJ.out.at b33)
            replace HB := hide (HB.out.trans (b33.mono HB.out.size))
            clear b33
            clear HK
            cases hK : knowsB xs ys with
            | false =>
              go_wp2_with fail
              refine (knowsI _ xs ys _ _ HA.out HE.out (by omega) (by omega)).mono ?_
              rintro e x34 ⟨rfl, b34⟩
              rw [hK]
              replace HA := hide (HA.out.at b34)
              replace HE := hide (HE.out.at b34)
              replace HJ := hide (HJ.out.at b34)
              replace HB := hide (HB.out.trans (b34.mono HB.out.size))
              clear b34
              go_wp2
              go_ret
              exact ⟨rfl, HB.out⟩
            | true =>
              go_wp2_with fail
              refine (knowsI _ xs ys _ _ HA.out HE.out (by omega) (by omega)).mono ?_
              rintro e x35 ⟨rfl, b35⟩
              rw [hK]
              replace HA := hide (HA.out.at b35)
              replace HE := hide (HE.out.at b35)
              replace HJ := hide (HJ.out.at b35)
              replace HB := hide (HB.out.trans (b35.mono HB.out.size))
              clear b35
              go_wp2_with fail
              refine (sameK _ _ _ (joinC xs ys) HJ.out (by rw [join_of hA hB hK]; exact HA.out) (by omega)).mono ?_
              rintro e x36 ⟨rfl, b36⟩
              replace HA := hide (HA.out.at b36)
              replace HE := hide (HE.out.at b36)
              replace HJ := hide (HJ.out.at b36)
              replace HB := hide (HB.out.trans (b36.mono HB.out.size))
              clear b36
              go_wp2
              go_ret
              exact ⟨rfl, HB.out⟩
      · skip
        clear HT HU
        cases hA : clkB xs with
        | false =>
          go_wp2_with fail
          refine (clockOkI _ xs _ HA.out (by omega)).mono ?_
          rintro e x37 ⟨rfl, b37⟩
          rw [hA]
          replace HA := hide (HA.out.at b37)
          replace HE := hide (HE.out.at b37)
          replace HJ := hide (HJ.out.at b37)
          replace HB := hide (HB.out.trans (b37.mono HB.out.size))
          clear b37
          have hJ0 : (joinC xs ys).length = 0 := by rw [joinC_no (fun h => by simp_all)]; rfl
          have hJI : (((joinC xs ys).length : Nat) : Int) = 0 := by omega
          go_wp2
          go_ret
          exact ⟨by simp, HB.out⟩
        | true =>
          go_wp2_with fail
          refine (clockOkI _ xs _ HA.out (by omega)).mono ?_
          rintro e x38 ⟨rfl, b38⟩
          rw [hA]
          replace HA := hide (HA.out.at b38)
          replace HE := hide (HE.out.at b38)
          replace HJ := hide (HJ.out.at b38)
          replace HB := hide (HB.out.trans (b38.mono HB.out.size))
          clear b38
          cases hB : clkB ys with
          | false =>
            go_wp2_with fail
            refine (clockOkI _ ys _ HE.out (by omega)).mono ?_
            rintro e x39 ⟨rfl, b39⟩
            rw [hB]
            replace HA := hide (HA.out.at b39)
            replace HE := hide (HE.out.at b39)
            replace HJ := hide (HJ.out.at b39)
            replace HB := hide (HB.out.trans (b39.mono HB.out.size))
            clear b39
            have hJ0 : (joinC xs ys).length = 0 := by rw [joinC_no (fun h => by simp_all)]; rfl
            have hJI : (((joinC xs ys).length : Nat) : Int) = 0 := by omega
            go_wp2
            go_ret
            exact ⟨by simp, HB.out⟩
          | true =>
            go_wp2_with fail
            refine (clockOkI _ ys _ HE.out (by omega)).mono ?_
            rintro e x40 ⟨rfl, b40⟩
            rw [hB]
            replace HA := hide (HA.out.at b40)
            replace HE := hide (HE.out.at b40)
            replace HJ := hide (HJ.out.at b40)
            replace HB := hide (HB.out.trans (b40.mono HB.out.size))
            clear b40
            go_wp2_with fail
            refine (knowsI _ (joinC xs ys) xs _ _ HJ.out HA.out (by omega) (by omega)).mono ?_
            rintro e x41 ⟨rfl, b41⟩
            rw [join_knows1 hA hB]
            replace HA := hide (HA.out.at b41)
            replace HE := hide (HE.out.at b41)
            replace HJ := hide (HJ.out.at b41)
            replace HB := hide (HB.out.trans (b41.mono HB.out.size))
            clear b41
            go_wp2_with fail
            refine (knowsI _ (joinC xs ys) ys _ _ HJ.out HE.out (by omega) (by omega)).mono ?_
            rintro e x42 ⟨rfl, b42⟩
            rw [join_knows2 hA hB]
            replace HA := hide (HA.out.at b42)
            replace HE := hide (HE.out.at b42)
            replace HJ := hide (HJ.out.at b42)
            replace HB := hide (HB.out.trans (b42.mono HB.out.size))
            clear b42
            go_wp2_with fail
            refine (join2I _ ys xs _ _ HE.out HA.out (by omega) (by omega) (by omega)).mono ?_
            rw [join_comm hA hB]
            rintro e x43 ⟨v43, rfl, o43, b43⟩
            obtain ⟨a43, c43, e43⟩ := o43.shape
            subst e43
            have HK := hide (o43.rd (Nat.le_refl _))
            replace HA := hide (HA.out.at b43)
            replace HE := hide (HE.out.at b43)
            replace HJ := hide (HJ.out.at b43)
            replace HB := hide (HB.out.trans (b43.mono HB.out.size))
            clear b43 o43
            go_wp2_with fail
            refine (sameK _ _ _ (joinC xs ys) HK.out HJ.out (by omega)).mono ?_
            rintro e x44 ⟨rfl, b44⟩
            replace HA := hide (HA.out.at b44)
            replace HE := hide (HE.out.at b44)
            replace HJ := hide (HJ.out.at b44)
            replace HB := hide (HB.out.trans (b44.mono HB.out.size))
            clear b44
            clear HK
            go_wp2_with fail
            refine (join2I _ xs xs _ _ HA.out HA.out (by omega) (by omega) (by omega)).mono ?_
            rw [join_self hA]
            rintro e x45 ⟨v45, rfl, o45, b45⟩
            obtain ⟨a45, c45, e45⟩ := o45.shape
            subst e45
            have HK := hide (o45.rd (Nat.le_refl _))
            replace HA := hide (HA.out.at b45)
            replace HE := hide (HE.out.at b45)
            replace HJ := hide (HJ.out.at b45)
            replace HB := hide (HB.out.trans (b45.mono HB.out.size))
            clear b45 o45
            go_wp2_with fail
            refine (sameK _ _ _ xs HK.out HA.out (by omega)).mono ?_
            rintro e x46 ⟨rfl, b46⟩
            replace HA := hide (HA.out.at b46)
            replace HE := hide (HE.out.at b46)
            replace HJ := hide (HJ.out.at b46)
            replace HB := hide (HB.out.trans (b46.mono HB.out.size))
            clear b46
            clear HK
            cases hK : knowsB xs ys with
            | false =>
              go_wp2_with fail
              refine (knowsI _ xs ys _ _ HA.out HE.out (by omega) (by omega)).mono ?_
              rintro e x47 ⟨rfl, b47⟩
              rw [hK]
              replace HA := hide (HA.out.at b47)
              replace HE := hide (HE.out.at b47)
              replace HJ := hide (HJ.out.at b47)
              replace HB := hide (HB.out.trans (b47.mono HB.out.size))
              clear b47
              go_wp2
              go_ret
              exact ⟨rfl, HB.out⟩
            | true =>
              go_wp2_with fail
              refine (knowsI _ xs ys _ _ HA.out HE.out (by omega) (by omega)).mono ?_
              rintro e x48 ⟨rfl, b48⟩
              rw [hK]
              replace HA := hide (HA.out.at b48)
              replace HE := hide (HE.out.at b48)
              replace HJ := hide (HJ.out.at b48)
              replace HB := hide (HB.out.trans (b48.mono HB.out.size))
              clear b48
              go_wp2_with fail
              refine (sameK _ _ _ (joinC xs ys) HJ.out (by rw [join_of hA hB hK]; exact HA.out) (by omega)).mono ?_
              rintro e x49 ⟨rfl, b49⟩
              replace HA := hide (HA.out.at b49)
              replace HE := hide (HE.out.at b49)
              replace HJ := hide (HJ.out.at b49)
              replace HB := hide (HB.out.trans (b49.mono HB.out.size))
              clear b49
              go_wp2
              go_ret
              exact ⟨rfl, HB.out⟩
    | true =>
      go_wp2_with fail
      refine (clockOkI _ es _ HT.out (by omega)).mono ?_
      rintro e x50 ⟨rfl, b50⟩
      rw [hE]
      replace HA := hide (HA.out.at b50)
      replace HE := hide (HE.out.at b50)
      replace HJ := hide (HJ.out.at b50)
      replace HT := hide (HT.out.at b50)
      replace HU := hide (HU.out.at b50)
      replace HB := hide (HB.out.trans (b50.mono HB.out.size))
      clear b50
      go_wp2_with fail
      refine (knowsI _ (tickX es q) es _ _ HU.out HT.out hTl (by omega)).mono ?_
      rintro e x51 ⟨rfl, b51⟩
      rw [tick_knows hE]
      replace HA := hide (HA.out.at b51)
      replace HE := hide (HE.out.at b51)
      replace HJ := hide (HJ.out.at b51)
      replace HT := hide (HT.out.at b51)
      replace HU := hide (HU.out.at b51)
      replace HB := hide (HB.out.trans (b51.mono HB.out.size))
      clear b51
      go_wp2_with fail
      refine (countI _ (tickX es q) _ q HU.out hTl).mono ?_
      rintro e x52 ⟨rfl, b52⟩
      replace HA := hide (HA.out.at b52)
      replace HE := hide (HE.out.at b52)
      replace HJ := hide (HJ.out.at b52)
      replace HT := hide (HT.out.at b52)
      replace HU := hide (HU.out.at b52)
      replace HB := hide (HB.out.trans (b52.mono HB.out.size))
      clear b52
      go_wp2_with fail
      refine (countI _ es _ q HT.out (by omega)).mono ?_
      rintro e x53 ⟨rfl, b53⟩
      replace HA := hide (HA.out.at b53)
      replace HE := hide (HE.out.at b53)
      replace HJ := hide (HJ.out.at b53)
      replace HT := hide (HT.out.at b53)
      replace HU := hide (HU.out.at b53)
      replace HB := hide (HB.out.trans (b53.mono HB.out.size))
      clear b53
      by_cases hlt : cntX es q < cntX (tickX es q) q
      · have HAH := hide (tick_ahead hlt)
        go_wp2_with fail
        refine (knowsI _ es (tickX es q) _ _ HT.out HU.out (by omega) hTl).mono ?_
        rintro e x54 ⟨rfl, b54⟩
        rw [HAH.out]
        replace HA := hide (HA.out.at b54)
        replace HE := hide (HE.out.at b54)
        replace HJ := hide (HJ.out.at b54)
        replace HT := hide (HT.out.at b54)
        replace HU := hide (HU.out.at b54)
        replace HB := hide (HB.out.trans (b54.mono HB.out.size))
        clear b54
        clear HAH
        clear HT HU
        cases hA : clkB xs with
        | false =>
          go_wp2_with fail
          refine (clockOkI _ xs _ HA.out (by omega)).mono ?_
          rintro e x55 ⟨rfl, b55⟩
          rw [hA]
          replace HA := hide (HA.out.at b55)
          replace HE := hide (HE.out.at b55)
          replace HJ := hide (HJ.out.at b55)
          replace HB := hide (HB.out.trans (b55.mono HB.out.size))
          clear b55
          have hJ0 : (joinC xs ys).length = 0 := by rw [joinC_no (fun h => by simp_all)]; rfl
          have hJI : (((joinC xs ys).length : Nat) : Int) = 0 := by omega
          go_wp2
          go_ret
          exact ⟨by simp, HB.out⟩
        | true =>
          go_wp2_with fail
          refine (clockOkI _ xs _ HA.out (by omega)).mono ?_
          rintro e x56 ⟨rfl, b56⟩
          rw [hA]
          replace HA := hide (HA.out.at b56)
          replace HE := hide (HE.out.at b56)
          replace HJ := hide (HJ.out.at b56)
          replace HB := hide (HB.out.trans (b56.mono HB.out.size))
          clear b56
          cases hB : clkB ys with
          | false =>
            go_wp2_with fail
            refine (clockOkI _ ys _ HE.out (by omega)).mono ?_
            rintro e x57 ⟨rfl, b57⟩
            rw [hB]
            replace HA := hide (HA.out.at b57)
            replace HE := hide (HE.out.at b57)
            replace HJ := hide (HJ.out.at b57)
            replace HB := hide (HB.out.trans (b57.mono HB.out.size))
            clear b57
            have hJ0 : (joinC xs ys).length = 0 := by rw [joinC_no (fun h => by simp_all)]; rfl
            have hJI : (((joinC xs ys).length : Nat) : Int) = 0 := by omega
            go_wp2
            go_ret
            exact ⟨by simp, HB.out⟩
          | true =>
            go_wp2_with fail
            refine (clockOkI _ ys _ HE.out (by omega)).mono ?_
            rintro e x58 ⟨rfl, b58⟩
            rw [hB]
            replace HA := hide (HA.out.at b58)
            replace HE := hide (HE.out.at b58)
            replace HJ := hide (HJ.out.at b58)
            replace HB := hide (HB.out.trans (b58.mono HB.out.size))
            clear b58
            go_wp2_with fail
            refine (knowsI _ (joinC xs ys) xs _ _ HJ.out HA.out (by omega) (by omega)).mono ?_
            rintro e x59 ⟨rfl, b59⟩
            rw [join_knows1 hA hB]
            replace HA := hide (HA.out.at b59)
            replace HE := hide (HE.out.at b59)
            replace HJ := hide (HJ.out.at b59)
            replace HB := hide (HB.out.trans (b59.mono HB.out.size))
            clear b59
            go_wp2_with fail
            refine (knowsI _ (joinC xs ys) ys _ _ HJ.out HE.out (by omega) (by omega)).mono ?_
            rintro e x60 ⟨rfl, b60⟩
            rw [join_knows2 hA hB]
            replace HA := hide (HA.out.at b60)
            replace HE := hide (HE.out.at b60)
            replace HJ := hide (HJ.out.at b60)
            replace HB := hide (HB.out.trans (b60.mono HB.out.size))
            clear b60
            go_wp2_with fail
            refine (join2I _ ys xs _ _ HE.out HA.out (by omega) (by omega) (by omega)).mono ?_
            rw [join_comm hA hB]
            rintro e x61 ⟨v61, rfl, o61, b61⟩
            obtain ⟨a61, c61, e61⟩ := o61.shape
            subst e61
            have HK := hide (o61.rd (Nat.le_refl _))
            replace HA := hide (HA.out.at b61)
            replace HE := hide (HE.out.at b61)
            replace HJ := hide (HJ.out.at b61)
            replace HB := hide (HB.out.trans (b61.mono HB.out.size))
            clear b61 o61
            go_wp2_with fail
            refine (sameK _ _ _ (joinC xs ys) HK.out HJ.out (by omega)).mono ?_
            rintro e x62 ⟨rfl, b62⟩
            replace HA := hide (HA.out.at b62)
            replace HE := hide (HE.out.at b62)
            replace HJ := hide (HJ.out.at b62)
            replace HB := hide (HB.out.trans (b62.mono HB.out.size))
            clear b62
            clear HK
            go_wp2_with fail
            refine (join2I _ xs xs _ _ HA.out HA.out (by omega) (by omega) (by omega)).mono ?_
            rw [join_self hA]
            rintro e x63 ⟨v63, rfl, o63, b63⟩
            obtain ⟨a63, c63, e63⟩ := o63.shape
            subst e63
            have HK := hide (o63.rd (Nat.le_refl _))
            replace HA := hide (HA.out.at b63)
            replace HE := hide (HE.out.at b63)
            replace HJ := hide (HJ.out.at b63)
            replace HB := hide (HB.out.trans (b63.mono HB.out.size))
            clear b63 o63
            go_wp2_with fail
            refine (sameK _ _ _ xs HK.out HA.out (by omega)).mono ?_
            rintro e x64 ⟨rfl, b64⟩
            replace HA := hide (HA.out.at b64)
            replace HE := hide (HE.out.at b64)
            replace HJ := hide (HJ.out.at b64)
            replace HB := hide (HB.out.trans (b64.mono HB.out.size))
            clear b64
            clear HK
            cases hK : knowsB xs ys with
            | false =>
              go_wp2_with fail
              refine (knowsI _ xs ys _ _ HA.out HE.out (by omega) (by omega)).mono ?_
              rintro e x65 ⟨rfl, b65⟩
              rw [hK]
              replace HA := hide (HA.out.at b65)
              replace HE := hide (HE.out.at b65)
              replace HJ := hide (HJ.out.at b65)
              replace HB := hide (HB.out.trans (b65.mono HB.out.size))
              clear b65
              go_wp2
              go_ret
              exact ⟨rfl, HB.out⟩
            | true =>
              go_wp2_with fail
              refine (knowsI _ xs ys _ _ HA.out HE.out (by omega) (by omega)).mono ?_
              rintro e x66 ⟨rfl, b66⟩
              rw [hK]
              replace HA := hide (HA.out.at b66)
              replace HE := hide (HE.out.at b66)
              replace HJ := hide (HJ.out.at b66)
              replace HB := hide (HB.out.trans (b66.mono HB.out.size))
              clear b66
              go_wp2_with fail
              refine (sameK _ _ _ (joinC xs ys) HJ.out (by rw [join_of hA hB hK]; exact HA.out) (by omega)).mono ?_
              rintro e x67 ⟨rfl, b67⟩
              replace HA := hide (HA.out.at b67)
              replace HE := hide (HE.out.at b67)
              replace HJ := hide (HJ.out.at b67)
              replace HB := hide (HB.out.trans (b67.mono HB.out.size))
              clear b67
              go_wp2
              go_ret
              exact ⟨rfl, HB.out⟩
      · skip
        clear HT HU
        cases hA : clkB xs with
        | false =>
          go_wp2_with fail
          refine (clockOkI _ xs _ HA.out (by omega)).mono ?_
          rintro e x68 ⟨rfl, b68⟩
          rw [hA]
          replace HA := hide (HA.out.at b68)
          replace HE := hide (HE.out.at b68)
          replace HJ := hide (HJ.out.at b68)
          replace HB := hide (HB.out.trans (b68.mono HB.out.size))
          clear b68
          have hJ0 : (joinC xs ys).length = 0 := by rw [joinC_no (fun h => by simp_all)]; rfl
          have hJI : (((joinC xs ys).length : Nat) : Int) = 0 := by omega
          go_wp2
          go_ret
          exact ⟨by simp, HB.out⟩
        | true =>
          go_wp2_with fail
          refine (clockOkI _ xs _ HA.out (by omega)).mono ?_
          rintro e x69 ⟨rfl, b69⟩
          rw [hA]
          replace HA := hide (HA.out.at b69)
          replace HE := hide (HE.out.at b69)
          replace HJ := hide (HJ.out.at b69)
          replace HB := hide (HB.out.trans (b69.mono HB.out.size))
          clear b69
          cases hB : clkB ys with
          | false =>
            go_wp2_with fail
            refine (clockOkI _ ys _ HE.out (by omega)).mono ?_
            rintro e x70 ⟨rfl, b70⟩
            rw [hB]
            replace HA := hide (HA.out.at b70)
            replace HE := hide (HE.out.at b70)
            replace HJ := hide (HJ.out.at b70)
            replace HB := hide (HB.out.trans (b70.mono HB.out.size))
            clear b70
            have hJ0 : (joinC xs ys).length = 0 := by rw [joinC_no (fun h => by simp_all)]; rfl
            have hJI : (((joinC xs ys).length : Nat) : Int) = 0 := by omega
            go_wp2
            go_ret
            exact ⟨by simp, HB.out⟩
          | true =>
            go_wp2_with fail
            refine (clockOkI _ ys _ HE.out (by omega)).mono ?_
            rintro e x71 ⟨rfl, b71⟩
            rw [hB]
            replace HA := hide (HA.out.at b71)
            replace HE := hide (HE.out.at b71)
            replace HJ := hide (HJ.out.at b71)
            replace HB := hide (HB.out.trans (b71.mono HB.out.size))
            clear b71
            go_wp2_with fail
            refine (knowsI _ (joinC xs ys) xs _ _ HJ.out HA.out (by omega) (by omega)).mono ?_
            rintro e x72 ⟨rfl, b72⟩
            rw [join_knows1 hA hB]
            replace HA := hide (HA.out.at b72)
            replace HE := hide (HE.out.at b72)
            replace HJ := hide (HJ.out.at b72)
            replace HB := hide (HB.out.trans (b72.mono HB.out.size))
            clear b72
            go_wp2_with fail
            refine (knowsI _ (joinC xs ys) ys _ _ HJ.out HE.out (by omega) (by omega)).mono ?_
            rintro e x73 ⟨rfl, b73⟩
            rw [join_knows2 hA hB]
            replace HA := hide (HA.out.at b73)
            replace HE := hide (HE.out.at b73)
            replace HJ := hide (HJ.out.at b73)
            replace HB := hide (HB.out.trans (b73.mono HB.out.size))
            clear b73
            go_wp2_with fail
            refine (join2I _ ys xs _ _ HE.out HA.out (by omega) (by omega) (by omega)).mono ?_
            rw [join_comm hA hB]
            rintro e x74 ⟨v74, rfl, o74, b74⟩
            obtain ⟨a74, c74, e74⟩ := o74.shape
            subst e74
            have HK := hide (o74.rd (Nat.le_refl _))
            replace HA := hide (HA.out.at b74)
            replace HE := hide (HE.out.at b74)
            replace HJ := hide (HJ.out.at b74)
            replace HB := hide (HB.out.trans (b74.mono HB.out.size))
            clear b74 o74
            go_wp2_with fail
            refine (sameK _ _ _ (joinC xs ys) HK.out HJ.out (by omega)).mono ?_
            rintro e x75 ⟨rfl, b75⟩
            replace HA := hide (HA.out.at b75)
            replace HE := hide (HE.out.at b75)
            replace HJ := hide (HJ.out.at b75)
            replace HB := hide (HB.out.trans (b75.mono HB.out.size))
            clear b75
            clear HK
            go_wp2_with fail
            refine (join2I _ xs xs _ _ HA.out HA.out (by omega) (by omega) (by omega)).mono ?_
            rw [join_self hA]
            rintro e x76 ⟨v76, rfl, o76, b76⟩
            obtain ⟨a76, c76, e76⟩ := o76.shape
            subst e76
            have HK := hide (o76.rd (Nat.le_refl _))
            replace HA := hide (HA.out.at b76)
            replace HE := hide (HE.out.at b76)
            replace HJ := hide (HJ.out.at b76)
            replace HB := hide (HB.out.trans (b76.mono HB.out.size))
            clear b76 o76
            go_wp2_with fail
            refine (sameK _ _ _ xs HK.out HA.out (by omega)).mono ?_
            rintro e x77 ⟨rfl, b77⟩
            replace HA := hide (HA.out.at b77)
            replace HE := hide (HE.out.at b77)
            replace HJ := hide (HJ.out.at b77)
            replace HB := hide (HB.out.trans (b77.mono HB.out.size))
            clear b77
            clear HK
            cases hK : knowsB xs ys with
            | false =>
              go_wp2_with fail
              refine (knowsI _ xs ys _ _ HA.out HE.out (by omega) (by omega)).mono ?_
              rintro e x78 ⟨rfl, b78⟩
              rw [hK]
              replace HA := hide (HA.out.at b78)
              replace HE := hide (HE.out.at b78)
              replace HJ := hide (HJ.out.at b78)
              replace HB := hide (HB.out.trans (b78.mono HB.out.size))
              clear b78
              go_wp2
              go_ret
              exact ⟨rfl, HB.out⟩
            | true =>
              go_wp2_with fail
              refine (knowsI _ xs ys _ _ HA.out HE.out (by omega) (by omega)).mono ?_
              rintro e x79 ⟨rfl, b79⟩
              rw [hK]
              replace HA := hide (HA.out.at b79)
              replace HE := hide (HE.out.at b79)
              replace HJ := hide (HJ.out.at b79)
              replace HB := hide (HB.out.trans (b79.mono HB.out.size))
              clear b79
              go_wp2_with fail
              refine (sameK _ _ _ (joinC xs ys) HJ.out (by rw [join_of hA hB hK]; exact HA.out) (by omega)).mono ?_
              rintro e x80 ⟨rfl, b80⟩
              replace HA := hide (HA.out.at b80)
              replace HE := hide (HE.out.at b80)
              replace HJ := hide (HJ.out.at b80)
              replace HB := hide (HB.out.trans (b80.mono HB.out.size))
              clear b80
              go_wp2
              go_ret
              exact ⟨rfl, HB.out⟩

set_option maxRecDepth 100000 in
theorem lifted (os : Os) (started : os.Started) (H : Type) (enc : TypeId × Value → H) :
    ReturnsInHanded {} Try.checked os 3 .any (Rows.fnClocksSpec.pre6 enc Try.prog Try.f3 Rows.fnClocksRow.domain false) (Rows.fnClocksSpec.post enc Try.prog Try.f3 false true false false) := by
  refine returnsInHanded_of_change (C := Try.checked) own started (by kernel_rfl) Try.func3
    (ChangeSpec.witness6 (enc := enc) (C := Try.checked) false ⟨#[], #[.slice none 0 0], []⟩ 8 (by kernel_rfl) (by kernel_rfl) (by kernel_rfl) (by kernel_rfl)) ?_
  intro W base args ds gs before hval0 hW hcnd _
  have hval : ∀ (j : Nat) t v, Try.f3.params[j]? = some t → args[j]? = some v → Value.okWide Try.prog W .any base t v := hval0
  have hW' := hW
  obtain ⟨p, q, hA0, hV, rfl, hfz, hnd⟩ := hW
  have hA : DataW.TrodAll enc Try.prog W 0 (fun _ => true) true Try.f3.params.toList args.toList ds p := hA0
  rw [Try.params3] at hA hval
  obtain ⟨v0, vs0, d0, ds0, p0, q0, hargs, rfl, rfl, h0, r0⟩ := trodAll_cons hA
  obtain ⟨rfl, rfl, rfl⟩ := trodAll_nil r0
  obtain rfl : args = #[v0] := by cases args; simp_all
  obtain ⟨rfl, rfl⟩ := trodVars_none hV
  obtain ⟨a0, len0, cap0, rfl⟩ := okWide_slice Try.underlying22 (hval 0 22 v0 rfl rfl)
  have k0 := h0
  have lt0 : ∀ x ∈ p0, x.block < W.heap.size := by obtain ⟨m, hm⟩ := k0; exact DataW.trod_lt m _ _ _ hm
  obtain ⟨z0, w0⟩ : ∃ zs, IsRow .u8 W a0 len0 cap0 zs := by
    obtain ⟨fuel, hf⟩ := h0
    rcases open_ints Try.underlying22 Try.underlying5 (by kernel_rfl) hf with ⟨hcs, _⟩ | ⟨x, l, c, zs, hcs, _, hl, hm, hz, _, hcell, hwz⟩
    · simp [Value.cells] at hcs
      obtain ⟨rfl, rfl, rfl⟩ := hcs
      exact ⟨[], .inl ⟨rfl, rfl, rfl, rfl⟩⟩
    · simp [Value.cells] at hcs
      obtain ⟨rfl, rfl, rfl⟩ := hcs
      exact ⟨zs, .inr ⟨_, rfl, hl, hm, by simpa using hz, hcell, hwz⟩⟩
  clear hA0 hval0
  refine (walk a0 len0 cap0 z0 W w0).mono fun e W' ⟨he, bel⟩ => ?_
  subst he
  exact ⟨_, rfl, _, _, _, [], _, [], hW', trodAll_mk1 (shut_bool Try.underlying4 _), (trodAll_cons_mk (Below.trod laidOut (by kernel_rfl) (of_decide_eq_true (by kernel_rfl)) k0 bel lt0) trodAll_mk0), rfl, bel.frame _, fun h => by cases h⟩

theorem over : Rows.fnClocksRow.holds Try.pinned (OpenSpec.ofChange Rows.fnClocksSpec) :=
  OpenClaim.holds_of_wide 3 Try.f3 rfl rfl rfl rfl rfl rfl rfl ⟨rfl, rfl, rfl, rfl, rfl⟩ rfl rfl rfl rfl rfl (by kernel_rfl) Try.func3 (by kernel_rfl)
    (of_decide_eq_true (by kernel_rfl)) (by unfold Func.isWrapper; first | (rw [if_pos (by decide +kernel)]; kernel_rfl) | (rw [if_neg (by decide +kernel)]; exact ⟨rfl, rfl⟩))
    (fun os started H enc _ => lifted os started H enc)

end Go.Proofs.Ytebilohcdpecoab.fnClocks
namespace Go.Proofs.Ytebilohcdpecoab
theorem fnClocks_holds : Rows.FnClocksSaid := fnClocks.over
#print axioms fnClocks_holds
end Go.Proofs.Ytebilohcdpecoab
