/-
  Proved: at every class the program's ClassOk answers as its model does and writes into no argument (the law FnExactClassOk returns true), without any condition.
-/
import Derived.Test.YthagfdcfpffaoaaRows
import Derived.Test.YthagfdcfpffaoaaClsLaw
import Derived.Test.YthagfdcfpffaoaaClsOkS
import Derived.Test.YthagfdcfpffaoaaClsOkJ
import Derived.Deep.CutRange
import Derived.Deep.RegionWith
import Derived.BigRegion
import Derived.WalkKit
import Derived.ProofKit
import Derived.OpenShut
import Derived.ShutString
import Derived.ChangeOld
import Derived.Below
namespace Go.Proofs.Ythagfdcfpffaoaa.fnExactClassOk
open Go.ChangeShapes Go.WideShapes Go.ChangeAt Go.RowKit
open Go.ChangeMaps (open_string shut_string)
set_option linter.unusedVariables false

theorem own : ownKnob Try.prog.godebug = none := by kernel_rfl
theorem laidOut : laidOutB Try.prog = true := by kernel_rfl
set_option maxRecDepth 100000 in
set_option maxHeartbeats 4000000 in
theorem walk (v0 : Value) (w : World) (h0 : IsCls w v0) :
    Calls Try.prog 3 #[v0] w fun e w' => e = .returned (.bool true) ∧ Below w.heap.size w w' := by
  obtain ⟨x, pv, fv, mv, rfl, hp, hf, hme, hr⟩ := h0
  obtain ⟨a1, k1, e1, _⟩ := hp.shape
  obtain ⟨a2, k2, e2, _⟩ := hf.shape
  obtain ⟨a3, k3, e3, _⟩ := hme.shape
  subst e1 e2 e3
  have bA := (Below.refl w.heap.size w).alloc (Nat.le_refl _) (.cells #[.string x.n, .string x.s, .slice a1 x.p.length k1, .slice a2 x.f.length k2, .slice a3 x.m.length k3] 26)
  have HX := hide (Box.new w #[.string x.n, .string x.s, .slice a1 x.p.length k1, .slice a2 x.f.length k2, .slice a3 x.m.length k3] 26)
  have hgs : Hid (w.heap.size < (w.alloc (.cells #[.string x.n, .string x.s, .slice a1 x.p.length k1, .slice a2 x.f.length k2, .slice a3 x.m.length k3] 26)).heap.size) := hide (by simp)
  have HP := hide (hp.at bA)
  have HF := hide (hf.at bA)
  have HM := hide (hme.at bA)
  have HB := hide bA
  have HR := hide hr
  have hne : (clB x != clB x) = false := by simp
  clear hp hf hme bA hr
  unfold clV
  go_enter Try.func3, Try.ntmps3
  go_wp2_with fail
  generalize w.alloc (.cells #[.string x.n, .string x.s, .slice a1 x.p.length k1, .slice a2 x.f.length k2, .slice a3 x.m.length k3] 26) = W at *
  refine (szCls _ x _ _ _ HP.out HF.out HM.out HR.out).mono ?_
  rintro e w1 ⟨m, rfl, hm, b1⟩
  replace HX := hide (HX.out.below hgs.out b1)
  replace hgs := hide (Nat.lt_of_lt_of_le hgs.out b1.size)
  replace HP := hide (HP.out.at b1)
  replace HF := hide (HF.out.at b1)
  replace HM := hide (HM.out.at b1)
  replace HB := hide (HB.out.trans (b1.mono HB.out.size))
  clear b1
  rcases hm with hm | ⟨hm, hw⟩
  · go_wp2
    go_ret
    exact ⟨rfl, HB.out⟩
  · have HG := hide (clG_of HR.out hw)
    clear HR hw
    have hm' : ¬ m < 0 := by omega
    have q0 := HX.out 0 _ rfl
    have q1 := HX.out 1 _ rfl
    have q2 := HX.out 2 _ rfl
    have q3 := HX.out 3 _ rfl
    have q4 := HX.out 4 _ rfl
    go_wp2_with fail
    clear q0 q1 q2 q3 q4
    refine (toCls _ x _ _ _ HP.out HF.out HM.out HG.out).mono ?_
    rintro e w2 ⟨u1, u2, u3, rfl, o2, b2⟩
    have HO := hide (clD_own o2)
    replace HX := hide (HX.out.below hgs.out b2)
    replace hgs := hide (Nat.lt_of_lt_of_le hgs.out b2.size)
    replace HP := hide (HP.out.at b2)
    replace HF := hide (HF.out.at b2)
    replace HM := hide (HM.out.at b2)
    replace HB := hide (HB.out.trans (b2.mono HB.out.size))
    clear b2 o2
    go_wp2_with fail
    refine (clSpec _ x _ _ _ HO.out.1 HO.out.2.1 HO.out.2.2 HG.out).mono ?_
    rintro e w3 ⟨rfl, b3⟩
    replace HX := hide (HX.out.below hgs.out b3)
    replace hgs := hide (Nat.lt_of_lt_of_le hgs.out b3.size)
    replace HP := hide (HP.out.at b3)
    replace HF := hide (HF.out.at b3)
    replace HM := hide (HM.out.at b3)
    replace HB := hide (HB.out.trans (b3.mono HB.out.size))
    clear b3 HO
    have q0 := HX.out 0 _ rfl
    have q1 := HX.out 1 _ rfl
    have q2 := HX.out 2 _ rfl
    have q3 := HX.out 3 _ rfl
    have q4 := HX.out 4 _ rfl
    go_wp2_with fail
    clear q0 q1 q2 q3 q4
    refine (toCls _ x _ _ _ HP.out HF.out HM.out HG.out).mono ?_
    rintro e w4 ⟨u1, u2, u3, rfl, o4, b4⟩
    have ho := clD_own o4
    obtain ⟨p1, r1, e1, _⟩ := ho.1.shape
    obtain ⟨p2, r2, e2, _⟩ := ho.2.1.shape
    obtain ⟨p3, r3, e3, _⟩ := ho.2.2.shape
    subst e1 e2 e3
    have HO := hide ho
    replace HX := hide (HX.out.below hgs.out b4)
    replace hgs := hide (Nat.lt_of_lt_of_le hgs.out b4.size)
    replace HP := hide (HP.out.at b4)
    replace HF := hide (HF.out.at b4)
    replace HM := hide (HM.out.at b4)
    replace HB := hide (HB.out.trans (b4.mono HB.out.size))
    clear b4 o4 ho
    unfold clV
    go_wp2_with fail
    have HY := hide (Box.new w4 #[.string x.n, .string x.s, .slice p1 x.p.length r1, .slice p2 x.f.length r2, .slice p3 x.m.length r3] 33)
    have bA := (Below.refl w4.heap.size w4).alloc (Nat.le_refl _) (.cells #[.string x.n, .string x.s, .slice p1 x.p.length r1, .slice p2 x.f.length r2, .slice p3 x.m.length r3] 33)
    have hs4 := HB.out.size
    refine (clImpl _ x _ _ _ (HO.out.1.at bA) (HO.out.2.1.at bA) (HO.out.2.2.at bA) HG.out).mono ?_
    rintro e w5 ⟨rfl, b5⟩
    replace HX := hide ((HX.out.below hgs.out bA).below (Nat.lt_of_lt_of_le hgs.out bA.size) b5)
    replace HY := hide (HY.out.below (by simp) b5)
    replace HO := hide (And.intro ((HO.out.1.at bA).at b5) (And.intro ((HO.out.2.1.at bA).at b5) ((HO.out.2.2.at bA).at b5)))
    replace HP := hide ((HP.out.at bA).at b5)
    replace HF := hide ((HF.out.at bA).at b5)
    replace HM := hide ((HM.out.at bA).at b5)
    have hg5 : w.heap.size < w5.heap.size := Nat.lt_of_lt_of_le hgs.out (Nat.le_trans bA.size b5.size)
    have hg4 : w4.heap.size < w5.heap.size := Nat.lt_of_lt_of_le (by simp) b5.size
    replace HB := hide ((HB.out.trans (bA.mono hs4)).trans (b5.mono (Nat.le_trans hs4 bA.size)))
    clear b5 bA hgs
    have f0 := HX.out 0 _ rfl
    have f1 := HX.out 1 _ rfl
    have f2 := HX.out 2 _ rfl
    have f3 := HX.out 3 _ rfl
    have f4 := HX.out 4 _ rfl
    have g0 := HY.out 0 _ rfl
    have g1 := HY.out 1 _ rfl
    have g2 := HY.out 2 _ rfl
    have g3 := HY.out 3 _ rfl
    have g4 := HY.out 4 _ rfl
    go_wp2_with fail
    go_cut [26] from 22 to 26 (fun s wq => s = .bool false ∧ Below w.heap.size w wq)
    case first =>
      have HQ1 : Hid (Reads w5.drew w5.drew.heap.size _ _) := hide (HP.out.drewN 1)
      have HQ2 : Hid (Reads w5.drew w5.drew.heap.size _ _) := hide (HF.out.drewN 1)
      have HQ3 : Hid (Reads w5.drew w5.drew.heap.size _ _) := hide (HM.out.drewN 1)
      go_region_with (first
        | (go_at_call 7; refine (toCls _ x _ _ _ HQ1.out HQ2.out HQ3.out HG.out).mono ?_; rintro e w6 ⟨u1, u2, u3, rfl, o6, b6⟩; have HO6 := hide (clD_own o6); have HY6 := hide (HY.out.below hg4 (below_of_drew b6)); have y0 := HY6.out 0 _ rfl; have y1 := HY6.out 1 _ rfl; have y2 := HY6.out 2 _ rfl; have y3 := HY6.out 3 _ rfl; have y4 := HY6.out 4 _ rfl; have HB6 := hide (HB.out.trans ((below_of_drew b6).mono HB.out.size)); have K1 := hide (HO.out.1.at (below_of_drew b6)); have K2 := hide (HO.out.2.1.at (below_of_drew b6)); have K3 := hide (HO.out.2.2.at (below_of_drew b6)); clear b6 o6)
        | (go_at_call 9; refine (eqCls _ x _ _ _ _ _ _ K1.out K2.out K3.out HO6.out.1 HO6.out.2.1 HO6.out.2.2 HG.out).mono ?_; rintro e w7 ⟨rfl, b7⟩; have HB7 := hide (HB6.out.trans (b7.mono HB6.out.size)); clear b7))
      all_goals (go_wp2_with fail; go_meet; exact ⟨rfl, HB7.out⟩)
    case rest =>
      obtain ⟨rfl, hB⟩ := hcut
      have HZ := hide hB
      clear hB f0 f1 f2 f3 f4 g0 g1 g2 g3 g4
      go_wp2
      go_ret
      exact ⟨rfl, HZ.out⟩

set_option maxRecDepth 100000 in
theorem lifted (os : Os) (started : os.Started) (H : Type) (enc : TypeId × Value → H) :
    ReturnsInHanded {} Try.checked os 3 .any (Rows.fnExactClassOkSpec.pre6 enc Try.prog Try.f3 Rows.fnExactClassOkRow.domain false) (Rows.fnExactClassOkSpec.post enc Try.prog Try.f3 false true false false) := by
  refine returnsInHanded_of_change (C := Try.checked) own started (by kernel_rfl) Try.func3
    (ChangeSpec.witness6 (enc := enc) (C := Try.checked) false ⟨#[], #[.agg #[.string ByteArray.empty, .string ByteArray.empty, .slice none 0 0, .slice none 0 0, .slice none 0 0]], []⟩ 8 (by kernel_rfl) (by kernel_rfl) (by kernel_rfl) (by kernel_rfl)) ?_
  intro W base args ds gs before hval0 hW hcnd _
  have hval : ∀ (j : Nat) t v, Try.f3.params[j]? = some t → args[j]? = some v → Value.okWide Try.prog W .any base t v := hval0
  have hW' := hW
  obtain ⟨p, q, hA0, hV, rfl, hfz, hnd⟩ := hW
  have hA : DataW.TrodAll enc Try.prog W 0 (fun _ => true) true Try.f3.params.toList args.toList ds p := hA0
  rw [Try.params3] at hA hval
  obtain ⟨v0, vs0, d0, ds0, p0, q0, hargs, rfl, rfl, h0, r0⟩ := trodAll_cons hA
  obtain ⟨rfl, rfl, rfl⟩ := trodAll_nil r0
  obtain rfl : args = #[v0] := by cases args; simp_all
  obtain ⟨rfl, rfl⟩ := trodVars_none hV
  have k0 := h0
  have lt0 : ∀ x ∈ p0, x.block < W.heap.size := by obtain ⟨m, hm⟩ := k0; exact DataW.trod_lt m _ _ _ hm
  have w0 := openCls (hval 0 26 v0 rfl rfl) h0
  clear hA0 hval0
  refine (walk v0 W w0).mono fun e W' ⟨he, bel⟩ => ?_
  subst he
  exact ⟨_, rfl, _, _, _, [], _, [], hW', trodAll_mk1 (shut_bool Try.underlying4 _), (trodAll_cons_mk (Below.trod laidOut (by kernel_rfl) (of_decide_eq_true (by kernel_rfl)) k0 bel lt0) trodAll_mk0), rfl, bel.frame _, fun h => by cases h⟩

theorem over : Rows.fnExactClassOkRow.holds Try.pinned (OpenSpec.ofChange Rows.fnExactClassOkSpec) :=
  OpenClaim.holds_of_wide 3 Try.f3 rfl rfl rfl rfl rfl rfl rfl ⟨rfl, rfl, rfl, rfl, rfl⟩ rfl rfl rfl rfl rfl (by kernel_rfl) Try.func3 (by kernel_rfl)
    (of_decide_eq_true (by kernel_rfl)) (by unfold Func.isWrapper; first | (rw [if_pos (by decide +kernel)]; kernel_rfl) | (rw [if_neg (by decide +kernel)]; exact ⟨rfl, rfl⟩))
    (fun os started H enc _ => lifted os started H enc)

end Go.Proofs.Ythagfdcfpffaoaa.fnExactClassOk
namespace Go.Proofs.Ythagfdcfpffaoaa
theorem fnExactClassOk_holds : Rows.FnExactClassOkSaid := fnExactClassOk.over
#print axioms fnExactClassOk_holds
end Go.Proofs.Ythagfdcfpffaoaa
