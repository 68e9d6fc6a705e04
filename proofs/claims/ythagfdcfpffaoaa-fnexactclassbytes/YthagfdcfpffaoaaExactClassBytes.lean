/-
  Proved: at every class the program's ClassBytes answers as its model does, writes into no argument and keeps nothing of one, and its answer owns its memory (the law FnExactClassBytes returns true), without any condition.
-/
import Derived.Test.YthagfdcfpffaoaaRows
import Derived.Test.YthagfdcfpffaoaaClsLaw
import Derived.Test.YthagfdcfpffaoaaClsBS
import Derived.Test.YthagfdcfpffaoaaClsMk2
import Derived.Deep.CutRange
import Derived.Deep.RegionWith
import Derived.BigRegion
import Derived.WalkKit
import Derived.ProofKit
import Derived.OpenShut
import Derived.ShutString
import Derived.ChangeOld
import Derived.Below
namespace Go.Proofs.Ythagfdcfpffaoaa.fnExactClassBytes
open Go.ChangeShapes Go.WideShapes Go.ChangeAt Go.RowKit
open Go.ChangeMaps (open_string shut_string)
set_option linter.unusedVariables false

theorem own : ownKnob Try.prog.godebug = none := by kernel_rfl
theorem laidOut : laidOutB Try.prog = true := by kernel_rfl
theorem clY_len {x : Cl} (hg : ClG x) : (clY x).length ≤ 100000 := by
  unfold clY
  cases hk : clB x with
  | false => simp
  | true =>
    have hS := clS_of hk hg
    have h1 := pt_len x.n
    have h2 := pt_len x.s
    have h3 := rowY_len (g := kcY) (k := 412) (xs := x.p) (fun y _ => kcY_len y)
    have h4 := rowY_len (g := fdY) (k := 408) (xs := x.f) (fun y _ => fdY_len y)
    have h5 := rowY_len (g := meY) (k := 2000) (xs := x.m) (fun y hy => meY_len y (hS.ms y hy))
    have h6 := hS.p
    have h7 := hS.f
    have h8 := hS.m
    simp only [cond_true]
    unfold clY0
    simp only [List.length_append]
    omega
theorem clY_byt {x : Cl} (hg : ClG x) : Byt (clY x) := by
  unfold clY
  cases hk : clB x with
  | false => intro z hz; simp at hz
  | true =>
    have hS := clS_of hk hg
    exact ((((ptByt _).append (ptByt _)).append (rowY_byt (fun y _ => kcY_byt y))).append (rowY_byt (fun y _ => fdY_byt y))).append (rowY_byt (fun y hy => meY_byt y (hS.ms y hy)))
theorem cntM_le : ∀ (xs : List Me), tot cntM xs ≤ tot meW xs + 3 * xs.length
  | [] => by simp [tot]
  | x :: xs => by
    have h := cntM_le xs
    have h1 : tot cntM (x :: xs) = cntM x + tot cntM xs := by simp [tot]
    have h2 : tot meW (x :: xs) = meW x + tot meW xs := by simp [tot]
    have h3 : cntM x = x.ps.length + x.c.length + 3 := rfl
    have h4 : meW x = x.n.size + (x.ps.length + tot ByteArray.size x.ps) + x.r.size + x.c.length := rfl
    rw [h1, h2, List.length_cons]; omega
theorem cntC_le {x : Cl} (hw : clW x ≤ 1048576) : cntC x ≤ 20000000 := by
  have h := cntM_le x.m
  have h1 : clW x = x.n.size + x.s.size + (x.p.length + tot kcW x.p) + (x.f.length + tot fdW x.f) + (x.m.length + tot meW x.m) := rfl
  have h2 : cntC x = 4 * x.p.length + 2 * x.f.length + tot cntM x.m := rfl
  omega
set_option maxRecDepth 100000 in
set_option maxHeartbeats 8000000 in
theorem walk (v0 : Value) (w : World) (h0 : IsCls w v0) :
    Calls Try.prog 4 #[v0] w fun e w' => e = .returned (.bool true) ∧ Below w.heap.size w w' := by
  obtain ⟨x, pv, fv, mv, rfl, hp, hf, hme, hr⟩ := h0
  obtain ⟨a1, k1, e1, _⟩ := hp.shape
  obtain ⟨a2, k2, e2, _⟩ := hf.shape
  obtain ⟨a3, k3, e3, _⟩ := hme.shape
  subst e1 e2 e3
  have bA := (Below.refl w.heap.size w).alloc (Nat.le_refl _) (.cells #[.string x.n, .string x.s, .slice a1 x.p.length k1, .slice a2 x.f.length k2, .slice a3 x.m.length k3] 26)
  have HX := hide (Box.new w #[.string x.n, .string x.s, .slice a1 x.p.length k1, .slice a2 x.f.length k2, .slice a3 x.m.length k3] 26)
  have hgs : Hid (w.heap.size < (w.alloc (.cells #[.string x.n, .string x.s, .slice a1 x.p.length k1, .slice a2 x.f.length k2, .slice a3 x.m.length k3] 26)).heap.size) := hide (by simp)
  have HP := hide (hp.at bA)
  have HF := hide (hf.at bA)
  have HM := hide (hme.at bA)
  have HB := hide bA
  have HR := hide hr
  clear hp hf hme bA hr
  unfold clV
  go_enter Try.func4, Try.ntmps4
  go_wp2_with fail
  generalize w.alloc (.cells #[.string x.n, .string x.s, .slice a1 x.p.length k1, .slice a2 x.f.length k2, .slice a3 x.m.length k3] 26) = W at *
  have HBX : Hid (∀ wr, Below W.heap.size W wr → Box wr w.heap.size [.string x.n, .string x.s, .slice a1 x.p.length k1, .slice a2 x.f.length k2, .slice a3 x.m.length k3]) := hide (fun wr hb => HX.out.below hgs.out hb)
  clear HX hgs
  refine (szCls _ x _ _ _ HP.out HF.out HM.out HR.out).mono ?_
  rintro e w1 ⟨m, rfl, hm, b1⟩
  have HD := hide b1
  clear b1
  rcases hm with hm | ⟨hm, hw⟩
  · go_wp2
    go_ret
    exact ⟨rfl, HB.out.trans (HD.out.mono HB.out.size)⟩
  · have HG := hide (clG_of HR.out hw)
    have hcnt := cntC_le hw
    have hzl := clY_len HG.out
    have hzl2 : (clY x).length ≤ 1000000000 := by omega
    have HZB := hide (clY_byt HG.out)
    clear HR hw
    have hm' : ¬ m < 0 := by omega
    have A := HBX.out _ HD.out
    have q0 := A 0 _ rfl
    have q1 := A 1 _ rfl
    have q2 := A 2 _ rfl
    have q3 := A 3 _ rfl
    have q4 := A 4 _ rfl
    clear A
    go_wp2_with fail
    clear q0 q1 q2 q3 q4
    refine (toCls _ x _ _ _ (HP.out.at HD.out) (HF.out.at HD.out) (HM.out.at HD.out) HG.out).mono ?_
    rintro e w2 ⟨u1, u2, u3, rfl, o2, b2⟩
    have HO := hide (clD_own o2)
    replace HD := hide (HD.out.trans (b2.mono HD.out.size))
    clear b2 o2
    go_wp2_with fail
    refine (clBySpec _ x _ _ _ HO.out.1 HO.out.2.1 HO.out.2.2 HG.out).mono ?_
    rintro e w3 ⟨v0, rfl, o3, b3⟩
    have hs3 := HD.out.size
    have O0 := hide (o3.mono hs3)
    replace HD := hide (HD.out.trans (b3.mono HD.out.size))
    have L0 : Hid (∀ q, v0.ownBlock = some q → W.heap.size ≤ q ∧ q < w3.heap.size) := hide (fun q hq => ⟨Nat.le_trans hs3 (o3.lt q hq).1, (o3.lt q hq).2⟩)
    clear b3 o3 HO hs3
    have A := HBX.out _ HD.out
    have q0 := A 0 _ rfl
    have q1 := A 1 _ rfl
    have q2 := A 2 _ rfl
    have q3 := A 3 _ rfl
    have q4 := A 4 _ rfl
    clear A
    go_wp2_with fail
    clear q0 q1 q2 q3 q4
    refine (toCls _ x _ _ _ (HP.out.at HD.out) (HF.out.at HD.out) (HM.out.at HD.out) HG.out).mono ?_
    rintro e w4 ⟨u1, u2, u3, rfl, ox, b4⟩
    have hs4 := HD.out.size
    replace HD := hide (HD.out.trans (b4.mono HD.out.size))
    replace O0 := hide (O0.out.below b4)
    obtain ⟨F, ox1, hFN, hFh⟩ := ox
    have ho := clD_reads (OwnsL.reads (Nat.le_refl _) _ _ _ ox1)
    obtain ⟨p1, r1, e1, _⟩ := ho.1.shape
    obtain ⟨p2, r2, e2, _⟩ := ho.2.1.shape
    obtain ⟨p3, r3, e3, _⟩ := ho.2.2.shape
    subst e1 e2 e3
    have hFl : Hid (∀ q ∈ F, w3.heap.size ≤ q ∧ q < w4.heap.size) := hide (OwnsL.lt _ _ _ ox1)
    have HW3 : Hid (W.heap.size ≤ w3.heap.size) := hide hs4
    have HFN := hide hFN
    have s4 := b4.size
    have E5 := hide (heap_alloc_new w4 (.cells #[.string x.n, .string x.s, .slice p1 x.p.length r1, .slice p2 x.f.length r2, .slice p3 x.m.length r3] 33))
    have bX := (Below.refl w4.heap.size w4).alloc (Nat.le_refl _) (.cells #[.string x.n, .string x.s, .slice p1 x.p.length r1, .slice p2 x.f.length r2, .slice p3 x.m.length r3] 33)
    have OX := hide ((ox1.mono hs4).same (fun q hq => bX.block q (OwnsL.lt _ _ _ ox1 q hq).2))
    replace HD := hide (HD.out.trans (bX.mono HD.out.size))
    replace O0 := hide (O0.out.below bX)
    clear b4 ox1 hFN hFh ho bX
    unfold clV
    go_wp2_with fail
    have hN4 : w4.heap.size < (w4.alloc (.cells #[.string x.n, .string x.s, .slice p1 x.p.length r1, .slice p2 x.f.length r2, .slice p3 x.m.length r3] 33)).heap.size := by simp
    generalize w4.alloc (.cells #[.string x.n, .string x.s, .slice p1 x.p.length r1, .slice p2 x.f.length r2, .slice p3 x.m.length r3] 33) = W5 at *
    generalize w4.heap.size = B5 at *
    generalize w3.heap.size = b3 at *
    have HO := hide (clD_reads (OwnsL.reads (Nat.le_refl _) _ _ _ OX.out))
    refine (clBy _ x _ _ _ HO.out.1 HO.out.2.1 HO.out.2.2 HG.out).mono ?_
    rintro e w6 ⟨v6, rfl, o6, b6⟩
    have hs6 := HD.out.size
    have LG : Hid (∀ q, v6.ownBlock = some q → B5 < q) := hide (fun q hq => Nat.lt_of_lt_of_le hN4 (o6.lt q hq).1)
    have OG := hide (o6.mono hs6)
    replace HD := hide (HD.out.trans (b6.mono HD.out.size))
    replace O0 := hide (O0.out.below b6)
    replace OX := hide (OX.out.same (fun q hq => b6.block q (OwnsL.lt _ _ _ OX.out q hq).2))
    replace E5 := hide ((b6.block _ (Array.getElem?_eq_some_iff.1 E5.out).1).trans E5.out)
    clear b6 o6 HO hs6 hs4
    go_wp2_with fail
    refine (eqB _ _ _ _ _ _ OG.out O0.out hzl2).mono ?_
    rintro e w7 ⟨rfl, q7, hq7⟩
    have b7 : Below w6.heap.size w6 w7 := by rw [hq7]; exact below_drewN (Below.refl _ _) _
    replace HD := hide (HD.out.trans (b7.mono HD.out.size))
    replace O0 := hide (O0.out.below b7)
    replace OX := hide (OX.out.same (fun q hq => b7.block q (OwnsL.lt _ _ _ OX.out q hq).2))
    replace E5 := hide ((b7.block _ (Array.getElem?_eq_some_iff.1 E5.out).1).trans E5.out)
    replace OG := hide (OG.out.below b7)
    clear b7 hq7 q7
    have f0 := (box_of E5.out).1 0 _ rfl
    have f1 := (box_of E5.out).1 1 _ rfl
    have f2 := (box_of E5.out).1 2 _ rfl
    have f3 := (box_of E5.out).1 3 _ rfl
    have f4 := (box_of E5.out).1 4 _ rfl
    have A := HBX.out _ HD.out
    have q0 := A 0 _ rfl
    have q1 := A 1 _ rfl
    have q2 := A 2 _ rfl
    have q3 := A 3 _ rfl
    have q4 := A 4 _ rfl
    clear A
    go_wp2_with fail
    go_cut [31] from 27 to 31 (fun s wq => s = .bool false ∧ Below w7.heap.size w7 wq)
    case first =>
      have HQ1 : Hid (Reads w7.drew w7.drew.heap.size _ _) := hide ((HP.out.at HD.out).drewN 1)
      have HQ2 : Hid (Reads w7.drew w7.drew.heap.size _ _) := hide ((HF.out.at HD.out).drewN 1)
      have HQ3 : Hid (Reads w7.drew w7.drew.heap.size _ _) := hide ((HM.out.at HD.out).drewN 1)
      have HO := hide (clD_reads (OwnsL.reads (Nat.le_refl _) _ _ _ OX.out))
      have hB5 : B5 < w7.heap.size := (Array.getElem?_eq_some_iff.1 E5.out).1
      go_region_with (first
        | (go_at_call 7; refine (toCls _ x _ _ _ HQ1.out HQ2.out HQ3.out HG.out).mono ?_; rintro e w8 ⟨u1, u2, u3, rfl, o8, b8⟩; have HO8 := hide (clD_own o8); have Y8 := hide ((box_of E5.out).1.below hB5 (below_of_drew b8)); have y0 := Y8.out 0 _ rfl; have y1 := Y8.out 1 _ rfl; have y2 := Y8.out 2 _ rfl; have y3 := Y8.out 3 _ rfl; have y4 := Y8.out 4 _ rfl; have HB8 := hide (below_of_drew b8); have K1 := hide (HO.out.1.at (below_of_drew b8)); have K2 := hide (HO.out.2.1.at (below_of_drew b8)); have K3 := hide (HO.out.2.2.at (below_of_drew b8)); clear b8 o8)
        | (go_at_call 9; refine (eqCls _ x _ _ _ _ _ _ K1.out K2.out K3.out HO8.out.1 HO8.out.2.1 HO8.out.2.2 HG.out).mono ?_; rintro e w9 ⟨rfl, b9⟩; have HB9 := hide (HB8.out.trans (b9.mono HB8.out.size)); clear b9))
      all_goals (go_wp2_with fail; go_meet; exact ⟨rfl, HB9.out⟩)
    case rest =>
      obtain ⟨rfl, b7⟩ := hcut
      clear f0 f1 f2 f3 f4 q0 q1 q2 q3 q4
      replace HD := hide (HD.out.trans (b7.mono HD.out.size))
      replace O0 := hide (O0.out.below b7)
      replace OX := hide (OX.out.same (fun q hq => b7.block q (OwnsL.lt _ _ _ OX.out q hq).2))
      replace E5 := hide ((b7.block _ (Array.getElem?_eq_some_iff.1 E5.out).1).trans E5.out)
      replace OG := hide (OG.out.below b7)
      clear b7
      have f0 := (box_of E5.out).1 0 _ rfl
      have f1 := (box_of E5.out).1 1 _ rfl
      have f2 := (box_of E5.out).1 2 _ rfl
      have f3 := (box_of E5.out).1 3 _ rfl
      have f4 := (box_of E5.out).1 4 _ rfl
      go_wp2_with fail
      clear f0 f1 f2 f3 f4
      refine (mkCls _ _ 1 x _ _ _ F OX.out HFN.out (by omega) (by omega)).mono ?_
      rintro e w10 ⟨rfl, ox2, c10⟩
      have hc : ¬ ((1 + cntC x : Nat) : Int) < 0 := by omega
      replace O0 := hide (O0.out.sameB (fun q hq => c10.block q (O0.out.lt q hq).2 (fun hm => by have a := hFl.out q hm; have b := (L0.out q hq).2; omega)))
      replace OG := hide (OG.out.sameB (fun q hq => c10.block q (OG.out.lt q hq).2 (fun hm => by have a := hFl.out q hm; have b := LG.out q hq; omega)))
      replace HD := hide (HD.out.trans ((c10.below (fun q hm => by have a := hFl.out q hm; have b := HW3.out; omega) HD.out.size)))
      clear ox2 c10 OX E5 HFN hFl
      generalize (1 + cntC x : Nat) = kk at *
      go_wp2_with fail
      refine (eqB _ _ _ _ _ _ OG.out O0.out hzl2).mono ?_
      rintro e w11 ⟨rfl, q11, hq11⟩
      have b11 : Below w10.heap.size w10 w11 := by rw [hq11]; exact below_drewN (Below.refl _ _) _
      replace HD := hide (HD.out.trans (b11.mono HD.out.size))
      replace O0 := hide (O0.out.below b11)
      replace OG := hide (OG.out.below b11)
      clear b11 hq11 q11
      go_wp2_with fail
      refine (mark1 _ _ _ _ OG.out (by omega)).mono ?_
      rintro e w12 ⟨rfl, og, g12⟩
      replace O0 := hide (ownKept O0.out g12 (fun q hq e => by have a := (L0.out q hq).2; have b := LG.out q e; omega))
      replace HD := hide (HD.out.grown g12 HD.out.size (fun q hq => (OG.out.lt q hq).1))
      replace OG := hide og
      clear og g12
      have hk1 : ¬ (1 + ((clY x).length : Int)) < 0 := by omega
      have hne1 : ((1 + ((clY x).length : Int)) != (1 + ((clY x).length : Int))) = false := by simp
      go_wp2_with fail
      refine (held1 _ _ _ _ OG.out (by omega)).mono ?_
      rintro e w13 ⟨rfl, hw13⟩
      subst hw13
      have A := HBX.out _ HD.out
      have q0 := A 0 _ rfl
      have q1 := A 1 _ rfl
      have q2 := A 2 _ rfl
      have q3 := A 3 _ rfl
      have q4 := A 4 _ rfl
      clear A
      go_wp2_with fail
      clear q0 q1 q2 q3 q4
      refine (toCls _ x _ _ _ (HP.out.at HD.out) (HF.out.at HD.out) (HM.out.at HD.out) HG.out).mono ?_
      rintro e w14 ⟨u1, u2, u3, rfl, o14, b14⟩
      have HO := hide (clD_own o14)
      replace HD := hide (HD.out.trans (b14.mono HD.out.size))
      replace O0 := hide (O0.out.below b14)
      replace OG := hide (OG.out.below b14)
      clear b14 o14
      go_wp2_with fail
      refine (clBy _ x _ _ _ HO.out.1 HO.out.2.1 HO.out.2.2 HG.out).mono ?_
      rintro e w15 ⟨v15, rfl, o15, b15⟩
      have OH := hide o15
      replace HD := hide (HD.out.trans (b15.mono HD.out.size))
      replace O0 := hide (O0.out.below b15)
      replace OG := hide (OG.out.below b15)
      clear b15 o15 HO
      go_wp2_with fail
      refine (eqB _ _ _ _ _ _ OH.out O0.out hzl2).mono ?_
      rintro e w16 ⟨rfl, q16, hq16⟩
      have b16 : Below w15.heap.size w15 w16 := by rw [hq16]; exact below_drewN (Below.refl _ _) _
      replace HD := hide (HD.out.trans (b16.mono HD.out.size))
      replace O0 := hide (O0.out.below b16)
      replace OG := hide (OG.out.below b16)
      clear b16 hq16 q16
      go_wp2_with fail
      refine (held1 _ _ _ _ OG.out (by omega)).mono ?_
      rintro e w17 ⟨rfl, hw17⟩
      subst hw17
      go_wp2
      go_ret
      exact ⟨rfl, HB.out.trans (HD.out.mono HB.out.size)⟩

set_option maxRecDepth 100000 in
theorem lifted (os : Os) (started : os.Started) (H : Type) (enc : TypeId × Value → H) :
    ReturnsInHanded {} Try.checked os 4 .any (Rows.fnExactClassBytesSpec.pre6 enc Try.prog Try.f4 Rows.fnExactClassBytesRow.domain false) (Rows.fnExactClassBytesSpec.post enc Try.prog Try.f4 false true false false) := by
  refine returnsInHanded_of_change (C := Try.checked) own started (by kernel_rfl) Try.func4
    (ChangeSpec.witness6 (enc := enc) (C := Try.checked) false ⟨#[], #[.agg #[.string ByteArray.empty, .string ByteArray.empty, .slice none 0 0, .slice none 0 0, .slice none 0 0]], []⟩ 8 (by kernel_rfl) (by kernel_rfl) (by kernel_rfl) (by kernel_rfl)) ?_
  intro W base args ds gs before hval0 hW hcnd _
  have hval : ∀ (j : Nat) t v, Try.f4.params[j]? = some t → args[j]? = some v → Value.okWide Try.prog W .any base t v := hval0
  have hW' := hW
  obtain ⟨p, q, hA0, hV, rfl, hfz, hnd⟩ := hW
  have hA : DataW.TrodAll enc Try.prog W 0 (fun _ => true) true Try.f4.params.toList args.toList ds p := hA0
  rw [Try.params4] at hA hval
  obtain ⟨v0, vs0, d0, ds0, p0, q0, hargs, rfl, rfl, h0, r0⟩ := trodAll_cons hA
  obtain ⟨rfl, rfl, rfl⟩ := trodAll_nil r0
  obtain rfl : args = #[v0] := by cases args; simp_all
  obtain ⟨rfl, rfl⟩ := trodVars_none hV
  have k0 := h0
  have lt0 : ∀ x ∈ p0, x.block < W.heap.size := by obtain ⟨m, hm⟩ := k0; exact DataW.trod_lt m _ _ _ hm
  have w0 := openCls (hval 0 26 v0 rfl rfl) h0
  clear hA0 hval0
  refine (walk v0 W w0).mono fun e W' ⟨he, bel⟩ => ?_
  subst he
  exact ⟨_, rfl, _, _, _, [], _, [], hW', trodAll_mk1 (shut_bool Try.underlying4 _), (trodAll_cons_mk (Below.trod laidOut (by kernel_rfl) (of_decide_eq_true (by kernel_rfl)) k0 bel lt0) trodAll_mk0), rfl, bel.frame _, fun h => by cases h⟩

theorem over : Rows.fnExactClassBytesRow.holds Try.pinned (OpenSpec.ofChange Rows.fnExactClassBytesSpec) :=
  OpenClaim.holds_of_wide 4 Try.f4 rfl rfl rfl rfl rfl rfl rfl ⟨rfl, rfl, rfl, rfl, rfl⟩ rfl rfl rfl rfl rfl (by kernel_rfl) Try.func4 (by kernel_rfl)
    (of_decide_eq_true (by kernel_rfl)) (by unfold Func.isWrapper; first | (rw [if_pos (by decide +kernel)]; kernel_rfl) | (rw [if_neg (by decide +kernel)]; exact ⟨rfl, rfl⟩))
    (fun os started H enc _ => lifted os started H enc)

end Go.Proofs.Ythagfdcfpffaoaa.fnExactClassBytes
namespace Go.Proofs.Ythagfdcfpffaoaa
theorem fnExactClassBytes_holds : Rows.FnExactClassBytesSaid := fnExactClassBytes.over
#print axioms fnExactClassBytes_holds
end Go.Proofs.Ythagfdcfpffaoaa
