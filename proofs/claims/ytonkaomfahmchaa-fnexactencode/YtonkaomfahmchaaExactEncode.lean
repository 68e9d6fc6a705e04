/-
  Proved: at every row of places the program's Encode answers as its model does, writes into no argument and keeps none, its answer is of its own (the law FnExactEncode returns true), without any condition.
-/
import Derived.Test.YtonkaomfahmchaaRows
import Derived.Test.YtonkaomfahmchaaInsEncS
import Derived.Test.YtonkaomfahmchaaInsCodeI
import Derived.WalkKit
import Derived.ProofKit
import Derived.OpenShut
import Derived.ShutString
import Derived.ChangeOld
import Derived.Below
namespace Go.Proofs.Ytonkaomfahmchaa.fnExactEncode
open Go.ChangeShapes Go.WideShapes Go.ChangeAt Go.RowKit
open Go.ChangeMaps (open_string shut_string)
set_option linter.unusedVariables false

theorem own : ownKnob Try.prog.godebug = none := by kernel_rfl
theorem laidOut : laidOutB Try.prog = true := by kernel_rfl
theorem Own.sameB9 {w w' : World} {b : Nat} {v : Value} {zs : List Int} (h : Own w b v zs) (hs : ∀ q, v.ownBlock = some q → w'.heap[q]? = w.heap[q]?) : Own w' b v zs := rowSame h hs
theorem encB_byt (xs : List Isn) : Byt (encB xs) ∧ (encB xs).length ≤ 90 := by
  unfold encB
  cases c : codeB xs with
  | false => exact ⟨fun z hz => by simp at hz, by simp⟩
  | true =>
    obtain ⟨_, h2, h3, _⟩ := codeB_of c
    refine ⟨fun z hz => ?_, ?_⟩
    · obtain ⟨x, hx, hz⟩ := List.mem_flatMap.1 hz
      obtain ⟨i1, i2, i3, i4, i5, i6⟩ := insB_of (h3 x hx)
      unfold encX at hz
      split at hz
      · rename_i k
        have := i2 k
        simp at hz
        omega
      · split at hz
        · have := stA_mono xs x.n.toNat
          simp at hz
          omega
        · rename_i k1 k2
          have := i3 k1
          have := i5 k1 k2
          split at hz
          · simp at hz; omega
          · simp at hz; omega
    · have := encF_len xs xs
      unfold encL
      unfold stA at h2
      rw [List.take_length] at h2
      simp only [if_pos]
      omega
set_option maxRecDepth 100000 in
set_option maxHeartbeats 4000000 in
theorem walk (v0 : Value) (w : World) (h0 : IsInss w v0) :
    Calls Try.prog 5 #[v0] w fun e w' => e = .returned (.bool true) ∧ Below w.heap.size w w' := by
  obtain ⟨xs, hx, hm, _⟩ := h0
  have HR := hide hx
  obtain ⟨a, cap, rfl, _⟩ := ins_at hx
  clear hx
  have hzl : (encB xs).length ≤ 90 := (encB_byt xs).2
  have hzl2 : (encB xs).length ≤ 1000000000 := by omega
  go_enter Try.func5, Try.ntmps5
  go_wp2_with fail
  refine (szIns _ _ _ _ hm).mono ?_
  rintro e w1 ⟨m, rfl, hw1, hz⟩
  rw [hw1]
  clear hw1 w1
  have HD := hide (Below.refl w.heap.size w)
  rcases hz with hz | ⟨hz0, hz1, hz2⟩
  · go_wp2
    go_ret
    exact ⟨rfl, HD.out⟩
  · have hz' : ¬ m < 0 := by omega
    have HM := hide hz2
    clear hz2
    go_wp2_with fail
    refine (toIns _ _ xs HR.out HM.out).mono ?_
    rintro e w2 ⟨v1, rfl, o2, b2⟩
    have HO := hide (o2.rd (Nat.le_refl _))
    replace HD := hide b2
    clear o2 b2
    go_wp2_with fail
    refine (encodeSpec _ _ xs HO.out HM.out).mono ?_
    rintro e w3 ⟨v0, rfl, o3, b3⟩
    have hs3 := HD.out.size
    have o3' := o3.bytes.1
    have O0 := hide (o3'.mono hs3)
    replace HD := hide (HD.out.trans (b3.mono HD.out.size))
    have L0 : Hid (∀ q, v0.ownBlock = some q → w.heap.size ≤ q ∧ q < w3.heap.size) := hide (fun q hq => ⟨Nat.le_trans hs3 (o3'.lt q hq).1, (o3'.lt q hq).2⟩)
    clear b3 o3 o3' HO hs3
    go_wp2_with fail
    refine (toIns _ _ xs (HR.out.at HD.out) HM.out).mono ?_
    rintro e w4 ⟨vx, rfl, ox, b4⟩
    have hs4 := HD.out.size
    replace HD := hide (HD.out.trans (b4.mono HD.out.size))
    replace O0 := hide (O0.out.below b4)
    obtain ⟨F, ox1, hFN, hFh⟩ := ox
    obtain ⟨p1, r1, e1, _⟩ := (Owns.reads (Nat.le_refl _) _ _ _ ox1).shape
    have e1' : vx = .slice p1 xs.length r1 := e1
    subst e1'
    have hFl : Hid (∀ q ∈ F, w3.heap.size ≤ q ∧ q < w4.heap.size) := hide (Owns.lt _ _ _ ox1)
    have HW3 : Hid (w.heap.size ≤ w3.heap.size) := hide hs4
    have HW34 : Hid (w3.heap.size ≤ w4.heap.size) := hide b4.size
    have HFN := hide hFN
    have OX := hide (ox1.mono hs4)
    clear b4 ox1 hFN hFh e1 hs4
    go_wp2_with fail
    refine (encodeImpl _ _ xs (Owns.reads (Nat.le_refl _) _ _ _ OX.out) HM.out).mono ?_
    rintro e w6 ⟨v6, rfl, o6, b6⟩
    have hs6 := HD.out.size
    have o6' := o6.bytes.1
    have LG : Hid (∀ q, v6.ownBlock = some q → w4.heap.size ≤ q) := hide (fun q hq => (o6'.lt q hq).1)
    have OG := hide (o6'.mono hs6)
    replace HD := hide (HD.out.trans (b6.mono HD.out.size))
    replace O0 := hide (O0.out.below b6)
    replace OX := hide (OX.out.same (fun q hq => b6.block q (Owns.lt _ _ _ OX.out q hq).2))
    clear b6 o6 o6' hs6
    go_wp2_with fail
    refine (eqB _ _ _ _ _ _ OG.out O0.out hzl2).mono ?_
    rintro e w7 ⟨rfl, q7, hq7⟩
    have b7 : Below w6.heap.size w6 w7 := by rw [hq7]; exact below_drewN (Below.refl _ _) _
    replace HD := hide (HD.out.trans (b7.mono HD.out.size))
    replace O0 := hide (O0.out.below b7)
    replace OX := hide (OX.out.same (fun q hq => b7.block q (Owns.lt _ _ _ OX.out q hq).2))
    replace OG := hide (OG.out.below b7)
    clear b7 hq7 q7
    go_wp2_with fail
    refine (toIns _ _ xs (HR.out.at HD.out) HM.out).mono ?_
    rintro e w8 ⟨v8, rfl, o8, b8⟩
    replace HD := hide (HD.out.trans (b8.mono HD.out.size))
    replace O0 := hide (O0.out.below b8)
    replace OX := hide (OX.out.same (fun q hq => b8.block q (Owns.lt _ _ _ OX.out q hq).2))
    replace OG := hide (OG.out.below b8)
    have HO := hide (o8.rd (Nat.le_refl _))
    clear b8 o8
    go_wp2_with fail
    refine (eqInss _ _ _ xs (Owns.reads (Nat.le_refl _) _ _ _ OX.out) HO.out HM.out).mono ?_
    rintro e w9 ⟨rfl, b9⟩
    replace HD := hide (HD.out.trans (b9.mono HD.out.size))
    replace O0 := hide (O0.out.below b9)
    replace OX := hide (OX.out.same (fun q hq => b9.block q (Owns.lt _ _ _ OX.out q hq).2))
    replace OG := hide (OG.out.below b9)
    clear b9 HO
    go_wp2_with fail
    refine (mkIns _ _ 1 _ xs F OX.out HFN.out (by have := HM.out; omega)).mono ?_
    rintro e w10 ⟨rfl, ox2, c10⟩
    have hc : ¬ ((1 + 2 * xs.length : Nat) : Int) < 0 := by omega
    replace O0 := hide (Own.sameB9 O0.out (fun q hq => c10.block q (O0.out.lt q hq).2 (fun hm => by have a := hFl.out q hm; have b := (L0.out q hq).2; omega)))
    replace OG := hide (Own.sameB9 OG.out (fun q hq => c10.block q (OG.out.lt q hq).2 (fun hm => by have a := hFl.out q hm; have b := LG.out q hq; omega)))
    replace HD := hide (HD.out.trans ((c10.below (fun q hm => by have a := hFl.out q hm; have b := HW3.out; omega) HD.out.size)))
    clear ox2 c10 OX HFN
    generalize (1 + 2 * xs.length : Nat) = kk at *
    go_wp2_with fail
    refine (eqB _ _ _ _ _ _ OG.out O0.out hzl2).mono ?_
    rintro e w11 ⟨rfl, q11, hq11⟩
    have b11 : Below w10.heap.size w10 w11 := by rw [hq11]; exact below_drewN (Below.refl _ _) _
    replace HD := hide (HD.out.trans (b11.mono HD.out.size))
    replace O0 := hide (O0.out.below b11)
    replace OG := hide (OG.out.below b11)
    clear b11 hq11 q11
    go_wp2_with fail
    refine (mark1 _ _ _ _ OG.out (by omega)).mono ?_
    rintro e w12 ⟨rfl, og, g12⟩
    replace O0 := hide (ownKept O0.out g12 (fun q hq e => by have a := (L0.out q hq).2; have b := LG.out q e; have d := HW34.out; omega))
    replace HD := hide (HD.out.grown g12 HD.out.size (fun q hq => (OG.out.lt q hq).1))
    replace OG := hide og
    clear og g12
    have hk1 : ¬ (1 + ((encB xs).length : Int)) < 0 := by omega
    have hne1 : ((1 + ((encB xs).length : Int)) != (1 + ((encB xs).length : Int))) = false := by simp
    go_wp2_with fail
    refine (held1 _ _ _ _ OG.out (by omega)).mono ?_
    rintro e w13 ⟨rfl, hw13⟩
    subst hw13
    go_wp2_with fail
    refine (toIns _ _ xs (HR.out.at HD.out) HM.out).mono ?_
    rintro e w14 ⟨v14, rfl, o14, b14⟩
    have HO := hide (o14.rd (Nat.le_refl _))
    replace HD := hide (HD.out.trans (b14.mono HD.out.size))
    replace O0 := hide (O0.out.below b14)
    replace OG := hide (OG.out.below b14)
    clear b14 o14
    go_wp2_with fail
    refine (encodeImpl _ _ xs HO.out HM.out).mono ?_
    rintro e w15 ⟨v15, rfl, o15, b15⟩
    have OH := hide (o15.bytes.1)
    replace HD := hide (HD.out.trans (b15.mono HD.out.size))
    replace O0 := hide (O0.out.below b15)
    replace OG := hide (OG.out.below b15)
    clear b15 o15 HO
    go_wp2_with fail
    refine (eqB _ _ _ _ _ _ OH.out O0.out hzl2).mono ?_
    rintro e w16 ⟨rfl, q16, hq16⟩
    have b16 : Below w15.heap.size w15 w16 := by rw [hq16]; exact below_drewN (Below.refl _ _) _
    replace HD := hide (HD.out.trans (b16.mono HD.out.size))
    replace O0 := hide (O0.out.below b16)
    replace OG := hide (OG.out.below b16)
    clear b16 hq16 q16
    go_wp2_with fail
    refine (held1 _ _ _ _ OG.out (by omega)).mono ?_
    rintro e w17 ⟨rfl, hw17⟩
    subst hw17
    go_wp2
    go_ret
    exact ⟨rfl, HD.out⟩

set_option maxRecDepth 100000 in
theorem lifted (os : Os) (started : os.Started) (H : Type) (enc : TypeId × Value → H) :
    ReturnsInHanded {} Try.checked os 5 .any (Rows.fnExactEncodeSpec.pre6 enc Try.prog Try.f5 Rows.fnExactEncodeRow.domain false) (Rows.fnExactEncodeSpec.post enc Try.prog Try.f5 false true false false) := by
  refine returnsInHanded_of_change (C := Try.checked) own started (by kernel_rfl) Try.func5
    (ChangeSpec.witness6 (enc := enc) (C := Try.checked) false ⟨#[], #[.slice none 0 0], []⟩ 8 (by kernel_rfl) (by kernel_rfl) (by kernel_rfl) (by kernel_rfl)) ?_
  intro W base args ds gs before hval0 hW hcnd _
  have hval : ∀ (j : Nat) t v, Try.f5.params[j]? = some t → args[j]? = some v → Value.okWide Try.prog W .any base t v := hval0
  have hW' := hW
  obtain ⟨p, q, hA0, hV, rfl, hfz, hnd⟩ := hW
  have hA : DataW.TrodAll enc Try.prog W 0 (fun _ => true) true Try.f5.params.toList args.toList ds p := hA0
  rw [Try.params5] at hA hval
  obtain ⟨v0, vs0, d0, ds0, p0, q0, hargs, rfl, rfl, h0, r0⟩ := trodAll_cons hA
  obtain ⟨rfl, rfl, rfl⟩ := trodAll_nil r0
  obtain rfl : args = #[v0] := by cases args; simp_all
  obtain ⟨rfl, rfl⟩ := trodVars_none hV
  have k0 := h0
  have lt0 : ∀ x ∈ p0, x.block < W.heap.size := by obtain ⟨m, hm⟩ := k0; exact DataW.trod_lt m _ _ _ hm
  have w0 := openInss (hval 0 23 v0 rfl rfl) h0
  clear hA0 hval0
  refine (walk v0 W w0).mono fun e W' ⟨he, bel⟩ => ?_
  subst he
  exact ⟨_, rfl, _, _, _, [], _, [], hW', trodAll_mk1 (shut_bool Try.underlying4 _), (trodAll_cons_mk (Below.trod laidOut (by kernel_rfl) (of_decide_eq_true (by kernel_rfl)) k0 bel lt0) trodAll_mk0), rfl, bel.frame _, fun h => by cases h⟩

theorem over : Rows.fnExactEncodeRow.holds Try.pinned (OpenSpec.ofChange Rows.fnExactEncodeSpec) :=
  OpenClaim.holds_of_wide 5 Try.f5 rfl rfl rfl rfl rfl rfl rfl ⟨rfl, rfl, rfl, rfl, rfl⟩ rfl rfl rfl rfl rfl (by kernel_rfl) Try.func5 (by kernel_rfl)
    (of_decide_eq_true (by kernel_rfl)) (by unfold Func.isWrapper; first | (rw [if_pos (by decide +kernel)]; kernel_rfl) | (rw [if_neg (by decide +kernel)]; exact ⟨rfl, rfl⟩))
    (fun os started H enc _ => lifted os started H enc)

end Go.Proofs.Ytonkaomfahmchaa.fnExactEncode
namespace Go.Proofs.Ytonkaomfahmchaa
theorem fnExactEncode_holds : Rows.FnExactEncodeSaid := fnExactEncode.over
#print axioms fnExactEncode_holds
end Go.Proofs.Ytonkaomfahmchaa
