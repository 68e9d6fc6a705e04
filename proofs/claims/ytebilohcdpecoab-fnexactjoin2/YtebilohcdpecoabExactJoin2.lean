/-
  Proved: at every argument the program's Join2 answers as its model does, writes into no argument, and its answer owns its memory (the law FnExactJoin2 returns true), without any condition.
-/
import Derived.Test.YtebilohcdpecoabRows
import Derived.Test.YtebilohcdpecoabClkM
import Derived.Test.YtebilohcdpecoabClkS
import Derived.Test.YtebilohcdpecoabClkT
import Derived.Test.YtebilohcdpecoabClkI
import Derived.Test.YtebilohcdpecoabStepW
import Derived.Deep.CutRange
import Derived.Deep.RegionWith
import Derived.Deep.RegionHeld
import Derived.BigRegion
import Derived.WalkKit
import Derived.ProofKit
import Derived.OpenShut
import Derived.ShutString
import Derived.ChangeOld
import Derived.Below
namespace Go.Proofs.Ytebilohcdpecoab.fnExactJoin2
open Go.ChangeShapes Go.WideShapes Go.ChangeAt Go.RowKit
open Go.ChangeMaps (open_string shut_string)
set_option linter.unusedVariables false

theorem own : ownKnob Try.prog.godebug = none := by kernel_rfl
theorem laidOut : laidOutB Try.prog = true := by kernel_rfl
set_option maxRecDepth 100000 in
set_option maxHeartbeats 8000000 in
theorem walk (v0 : Value) (v1 : Value) (w : World) (h0 : IsSmps w v0) (h1 : IsSmps w v1) :
    Calls Try.prog 5 #[v0, v1] w fun e w' => e = .returned (.bool true) ∧ Below w.heap.size w w' := by
  obtain ⟨a, ga1, ra⟩ := h0
  obtain ⟨aa1, ca1, ea1, _⟩ := ga1.shape
  subst ea1
  have Pa1 := hide ga1
  have Ra := hide ra
  clear ra ga1
  obtain ⟨b, gb1, rb⟩ := h1
  obtain ⟨ab1, cb1, eb1, _⟩ := gb1.shape
  subst eb1
  have Pb1 := hide gb1
  have Rb := hide rb
  clear rb gb1
  have HB := hide (Below.refl w.heap.size w)
  obtain ⟨V0, hV0⟩ : ∃ V, joinC a b = V := ⟨_, rfl⟩
  have HV0 := hide hV0
  clear hV0
  go_enter Try.func5, Try.ntmps5
  go_wp2_with fail
  refine (szSmps _ _ a _ (Pa1.out.at HB.out) (by omega) (by omega) Ra.out).mono ?_
  rintro e w1 ⟨rfl, b9⟩
  have z1 := b9.size
  replace HB := hide (HB.out.trans (b9.mono HB.out.size))
  clear b9
  by_cases hma : (1048576 : Int) < (smpsW a : Int)
  · rw [szR_neg hma]
    go_wp2
    go_ret
    exact ⟨rfl, HB.out⟩
  · skip
    rw [szR_pos hma]
    have hwa : smpsW a ≤ 1048576 := by omega
    have HGa := hide (smpsG_of Ra.out (by omega))
    have hna : ¬ (1048576 : Int) - (smpsW a : Int) < 0 := by omega
    have hqa : (1048576 : Int) - (smpsW a : Int) ≤ 1048576 := by omega
    have hTa : (1048576 : Int) - (smpsW a : Int) + ((smpsW a : Int) : Int) ≤ 1048576 := by omega
    generalize (1048576 : Int) - (smpsW a : Int) = ma at *
    clear hma
    go_wp2_with fail
    refine (szSmps _ _ b _ (Pb1.out.at HB.out) (by omega) (by omega) Rb.out).mono ?_
    rintro e w2 ⟨rfl, b9⟩
    have z2 := b9.size
    replace HB := hide (HB.out.trans (b9.mono HB.out.size))
    clear b9
    by_cases hmb : (ma : Int) < (smpsW b : Int)
    · rw [szR_neg hmb]
      go_wp2
      go_ret
      exact ⟨rfl, HB.out⟩
    · skip
      rw [szR_pos hmb]
      have hwb : smpsW b ≤ 1048576 := by omega
      have HGb := hide (smpsG_of Rb.out (by omega))
      have hnb : ¬ (ma : Int) - (smpsW b : Int) < 0 := by omega
      have hqb : (ma : Int) - (smpsW b : Int) ≤ 1048576 := by omega
      have hTb : (ma : Int) - (smpsW b : Int) + ((smpsW b : Int) + (smpsW a : Int) : Int) ≤ 1048576 := by omega
      generalize (ma : Int) - (smpsW b : Int) = mb at *
      clear hmb
      have HGV0 := hide (HV0.out ▸ joinC_ok HGa.out HGb.out (by have e1 : smpsW a = a.length := rfl; have e2 : smpsW b = b.length := rfl; omega))
      have hcV0 : cntSmps V0 ≤ 90000000 := by
        have h1 := cntSmps_le V0
        have h3 := HGV0.out.1
        unfold smpsW at h1
        omega
      go_wp2_with fail
      refine (toSmps _ _ a (Pa1.out.at HB.out) HGa.out).mono ?_
      rintro e w3 ⟨n3_1, rfl, o9, b9⟩
      obtain ⟨p3_1, q3_1, f3_1⟩ := o9.shape
      subst f3_1
      have O3 := hide o9
      clear o9
      have z3 := b9.size
      replace HB := hide (HB.out.trans (b9.mono HB.out.size))
      clear b9
      go_wp2_with fail
      refine (toSmps _ _ b (Pb1.out.at HB.out) HGb.out).mono ?_
      rintro e w4 ⟨n4_1, rfl, o9, b9⟩
      obtain ⟨p4_1, q4_1, f4_1⟩ := o9.shape
      subst f4_1
      have O4 := hide o9
      clear o9
      replace O3 := hide (O3.out.below b9)
      have z4 := b9.size
      replace HB := hide (HB.out.trans (b9.mono HB.out.size))
      clear b9
      go_wp2_with fail
      refine (join2S _ a b _ _ (O3.out.rd (Nat.le_refl _)) (O4.out.rd (Nat.le_refl _)) (by have e1 : smpsW a = a.length := rfl; have e2 : smpsW b = b.length := rfl; omega) HGa.out.1 HGb.out.1).mono ?_
      rintro e w5 ⟨n5_1, rfl, o9, b9⟩
      rw [HV0.out] at o9
      obtain ⟨p5_1, q5_1, f5_1⟩ := o9.shape
      subst f5_1
      have O5 := hide o9
      clear o9
      replace O3 := hide (O3.out.below b9)
      replace O4 := hide (O4.out.below b9)
      have z5 := b9.size
      replace HB := hide (HB.out.trans (b9.mono HB.out.size))
      clear b9
      go_wp2_with fail
      refine (toSmps _ _ a (Pa1.out.at HB.out) HGa.out).mono ?_
      rintro e w6 ⟨n6_1, rfl, o9, b9⟩
      obtain ⟨p6_1, q6_1, f6_1⟩ := o9.shape
      subst f6_1
      have O6 := hide o9
      clear o9
      replace O3 := hide (O3.out.below b9)
      replace O4 := hide (O4.out.below b9)
      replace O5 := hide (O5.out.below b9)
      have z6 := b9.size
      replace HB := hide (HB.out.trans (b9.mono HB.out.size))
      clear b9
      go_wp2_with fail
      refine (toSmps _ _ b (Pb1.out.at HB.out) HGb.out).mono ?_
      rintro e w7 ⟨n7_1, rfl, o9, b9⟩
      obtain ⟨p7_1, q7_1, f7_1⟩ := o9.shape
      subst f7_1
      have O7 := hide o9
      clear o9
      replace O3 := hide (O3.out.below b9)
      replace O4 := hide (O4.out.below b9)
      replace O5 := hide (O5.out.below b9)
      replace O6 := hide (O6.out.below b9)
      have z7 := b9.size
      replace HB := hide (HB.out.trans (b9.mono HB.out.size))
      clear b9
      go_wp2_with fail
      refine (join2I _ a b _ _ (O6.out.rd (Nat.le_refl _)) (O7.out.rd (Nat.le_refl _)) (by have e1 : smpsW a = a.length := rfl; have e2 : smpsW b = b.length := rfl; omega) HGa.out.1 HGb.out.1).mono ?_
      rintro e w8 ⟨n8_1, rfl, o9, b9⟩
      rw [HV0.out] at o9
      obtain ⟨p8_1, q8_1, f8_1⟩ := o9.shape
      subst f8_1
      have O8 := hide o9
      clear o9
      replace O3 := hide (O3.out.below b9)
      replace O4 := hide (O4.out.below b9)
      replace O5 := hide (O5.out.below b9)
      replace O6 := hide (O6.out.below b9)
      replace O7 := hide (O7.out.below b9)
      have z8 := b9.size
      replace HB := hide (HB.out.trans (b9.mono HB.out.size))
      clear b9
      go_wp2_with fail
      refine (eqSmps _ _ _ V0 (O8.out.rd (Nat.le_refl _)) (O5.out.rd (Nat.le_refl _)) HGV0.out).mono ?_
      rintro e w9 ⟨rfl, b9⟩
      replace O3 := hide (O3.out.below b9)
      replace O4 := hide (O4.out.below b9)
      replace O5 := hide (O5.out.below b9)
      replace O6 := hide (O6.out.below b9)
      replace O7 := hide (O7.out.below b9)
      replace O8 := hide (O8.out.below b9)
      have z9 := b9.size
      replace HB := hide (HB.out.trans (b9.mono HB.out.size))
      clear b9
      go_wp2_with fail
      refine (toSmps _ _ a (Pa1.out.at HB.out) HGa.out).mono ?_
      rintro e w10 ⟨n10_1, rfl, o9, b9⟩
      obtain ⟨p10_1, q10_1, f10_1⟩ := o9.shape
      subst f10_1
      have O10 := hide o9
      clear o9
      replace O3 := hide (O3.out.below b9)
      replace O4 := hide (O4.out.below b9)
      replace O5 := hide (O5.out.below b9)
      replace O6 := hide (O6.out.below b9)
      replace O7 := hide (O7.out.below b9)
      replace O8 := hide (O8.out.below b9)
      have z10 := b9.size
      replace HB := hide (HB.out.trans (b9.mono HB.out.size))
      clear b9
      go_wp2_with fail
      refine (eqSmps _ _ _ a (O6.out.rd (Nat.le_refl _)) (O10.out.rd (Nat.le_refl _)) HGa.out).mono ?_
      rintro e w11 ⟨rfl, b9⟩
      replace O3 := hide (O3.out.below b9)
      replace O4 := hide (O4.out.below b9)
      replace O5 := hide (O5.out.below b9)
      replace O6 := hide (O6.out.below b9)
      replace O7 := hide (O7.out.below b9)
      replace O8 := hide (O8.out.below b9)
      replace O10 := hide (O10.out.below b9)
      have z11 := b9.size
      replace HB := hide (HB.out.trans (b9.mono HB.out.size))
      clear b9
      go_wp2_with fail
      refine (toSmps _ _ b (Pb1.out.at HB.out) HGb.out).mono ?_
      rintro e w12 ⟨n12_1, rfl, o9, b9⟩
      obtain ⟨p12_1, q12_1, f12_1⟩ := o9.shape
      subst f12_1
      have O12 := hide o9
      clear o9
      replace O3 := hide (O3.out.below b9)
      replace O4 := hide (O4.out.below b9)
      replace O5 := hide (O5.out.below b9)
      replace O6 := hide (O6.out.below b9)
      replace O7 := hide (O7.out.below b9)
      replace O8 := hide (O8.out.below b9)
      replace O10 := hide (O10.out.below b9)
      have z12 := b9.size
      replace HB := hide (HB.out.trans (b9.mono HB.out.size))
      clear b9
      go_wp2_with fail
      refine (eqSmps _ _ _ b (O7.out.rd (Nat.le_refl _)) (O12.out.rd (Nat.le_refl _)) HGb.out).mono ?_
      rintro e w13 ⟨rfl, b9⟩
      replace O3 := hide (O3.out.below b9)
      replace O4 := hide (O4.out.below b9)
      replace O5 := hide (O5.out.below b9)
      replace O6 := hide (O6.out.below b9)
      replace O7 := hide (O7.out.below b9)
      replace O8 := hide (O8.out.below b9)
      replace O10 := hide (O10.out.below b9)
      replace O12 := hide (O12.out.below b9)
      have z13 := b9.size
      replace HB := hide (HB.out.trans (b9.mono HB.out.size))
      clear b9
      go_wp2_with fail
      have hct14 := cntSmps_le a
      refine (mkSmpsI _ (w5.heap.size) (w6.heap.size) 1 _ (by first | rfl | omega) _ a O6.out (by omega) (by omega)).mono ?_
      rintro e w14 ⟨rfl, o9, c9⟩
      replace O6 := hide o9
      clear o9
      replace O3 := hide (O3.out.apart c9 (by omega))
      replace O4 := hide (O4.out.apart c9 (by omega))
      replace O5 := hide (O5.out.apart c9 (by omega))
      replace O7 := hide (O7.out.apart c9 (by omega))
      replace O8 := hide (O8.out.apart c9 (by omega))
      replace O10 := hide (O10.out.apart c9 (by omega))
      replace O12 := hide (O12.out.apart c9 (by omega))
      have z14 := c9.size
      replace HB := hide (HB.out.trans (c9.below (by omega) HB.out.size))
      clear c9
      obtain ⟨K14, hk14⟩ : ∃ k, 1 + cntSmps a = k := ⟨_, rfl⟩
      rw [hk14]
      have hkp14 : 0 < K14 := by omega
      have hkb14 : K14 ≤ 8388608 + 1 := by omega
      have hkn14 : ¬ ((K14 : Nat) : Int) < 0 := by omega
      clear hk14 hct14
      clear O6
      go_wp2_with fail
      have hct15 := cntSmps_le b
      refine (mkSmpsI _ (w6.heap.size) (w7.heap.size) K14 _ (by first | rfl | omega) _ b O7.out (by omega) (by omega)).mono ?_
      rintro e w15 ⟨rfl, o9, c9⟩
      replace O7 := hide o9
      clear o9
      replace O3 := hide (O3.out.apart c9 (by omega))
      replace O4 := hide (O4.out.apart c9 (by omega))
      replace O5 := hide (O5.out.apart c9 (by omega))
      replace O8 := hide (O8.out.apart c9 (by omega))
      replace O10 := hide (O10.out.apart c9 (by omega))
      replace O12 := hide (O12.out.apart c9 (by omega))
      have z15 := c9.size
      replace HB := hide (HB.out.trans (c9.below (by omega) HB.out.size))
      clear c9
      obtain ⟨K15, hk15⟩ : ∃ k, K14 + cntSmps b = k := ⟨_, rfl⟩
      rw [hk15]
      have hkp15 : 0 < K15 := by omega
      have hkb15 : K15 ≤ 8388608 + K14 := by omega
      have hkn15 : ¬ ((K15 : Nat) : Int) < 0 := by omega
      clear hk15 hct15
      clear O7
      go_wp2_with fail
      refine (eqSmps _ _ _ V0 (O8.out.rd (Nat.le_refl _)) (O5.out.rd (Nat.le_refl _)) HGV0.out).mono ?_
      rintro e w16 ⟨rfl, b9⟩
      replace O3 := hide (O3.out.below b9)
      replace O4 := hide (O4.out.below b9)
      replace O5 := hide (O5.out.below b9)
      replace O8 := hide (O8.out.below b9)
      replace O10 := hide (O10.out.below b9)
      replace O12 := hide (O12.out.below b9)
      have z16 := b9.size
      replace HB := hide (HB.out.trans (b9.mono HB.out.size))
      clear b9
      go_wp2_with fail
      refine (mkSmpsI _ (w7.heap.size) (w8.heap.size) 1 _ (by first | rfl | omega) _ V0 O8.out (by omega) (by omega)).mono ?_
      rintro e w17 ⟨rfl, o9, c9⟩
      replace O8 := hide o9
      clear o9
      replace O3 := hide (O3.out.apart c9 (by omega))
      replace O4 := hide (O4.out.apart c9 (by omega))
      replace O5 := hide (O5.out.apart c9 (by omega))
      replace O10 := hide (O10.out.apart c9 (by omega))
      replace O12 := hide (O12.out.apart c9 (by omega))
      have z17 := c9.size
      replace HB := hide (HB.out.trans (c9.below (by omega) HB.out.size))
      clear c9
      obtain ⟨K17, hk17⟩ : ∃ k, 1 + cntSmps V0 = k := ⟨_, rfl⟩
      rw [hk17]
      have hkp17 : 0 < K17 := by omega
      have hkb17 : K17 ≤ 90000000 + 1 := by omega
      have hkn17 : ¬ ((K17 : Nat) : Int) < 0 := by omega
      have HMV0 := hide hk17
      have hmmV0 : (((K17 : Nat) : Int) != ((K17 : Nat) : Int)) = false := by simp
      clear hk17
      go_wp2_with fail
      refine (heldSmpsR _ 1 _ (by first | rfl | omega) _ V0 (O8.out.rd (Nat.le_refl _)) (by omega) (by omega)).mono ?_
      rintro e w18 ⟨rfl, b9⟩
      rw [HMV0.out]
      replace O3 := hide (O3.out.below b9)
      replace O4 := hide (O4.out.below b9)
      replace O5 := hide (O5.out.below b9)
      replace O8 := hide (O8.out.below b9)
      replace O10 := hide (O10.out.below b9)
      replace O12 := hide (O12.out.below b9)
      have z18 := b9.size
      replace HB := hide (HB.out.trans (b9.mono HB.out.size))
      clear b9
      go_wp2_with fail
      refine (toSmps _ _ a (Pa1.out.at HB.out) HGa.out).mono ?_
      rintro e w19 ⟨n19_1, rfl, o9, b9⟩
      obtain ⟨p19_1, q19_1, f19_1⟩ := o9.shape
      subst f19_1
      have O19 := hide o9
      clear o9
      replace O3 := hide (O3.out.below b9)
      replace O4 := hide (O4.out.below b9)
      replace O5 := hide (O5.out.below b9)
      replace O8 := hide (O8.out.below b9)
      replace O10 := hide (O10.out.below b9)
      replace O12 := hide (O12.out.below b9)
      have z19 := b9.size
      replace HB := hide (HB.out.trans (b9.mono HB.out.size))
      clear b9
      go_wp2_with fail
      refine (toSmps _ _ b (Pb1.out.at HB.out) HGb.out).mono ?_
      rintro e w20 ⟨n20_1, rfl, o9, b9⟩
      obtain ⟨p20_1, q20_1, f20_1⟩ := o9.shape
      subst f20_1
      have O20 := hide o9
      clear o9
      replace O3 := hide (O3.out.below b9)
      replace O4 := hide (O4.out.below b9)
      replace O5 := hide (O5.out.below b9)
      replace O8 := hide (O8.out.below b9)
      replace O10 := hide (O10.out.below b9)
      replace O12 := hide (O12.out.below b9)
      replace O19 := hide (O19.out.below b9)
      have z20 := b9.size
      replace HB := hide (HB.out.trans (b9.mono HB.out.size))
      clear b9
      go_wp2_with fail
      refine (join2I _ a b _ _ (O19.out.rd (Nat.le_refl _)) (O20.out.rd (Nat.le_refl _)) (by have e1 : smpsW a = a.length := rfl; have e2 : smpsW b = b.length := rfl; omega) HGa.out.1 HGb.out.1).mono ?_
      rintro e w21 ⟨n21_1, rfl, o9, b9⟩
      rw [HV0.out] at o9
      obtain ⟨p21_1, q21_1, f21_1⟩ := o9.shape
      subst f21_1
      have O21 := hide o9
      clear o9
      replace O3 := hide (O3.out.below b9)
      replace O4 := hide (O4.out.below b9)
      replace O5 := hide (O5.out.below b9)
      replace O8 := hide (O8.out.below b9)
      replace O10 := hide (O10.out.below b9)
      replace O12 := hide (O12.out.below b9)
      replace O19 := hide (O19.out.below b9)
      replace O20 := hide (O20.out.below b9)
      have z21 := b9.size
      replace HB := hide (HB.out.trans (b9.mono HB.out.size))
      clear b9
      go_wp2_with fail
      refine (eqSmps _ _ _ V0 (O21.out.rd (Nat.le_refl _)) (O5.out.rd (Nat.le_refl _)) HGV0.out).mono ?_
      rintro e w22 ⟨rfl, b9⟩
      replace O3 := hide (O3.out.below b9)
      replace O4 := hide (O4.out.below b9)
      replace O5 := hide (O5.out.below b9)
      replace O8 := hide (O8.out.below b9)
      replace O10 := hide (O10.out.below b9)
      replace O12 := hide (O12.out.below b9)
      replace O19 := hide (O19.out.below b9)
      replace O20 := hide (O20.out.below b9)
      replace O21 := hide (O21.out.below b9)
      have z22 := b9.size
      replace HB := hide (HB.out.trans (b9.mono HB.out.size))
      clear b9
      go_wp2_with fail
      refine (heldSmpsR _ 1 _ (by first | rfl | omega) _ V0 (O8.out.rd (Nat.le_refl _)) (by omega) (by omega)).mono ?_
      rintro e w23 ⟨rfl, b9⟩
      rw [HMV0.out]
      replace O3 := hide (O3.out.below b9)
      replace O4 := hide (O4.out.below b9)
      replace O5 := hide (O5.out.below b9)
      replace O8 := hide (O8.out.below b9)
      replace O10 := hide (O10.out.below b9)
      replace O12 := hide (O12.out.below b9)
      replace O19 := hide (O19.out.below b9)
      replace O20 := hide (O20.out.below b9)
      replace O21 := hide (O21.out.below b9)
      have z23 := b9.size
      replace HB := hide (HB.out.trans (b9.mono HB.out.size))
      clear b9
      go_wp2
      go_ret
      exact ⟨rfl, HB.out⟩

set_option maxRecDepth 100000 in
theorem lifted (os : Os) (started : os.Started) (H : Type) (enc : TypeId × Value → H) :
    ReturnsInHanded {} Try.checked os 5 .any (Rows.fnExactJoin2Spec.pre6 enc Try.prog Try.f5 Rows.fnExactJoin2Row.domain false) (Rows.fnExactJoin2Spec.post enc Try.prog Try.f5 false true false false) := by
  refine returnsInHanded_of_change (C := Try.checked) own started (by kernel_rfl) Try.func5
    (ChangeSpec.witness6 (enc := enc) (C := Try.checked) false ⟨#[], #[.slice none 0 0, .slice none 0 0], []⟩ 8 (by kernel_rfl) (by kernel_rfl) (by kernel_rfl) (by kernel_rfl)) ?_
  intro W base args ds gs before hval0 hW hcnd _
  have hval : ∀ (j : Nat) t v, Try.f5.params[j]? = some t → args[j]? = some v → Value.okWide Try.prog W .any base t v := hval0
  have hW' := hW
  obtain ⟨p, q, hA0, hV, rfl, hfz, hnd⟩ := hW
  have hA : DataW.TrodAll enc Try.prog W 0 (fun _ => true) true Try.f5.params.toList args.toList ds p := hA0
  rw [Try.params5] at hA hval
  obtain ⟨v0, vs0, d0, ds0, p0, q0, hargs, rfl, rfl, h0, r0⟩ := trodAll_cons hA
  obtain ⟨v1, vs1, d1, ds1, p1, q1, rfl, rfl, rfl, h1, r1⟩ := trodAll_cons r0
  obtain ⟨rfl, rfl, rfl⟩ := trodAll_nil r1
  obtain rfl : args = #[v0, v1] := by cases args; simp_all
  obtain ⟨rfl, rfl⟩ := trodVars_none hV
  have k0 := h0
  have lt0 : ∀ x ∈ p0, x.block < W.heap.size := by obtain ⟨m, hm⟩ := k0; exact DataW.trod_lt m _ _ _ hm
  have w0 := openSmps (hval 0 35 v0 rfl rfl) h0
  have k1 := h1
  have lt1 : ∀ x ∈ p1, x.block < W.heap.size := by obtain ⟨m, hm⟩ := k1; exact DataW.trod_lt m _ _ _ hm
  have w1 := openSmps (hval 1 35 v1 rfl rfl) h1
  clear hA0 hval0
  refine (walk v0 v1 W w0 w1).mono fun e W' ⟨he, bel⟩ => ?_
  subst he
  exact ⟨_, rfl, _, _, _, [], _, [], hW', trodAll_mk1 (shut_bool Try.underlying4 _), (trodAll_cons_mk (Below.trod laidOut (by kernel_rfl) (of_decide_eq_true (by kernel_rfl)) k0 bel lt0) (trodAll_cons_mk (Below.trod laidOut (by kernel_rfl) (of_decide_eq_true (by kernel_rfl)) k1 bel lt1) trodAll_mk0)), rfl, bel.frame _, fun h => by cases h⟩

theorem over : Rows.fnExactJoin2Row.holds Try.pinned (OpenSpec.ofChange Rows.fnExactJoin2Spec) :=
  OpenClaim.holds_of_wide 5 Try.f5 rfl rfl rfl rfl rfl rfl rfl ⟨rfl, rfl, rfl, rfl, rfl⟩ rfl rfl rfl rfl rfl (by kernel_rfl) Try.func5 (by kernel_rfl)
    (of_decide_eq_true (by kernel_rfl)) (by unfold Func.isWrapper; first | (rw [if_pos (by decide +kernel)]; kernel_rfl) | (rw [if_neg (by decide +kernel)]; exact ⟨rfl, rfl⟩))
    (fun os started H enc _ => lifted os started H enc)

end Go.Proofs.Ytebilohcdpecoab.fnExactJoin2
namespace Go.Proofs.Ytebilohcdpecoab
theorem fnExactJoin2_holds : Rows.FnExactJoin2Said := fnExactJoin2.over
#print axioms fnExactJoin2_holds
end Go.Proofs.Ytebilohcdpecoab
