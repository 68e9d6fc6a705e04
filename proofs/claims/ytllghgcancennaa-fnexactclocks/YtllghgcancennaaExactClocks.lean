/-
  Proved: at every argument the program's Clocks answers as its model does, writes into no argument, and its answer owns its memory (the law FnExactClocks returns true), without any condition.
-/
import Derived.Test.YtllghgcancennaaRows
import Derived.Test.YtllghgcancennaaClcT
import Derived.Test.YtllghgcancennaaClcI
import Derived.Test.YtllghgcancennaaClcL
import Derived.Test.YtllghgcancennaaStepW
import Derived.Deep.CutRange
import Derived.Deep.RegionWith
import Derived.Deep.RegionHeld
import Derived.BigRegion
import Derived.WalkKit
import Derived.ProofKit
import Derived.OpenShut
import Derived.ShutString
import Derived.ChangeOld
import Derived.Below
namespace Go.Proofs.Ytllghgcancennaa.fnExactClocks
open Go.ChangeShapes Go.WideShapes Go.ChangeAt Go.RowKit
open Go.ChangeMaps (open_string shut_string)
set_option linter.unusedVariables false

theorem own : ownKnob Try.prog.godebug = none := by kernel_rfl
theorem laidOut : laidOutB Try.prog = true := by kernel_rfl
set_option maxRecDepth 100000 in
set_option maxHeartbeats 8000000 in
theorem walk (v0 : Value) (w : World) (h0 : IsEvts w v0) :
    Calls Try.prog 4 #[v0] w fun e w' => e = .returned (.bool true) ∧ Below w.heap.size w w' := by
  obtain ⟨x, gx1, rx⟩ := h0
  obtain ⟨ax1, cx1, ex1, _⟩ := gx1.shape
  subst ex1
  have Px1 := hide gx1
  have Rx := hide rx
  clear rx gx1
  have HB := hide (Below.refl w.heap.size w)
  obtain ⟨V0, hV0⟩ : ∃ V, clocksX x = V := ⟨_, rfl⟩
  have HV0 := hide hV0
  clear hV0
  go_enter Try.func4, Try.ntmps4
  go_wp2_with fail
  refine (szEvts _ _ x _ (Px1.out.at HB.out) (by omega) (by omega) Rx.out).mono ?_
  rintro e w1 ⟨rfl, b9⟩
  have z1 := b9.size
  replace HB := hide (HB.out.trans (b9.mono HB.out.size))
  clear b9
  by_cases hmx : (1048576 : Int) < (evtsW x : Int)
  · rw [szR_neg hmx]
    go_wp2
    go_ret
    exact ⟨rfl, HB.out⟩
  · skip
    rw [szR_pos hmx]
    have hwx : evtsW x ≤ 1048576 := by omega
    have HGx := hide (evtsG_of Rx.out (by omega))
    have hnx : ¬ (1048576 : Int) - (evtsW x : Int) < 0 := by omega
    have hqx : (1048576 : Int) - (evtsW x : Int) ≤ 1048576 := by omega
    have hTx : (1048576 : Int) - (evtsW x : Int) + ((evtsW x : Int) : Int) ≤ 1048576 := by omega
    generalize (1048576 : Int) - (evtsW x : Int) = mx at *
    clear hmx
    have HGV0 := hide (HV0.out ▸ clocksX_ok x)
    have hcV0 : cntRws V0 ≤ 90000000 := by
      have h1 := clocksX_cnt x
      rw [HV0.out] at h1
      omega
    have hlV0 : V0.length ≤ 1048576 := HGV0.out.1
    go_wp2_with fail
    refine (toEvts _ _ x (Px1.out.at HB.out) HGx.out).mono ?_
    rintro e w2 ⟨n2_1, rfl, o9, b9⟩
    obtain ⟨p2_1, q2_1, f2_1⟩ := o9.shape
    subst f2_1
    have O2 := hide o9
    clear o9
    have z2 := b9.size
    replace HB := hide (HB.out.trans (b9.mono HB.out.size))
    clear b9
    go_wp2_with fail
    refine (clocksS _ x _ (O2.out.rd (Nat.le_refl _)) HGx.out.1).mono ?_
    rintro e w3 ⟨n3_1, rfl, o9, b9⟩
    rw [HV0.out] at o9
    obtain ⟨p3_1, q3_1, f3_1⟩ := o9.shape
    subst f3_1
    have O3 := hide o9
    clear o9
    replace O2 := hide (O2.out.below b9)
    have z3 := b9.size
    replace HB := hide (HB.out.trans (b9.mono HB.out.size))
    clear b9
    go_wp2_with fail
    refine (toEvts _ _ x (Px1.out.at HB.out) HGx.out).mono ?_
    rintro e w4 ⟨n4_1, rfl, o9, b9⟩
    obtain ⟨p4_1, q4_1, f4_1⟩ := o9.shape
    subst f4_1
    have O4 := hide o9
    clear o9
    replace O2 := hide (O2.out.below b9)
    replace O3 := hide (O3.out.below b9)
    have z4 := b9.size
    replace HB := hide (HB.out.trans (b9.mono HB.out.size))
    clear b9
    go_wp2_with fail
    refine (clocksI _ x _ (O4.out.rd (Nat.le_refl _)) HGx.out.1).mono ?_
    rintro e w5 ⟨n5_1, rfl, o9, b9⟩
    rw [HV0.out] at o9
    obtain ⟨p5_1, q5_1, f5_1⟩ := o9.shape
    subst f5_1
    have O5 := hide o9
    clear o9
    replace O2 := hide (O2.out.below b9)
    replace O3 := hide (O3.out.below b9)
    replace O4 := hide (O4.out.below b9)
    have z5 := b9.size
    replace HB := hide (HB.out.trans (b9.mono HB.out.size))
    clear b9
    go_wp2_with fail
    refine (eqRws _ _ _ V0 (O5.out.rd (Nat.le_refl _)) (O3.out.rd (Nat.le_refl _)) HGV0.out).mono ?_
    rintro e w6 ⟨rfl, b9⟩
    replace O2 := hide (O2.out.below b9)
    replace O3 := hide (O3.out.below b9)
    replace O4 := hide (O4.out.below b9)
    replace O5 := hide (O5.out.below b9)
    have z6 := b9.size
    replace HB := hide (HB.out.trans (b9.mono HB.out.size))
    clear b9
    go_wp2_with fail
    refine (toEvts _ _ x (Px1.out.at HB.out) HGx.out).mono ?_
    rintro e w7 ⟨n7_1, rfl, o9, b9⟩
    obtain ⟨p7_1, q7_1, f7_1⟩ := o9.shape
    subst f7_1
    have O7 := hide o9
    clear o9
    replace O2 := hide (O2.out.below b9)
    replace O3 := hide (O3.out.below b9)
    replace O4 := hide (O4.out.below b9)
    replace O5 := hide (O5.out.below b9)
    have z7 := b9.size
    replace HB := hide (HB.out.trans (b9.mono HB.out.size))
    clear b9
    go_wp2_with fail
    refine (eqEvts _ _ _ x (O4.out.rd (Nat.le_refl _)) (O7.out.rd (Nat.le_refl _)) HGx.out).mono ?_
    rintro e w8 ⟨rfl, b9⟩
    replace O2 := hide (O2.out.below b9)
    replace O3 := hide (O3.out.below b9)
    replace O4 := hide (O4.out.below b9)
    replace O5 := hide (O5.out.below b9)
    replace O7 := hide (O7.out.below b9)
    have z8 := b9.size
    replace HB := hide (HB.out.trans (b9.mono HB.out.size))
    clear b9
    go_wp2_with fail
    have hct9 := cntEvts_le x
    refine (mkEvtsI _ (w3.heap.size) (w4.heap.size) 1 _ (by first | rfl | omega) _ x O4.out (by omega) (by omega)).mono ?_
    rintro e w9 ⟨rfl, o9, c9⟩
    replace O4 := hide o9
    clear o9
    replace O2 := hide (O2.out.apart c9 (by omega))
    replace O3 := hide (O3.out.apart c9 (by omega))
    replace O5 := hide (O5.out.apart c9 (by omega))
    replace O7 := hide (O7.out.apart c9 (by omega))
    have z9 := c9.size
    replace HB := hide (HB.out.trans (c9.below (by omega) HB.out.size))
    clear c9
    obtain ⟨K9, hk9⟩ : ∃ k, 1 + cntEvts x = k := ⟨_, rfl⟩
    rw [hk9]
    have hkp9 : 0 < K9 := by omega
    have hkb9 : K9 ≤ 8388608 + 1 := by omega
    have hkn9 : ¬ ((K9 : Nat) : Int) < 0 := by omega
    clear hk9 hct9
    clear O4
    go_wp2_with fail
    refine (eqRws _ _ _ V0 (O5.out.rd (Nat.le_refl _)) (O3.out.rd (Nat.le_refl _)) HGV0.out).mono ?_
    rintro e w10 ⟨rfl, b9⟩
    replace O2 := hide (O2.out.below b9)
    replace O3 := hide (O3.out.below b9)
    replace O5 := hide (O5.out.below b9)
    replace O7 := hide (O7.out.below b9)
    have z10 := b9.size
    replace HB := hide (HB.out.trans (b9.mono HB.out.size))
    clear b9
    go_wp2_with fail
    refine (mkRwsI _ (w4.heap.size) (w5.heap.size) 1 _ (by first | rfl | omega) _ V0 O5.out (by omega) (by omega)).mono ?_
    rintro e w11 ⟨rfl, o9, c9⟩
    replace O5 := hide o9
    clear o9
    replace O2 := hide (O2.out.apart c9 (by omega))
    replace O3 := hide (O3.out.apart c9 (by omega))
    replace O7 := hide (O7.out.apart c9 (by omega))
    have z11 := c9.size
    replace HB := hide (HB.out.trans (c9.below (by omega) HB.out.size))
    clear c9
    obtain ⟨K11, hk11⟩ : ∃ k, 1 + cntRws V0 = k := ⟨_, rfl⟩
    rw [hk11]
    have hkp11 : 0 < K11 := by omega
    have hkb11 : K11 ≤ 90000000 + 1 := by omega
    have hkn11 : ¬ ((K11 : Nat) : Int) < 0 := by omega
    have HMV0 := hide hk11
    have hmmV0 : (((K11 : Nat) : Int) != ((K11 : Nat) : Int)) = false := by simp
    clear hk11
    go_wp2_with fail
    refine (heldRwsR _ 1 _ (by first | rfl | omega) _ V0 (O5.out.rd (Nat.le_refl _)) (by omega) (by omega)).mono ?_
    rintro e w12 ⟨rfl, b9⟩
    rw [HMV0.out]
    replace O2 := hide (O2.out.below b9)
    replace O3 := hide (O3.out.below b9)
    replace O5 := hide (O5.out.below b9)
    replace O7 := hide (O7.out.below b9)
    have z12 := b9.size
    replace HB := hide (HB.out.trans (b9.mono HB.out.size))
    clear b9
    go_wp2_with fail
    refine (toEvts _ _ x (Px1.out.at HB.out) HGx.out).mono ?_
    rintro e w13 ⟨n13_1, rfl, o9, b9⟩
    obtain ⟨p13_1, q13_1, f13_1⟩ := o9.shape
    subst f13_1
    have O13 := hide o9
    clear o9
    replace O2 := hide (O2.out.below b9)
    replace O3 := hide (O3.out.below b9)
    replace O5 := hide (O5.out.below b9)
    replace O7 := hide (O7.out.below b9)
    have z13 := b9.size
    replace HB := hide (HB.out.trans (b9.mono HB.out.size))
    clear b9
    go_wp2_with fail
    refine (clocksI _ x _ (O13.out.rd (Nat.le_refl _)) HGx.out.1).mono ?_
    rintro e w14 ⟨n14_1, rfl, o9, b9⟩
    rw [HV0.out] at o9
    obtain ⟨p14_1, q14_1, f14_1⟩ := o9.shape
    subst f14_1
    have O14 := hide o9
    clear o9
    replace O2 := hide (O2.out.below b9)
    replace O3 := hide (O3.out.below b9)
    replace O5 := hide (O5.out.below b9)
    replace O7 := hide (O7.out.below b9)
    replace O13 := hide (O13.out.below b9)
    have z14 := b9.size
    replace HB := hide (HB.out.trans (b9.mono HB.out.size))
    clear b9
    go_wp2_with fail
    refine (eqRws _ _ _ V0 (O14.out.rd (Nat.le_refl _)) (O3.out.rd (Nat.le_refl _)) HGV0.out).mono ?_
    rintro e w15 ⟨rfl, b9⟩
    replace O2 := hide (O2.out.below b9)
    replace O3 := hide (O3.out.below b9)
    replace O5 := hide (O5.out.below b9)
    replace O7 := hide (O7.out.below b9)
    replace O13 := hide (O13.out.below b9)
    replace O14 := hide (O14.out.below b9)
    have z15 := b9.size
    replace HB := hide (HB.out.trans (b9.mono HB.out.size))
    clear b9
    go_wp2_with fail
    refine (heldRwsR _ 1 _ (by first | rfl | omega) _ V0 (O5.out.rd (Nat.le_refl _)) (by omega) (by omega)).mono ?_
    rintro e w16 ⟨rfl, b9⟩
    rw [HMV0.out]
    replace O2 := hide (O2.out.below b9)
    replace O3 := hide (O3.out.below b9)
    replace O5 := hide (O5.out.below b9)
    replace O7 := hide (O7.out.below b9)
    replace O13 := hide (O13.out.below b9)
    replace O14 := hide (O14.out.below b9)
    have z16 := b9.size
    replace HB := hide (HB.out.trans (b9.mono HB.out.size))
    clear b9
    go_wp2
    go_ret
    exact ⟨rfl, HB.out⟩

set_option maxRecDepth 100000 in
theorem lifted (os : Os) (started : os.Started) (H : Type) (enc : TypeId × Value → H) :
    ReturnsInHanded {} Try.checked os 4 .any (Rows.fnExactClocksSpec.pre6 enc Try.prog Try.f4 Rows.fnExactClocksRow.domain false) (Rows.fnExactClocksSpec.post enc Try.prog Try.f4 false true false false) := by
  refine returnsInHanded_of_change (C := Try.checked) own started (by kernel_rfl) Try.func4
    (ChangeSpec.witness6 (enc := enc) (C := Try.checked) false ⟨#[], #[.slice none 0 0], []⟩ 8 (by kernel_rfl) (by kernel_rfl) (by kernel_rfl) (by kernel_rfl)) ?_
  intro W base args ds gs before hval0 hW hcnd _
  have hval : ∀ (j : Nat) t v, Try.f4.params[j]? = some t → args[j]? = some v → Value.okWide Try.prog W .any base t v := hval0
  have hW' := hW
  obtain ⟨p, q, hA0, hV, rfl, hfz, hnd⟩ := hW
  have hA : DataW.TrodAll enc Try.prog W 0 (fun _ => true) true Try.f4.params.toList args.toList ds p := hA0
  rw [Try.params4] at hA hval
  obtain ⟨v0, vs0, d0, ds0, p0, q0, hargs, rfl, rfl, h0, r0⟩ := trodAll_cons hA
  obtain ⟨rfl, rfl, rfl⟩ := trodAll_nil r0
  obtain rfl : args = #[v0] := by cases args; simp_all
  obtain ⟨rfl, rfl⟩ := trodVars_none hV
  have k0 := h0
  have lt0 : ∀ x ∈ p0, x.block < W.heap.size := by obtain ⟨m, hm⟩ := k0; exact DataW.trod_lt m _ _ _ hm
  have w0 := openEvts (hval 0 22 v0 rfl rfl) h0
  clear hA0 hval0
  refine (walk v0 W w0).mono fun e W' ⟨he, bel⟩ => ?_
  subst he
  exact ⟨_, rfl, _, _, _, [], _, [], hW', trodAll_mk1 (shut_bool Try.underlying4 _), (trodAll_cons_mk (Below.trod laidOut (by kernel_rfl) (of_decide_eq_true (by kernel_rfl)) k0 bel lt0) trodAll_mk0), rfl, bel.frame _, fun h => by cases h⟩

theorem over : Rows.fnExactClocksRow.holds Try.pinned (OpenSpec.ofChange Rows.fnExactClocksSpec) :=
  OpenClaim.holds_of_wide 4 Try.f4 rfl rfl rfl rfl rfl rfl rfl ⟨rfl, rfl, rfl, rfl, rfl⟩ rfl rfl rfl rfl rfl (by kernel_rfl) Try.func4 (by kernel_rfl)
    (of_decide_eq_true (by kernel_rfl)) (by unfold Func.isWrapper; first | (rw [if_pos (by decide +kernel)]; kernel_rfl) | (rw [if_neg (by decide +kernel)]; exact ⟨rfl, rfl⟩))
    (fun os started H enc _ => lifted os started H enc)

end Go.Proofs.Ytllghgcancennaa.fnExactClocks
namespace Go.Proofs.Ytllghgcancennaa
theorem fnExactClocks_holds : Rows.FnExactClocksSaid := fnExactClocks.over
#print axioms fnExactClocks_holds
end Go.Proofs.Ytllghgcancennaa
