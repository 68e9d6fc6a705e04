/-
  Proved: at every program and every argument the program's Sub answers as its model does and writes into no argument (the law FnExactSub returns true), without any condition.
-/
import Derived.Test.YtlkjackakcdmbaaRows
import Derived.Test.YtlkjackakcdmbaaPrgLaw
import Derived.Test.YtlkjackakcdmbaaPrgH
import Derived.Deep.CutRange
import Derived.Deep.RegionWith
import Derived.BigRegion
import Derived.WalkKit
import Derived.ProofKit
import Derived.OpenShut
import Derived.ShutString
import Derived.ChangeOld
import Derived.Below
namespace Go.Proofs.Ytlkjackakcdmbaa.fnExactSub
open Go.ChangeShapes Go.WideShapes Go.ChangeAt Go.RowKit
open Go.ChangeMaps (open_string shut_string)
set_option linter.unusedVariables false

theorem own : ownKnob Try.prog.godebug = none := by kernel_rfl
theorem laidOut : laidOutB Try.prog = true := by kernel_rfl
set_option maxRecDepth 100000 in
set_option maxHeartbeats 4000000 in
theorem walk (v0 : Value) (a : Int) (b : Int) (w : World) (h0 : IsPg w v0) (_ha : -9223372036854775808 ≤ a ∧ a ≤ 9223372036854775807) (_hb : -9223372036854775808 ≤ b ∧ b ≤ 9223372036854775807) :
    Calls Try.prog 6 #[v0, .int .i64 a, .int .i64 b] w fun e w' => e = .returned (.bool true) ∧ Below w.heap.size w w' := by
  obtain ⟨x, u1, rfl, hk, hr⟩ := h0
  obtain ⟨a1, c1, e1, _⟩ := hk.shape
  subst e1
  have bA := (Below.refl w.heap.size w).alloc (Nat.le_refl _) (.cells #[.slice a1 x.k.length c1] 24)
  have HX := hide (Box.new w #[.slice a1 x.k.length c1] 24)
  have hgs : Hid (w.heap.size < (w.alloc (.cells #[.slice a1 x.k.length c1] 24)).heap.size) := hide (by simp)
  have HP := hide (hk.at bA)
  have HB := hide bA
  have HR := hide hr
  obtain ⟨V, hV⟩ : ∃ V, subX x.k a b = V := ⟨_, rfl⟩
  have HV := hide hV
  have hne : (V != V) = false := by simp
  clear hk bA hr hV
  unfold pgV
  go_enter Try.func6, Try.ntmps6
  go_wp2_with fail
  generalize w.alloc (.cells #[.slice a1 x.k.length c1] 24) = W at *
  refine (szPg _ x _ _ HP.out (by omega) (by omega) HR.out).mono ?_
  rintro e w1 ⟨rfl, b1⟩
  replace HX := hide (HX.out.below hgs.out b1)
  replace hgs := hide (Nat.lt_of_lt_of_le hgs.out b1.size)
  replace HP := hide (HP.out.at b1)
  replace HB := hide (HB.out.trans (b1.mono HB.out.size))
  clear b1
  by_cases hm : (1048576 : Int) < (pgW x : Int)
  · rw [szR_neg hm]
    go_wp2
    go_ret
    exact ⟨rfl, HB.out⟩
  · rw [szR_pos hm]
    have HG := hide (pgG_of HR.out (by omega))
    have hm' : ¬ (1048576 : Int) - (pgW x : Int) < 0 := by omega
    generalize (1048576 : Int) - (pgW x : Int) = m at *
    clear HR hm
    have q0 := HX.out 0 _ rfl
    go_wp2_with fail
    clear q0
    refine (toPg _ x _ HP.out HG.out).mono ?_
    rintro e w2 ⟨u1, rfl, o2, b2⟩
    have HO := hide (pgD_own o2)
    replace HX := hide (HX.out.below hgs.out b2)
    replace hgs := hide (Nat.lt_of_lt_of_le hgs.out b2.size)
    replace HP := hide (HP.out.at b2)
    replace HB := hide (HB.out.trans (b2.mono HB.out.size))
    clear b2 o2
    go_wp2_with fail
    refine (subSpec _ x _ a b HO.out HG.out.k).mono ?_
    rintro e w3 ⟨rfl, b3⟩
    rw [HV.out]
    replace HX := hide (HX.out.below hgs.out b3)
    replace hgs := hide (Nat.lt_of_lt_of_le hgs.out b3.size)
    replace HP := hide (HP.out.at b3)
    replace HB := hide (HB.out.trans (b3.mono HB.out.size))
    clear b3 HO
    have q0 := HX.out 0 _ rfl
    go_wp2_with fail
    clear q0
    refine (toPg _ x _ HP.out HG.out).mono ?_
    rintro e w4 ⟨u1, rfl, o4, b4⟩
    have ho := pgD_own o4
    obtain ⟨p1, r1, e1, _⟩ := ho.shape
    subst e1
    have HO := hide ho
    replace HX := hide (HX.out.below hgs.out b4)
    replace hgs := hide (Nat.lt_of_lt_of_le hgs.out b4.size)
    replace HP := hide (HP.out.at b4)
    replace HB := hide (HB.out.trans (b4.mono HB.out.size))
    clear b4 o4 ho
    unfold pgV
    go_wp2_with fail
    have HY := hide (Box.new w4 #[.slice p1 x.k.length r1] 29)
    have bA := (Below.refl w4.heap.size w4).alloc (Nat.le_refl _) (.cells #[.slice p1 x.k.length r1] 29)
    have hs4 := HB.out.size
    refine (subImpl _ x _ a b (HO.out.at bA) HG.out.k).mono ?_
    rintro e w5 ⟨rfl, b5⟩
    rw [HV.out]
    replace HX := hide ((HX.out.below hgs.out bA).below (Nat.lt_of_lt_of_le hgs.out bA.size) b5)
    replace HY := hide (HY.out.below (by simp) b5)
    replace HO := hide ((HO.out.at bA).at b5)
    replace HP := hide ((HP.out.at bA).at b5)
    have hg5 : w.heap.size < w5.heap.size := Nat.lt_of_lt_of_le hgs.out (Nat.le_trans bA.size b5.size)
    have hg4 : w4.heap.size < w5.heap.size := Nat.lt_of_lt_of_le (by simp) b5.size
    replace HB := hide ((HB.out.trans (bA.mono hs4)).trans (b5.mono (Nat.le_trans hs4 bA.size)))
    clear b5 bA hgs
    have f0 := HX.out 0 _ rfl
    have g0 := HY.out 0 _ rfl
    go_wp2_with fail
    go_cut [34] from 30 to 34 (fun s wq => s = .bool false ∧ Below w.heap.size w wq)
    case first =>
      have HQ1 : Hid (Reads w5.drew w5.drew.heap.size _ _) := hide (HP.out.drewN 1)
      go_region_with (first
        | (go_at_call 9; refine (toPg _ x _ HQ1.out HG.out).mono ?_; rintro e w6 ⟨u1, rfl, o6, b6⟩; have HO6 := hide (pgD_own o6); have HY6 := hide (HY.out.below hg4 (below_of_drew b6)); have y0 := HY6.out 0 _ rfl; have HB6 := hide (HB.out.trans ((below_of_drew b6).mono HB.out.size)); have K1 := hide (HO.out.at (below_of_drew b6)); clear b6 o6)
        | (go_at_call 11; refine (eqPg _ x _ _ K1.out HO6.out HG.out).mono ?_; rintro e w7 ⟨rfl, b7⟩; have HB7 := hide (HB6.out.trans (b7.mono HB6.out.size)); clear b7))
      all_goals (go_wp2_with fail; go_meet; exact ⟨rfl, HB7.out⟩)
    case rest =>
      obtain ⟨rfl, hB⟩ := hcut
      have HZ := hide hB
      clear hB f0 g0
      go_wp2
      go_ret
      exact ⟨rfl, HZ.out⟩

set_option maxRecDepth 100000 in
theorem lifted (os : Os) (started : os.Started) (H : Type) (enc : TypeId × Value → H) :
    ReturnsInHanded {} Try.checked os 6 .any (Rows.fnExactSubSpec.pre6 enc Try.prog Try.f6 Rows.fnExactSubRow.domain false) (Rows.fnExactSubSpec.post enc Try.prog Try.f6 false true false false) := by
  refine returnsInHanded_of_change (C := Try.checked) own started (by kernel_rfl) Try.func6
    (ChangeSpec.witness6 (enc := enc) (C := Try.checked) false ⟨#[], #[.agg #[.slice none 0 0], .int .i64 0, .int .i64 0], []⟩ 8 (by kernel_rfl) (by kernel_rfl) (by kernel_rfl) (by kernel_rfl)) ?_
  intro W base args ds gs before hval0 hW hcnd _
  have hval : ∀ (j : Nat) t v, Try.f6.params[j]? = some t → args[j]? = some v → Value.okWide Try.prog W .any base t v := hval0
  have hW' := hW
  obtain ⟨p, q, hA0, hV, rfl, hfz, hnd⟩ := hW
  have hA : DataW.TrodAll enc Try.prog W 0 (fun _ => true) true Try.f6.params.toList args.toList ds p := hA0
  rw [Try.params6] at hA hval
  obtain ⟨v0, vs0, d0, ds0, p0, q0, hargs, rfl, rfl, h0, r0⟩ := trodAll_cons hA
  obtain ⟨v1, vs1, d1, ds1, p1, q1, rfl, rfl, rfl, h1, r1⟩ := trodAll_cons r0
  obtain ⟨v2, vs2, d2, ds2, p2, q2, rfl, rfl, rfl, h2, r2⟩ := trodAll_cons r1
  obtain ⟨rfl, rfl, rfl⟩ := trodAll_nil r2
  obtain rfl : args = #[v0, v1, v2] := by cases args; simp_all
  obtain ⟨rfl, rfl⟩ := trodVars_none hV
  have k0 := h0
  have lt0 : ∀ x ∈ p0, x.block < W.heap.size := by obtain ⟨m, hm⟩ := k0; exact DataW.trod_lt m _ _ _ hm
  have w0 := openPg (hval 0 24 v0 rfl rfl) h0
  obtain ⟨a1, rfl, rfl, rfl, w1⟩ := open_int Try.underlying3 (hval 1 3 v1 rfl rfl) h1
  obtain ⟨a2, rfl, rfl, rfl, w2⟩ := open_int Try.underlying3 (hval 2 3 v2 rfl rfl) h2
  clear hA0 hval0
  refine (walk v0 a1 a2 W w0 (bounds_i64 w1) (bounds_i64 w2)).mono fun e W' ⟨he, bel⟩ => ?_
  subst he
  exact ⟨_, rfl, _, _, _, [], _, [], hW', trodAll_mk1 (shut_bool Try.underlying4 _), (trodAll_cons_mk (Below.trod laidOut (by kernel_rfl) (of_decide_eq_true (by kernel_rfl)) k0 bel lt0) (trodAll_cons_mk (shut_int Try.underlying3 w1) (trodAll_cons_mk (shut_int Try.underlying3 w2) trodAll_mk0))), rfl, bel.frame _, fun h => by cases h⟩

theorem over : Rows.fnExactSubRow.holds Try.pinned (OpenSpec.ofChange Rows.fnExactSubSpec) :=
  OpenClaim.holds_of_wide 6 Try.f6 rfl rfl rfl rfl rfl rfl rfl ⟨rfl, rfl, rfl, rfl, rfl⟩ rfl rfl rfl rfl rfl (by kernel_rfl) Try.func6 (by kernel_rfl)
    (of_decide_eq_true (by kernel_rfl)) (by unfold Func.isWrapper; first | (rw [if_pos (by decide +kernel)]; kernel_rfl) | (rw [if_neg (by decide +kernel)]; exact ⟨rfl, rfl⟩))
    (fun os started H enc _ => lifted os started H enc)

end Go.Proofs.Ytlkjackakcdmbaa.fnExactSub
namespace Go.Proofs.Ytlkjackakcdmbaa
theorem fnExactSub_holds : Rows.FnExactSubSaid := fnExactSub.over
#print axioms fnExactSub_holds
end Go.Proofs.Ytlkjackakcdmbaa
