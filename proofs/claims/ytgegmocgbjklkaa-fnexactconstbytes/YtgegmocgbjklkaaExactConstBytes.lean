/-
  Proved: at every const the program's ConstBytes answers as its model does, in memory of its own (the law FnExactConstBytes returns true), without any condition.
-/
import Derived.Test.YtgegmocgbjklkaaRows
import Derived.Test.YtgegmocgbjklkaaConstLaw
import Derived.Test.YtgegmocgbjklkaaConstB
import Derived.Test.YtgegmocgbjklkaaEq
import Derived.WalkKit
import Derived.ProofKit
import Derived.OpenShut
import Derived.ShutString
import Derived.ChangeOld
import Derived.Below
namespace Go.Proofs.Ytgegmocgbjklkaa.fnExactConstBytes
open Go.ChangeShapes Go.WideShapes Go.ChangeAt Go.RowKit
open Go.ChangeMaps (open_string shut_string)
set_option linter.unusedVariables false

theorem own : ownKnob Try.prog.godebug = none := by kernel_rfl
theorem laidOut : laidOutB Try.prog = true := by kernel_rfl
set_option maxRecDepth 100000 in
set_option maxHeartbeats 2000000 in
theorem walk (v0 : Value) (w : World) (h0 : IsConst v0) :
    Calls Try.prog 4 #[v0] w fun e w' => e = .returned (.bool true) ∧ Below w.heap.size w w' := by
  obtain ⟨k, n, a, b, rfl, ha, hb⟩ := h0
  have HA := hide ha
  have HZ := hide hb
  clear ha hb
  have hbl := kB_len k n a b
  have HX := hide (Box.new w #[.int .i64 k, .int .i64 n, .string a, .string b] 23)
  have HB := hide ((Below.refl w.heap.size w).alloc (Nat.le_refl _) (.cells #[.int .i64 k, .int .i64 n, .string a, .string b] 23))
  have hgs : Hid (w.heap.size < (w.alloc (.cells #[.int .i64 k, .int .i64 n, .string a, .string b] 23)).heap.size) := hide (by simp)
  have q0 := HX.out 0 _ rfl
  have q1 := HX.out 1 _ rfl
  have q2 := HX.out 2 _ rfl
  have q3 := HX.out 3 _ rfl
  unfold constV
  go_enter Try.func4, Try.ntmps4
  go_wp2_with fail
  clear q0 q1 q2 q3
  generalize w.alloc (.cells #[.int .i64 k, .int .i64 n, .string a, .string b] 23) = W at *
  refine (szConst k n a b _ HA.out HZ.out).mono ?_
  rintro e w1 ⟨m, rfl, hm, b1⟩
  replace HX := hide (HX.out.below hgs.out b1)
  replace hgs := hide (Nat.lt_of_lt_of_le hgs.out b1.size)
  replace HB := hide (HB.out.trans (b1.mono HB.out.size))
  clear b1
  rcases hm with hm | ⟨hm, hsz⟩
  · go_wp2
    go_ret
    exact ⟨rfl, HB.out⟩
  · have hm' : ¬ m < 0 := by omega
    have q0 := HX.out 0 _ rfl
    have q1 := HX.out 1 _ rfl
    have q2 := HX.out 2 _ rfl
    have q3 := HX.out 3 _ rfl
    go_wp2_with fail
    clear q0 q1 q2 q3
    refine (toConst k n a b _).mono ?_
    rintro e w2 ⟨rfl, b2⟩
    replace HX := hide (HX.out.below hgs.out b2)
    replace hgs := hide (Nat.lt_of_lt_of_le hgs.out b2.size)
    replace HB := hide (HB.out.trans (b2.mono HB.out.size))
    clear b2
    unfold constV
    go_wp2_with fail
    refine (constBytesSpec k n a b _ HA.out HZ.out).mono ?_
    rintro e w3 ⟨vW, rfl, oW, b3⟩
    have HW := hide oW
    have LW := hide (fun q hq => (oW.lt q hq).2)
    replace HX := hide (HX.out.below hgs.out b3)
    replace hgs := hide (Nat.lt_of_lt_of_le hgs.out b3.size)
    replace HB := hide (HB.out.trans (b3.mono HB.out.size))
    clear b3 oW
    have q0 := HX.out 0 _ rfl
    have q1 := HX.out 1 _ rfl
    have q2 := HX.out 2 _ rfl
    have q3 := HX.out 3 _ rfl
    go_wp2_with fail
    clear q0 q1 q2 q3
    refine (toConst k n a b _).mono ?_
    rintro e w4 ⟨rfl, b4⟩
    replace LW := hide (fun q hq => Nat.lt_of_lt_of_le (LW.out q hq) b4.size)
    replace HX := hide (HX.out.below hgs.out b4)
    replace hgs := hide (Nat.lt_of_lt_of_le hgs.out b4.size)
    replace HB := hide (HB.out.trans (b4.mono HB.out.size))
    replace HW := hide (HW.out.below b4)
    clear b4
    unfold constV
    go_wp2_with fail
    refine (constBytesImpl k n a b _ HA.out HZ.out).mono ?_
    rintro e w5 ⟨vG, rfl, oG, b5⟩
    have HG := hide oG
    have LG := hide (fun q hq => (oG.lt q hq).1)
    replace HX := hide (HX.out.below hgs.out b5)
    have hg4 := hgs.out
    replace hgs := hide (Nat.lt_of_lt_of_le hgs.out b5.size)
    replace HB := hide (HB.out.trans (b5.mono HB.out.size))
    replace HW := hide (HW.out.below b5)
    clear b5 oG
    go_wp2_with fail
    refine (eqB _ _ _ _ _ _ HG.out HW.out (by omega)).mono ?_
    rintro e w6 ⟨rfl, q6, rfl⟩
    replace HX := hide (boxDrewN HX.out q6)
    have hg6 : w.heap.size < (w5.drewN q6).heap.size := hgs.out
    replace HB := hide (below_drewN HB.out q6)
    replace HW := hide (HW.out.drewN q6)
    replace HG := hide (HG.out.drewN q6)
    generalize w5.drewN q6 = w6 at *
    go_wp2_with fail
    refine (mark1 _ _ _ _ HG.out (by omega)).mono ?_
    rintro e w7 ⟨rfl, oG, g7⟩
    have hs6 := HB.out.size
    replace HX := hide (Box.apart HX.out hg6 g7 (fun e => by have := LG.out _ e; omega))
    have hg7 : Hid (w.heap.size < w7.heap.size) := hide (Nat.lt_of_lt_of_le hg6 g7.size)
    replace HB := hide (HB.out.grown g7 hs6 (fun q hq => by have := LG.out q hq; omega))
    replace HW := hide (ownKept HW.out g7 (fun q hq e => by have := LW.out q hq; have := LG.out q e; omega))
    replace HG := hide oG
    clear oG g7
    go_wp2_with fail
    refine (held1 _ _ _ _ HG.out (by omega)).mono ?_
    rintro e w8 ⟨rfl, rfl⟩
    have en : ((1 + (((kB k n a b).length : Nat) : Int)) != (1 + (((kB k n a b).length : Nat) : Int))) = false := by simp
    have q0 := HX.out 0 _ rfl
    have q1 := HX.out 1 _ rfl
    have q2 := HX.out 2 _ rfl
    have q3 := HX.out 3 _ rfl
    go_wp2_with fail
    clear q0 q1 q2 q3
    refine (toConst k n a b _).mono ?_
    rintro e w9 ⟨rfl, b9⟩
    replace HB := hide (HB.out.trans (b9.mono HB.out.size))
    replace HW := hide (HW.out.below b9)
    replace HG := hide (HG.out.below b9)
    clear b9
    unfold constV
    go_wp2_with fail
    refine (constBytesImpl k n a b _ HA.out HZ.out).mono ?_
    rintro e w10 ⟨vH, rfl, oH, b10⟩
    have HH := hide oH
    replace HB := hide (HB.out.trans (b10.mono HB.out.size))
    replace HW := hide (HW.out.below b10)
    replace HG := hide (HG.out.below b10)
    clear b10 oH
    go_wp2_with fail
    refine (eqB _ _ _ _ _ _ HH.out HW.out (by omega)).mono ?_
    rintro e w11 ⟨rfl, q11, rfl⟩
    clear HH
    replace HB := hide (below_drewN HB.out q11)
    replace HG := hide (HG.out.drewN q11)
    generalize w10.drewN q11 = w11 at *
    go_wp2_with fail
    refine (held1 _ _ _ _ HG.out (by omega)).mono ?_
    rintro e w12 ⟨rfl, rfl⟩
    go_wp2
    go_ret
    exact ⟨rfl, HB.out⟩

set_option maxRecDepth 100000 in
theorem lifted (os : Os) (started : os.Started) (H : Type) (enc : TypeId × Value → H) :
    ReturnsInHanded {} Try.checked os 4 .any (Rows.fnExactConstBytesSpec.pre6 enc Try.prog Try.f4 Rows.fnExactConstBytesRow.domain false) (Rows.fnExactConstBytesSpec.post enc Try.prog Try.f4 false true false false) := by
  refine returnsInHanded_of_change (C := Try.checked) own started (by kernel_rfl) Try.func4
    (ChangeSpec.witness6 (enc := enc) (C := Try.checked) false ⟨#[], #[.agg #[.int .i64 0, .int .i64 0, .string ByteArray.empty, .string ByteArray.empty]], []⟩ 8 (by kernel_rfl) (by kernel_rfl) (by kernel_rfl) (by kernel_rfl)) ?_
  intro W base args ds gs before hval0 hW hcnd _
  have hval : ∀ (j : Nat) t v, Try.f4.params[j]? = some t → args[j]? = some v → Value.okWide Try.prog W .any base t v := hval0
  have hW' := hW
  obtain ⟨p, q, hA0, hV, rfl, hfz, hnd⟩ := hW
  have hA : DataW.TrodAll enc Try.prog W 0 (fun _ => true) true Try.f4.params.toList args.toList ds p := hA0
  rw [Try.params4] at hA hval
  obtain ⟨v0, vs0, d0, ds0, p0, q0, hargs, rfl, rfl, h0, r0⟩ := trodAll_cons hA
  obtain ⟨rfl, rfl, rfl⟩ := trodAll_nil r0
  obtain rfl : args = #[v0] := by cases args; simp_all
  obtain ⟨rfl, rfl⟩ := trodVars_none hV
  have k0 := h0
  have lt0 : ∀ x ∈ p0, x.block < W.heap.size := by obtain ⟨m, hm⟩ := k0; exact DataW.trod_lt m _ _ _ hm
  have w0 := openConst (hval 0 23 v0 rfl rfl) h0
  clear hA0 hval0
  refine (walk v0 W w0).mono fun e W' ⟨he, bel⟩ => ?_
  subst he
  exact ⟨_, rfl, _, _, _, [], _, [], hW', trodAll_mk1 (shut_bool Try.underlying4 _), (trodAll_cons_mk (Below.trod laidOut (by kernel_rfl) (of_decide_eq_true (by kernel_rfl)) k0 bel lt0) trodAll_mk0), rfl, bel.frame _, fun h => by cases h⟩

theorem over : Rows.fnExactConstBytesRow.holds Try.pinned (OpenSpec.ofChange Rows.fnExactConstBytesSpec) :=
  OpenClaim.holds_of_wide 4 Try.f4 rfl rfl rfl rfl rfl rfl rfl ⟨rfl, rfl, rfl, rfl, rfl⟩ rfl rfl rfl rfl rfl (by kernel_rfl) Try.func4 (by kernel_rfl)
    (of_decide_eq_true (by kernel_rfl)) (by unfold Func.isWrapper; first | (rw [if_pos (by decide +kernel)]; kernel_rfl) | (rw [if_neg (by decide +kernel)]; exact ⟨rfl, rfl⟩))
    (fun os started H enc _ => lifted os started H enc)

end Go.Proofs.Ytgegmocgbjklkaa.fnExactConstBytes
namespace Go.Proofs.Ytgegmocgbjklkaa
theorem fnExactConstBytes_holds : Rows.FnExactConstBytesSaid := fnExactConstBytes.over
#print axioms fnExactConstBytes_holds
end Go.Proofs.Ytgegmocgbjklkaa
