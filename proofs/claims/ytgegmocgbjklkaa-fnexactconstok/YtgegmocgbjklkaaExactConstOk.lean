/-
  Proved: at every const the program's ConstOk answers as its model does (the law FnExactConstOk returns true), without any condition.
-/
import Derived.Test.YtgegmocgbjklkaaRows
import Derived.Test.YtgegmocgbjklkaaConstLaw
import Derived.WalkKit
import Derived.ProofKit
import Derived.OpenShut
import Derived.ShutString
import Derived.ChangeOld
import Derived.Below
namespace Go.Proofs.Ytgegmocgbjklkaa.fnExactConstOk
open Go.ChangeShapes Go.WideShapes Go.ChangeAt Go.RowKit
open Go.ChangeMaps (open_string shut_string)
set_option linter.unusedVariables false

theorem own : ownKnob Try.prog.godebug = none := by kernel_rfl
theorem laidOut : laidOutB Try.prog = true := by kernel_rfl
set_option maxRecDepth 100000 in
set_option maxHeartbeats 1000000 in
theorem walk (v0 : Value) (w : World) (h0 : IsConst v0) :
    Calls Try.prog 3 #[v0] w fun e w' => e = .returned (.bool true) ∧ Below w.heap.size w w' := by
  obtain ⟨k, n, a, b, rfl, ha, hb⟩ := h0
  have hne : (kOk k n a b != kOk k n a b) = false := by simp
  have HA := hide ha
  have HZ := hide hb
  clear ha hb
  have HX := hide (Box.new w #[.int .i64 k, .int .i64 n, .string a, .string b] 23)
  have HB := hide ((Below.refl w.heap.size w).alloc (Nat.le_refl _) (.cells #[.int .i64 k, .int .i64 n, .string a, .string b] 23))
  have hgs : Hid (w.heap.size < (w.alloc (.cells #[.int .i64 k, .int .i64 n, .string a, .string b] 23)).heap.size) := hide (by simp)
  have q0 := HX.out 0 _ rfl
  have q1 := HX.out 1 _ rfl
  have q2 := HX.out 2 _ rfl
  have q3 := HX.out 3 _ rfl
  unfold constV
  go_enter Try.func3, Try.ntmps3
  go_wp2_with fail
  clear q0 q1 q2 q3
  generalize w.alloc (.cells #[.int .i64 k, .int .i64 n, .string a, .string b] 23) = W at *
  refine (szConst k n a b _ HA.out HZ.out).mono ?_
  rintro e w1 ⟨m, rfl, hm, b1⟩
  replace HX := hide (HX.out.below hgs.out b1)
  replace hgs := hide (Nat.lt_of_lt_of_le hgs.out b1.size)
  replace HB := hide (HB.out.trans (b1.mono HB.out.size))
  clear b1
  rcases hm with hm | ⟨hm, hsz⟩
  · go_wp2
    go_ret
    exact ⟨rfl, HB.out⟩
  · have hm' : ¬ m < 0 := by omega
    have q0 := HX.out 0 _ rfl
    have q1 := HX.out 1 _ rfl
    have q2 := HX.out 2 _ rfl
    have q3 := HX.out 3 _ rfl
    go_wp2_with fail
    clear q0 q1 q2 q3
    refine (toConst k n a b _).mono ?_
    rintro e w2 ⟨rfl, b2⟩
    replace HX := hide (HX.out.below hgs.out b2)
    replace hgs := hide (Nat.lt_of_lt_of_le hgs.out b2.size)
    replace HB := hide (HB.out.trans (b2.mono HB.out.size))
    clear b2
    unfold constV
    go_wp2_with fail
    refine (constOkSpec k n a b _ HA.out HZ.out).mono ?_
    rintro e w3 ⟨rfl, b3⟩
    replace HX := hide (HX.out.below hgs.out b3)
    replace hgs := hide (Nat.lt_of_lt_of_le hgs.out b3.size)
    replace HB := hide (HB.out.trans (b3.mono HB.out.size))
    clear b3
    have q0 := HX.out 0 _ rfl
    have q1 := HX.out 1 _ rfl
    have q2 := HX.out 2 _ rfl
    have q3 := HX.out 3 _ rfl
    go_wp2_with fail
    clear q0 q1 q2 q3
    refine (toConst k n a b _).mono ?_
    rintro e w4 ⟨rfl, b4⟩
    replace HB := hide (HB.out.trans (b4.mono HB.out.size))
    clear b4
    unfold constV
    go_wp2_with fail
    refine (constOkImpl k n a b _ HA.out HZ.out).mono ?_
    rintro e w5 ⟨rfl, b5⟩
    replace HB := hide (HB.out.trans (b5.mono HB.out.size))
    clear b5
    go_wp2
    go_ret
    exact ⟨rfl, HB.out⟩

set_option maxRecDepth 100000 in
theorem lifted (os : Os) (started : os.Started) (H : Type) (enc : TypeId × Value → H) :
    ReturnsInHanded {} Try.checked os 3 .any (Rows.fnExactConstOkSpec.pre6 enc Try.prog Try.f3 Rows.fnExactConstOkRow.domain false) (Rows.fnExactConstOkSpec.post enc Try.prog Try.f3 false true false false) := by
  refine returnsInHanded_of_change (C := Try.checked) own started (by kernel_rfl) Try.func3
    (ChangeSpec.witness6 (enc := enc) (C := Try.checked) false ⟨#[], #[.agg #[.int .i64 0, .int .i64 0, .string ByteArray.empty, .string ByteArray.empty]], []⟩ 8 (by kernel_rfl) (by kernel_rfl) (by kernel_rfl) (by kernel_rfl)) ?_
  intro W base args ds gs before hval0 hW hcnd _
  have hval : ∀ (j : Nat) t v, Try.f3.params[j]? = some t → args[j]? = some v → Value.okWide Try.prog W .any base t v := hval0
  have hW' := hW
  obtain ⟨p, q, hA0, hV, rfl, hfz, hnd⟩ := hW
  have hA : DataW.TrodAll enc Try.prog W 0 (fun _ => true) true Try.f3.params.toList args.toList ds p := hA0
  rw [Try.params3] at hA hval
  obtain ⟨v0, vs0, d0, ds0, p0, q0, hargs, rfl, rfl, h0, r0⟩ := trodAll_cons hA
  obtain ⟨rfl, rfl, rfl⟩ := trodAll_nil r0
  obtain rfl : args = #[v0] := by cases args; simp_all
  obtain ⟨rfl, rfl⟩ := trodVars_none hV
  have k0 := h0
  have lt0 : ∀ x ∈ p0, x.block < W.heap.size := by obtain ⟨m, hm⟩ := k0; exact DataW.trod_lt m _ _ _ hm
  have w0 := openConst (hval 0 23 v0 rfl rfl) h0
  clear hA0 hval0
  refine (walk v0 W w0).mono fun e W' ⟨he, bel⟩ => ?_
  subst he
  exact ⟨_, rfl, _, _, _, [], _, [], hW', trodAll_mk1 (shut_bool Try.underlying4 _), (trodAll_cons_mk (Below.trod laidOut (by kernel_rfl) (of_decide_eq_true (by kernel_rfl)) k0 bel lt0) trodAll_mk0), rfl, bel.frame _, fun h => by cases h⟩

theorem over : Rows.fnExactConstOkRow.holds Try.pinned (OpenSpec.ofChange Rows.fnExactConstOkSpec) :=
  OpenClaim.holds_of_wide 3 Try.f3 rfl rfl rfl rfl rfl rfl rfl ⟨rfl, rfl, rfl, rfl, rfl⟩ rfl rfl rfl rfl rfl (by kernel_rfl) Try.func3 (by kernel_rfl)
    (of_decide_eq_true (by kernel_rfl)) (by unfold Func.isWrapper; first | (rw [if_pos (by decide +kernel)]; kernel_rfl) | (rw [if_neg (by decide +kernel)]; exact ⟨rfl, rfl⟩))
    (fun os started H enc _ => lifted os started H enc)

end Go.Proofs.Ytgegmocgbjklkaa.fnExactConstOk
namespace Go.Proofs.Ytgegmocgbjklkaa
theorem fnExactConstOk_holds : Rows.FnExactConstOkSaid := fnExactConstOk.over
#print axioms fnExactConstOk_holds
end Go.Proofs.Ytgegmocgbjklkaa
