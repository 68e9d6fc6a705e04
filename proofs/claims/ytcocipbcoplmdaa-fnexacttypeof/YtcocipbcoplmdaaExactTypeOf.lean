/-
  Proved: at every program and every argument the program's TypeOf answers as its model does and writes into no argument (the law FnExactTypeOf returns true), without any condition.
-/
import Derived.Test.YtcocipbcoplmdaaRows
import Derived.Test.YtcocipbcoplmdaaPrgLaw
import Derived.Test.YtcocipbcoplmdaaTypEq
import Derived.Test.YtcocipbcoplmdaaTypS
import Derived.Test.YtcocipbcoplmdaaTypI
import Derived.Test.YtcocipbcoplmdaaStepX
import Derived.Deep.CutRange
import Derived.Deep.RegionWith
import Derived.Deep.RegionHeld
import Derived.BigRegion
import Derived.WalkKit
import Derived.ProofKit
import Derived.OpenShut
import Derived.ShutString
import Derived.ChangeOld
import Derived.Below
namespace Go.Proofs.Ytcocipbcoplmdaa.fnExactTypeOf
open Go.ChangeShapes Go.WideShapes Go.ChangeAt Go.RowKit
open Go.ChangeMaps (open_string shut_string)
set_option linter.unusedVariables false

theorem own : ownKnob Try.prog.godebug = none := by kernel_rfl
theorem laidOut : laidOutB Try.prog = true := by kernel_rfl
set_option maxRecDepth 100000 in
set_option maxHeartbeats 8000000 in
theorem walk (v0 : Value) (s : ByteArray) (w : World) (h0 : IsPg w v0) (_hs : s.size ≤ maxLen) :
    Calls Try.prog 4 #[v0, .string s] w fun e w' => e = .returned (.bool true) ∧ Below w.heap.size w w' := by
  obtain ⟨x, ux1, rfl, gx1, rx⟩ := h0
  obtain ⟨ax1, cx1, ex1, _⟩ := gx1.shape
  subst ex1
  have Px1 := hide gx1
  have Rx := hide rx
  clear rx gx1
  have bA := ((Below.refl w.heap.size w).alloc (Nat.le_refl _) (.cells #[.slice ax1 x.k.length cx1] 24))
  have G0 := heap_alloc_new w (.cells #[.slice ax1 x.k.length cx1] 24)
  have E0 := hide (G0)
  have HB := hide bA
  clear bA G0
  obtain ⟨V0, hV0⟩ : ∃ V, tyOf x.k s = V := ⟨_, rfl⟩
  have HV0 := hide hV0
  clear hV0
  unfold pgV
  by_cases hss : (s.size : Int) > 1048576
  · go_enter Try.func4, Try.ntmps4
    go_wp2
    go_ret
    exact ⟨rfl, HB.out⟩
  · skip
    go_enter Try.func4, Try.ntmps4
    go_wp2_with fail
    generalize (w.alloc (.cells #[.slice ax1 x.k.length cx1] 24)) = W at *
    refine (szPg _ x _ _ (Px1.out.at HB.out) (by omega) (by omega) Rx.out).mono ?_
    rintro e w1 ⟨rfl, b9⟩
    replace E0 := hide ((b9.block _ (Array.getElem?_eq_some_iff.1 E0.out).1).trans E0.out)
    replace HB := hide (HB.out.trans (b9.mono HB.out.size))
    clear b9
    by_cases hmx : (1048576 : Int) < (pgW x : Int)
    · rw [szR_neg hmx]
      go_wp2
      go_ret
      exact ⟨rfl, HB.out⟩
    · skip
      rw [szR_pos hmx]
      have HGx := hide (pgG_of Rx.out (by omega))
      have hnx : ¬ (1048576 : Int) - (pgW x : Int) < 0 := by omega
      have hqx : (1048576 : Int) - (pgW x : Int) ≤ 1048576 := by omega
      generalize (1048576 : Int) - (pgW x : Int) = mx at *
      clear hmx
      have y0_0 := (box_of E0.out).1 0 _ rfl
      go_wp2_with fail
      clear y0_0
      refine (toPg _ x _ (Px1.out.at HB.out) HGx.out).mono ?_
      rintro e w2 ⟨n2_1, rfl, o9, b9⟩
      obtain ⟨p2_1, q2_1, f2_1, _⟩ := (pgD_own o9).shape
      subst f2_1
      have O2 := hide o9
      clear o9
      replace E0 := hide ((b9.block _ (Array.getElem?_eq_some_iff.1 E0.out).1).trans E0.out)
      replace HB := hide (HB.out.trans (b9.mono HB.out.size))
      clear b9
      unfold pgV
      go_wp2_with fail
      refine (typeOfS _ x _ s (pgD_own O2.out) HGx.out.k.1).mono ?_
      rintro e w3 ⟨rfl, b9⟩
      rw [HV0.out]
      replace E0 := hide ((b9.block _ (Array.getElem?_eq_some_iff.1 E0.out).1).trans E0.out)
      replace O2 := hide (O2.out.below b9)
      replace HB := hide (HB.out.trans (b9.mono HB.out.size))
      clear b9
      unfold tyV
      have bD := (Below.refl w3.heap.size w3).alloc (Nat.le_refl _) (.cells #[.int .i64 V0.k, .int .i64 V0.c] 33)
      have X6 := hide (heap_alloc_new w3 (.cells #[.int .i64 V0.k, .int .i64 V0.c] 33))
      replace E0 := hide ((bD.block _ (Array.getElem?_eq_some_iff.1 E0.out).1).trans E0.out)
      replace O2 := hide (O2.out.below bD)
      replace HB := hide (HB.out.trans (bD.mono HB.out.size))
      clear bD
      have y0_0 := (box_of E0.out).1 0 _ rfl
      go_wp2_with fail
      clear y0_0
      generalize w3.alloc (.cells #[.int .i64 V0.k, .int .i64 V0.c] 33) = w4 at *
      refine (toPg _ x _ (Px1.out.at HB.out) HGx.out).mono ?_
      rintro e w5 ⟨n5_1, rfl, o9, b9⟩
      obtain ⟨p5_1, q5_1, f5_1, _⟩ := (pgD_own o9).shape
      subst f5_1
      have O5 := hide o9
      clear o9
      replace E0 := hide ((b9.block _ (Array.getElem?_eq_some_iff.1 E0.out).1).trans E0.out)
      replace X6 := hide ((b9.block _ (Array.getElem?_eq_some_iff.1 X6.out).1).trans X6.out)
      replace O2 := hide (O2.out.below b9)
      replace HB := hide (HB.out.trans (b9.mono HB.out.size))
      clear b9
      unfold pgV
      have bD := (Below.refl w5.heap.size w5).alloc (Nat.le_refl _) (.cells #[.slice p5_1 x.k.length q5_1] 31)
      have X7 := hide (heap_alloc_new w5 (.cells #[.slice p5_1 x.k.length q5_1] 31))
      replace E0 := hide ((bD.block _ (Array.getElem?_eq_some_iff.1 E0.out).1).trans E0.out)
      replace X6 := hide ((bD.block _ (Array.getElem?_eq_some_iff.1 X6.out).1).trans X6.out)
      replace O2 := hide (O2.out.below bD)
      replace O5 := hide (O5.out.below bD)
      replace HB := hide (HB.out.trans (bD.mono HB.out.size))
      clear bD
      have y0_0 := (box_of X7.out).1 0 _ rfl
      go_wp2_with fail
      clear y0_0
      generalize w5.alloc (.cells #[.slice p5_1 x.k.length q5_1] 31) = w6 at *
      refine (typeOfI _ x _ s (pgD_own O5.out) HGx.out.k.1).mono ?_
      rintro e w7 ⟨rfl, b9⟩
      rw [HV0.out]
      replace E0 := hide ((b9.block _ (Array.getElem?_eq_some_iff.1 E0.out).1).trans E0.out)
      replace X6 := hide ((b9.block _ (Array.getElem?_eq_some_iff.1 X6.out).1).trans X6.out)
      replace X7 := hide ((b9.block _ (Array.getElem?_eq_some_iff.1 X7.out).1).trans X7.out)
      replace O2 := hide (O2.out.below b9)
      replace O5 := hide (O5.out.below b9)
      replace HB := hide (HB.out.trans (b9.mono HB.out.size))
      clear b9
      unfold tyV
      have bD := (Below.refl w7.heap.size w7).alloc (Nat.le_refl _) (.cells #[.int .i64 V0.k, .int .i64 V0.c] 33)
      have X8 := hide (heap_alloc_new w7 (.cells #[.int .i64 V0.k, .int .i64 V0.c] 33))
      replace E0 := hide ((bD.block _ (Array.getElem?_eq_some_iff.1 E0.out).1).trans E0.out)
      replace X6 := hide ((bD.block _ (Array.getElem?_eq_some_iff.1 X6.out).1).trans X6.out)
      replace X7 := hide ((bD.block _ (Array.getElem?_eq_some_iff.1 X7.out).1).trans X7.out)
      replace O2 := hide (O2.out.below bD)
      replace O5 := hide (O5.out.below bD)
      replace HB := hide (HB.out.trans (bD.mono HB.out.size))
      clear bD
      have y0_0 := (box_of X8.out).1 0 _ rfl
      have y0_1 := (box_of X8.out).1 1 _ rfl
      have y1_0 := (box_of X6.out).1 0 _ rfl
      have y1_1 := (box_of X6.out).1 1 _ rfl
      go_wp2_with fail
      clear y0_0 y0_1 y1_0 y1_1
      generalize w7.alloc (.cells #[.int .i64 V0.k, .int .i64 V0.c] 33) = w8 at *
      refine (eqTy _ V0).mono ?_
      rintro e w9 ⟨rfl, b9⟩
      replace E0 := hide ((b9.block _ (Array.getElem?_eq_some_iff.1 E0.out).1).trans E0.out)
      replace X6 := hide ((b9.block _ (Array.getElem?_eq_some_iff.1 X6.out).1).trans X6.out)
      replace X7 := hide ((b9.block _ (Array.getElem?_eq_some_iff.1 X7.out).1).trans X7.out)
      replace X8 := hide ((b9.block _ (Array.getElem?_eq_some_iff.1 X8.out).1).trans X8.out)
      replace O2 := hide (O2.out.below b9)
      replace O5 := hide (O5.out.below b9)
      replace HB := hide (HB.out.trans (b9.mono HB.out.size))
      clear b9
      go_upto_region 12 with fail
      have HCL : Hid (∀ w', Below w9.heap.size w9 w' → w'.cell? ⟨w5.heap.size, 0, none⟩ = some (.slice p5_1 x.k.length q5_1) ∧ w'.cell? ⟨w.heap.size, 0, none⟩ = some (.slice ax1 x.k.length cx1)) := hide (fun w' hb => ⟨(box_of ((hb.block _ (Array.getElem?_eq_some_iff.1 X7.out).1).trans X7.out)).1 0 _ rfl, (box_of ((hb.block _ (Array.getElem?_eq_some_iff.1 E0.out).1).trans E0.out)).1 0 _ rfl⟩)
      have HD := hide (Below.refl w9.heap.size w9).drew
      go_cut [34] from 30 to 34 (fun s wq => s = .bool false ∧ Hid (Below w9.heap.size w9 wq))
      case first =>
        refine wp_region_held_drew (S := fun w' => w'.cell? ⟨w5.heap.size, 0, none⟩ = some (.slice p5_1 x.k.length q5_1) ∧ w'.cell? ⟨w.heap.size, 0, none⟩ = some (.slice ax1 x.k.length cx1)) (by kernel_rfl) (HCL.out _ HD.out) (fun hHeld => ?_)
        have HW := HD
        clear HD
        generalize w9.drew = Z0 at *
        refine wpAnyH_take (i := 0) (v := .agg #[.slice p5_1 x.k.length q5_1]) rfl (by kernel_rfl) (by kernel_rfl) (by kernel_rfl) (fun _ _ _ h => h) (Or.inl ⟨by rfl, ?_⟩) (by assumption) ?_
        · intro w' hSw
          try dsimp only at hSw
          go_simp; try rfl
        simp only [List.getElem_toArray, List.getElem_cons_zero, Act.put, List.setIfInBounds_toArray, List.set_cons_zero, List.set_cons_succ]
        refine wpAnyH_take (i := 1) (v := .agg #[.slice ax1 x.k.length cx1]) rfl (by kernel_rfl) (by kernel_rfl) (by kernel_rfl) (fun _ _ _ h => h) (Or.inl ⟨by rfl, ?_⟩) (by assumption) ?_
        · intro w' hSw
          try dsimp only at hSw
          go_simp; try rfl
        simp only [List.getElem_toArray, List.getElem_cons_succ, List.getElem_cons_zero, Act.put, List.setIfInBounds_toArray, List.set_cons_zero, List.set_cons_succ]
        refine wpAnyH_ready (rs := [2]) (by kernel_rfl) (by simp) (AllReadyH.cons rfl (fun K hK => ?_) AllReadyH.nil)
        refine step_callW (some 32) (by kernel_rfl) (by kernel_rfl) 9 _ _ rfl #[.agg #[.slice ax1 x.k.length cx1]] (by kernel_rfl) (toPg _ x _ (Px1.out.at (HB.out.trans (HW.out.mono HB.out.size))) HGx.out) ?_
        rintro e Z1 ⟨n1_1, rfl, o9, b9⟩
        obtain ⟨p1_1, q1_1, f1_1, _⟩ := (pgD_own o9).shape
        subst f1_1
        have OH1 := hide o9
        clear o9
        unfold pgV
        replace HW := hide (HW.out.trans (b9.mono HW.out.size))
        clear b9
        refine ⟨_, rfl, ?_⟩
        refine hK.out _ _ (HCL.out _ HW.out) (fun hHeld => ?_)
        clear hK K
        simp only [Act.put, List.setIfInBounds_toArray, List.set_cons_zero, List.set_cons_succ]
        refine wpAnyH_ready (rs := [3]) (by kernel_rfl) (by simp) (AllReadyH.cons rfl (fun K hK => ?_) AllReadyH.nil)
        refine step_callW (some 33) (by kernel_rfl) (by kernel_rfl) 12 _ _ rfl #[.agg #[.slice p5_1 x.k.length q5_1], .agg #[.slice p1_1 x.k.length q1_1]] (by kernel_rfl) (eqPg _ x _ _ (pgD_own (O5.out.below HW.out)) (pgD_own OH1.out) HGx.out) ?_
        rintro e Z2 ⟨rfl, b9⟩
        replace OH1 := hide (OH1.out.below b9)
        replace HW := hide (HW.out.trans (b9.mono HW.out.size))
        clear b9
        refine ⟨_, rfl, ?_⟩
        refine hK.out _ _ (HCL.out _ HW.out) (fun hHeld => ?_)
        clear hK K
        simp only [Act.put, List.setIfInBounds_toArray, List.set_cons_zero, List.set_cons_succ]
        refine wpAnyH_take (i := 4) (v := ?_) rfl (by kernel_rfl) (by kernel_rfl) (by kernel_rfl) (fun _ _ _ h => h) (Or.inl ⟨by rfl, ?_⟩) (by assumption) ?_
        rotate_left
        · intro w' hSw
          try dsimp only at hSw
          go_simp; try rfl
        simp only [List.getElem_toArray, List.getElem_cons_succ, List.getElem_cons_zero, Act.put, List.setIfInBounds_toArray, List.set_cons_zero, List.set_cons_succ]
        refine wpAnyH_done (by kernel_rfl) ?_ _
        go_wp2_with fail
        go_meet
        exact ⟨rfl, HW⟩
      case rest =>
      obtain ⟨rfl, HQ9⟩ := hcut
      have b9 := HQ9.out
      clear HQ9 HCL HD
      replace E0 := hide ((b9.block _ (Array.getElem?_eq_some_iff.1 E0.out).1).trans E0.out)
      replace X6 := hide ((b9.block _ (Array.getElem?_eq_some_iff.1 X6.out).1).trans X6.out)
      replace X7 := hide ((b9.block _ (Array.getElem?_eq_some_iff.1 X7.out).1).trans X7.out)
      replace X8 := hide ((b9.block _ (Array.getElem?_eq_some_iff.1 X8.out).1).trans X8.out)
      replace O2 := hide (O2.out.below b9)
      replace O5 := hide (O5.out.below b9)
      replace HB := hide (HB.out.trans (b9.mono HB.out.size))
      clear b9
      generalize wc = w10 at *
      go_wp2
      go_ret
      exact ⟨rfl, HB.out⟩

set_option maxRecDepth 100000 in
theorem lifted (os : Os) (started : os.Started) (H : Type) (enc : TypeId × Value → H) :
    ReturnsInHanded {} Try.checked os 4 .any (Rows.fnExactTypeOfSpec.pre6 enc Try.prog Try.f4 Rows.fnExactTypeOfRow.domain false) (Rows.fnExactTypeOfSpec.post enc Try.prog Try.f4 false true false false) := by
  refine returnsInHanded_of_change (C := Try.checked) own started (by kernel_rfl) Try.func4
    (ChangeSpec.witness6 (enc := enc) (C := Try.checked) false ⟨#[], #[.agg #[.slice none 0 0], .string ByteArray.empty], []⟩ 8 (by kernel_rfl) (by kernel_rfl) (by kernel_rfl) (by kernel_rfl)) ?_
  intro W base args ds gs before hval0 hW hcnd _
  have hval : ∀ (j : Nat) t v, Try.f4.params[j]? = some t → args[j]? = some v → Value.okWide Try.prog W .any base t v := hval0
  have hW' := hW
  obtain ⟨p, q, hA0, hV, rfl, hfz, hnd⟩ := hW
  have hA : DataW.TrodAll enc Try.prog W 0 (fun _ => true) true Try.f4.params.toList args.toList ds p := hA0
  rw [Try.params4] at hA hval
  obtain ⟨v0, vs0, d0, ds0, p0, q0, hargs, rfl, rfl, h0, r0⟩ := trodAll_cons hA
  obtain ⟨v1, vs1, d1, ds1, p1, q1, rfl, rfl, rfl, h1, r1⟩ := trodAll_cons r0
  obtain ⟨rfl, rfl, rfl⟩ := trodAll_nil r1
  obtain rfl : args = #[v0, v1] := by cases args; simp_all
  obtain ⟨rfl, rfl⟩ := trodVars_none hV
  have k0 := h0
  have lt0 : ∀ x ∈ p0, x.block < W.heap.size := by obtain ⟨m, hm⟩ := k0; exact DataW.trod_lt m _ _ _ hm
  have w0 := openPg (hval 0 24 v0 rfl rfl) h0
  obtain ⟨a1, rfl, rfl, rfl, w1⟩ := open_string Try.underlying9 (hval 1 9 v1 rfl rfl) h1
  clear hA0 hval0
  refine (walk v0 a1 W w0 w1).mono fun e W' ⟨he, bel⟩ => ?_
  subst he
  exact ⟨_, rfl, _, _, _, [], _, [], hW', trodAll_mk1 (shut_bool Try.underlying4 _), (trodAll_cons_mk (Below.trod laidOut (by kernel_rfl) (of_decide_eq_true (by kernel_rfl)) k0 bel lt0) (trodAll_cons_mk (shut_string Try.underlying9 w1) trodAll_mk0)), rfl, bel.frame _, fun h => by cases h⟩

theorem over : Rows.fnExactTypeOfRow.holds Try.pinned (OpenSpec.ofChange Rows.fnExactTypeOfSpec) :=
  OpenClaim.holds_of_wide 4 Try.f4 rfl rfl rfl rfl rfl rfl rfl ⟨rfl, rfl, rfl, rfl, rfl⟩ rfl rfl rfl rfl rfl (by kernel_rfl) Try.func4 (by kernel_rfl)
    (of_decide_eq_true (by kernel_rfl)) (by unfold Func.isWrapper; first | (rw [if_pos (by decide +kernel)]; kernel_rfl) | (rw [if_neg (by decide +kernel)]; exact ⟨rfl, rfl⟩))
    (fun os started H enc _ => lifted os started H enc)

end Go.Proofs.Ytcocipbcoplmdaa.fnExactTypeOf
namespace Go.Proofs.Ytcocipbcoplmdaa
theorem fnExactTypeOf_holds : Rows.FnExactTypeOfSaid := fnExactTypeOf.over
#print axioms fnExactTypeOf_holds
end Go.Proofs.Ytcocipbcoplmdaa
