/-
  Proved: at every argument the program's CopiesOk answers as its model does, writes into no argument, and its answer owns its memory (the law FnExactCopiesOk returns true), without any condition.
-/
import Derived.Test.YtofnpgheppgcaaaRows
import Derived.Test.YtofnpgheppgcaaaJ14
import Derived.Test.YtofnpgheppgcaaaKCpRK
import Derived.Test.YtofnpgheppgcaaaKCpY
import Derived.Test.YtofnpgheppgcaaaJ32
import Derived.Test.YtofnpgheppgcaaaJ20
import Derived.Deep.CutRange
import Derived.Deep.RegionWith
import Derived.Deep.RegionHeld
import Derived.BigRegion
import Derived.WalkKit
import Derived.ProofKit
import Derived.OpenShut
import Derived.ShutString
import Derived.ChangeOld
import Derived.Below
namespace Go.Proofs.Ytofnpgheppgcaaa.fnExactCopiesOk
open Go.ChangeShapes Go.WideShapes Go.ChangeAt Go.RowKit
open Go.ChangeMaps (open_string shut_string)
set_option linter.unusedVariables false

theorem own : ownKnob Try.prog.godebug = none := by kernel_rfl
theorem laidOut : laidOutB Try.prog = true := by kernel_rfl
set_option maxRecDepth 100000 in
set_option maxHeartbeats 8000000 in
theorem walk (v0 : Value) (v1 : Value) (w : World) (h0 : IsPg w v0) (h1 : IsCpys w v1) :
    Calls Try.prog 3 #[v0, v1] w fun e w' => e = .returned (.bool true) ∧ Below w.heap.size w w' := by
  obtain ⟨p, up1, rfl, gp1, rp⟩ := h0
  obtain ⟨ap1, cp1, ep1, _⟩ := gp1.shape
  subst ep1
  have Pp1 := hide gp1
  have Rp := hide rp
  clear rp gp1
  obtain ⟨x, gx1, rx⟩ := h1
  obtain ⟨ax1, cx1, ex1, _⟩ := gx1.shape
  subst ex1
  have Px1 := hide gx1
  have Rx := hide rx
  clear rx gx1
  have bA := ((Below.refl w.heap.size w).alloc (Nat.le_refl _) (.cells #[.slice ap1 p.k.length cp1] 24))
  have G0 := heap_alloc_new w (.cells #[.slice ap1 p.k.length cp1] 24)
  have E0 := hide (G0)
  have HB := hide bA
  clear bA G0
  obtain ⟨V0, hV0⟩ : ∃ V, csB p.k x = V := ⟨_, rfl⟩
  have HV0 := hide hV0
  clear hV0
  have hne0 : (V0 != V0) = false := by simp
  unfold pgV
  go_enter Try.func3, Try.ntmps3
  go_wp2_with fail
  generalize (w.alloc (.cells #[.slice ap1 p.k.length cp1] 24)) = W at *
  refine (szPg _ p _ _ (Pp1.out.at HB.out) (by omega) (by omega) Rp.out).mono ?_
  rintro e w1 ⟨rfl, b9⟩
  replace E0 := hide ((b9.block _ (Array.getElem?_eq_some_iff.1 E0.out).1).trans E0.out)
  have z1 := b9.size
  replace HB := hide (HB.out.trans (b9.mono HB.out.size))
  clear b9
  by_cases hmp : (1048576 : Int) < (pgW p : Int)
  · rw [szR_neg hmp]
    go_wp2
    go_ret
    exact ⟨rfl, HB.out⟩
  · skip
    rw [szR_pos hmp]
    have hwp : pgW p ≤ 1048576 := by omega
    have HGp := hide (pgG_of Rp.out (by omega))
    have hnp : ¬ (1048576 : Int) - (pgW p : Int) < 0 := by omega
    have hqp : (1048576 : Int) - (pgW p : Int) ≤ 1048576 := by omega
    have hTp : (1048576 : Int) - (pgW p : Int) + ((pgW p : Int) : Int) ≤ 1048576 := by omega
    generalize (1048576 : Int) - (pgW p : Int) = mp at *
    clear hmp
    go_wp2_with fail
    refine (szCpys _ _ x _ (Px1.out.at HB.out) (by omega) (by omega) Rx.out).mono ?_
    rintro e w2 ⟨rfl, b9⟩
    replace E0 := hide ((b9.block _ (Array.getElem?_eq_some_iff.1 E0.out).1).trans E0.out)
    have z2 := b9.size
    replace HB := hide (HB.out.trans (b9.mono HB.out.size))
    clear b9
    by_cases hmx : (mp : Int) < (cpysW x : Int)
    · rw [szR_neg hmx]
      go_wp2
      go_ret
      exact ⟨rfl, HB.out⟩
    · skip
      rw [szR_pos hmx]
      have hwx : cpysW x ≤ 1048576 := by omega
      have HGx := hide (cpysG_of Rx.out (by omega))
      have hnx : ¬ (mp : Int) - (cpysW x : Int) < 0 := by omega
      have hqx : (mp : Int) - (cpysW x : Int) ≤ 1048576 := by omega
      have hTx : (mp : Int) - (cpysW x : Int) + ((cpysW x : Int) + (pgW p : Int) : Int) ≤ 1048576 := by omega
      generalize (mp : Int) - (cpysW x : Int) = mx at *
      clear hmx
      have hz0 : w.heap.size + 1 ≤ w2.heap.size := by
        have hh := (Array.getElem?_eq_some_iff.1 E0.out).1
        omega
      have y0_0 := (box_of E0.out).1 0 _ rfl
      go_wp2_with fail
      clear y0_0
      refine (toPg _ p _ (Pp1.out.at HB.out) HGp.out).mono ?_
      rintro e w3 ⟨n3_1, rfl, o9, b9⟩
      obtain ⟨p3_1, q3_1, f3_1, _⟩ := (pgD_own o9).shape
      subst f3_1
      have O3 := hide o9
      clear o9
      replace E0 := hide ((b9.block _ (Array.getElem?_eq_some_iff.1 E0.out).1).trans E0.out)
      have z3 := b9.size
      replace HB := hide (HB.out.trans (b9.mono HB.out.size))
      clear b9
      unfold pgV
      go_wp2_with fail
      refine (toCpys _ _ x (Px1.out.at HB.out) HGx.out).mono ?_
      rintro e w4 ⟨n4_1, rfl, o9, b9⟩
      obtain ⟨p4_1, q4_1, f4_1⟩ := o9.shape
      subst f4_1
      have O4 := hide o9
      clear o9
      replace E0 := hide ((b9.block _ (Array.getElem?_eq_some_iff.1 E0.out).1).trans E0.out)
      replace O3 := hide (O3.out.below b9)
      have z4 := b9.size
      replace HB := hide (HB.out.trans (b9.mono HB.out.size))
      clear b9
      go_wp2_with fail
      refine ((copiesOkS _ p _ x _ (pgD_own O3.out) (O4.out.rd (Nat.le_refl _)) HGp.out.k HGx.out).mono (fun e w9 h => by rw [csM_eq] at h; exact h)).mono ?_
      rintro e w5 ⟨rfl, b9⟩
      rw [HV0.out]
      replace E0 := hide ((b9.block _ (Array.getElem?_eq_some_iff.1 E0.out).1).trans E0.out)
      replace O3 := hide (O3.out.below b9)
      replace O4 := hide (O4.out.below b9)
      have z5 := b9.size
      replace HB := hide (HB.out.trans (b9.mono HB.out.size))
      clear b9
      have y0_0 := (box_of E0.out).1 0 _ rfl
      go_wp2_with fail
      clear y0_0
      refine (toPg _ p _ (Pp1.out.at HB.out) HGp.out).mono ?_
      rintro e w6 ⟨n6_1, rfl, o9, b9⟩
      obtain ⟨p6_1, q6_1, f6_1, _⟩ := (pgD_own o9).shape
      subst f6_1
      have O6 := hide o9
      clear o9
      replace E0 := hide ((b9.block _ (Array.getElem?_eq_some_iff.1 E0.out).1).trans E0.out)
      replace O3 := hide (O3.out.below b9)
      replace O4 := hide (O4.out.below b9)
      have z6 := b9.size
      replace HB := hide (HB.out.trans (b9.mono HB.out.size))
      clear b9
      unfold pgV
      have bD := (Below.refl w6.heap.size w6).alloc (Nat.le_refl _) (.cells #[.slice p6_1 p.k.length q6_1] 31)
      have X7 := hide (heap_alloc_new w6 (.cells #[.slice p6_1 p.k.length q6_1] 31))
      have z7 : w6.heap.size < (w6.alloc (.cells #[.slice p6_1 p.k.length q6_1] 31)).heap.size := by simp
      replace E0 := hide ((bD.block _ (Array.getElem?_eq_some_iff.1 E0.out).1).trans E0.out)
      replace O3 := hide (O3.out.below bD)
      replace O4 := hide (O4.out.below bD)
      replace O6 := hide (O6.out.below bD)
      have z8 := bD.size
      replace HB := hide (HB.out.trans (bD.mono HB.out.size))
      clear bD
      go_wp2_with fail
      generalize w6.alloc (.cells #[.slice p6_1 p.k.length q6_1] 31) = w7 at *
      refine (toCpys _ _ x (Px1.out.at HB.out) HGx.out).mono ?_
      rintro e w8 ⟨n8_1, rfl, o9, b9⟩
      obtain ⟨p8_1, q8_1, f8_1⟩ := o9.shape
      subst f8_1
      have O8 := hide o9
      clear o9
      replace E0 := hide ((b9.block _ (Array.getElem?_eq_some_iff.1 E0.out).1).trans E0.out)
      replace X7 := hide ((b9.block _ (Array.getElem?_eq_some_iff.1 X7.out).1).trans X7.out)
      replace O3 := hide (O3.out.below b9)
      replace O4 := hide (O4.out.below b9)
      replace O6 := hide (O6.out.below b9)
      have z9 := b9.size
      replace HB := hide (HB.out.trans (b9.mono HB.out.size))
      clear b9
      have y0_0 := (box_of X7.out).1 0 _ rfl
      go_wp2_with fail
      clear y0_0
      refine (copiesOkI _ p _ x _ (pgD_own O6.out) (O8.out.rd (Nat.le_refl _)) HGp.out.k HGx.out).mono ?_
      rintro e w9 ⟨rfl, b9⟩
      rw [HV0.out]
      replace E0 := hide ((b9.block _ (Array.getElem?_eq_some_iff.1 E0.out).1).trans E0.out)
      replace X7 := hide ((b9.block _ (Array.getElem?_eq_some_iff.1 X7.out).1).trans X7.out)
      replace O3 := hide (O3.out.below b9)
      replace O4 := hide (O4.out.below b9)
      replace O6 := hide (O6.out.below b9)
      replace O8 := hide (O8.out.below b9)
      have z10 := b9.size
      replace HB := hide (HB.out.trans (b9.mono HB.out.size))
      clear b9
      go_upto_region 14 with fail
      have HCL : Hid (∀ w', Below w9.heap.size w9 w' → w'.cell? ⟨w6.heap.size, 0, none⟩ = some (.slice p6_1 p.k.length q6_1) ∧ w'.cell? ⟨w.heap.size, 0, none⟩ = some (.slice ap1 p.k.length cp1)) := hide (fun w' hb => ⟨(box_of ((hb.block _ (Array.getElem?_eq_some_iff.1 X7.out).1).trans X7.out)).1 0 _ rfl, (box_of ((hb.block _ (Array.getElem?_eq_some_iff.1 E0.out).1).trans E0.out)).1 0 _ rfl⟩)
      have HD := hide (Below.refl w9.heap.size w9).drew
      go_cut [39] from 35 to 39 (fun s wq => s = .bool false ∧ Hid (Below w9.heap.size w9 wq))
      case first =>
        refine wp_region_held_drew (S := fun w' => w'.cell? ⟨w6.heap.size, 0, none⟩ = some (.slice p6_1 p.k.length q6_1) ∧ w'.cell? ⟨w.heap.size, 0, none⟩ = some (.slice ap1 p.k.length cp1)) (by kernel_rfl) (HCL.out _ HD.out) (fun hHeld => ?_)
        have HW := HD
        clear HD
        generalize w9.drew = Z0 at *
        refine wpAnyH_take (i := 0) (v := .agg #[.slice p6_1 p.k.length q6_1]) rfl (by kernel_rfl) (by kernel_rfl) (by kernel_rfl) (fun _ _ _ h => h) (Or.inl ⟨by rfl, ?_⟩) (by assumption) ?_
        · intro w' hSw
          try dsimp only at hSw
          go_simp; try rfl
        simp only [List.getElem_toArray, List.getElem_cons_zero, Act.put, List.setIfInBounds_toArray, List.set_cons_zero, List.set_cons_succ]
        refine wpAnyH_take (i := 1) (v := .agg #[.slice ap1 p.k.length cp1]) rfl (by kernel_rfl) (by kernel_rfl) (by kernel_rfl) (fun _ _ _ h => h) (Or.inl ⟨by rfl, ?_⟩) (by assumption) ?_
        · intro w' hSw
          try dsimp only at hSw
          go_simp; try rfl
        simp only [List.getElem_toArray, List.getElem_cons_succ, List.getElem_cons_zero, Act.put, List.setIfInBounds_toArray, List.set_cons_zero, List.set_cons_succ]
        refine wpAnyH_ready (rs := [2]) (by kernel_rfl) (by simp) (AllReadyH.cons rfl (fun K hK => ?_) AllReadyH.nil)
        refine step_callW (some 37) (by kernel_rfl) (by kernel_rfl) 12 _ _ rfl #[.agg #[.slice ap1 p.k.length cp1]] (by kernel_rfl) (toPg _ p _ (Pp1.out.at (HB.out.trans (HW.out.mono HB.out.size))) HGp.out) ?_
        rintro e Z1 ⟨n91_1, rfl, o9, b9⟩
        obtain ⟨p91_1, q91_1, f91_1, _⟩ := (pgD_own o9).shape
        subst f91_1
        have OH91 := hide o9
        clear o9
        unfold pgV
        replace HW := hide (HW.out.trans (b9.mono HW.out.size))
        clear b9
        refine ⟨_, rfl, ?_⟩
        refine hK.out _ _ (HCL.out _ HW.out) (fun hHeld => ?_)
        clear hK K
        simp only [Act.put, List.setIfInBounds_toArray, List.set_cons_zero, List.set_cons_succ]
        refine wpAnyH_ready (rs := [3]) (by kernel_rfl) (by simp) (AllReadyH.cons rfl (fun K hK => ?_) AllReadyH.nil)
        refine step_callW (some 38) (by kernel_rfl) (by kernel_rfl) 15 _ _ rfl #[.agg #[.slice p6_1 p.k.length q6_1], .agg #[.slice p91_1 p.k.length q91_1]] (by kernel_rfl) (eqPg _ p _ _ (pgD_own (O6.out.below HW.out)) (pgD_own OH91.out) HGp.out) ?_
        rintro e Z2 ⟨rfl, b9⟩
        replace OH91 := hide (OH91.out.below b9)
        replace HW := hide (HW.out.trans (b9.mono HW.out.size))
        clear b9
        refine ⟨_, rfl, ?_⟩
        refine hK.out _ _ (HCL.out _ HW.out) (fun hHeld => ?_)
        clear hK K
        simp only [Act.put, List.setIfInBounds_toArray, List.set_cons_zero, List.set_cons_succ]
        refine wpAnyH_take (i := 4) (v := ?_) rfl (by kernel_rfl) (by kernel_rfl) (by kernel_rfl) (fun _ _ _ h => h) (Or.inl ⟨by rfl, ?_⟩) (by assumption) ?_
        rotate_left
        · intro w' hSw
          try dsimp only at hSw
          go_simp; try rfl
        simp only [List.getElem_toArray, List.getElem_cons_succ, List.getElem_cons_zero, Act.put, List.setIfInBounds_toArray, List.set_cons_zero, List.set_cons_succ]
        refine wpAnyH_done (by kernel_rfl) ?_ _
        go_wp2_with fail
        go_meet
        exact ⟨rfl, HW⟩
      case rest =>
      obtain ⟨rfl, HQ9⟩ := hcut
      have b9 := HQ9.out
      clear HQ9 HCL HD
      replace E0 := hide ((b9.block _ (Array.getElem?_eq_some_iff.1 E0.out).1).trans E0.out)
      replace X7 := hide ((b9.block _ (Array.getElem?_eq_some_iff.1 X7.out).1).trans X7.out)
      replace O3 := hide (O3.out.below b9)
      replace O4 := hide (O4.out.below b9)
      replace O6 := hide (O6.out.below b9)
      replace O8 := hide (O8.out.below b9)
      have z11 := b9.size
      replace HB := hide (HB.out.trans (b9.mono HB.out.size))
      clear b9
      generalize wc = w10 at *
      go_wp2_with fail
      refine (toCpys _ _ x (Px1.out.at HB.out) HGx.out).mono ?_
      rintro e w11 ⟨n11_1, rfl, o9, b9⟩
      obtain ⟨p11_1, q11_1, f11_1⟩ := o9.shape
      subst f11_1
      have O11 := hide o9
      clear o9
      replace E0 := hide ((b9.block _ (Array.getElem?_eq_some_iff.1 E0.out).1).trans E0.out)
      replace X7 := hide ((b9.block _ (Array.getElem?_eq_some_iff.1 X7.out).1).trans X7.out)
      replace O3 := hide (O3.out.below b9)
      replace O4 := hide (O4.out.below b9)
      replace O6 := hide (O6.out.below b9)
      replace O8 := hide (O8.out.below b9)
      have z12 := b9.size
      replace HB := hide (HB.out.trans (b9.mono HB.out.size))
      clear b9
      go_wp2_with fail
      refine (eqCpys _ _ _ x (O8.out.rd (Nat.le_refl _)) (O11.out.rd (Nat.le_refl _)) HGx.out).mono ?_
      rintro e w12 ⟨rfl, b9⟩
      replace E0 := hide ((b9.block _ (Array.getElem?_eq_some_iff.1 E0.out).1).trans E0.out)
      replace X7 := hide ((b9.block _ (Array.getElem?_eq_some_iff.1 X7.out).1).trans X7.out)
      replace O3 := hide (O3.out.below b9)
      replace O4 := hide (O4.out.below b9)
      replace O6 := hide (O6.out.below b9)
      replace O8 := hide (O8.out.below b9)
      replace O11 := hide (O11.out.below b9)
      have z13 := b9.size
      replace HB := hide (HB.out.trans (b9.mono HB.out.size))
      clear b9
      go_wp2
      go_ret
      exact ⟨rfl, HB.out⟩

set_option maxRecDepth 100000 in
theorem lifted (os : Os) (started : os.Started) (H : Type) (enc : TypeId × Value → H) :
    ReturnsInHanded {} Try.checked os 3 .any (Rows.fnExactCopiesOkSpec.pre6 enc Try.prog Try.f3 Rows.fnExactCopiesOkRow.domain false) (Rows.fnExactCopiesOkSpec.post enc Try.prog Try.f3 false true false false) := by
  refine returnsInHanded_of_change (C := Try.checked) own started (by kernel_rfl) Try.func3
    (ChangeSpec.witness6 (enc := enc) (C := Try.checked) false ⟨#[], #[.agg #[.slice none 0 0], .slice none 0 0], []⟩ 8 (by kernel_rfl) (by kernel_rfl) (by kernel_rfl) (by kernel_rfl)) ?_
  intro W base args ds gs before hval0 hW hcnd _
  have hval : ∀ (j : Nat) t v, Try.f3.params[j]? = some t → args[j]? = some v → Value.okWide Try.prog W .any base t v := hval0
  have hW' := hW
  obtain ⟨p, q, hA0, hV, rfl, hfz, hnd⟩ := hW
  have hA : DataW.TrodAll enc Try.prog W 0 (fun _ => true) true Try.f3.params.toList args.toList ds p := hA0
  rw [Try.params3] at hA hval
  obtain ⟨v0, vs0, d0, ds0, p0, q0, hargs, rfl, rfl, h0, r0⟩ := trodAll_cons hA
  obtain ⟨v1, vs1, d1, ds1, p1, q1, rfl, rfl, rfl, h1, r1⟩ := trodAll_cons r0
  obtain ⟨rfl, rfl, rfl⟩ := trodAll_nil r1
  obtain rfl : args = #[v0, v1] := by cases args; simp_all
  obtain ⟨rfl, rfl⟩ := trodVars_none hV
  have k0 := h0
  have lt0 : ∀ x ∈ p0, x.block < W.heap.size := by obtain ⟨m, hm⟩ := k0; exact DataW.trod_lt m _ _ _ hm
  have w0 := openPg (hval 0 24 v0 rfl rfl) h0
  have k1 := h1
  have lt1 : ∀ x ∈ p1, x.block < W.heap.size := by obtain ⟨m, hm⟩ := k1; exact DataW.trod_lt m _ _ _ hm
  have w1 := openCpys (hval 1 25 v1 rfl rfl) h1
  clear hA0 hval0
  refine (walk v0 v1 W w0 w1).mono fun e W' ⟨he, bel⟩ => ?_
  subst he
  exact ⟨_, rfl, _, _, _, [], _, [], hW', trodAll_mk1 (shut_bool Try.underlying4 _), (trodAll_cons_mk (Below.trod laidOut (by kernel_rfl) (of_decide_eq_true (by kernel_rfl)) k0 bel lt0) (trodAll_cons_mk (Below.trod laidOut (by kernel_rfl) (of_decide_eq_true (by kernel_rfl)) k1 bel lt1) trodAll_mk0)), rfl, bel.frame _, fun h => by cases h⟩

theorem over : Rows.fnExactCopiesOkRow.holds Try.pinned (OpenSpec.ofChange Rows.fnExactCopiesOkSpec) :=
  OpenClaim.holds_of_wide 3 Try.f3 rfl rfl rfl rfl rfl rfl rfl ⟨rfl, rfl, rfl, rfl, rfl⟩ rfl rfl rfl rfl rfl (by kernel_rfl) Try.func3 (by kernel_rfl)
    (of_decide_eq_true (by kernel_rfl)) (by unfold Func.isWrapper; first | (rw [if_pos (by decide +kernel)]; kernel_rfl) | (rw [if_neg (by decide +kernel)]; exact ⟨rfl, rfl⟩))
    (fun os started H enc _ => lifted os started H enc)

end Go.Proofs.Ytofnpgheppgcaaa.fnExactCopiesOk
namespace Go.Proofs.Ytofnpgheppgcaaa
theorem fnExactCopiesOk_holds : Rows.FnExactCopiesOkSaid := fnExactCopiesOk.over
#print axioms fnExactCopiesOk_holds
end Go.Proofs.Ytofnpgheppgcaaa
