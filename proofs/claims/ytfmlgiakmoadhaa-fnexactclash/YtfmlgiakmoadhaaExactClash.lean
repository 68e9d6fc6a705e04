/-
  Proved: at every argument the program's Clash answers as its model does, writes into no argument, and its answer owns its memory (the law FnExactClash returns true), without any condition.
-/
import Derived.Test.YtfmlgiakmoadhaaRows
import Derived.Test.YtfmlgiakmoadhaaEvM
import Derived.Test.YtfmlgiakmoadhaaEvS
import Derived.Test.YtfmlgiakmoadhaaEvQ
import Derived.Test.YtfmlgiakmoadhaaStepW
import Derived.Deep.CutRange
import Derived.Deep.RegionWith
import Derived.Deep.RegionHeld
import Derived.BigRegion
import Derived.WalkKit
import Derived.ProofKit
import Derived.OpenShut
import Derived.ShutString
import Derived.ChangeOld
import Derived.Below
namespace Go.Proofs.Ytfmlgiakmoadhaa.fnExactClash
open Go.ChangeShapes Go.WideShapes Go.ChangeAt Go.RowKit
open Go.ChangeMaps (open_string shut_string)
set_option linter.unusedVariables false

theorem own : ownKnob Try.prog.godebug = none := by kernel_rfl
theorem laidOut : laidOutB Try.prog = true := by kernel_rfl
set_option maxRecDepth 100000 in
set_option maxHeartbeats 8000000 in
theorem walk (v0 : Value) (v1 : Value) (w : World) (h0 : IsEvt w v0) (h1 : IsEvt w v1) :
    Calls Try.prog 3 #[v0, v1] w fun e w' => e = .returned (.bool true) ∧ Below w.heap.size w w' := by
  obtain ⟨a, rfl, ra⟩ := h0
  have Ra := hide ra
  clear ra
  obtain ⟨b, rfl, rb⟩ := h1
  have Rb := hide rb
  clear rb
  have bA := (((Below.refl w.heap.size w).alloc (Nat.le_refl _) (.cells #[.int .i64 a.w, .int .i64 a.k, .int .i64 a.i, .int .i64 a.a] 23)).alloc (by simp) (.cells #[.int .i64 b.w, .int .i64 b.k, .int .i64 b.i, .int .i64 b.a] 23))
  have G0 := heap_alloc_new w (.cells #[.int .i64 a.w, .int .i64 a.k, .int .i64 a.i, .int .i64 a.a] 23)
  have G1 := heap_alloc_new (w.alloc (.cells #[.int .i64 a.w, .int .i64 a.k, .int .i64 a.i, .int .i64 a.a] 23)) (.cells #[.int .i64 b.w, .int .i64 b.k, .int .i64 b.i, .int .i64 b.a] 23)
  simp only [World.size_alloc] at G1
  have E0 := hide ((Below.heap_alloc _ (.cells #[.int .i64 b.w, .int .i64 b.k, .int .i64 b.i, .int .i64 b.a] 23) _ (by simp)).trans (G0))
  have E1 := hide (G1)
  have HB := hide bA
  clear bA G0 G1
  obtain ⟨V0, hV0⟩ : ∃ V, clashB a b = V := ⟨_, rfl⟩
  have HV0 := hide hV0
  clear hV0
  have hne0 : (V0 != V0) = false := by simp
  unfold evtV
  go_enter Try.func3, Try.ntmps3
  have hz0 : w.heap.size + 2 ≤ ((w.alloc (.cells #[.int .i64 a.w, .int .i64 a.k, .int .i64 a.i, .int .i64 a.a] 23)).alloc (.cells #[.int .i64 b.w, .int .i64 b.k, .int .i64 b.i, .int .i64 b.a] 23)).heap.size := by
    have hh := (Array.getElem?_eq_some_iff.1 E1.out).1
    omega
  go_upto_region 1 with fail
  generalize ((w.alloc (.cells #[.int .i64 a.w, .int .i64 a.k, .int .i64 a.i, .int .i64 a.a] 23)).alloc (.cells #[.int .i64 b.w, .int .i64 b.k, .int .i64 b.i, .int .i64 b.a] 23)) = W at *
  have HCL : Hid (∀ w', Below W.heap.size W w' → w'.cell? ⟨w.heap.size, 0, none⟩ = some (.int .i64 a.w) ∧ w'.cell? ⟨w.heap.size, 1, none⟩ = some (.int .i64 a.k) ∧ w'.cell? ⟨w.heap.size, 2, none⟩ = some (.int .i64 a.i) ∧ w'.cell? ⟨w.heap.size, 3, none⟩ = some (.int .i64 a.a) ∧ w'.cell? ⟨w.heap.size + 1, 0, none⟩ = some (.int .i64 b.w) ∧ w'.cell? ⟨w.heap.size + 1, 1, none⟩ = some (.int .i64 b.k) ∧ w'.cell? ⟨w.heap.size + 1, 2, none⟩ = some (.int .i64 b.i) ∧ w'.cell? ⟨w.heap.size + 1, 3, none⟩ = some (.int .i64 b.a)) := hide (fun w' hb => ⟨(box_of ((hb.block _ (Array.getElem?_eq_some_iff.1 E0.out).1).trans E0.out)).1 0 _ rfl, (box_of ((hb.block _ (Array.getElem?_eq_some_iff.1 E0.out).1).trans E0.out)).1 1 _ rfl, (box_of ((hb.block _ (Array.getElem?_eq_some_iff.1 E0.out).1).trans E0.out)).1 2 _ rfl, (box_of ((hb.block _ (Array.getElem?_eq_some_iff.1 E0.out).1).trans E0.out)).1 3 _ rfl, (box_of ((hb.block _ (Array.getElem?_eq_some_iff.1 E1.out).1).trans E1.out)).1 0 _ rfl, (box_of ((hb.block _ (Array.getElem?_eq_some_iff.1 E1.out).1).trans E1.out)).1 1 _ rfl, (box_of ((hb.block _ (Array.getElem?_eq_some_iff.1 E1.out).1).trans E1.out)).1 2 _ rfl, (box_of ((hb.block _ (Array.getElem?_eq_some_iff.1 E1.out).1).trans E1.out)).1 3 _ rfl⟩)
  have HD := hide (Below.refl W.heap.size W).drew
  go_cut [5] from 7 to 11 (fun s5 wq => s5 = .bool V0 ∧ Hid (Below W.heap.size W wq))
  case first =>
    refine wp_region_held_drew (S := fun w' => w'.cell? ⟨w.heap.size, 0, none⟩ = some (.int .i64 a.w) ∧ w'.cell? ⟨w.heap.size, 1, none⟩ = some (.int .i64 a.k) ∧ w'.cell? ⟨w.heap.size, 2, none⟩ = some (.int .i64 a.i) ∧ w'.cell? ⟨w.heap.size, 3, none⟩ = some (.int .i64 a.a) ∧ w'.cell? ⟨w.heap.size + 1, 0, none⟩ = some (.int .i64 b.w) ∧ w'.cell? ⟨w.heap.size + 1, 1, none⟩ = some (.int .i64 b.k) ∧ w'.cell? ⟨w.heap.size + 1, 2, none⟩ = some (.int .i64 b.i) ∧ w'.cell? ⟨w.heap.size + 1, 3, none⟩ = some (.int .i64 b.a)) (by kernel_rfl) (HCL.out _ HD.out) (fun hHeld => ?_)
    have HW := HD
    clear HD
    generalize W.drew = Z0 at *
    refine wpAnyH_take (i := 0) (v := .agg #[.int .i64 a.w, .int .i64 a.k, .int .i64 a.i, .int .i64 a.a]) rfl (by kernel_rfl) (by kernel_rfl) (by kernel_rfl) (fun _ _ _ h => h) (Or.inl ⟨by rfl, ?_⟩) (by assumption) ?_
    · intro w' hSw
      try dsimp only at hSw
      go_simp; try rfl
    simp only [List.getElem_toArray, List.getElem_cons_zero, Act.put, List.setIfInBounds_toArray, List.set_cons_zero, List.set_cons_succ]
    refine wpAnyH_take (i := 2) (v := .agg #[.int .i64 b.w, .int .i64 b.k, .int .i64 b.i, .int .i64 b.a]) rfl (by kernel_rfl) (by kernel_rfl) (by kernel_rfl) (fun _ _ _ h => h) (Or.inl ⟨by rfl, ?_⟩) (by assumption) ?_
    · intro w' hSw
      try dsimp only at hSw
      go_simp; try rfl
    simp only [List.getElem_toArray, List.getElem_cons_succ, List.getElem_cons_zero, Act.put, List.setIfInBounds_toArray, List.set_cons_zero, List.set_cons_succ]
    refine wpAnyH_ready (rs := [1]) (by kernel_rfl) (by simp) (AllReadyH.cons rfl (fun K hK => ?_) AllReadyH.nil)
    refine step_callW (some 8) (by kernel_rfl) (by kernel_rfl) 5 _ _ rfl #[.agg #[.int .i64 a.w, .int .i64 a.k, .int .i64 a.i, .int .i64 a.a]] (by kernel_rfl) (toEvt _ a) ?_
    rintro e Z1 ⟨rfl, b9⟩
    unfold evtV
    replace HW := hide (HW.out.trans (b9.mono HW.out.size))
    clear b9
    refine ⟨_, rfl, ?_⟩
    refine hK.out _ _ (HCL.out _ HW.out) (fun hHeld => ?_)
    clear hK K
    simp only [Act.put, List.setIfInBounds_toArray, List.set_cons_zero, List.set_cons_succ]
    refine wpAnyH_ready (rs := [3]) (by kernel_rfl) (by simp) (AllReadyH.cons rfl (fun K hK => ?_) AllReadyH.nil)
    refine step_callW (some 10) (by kernel_rfl) (by kernel_rfl) 5 _ _ rfl #[.agg #[.int .i64 b.w, .int .i64 b.k, .int .i64 b.i, .int .i64 b.a]] (by kernel_rfl) (toEvt _ b) ?_
    rintro e Z2 ⟨rfl, b9⟩
    unfold evtV
    replace HW := hide (HW.out.trans (b9.mono HW.out.size))
    clear b9
    refine ⟨_, rfl, ?_⟩
    refine hK.out _ _ (HCL.out _ HW.out) (fun hHeld => ?_)
    clear hK K
    simp only [Act.put, List.setIfInBounds_toArray, List.set_cons_zero, List.set_cons_succ]
    refine wpAnyH_ready (rs := [4]) (by kernel_rfl) (by simp) (AllReadyH.cons rfl (fun K hK => ?_) AllReadyH.nil)
    refine step_callW (some 11) (by kernel_rfl) (by kernel_rfl) 4 _ _ rfl #[.agg #[.int .i64 a.w, .int .i64 a.k, .int .i64 a.i, .int .i64 a.a], .agg #[.int .i64 b.w, .int .i64 b.k, .int .i64 b.i, .int .i64 b.a]] (by kernel_rfl) (clashS _ a b) ?_
    rintro e Z3 ⟨rfl, b9⟩
    rw [HV0.out]
    replace HW := hide (HW.out.trans (b9.mono HW.out.size))
    clear b9
    refine ⟨_, rfl, ?_⟩
    refine hK.out _ _ (HCL.out _ HW.out) (fun hHeld => ?_)
    clear hK K
    simp only [Act.put, List.setIfInBounds_toArray, List.set_cons_zero, List.set_cons_succ]
    refine wpAnyH_take (i := 5) (v := ?_) rfl (by kernel_rfl) (by kernel_rfl) (by kernel_rfl) (fun _ _ _ h => h) (Or.inl ⟨by rfl, ?_⟩) (by assumption) ?_
    rotate_left
    · intro w' hSw
      try dsimp only at hSw
      go_simp; try rfl
    simp only [List.getElem_toArray, List.getElem_cons_succ, List.getElem_cons_zero, Act.put, List.setIfInBounds_toArray, List.set_cons_zero, List.set_cons_succ]
    refine wpAnyH_done (by kernel_rfl) ?_ _
    go_wp2_with fail
    go_meet
    exact ⟨rfl, HW⟩
  case rest =>
  obtain ⟨rfl, HQ9⟩ := hcut
  have b9 := HQ9.out
  clear HQ9 HCL HD
  replace E0 := hide ((b9.block _ (Array.getElem?_eq_some_iff.1 E0.out).1).trans E0.out)
  replace E1 := hide ((b9.block _ (Array.getElem?_eq_some_iff.1 E1.out).1).trans E1.out)
  have z1 := b9.size
  replace HB := hide (HB.out.trans (b9.mono HB.out.size))
  clear b9
  generalize wc = w1 at *
  go_upto_region 2 with fail
  have HCL : Hid (∀ w', Below w1.heap.size w1 w' → w'.cell? ⟨w.heap.size, 0, none⟩ = some (.int .i64 a.w) ∧ w'.cell? ⟨w.heap.size, 1, none⟩ = some (.int .i64 a.k) ∧ w'.cell? ⟨w.heap.size, 2, none⟩ = some (.int .i64 a.i) ∧ w'.cell? ⟨w.heap.size, 3, none⟩ = some (.int .i64 a.a) ∧ w'.cell? ⟨w.heap.size + 1, 0, none⟩ = some (.int .i64 b.w) ∧ w'.cell? ⟨w.heap.size + 1, 1, none⟩ = some (.int .i64 b.k) ∧ w'.cell? ⟨w.heap.size + 1, 2, none⟩ = some (.int .i64 b.i) ∧ w'.cell? ⟨w.heap.size + 1, 3, none⟩ = some (.int .i64 b.a)) := hide (fun w' hb => ⟨(box_of ((hb.block _ (Array.getElem?_eq_some_iff.1 E0.out).1).trans E0.out)).1 0 _ rfl, (box_of ((hb.block _ (Array.getElem?_eq_some_iff.1 E0.out).1).trans E0.out)).1 1 _ rfl, (box_of ((hb.block _ (Array.getElem?_eq_some_iff.1 E0.out).1).trans E0.out)).1 2 _ rfl, (box_of ((hb.block _ (Array.getElem?_eq_some_iff.1 E0.out).1).trans E0.out)).1 3 _ rfl, (box_of ((hb.block _ (Array.getElem?_eq_some_iff.1 E1.out).1).trans E1.out)).1 0 _ rfl, (box_of ((hb.block _ (Array.getElem?_eq_some_iff.1 E1.out).1).trans E1.out)).1 1 _ rfl, (box_of ((hb.block _ (Array.getElem?_eq_some_iff.1 E1.out).1).trans E1.out)).1 2 _ rfl, (box_of ((hb.block _ (Array.getElem?_eq_some_iff.1 E1.out).1).trans E1.out)).1 3 _ rfl⟩)
  have HD := hide (Below.refl w1.heap.size w1).drew
  go_cut [6] from 12 to 16 (fun s6 wq => s6 = .bool V0 ∧ Hid (Below w1.heap.size w1 wq))
  case first =>
    refine wp_region_held_drew (S := fun w' => w'.cell? ⟨w.heap.size, 0, none⟩ = some (.int .i64 a.w) ∧ w'.cell? ⟨w.heap.size, 1, none⟩ = some (.int .i64 a.k) ∧ w'.cell? ⟨w.heap.size, 2, none⟩ = some (.int .i64 a.i) ∧ w'.cell? ⟨w.heap.size, 3, none⟩ = some (.int .i64 a.a) ∧ w'.cell? ⟨w.heap.size + 1, 0, none⟩ = some (.int .i64 b.w) ∧ w'.cell? ⟨w.heap.size + 1, 1, none⟩ = some (.int .i64 b.k) ∧ w'.cell? ⟨w.heap.size + 1, 2, none⟩ = some (.int .i64 b.i) ∧ w'.cell? ⟨w.heap.size + 1, 3, none⟩ = some (.int .i64 b.a)) (by kernel_rfl) (HCL.out _ HD.out) (fun hHeld => ?_)
    have HW := HD
    clear HD
    generalize w1.drew = Z0 at *
    refine wpAnyH_take (i := 0) (v := .agg #[.int .i64 a.w, .int .i64 a.k, .int .i64 a.i, .int .i64 a.a]) rfl (by kernel_rfl) (by kernel_rfl) (by kernel_rfl) (fun _ _ _ h => h) (Or.inl ⟨by rfl, ?_⟩) (by assumption) ?_
    · intro w' hSw
      try dsimp only at hSw
      go_simp; try rfl
    simp only [List.getElem_toArray, List.getElem_cons_zero, Act.put, List.setIfInBounds_toArray, List.set_cons_zero, List.set_cons_succ]
    refine wpAnyH_take (i := 2) (v := .agg #[.int .i64 b.w, .int .i64 b.k, .int .i64 b.i, .int .i64 b.a]) rfl (by kernel_rfl) (by kernel_rfl) (by kernel_rfl) (fun _ _ _ h => h) (Or.inl ⟨by rfl, ?_⟩) (by assumption) ?_
    · intro w' hSw
      try dsimp only at hSw
      go_simp; try rfl
    simp only [List.getElem_toArray, List.getElem_cons_succ, List.getElem_cons_zero, Act.put, List.setIfInBounds_toArray, List.set_cons_zero, List.set_cons_succ]
    refine wpAnyH_ready (rs := [1]) (by kernel_rfl) (by simp) (AllReadyH.cons rfl (fun K hK => ?_) AllReadyH.nil)
    refine step_callW (some 13) (by kernel_rfl) (by kernel_rfl) 5 _ _ rfl #[.agg #[.int .i64 a.w, .int .i64 a.k, .int .i64 a.i, .int .i64 a.a]] (by kernel_rfl) (toEvt _ a) ?_
    rintro e Z1 ⟨rfl, b9⟩
    unfold evtV
    replace HW := hide (HW.out.trans (b9.mono HW.out.size))
    clear b9
    refine ⟨_, rfl, ?_⟩
    refine hK.out _ _ (HCL.out _ HW.out) (fun hHeld => ?_)
    clear hK K
    simp only [Act.put, List.setIfInBounds_toArray, List.set_cons_zero, List.set_cons_succ]
    refine wpAnyH_ready (rs := [3]) (by kernel_rfl) (by simp) (AllReadyH.cons rfl (fun K hK => ?_) AllReadyH.nil)
    refine step_callW (some 15) (by kernel_rfl) (by kernel_rfl) 5 _ _ rfl #[.agg #[.int .i64 b.w, .int .i64 b.k, .int .i64 b.i, .int .i64 b.a]] (by kernel_rfl) (toEvt _ b) ?_
    rintro e Z2 ⟨rfl, b9⟩
    unfold evtV
    replace HW := hide (HW.out.trans (b9.mono HW.out.size))
    clear b9
    refine ⟨_, rfl, ?_⟩
    refine hK.out _ _ (HCL.out _ HW.out) (fun hHeld => ?_)
    clear hK K
    simp only [Act.put, List.setIfInBounds_toArray, List.set_cons_zero, List.set_cons_succ]
    refine wpAnyH_ready (rs := [4]) (by kernel_rfl) (by simp) (AllReadyH.cons rfl (fun K hK => ?_) AllReadyH.nil)
    refine step_callW (some 16) (by kernel_rfl) (by kernel_rfl) 6 _ _ rfl #[.agg #[.int .i64 a.w, .int .i64 a.k, .int .i64 a.i, .int .i64 a.a], .agg #[.int .i64 b.w, .int .i64 b.k, .int .i64 b.i, .int .i64 b.a]] (by kernel_rfl) (clashI _ a b) ?_
    rintro e Z3 ⟨rfl, b9⟩
    rw [HV0.out]
    replace HW := hide (HW.out.trans (b9.mono HW.out.size))
    clear b9
    refine ⟨_, rfl, ?_⟩
    refine hK.out _ _ (HCL.out _ HW.out) (fun hHeld => ?_)
    clear hK K
    simp only [Act.put, List.setIfInBounds_toArray, List.set_cons_zero, List.set_cons_succ]
    refine wpAnyH_take (i := 5) (v := ?_) rfl (by kernel_rfl) (by kernel_rfl) (by kernel_rfl) (fun _ _ _ h => h) (Or.inl ⟨by rfl, ?_⟩) (by assumption) ?_
    rotate_left
    · intro w' hSw
      try dsimp only at hSw
      go_simp; try rfl
    simp only [List.getElem_toArray, List.getElem_cons_succ, List.getElem_cons_zero, Act.put, List.setIfInBounds_toArray, List.set_cons_zero, List.set_cons_succ]
    refine wpAnyH_done (by kernel_rfl) ?_ _
    go_wp2_with fail
    go_meet
    exact ⟨rfl, HW⟩
  case rest =>
  obtain ⟨rfl, HQ9⟩ := hcut
  have b9 := HQ9.out
  clear HQ9 HCL HD
  replace E0 := hide ((b9.block _ (Array.getElem?_eq_some_iff.1 E0.out).1).trans E0.out)
  replace E1 := hide ((b9.block _ (Array.getElem?_eq_some_iff.1 E1.out).1).trans E1.out)
  have z2 := b9.size
  replace HB := hide (HB.out.trans (b9.mono HB.out.size))
  clear b9
  generalize wc = w2 at *
  go_wp2
  go_ret
  exact ⟨rfl, HB.out⟩

set_option maxRecDepth 100000 in
theorem lifted (os : Os) (started : os.Started) (H : Type) (enc : TypeId × Value → H) :
    ReturnsInHanded {} Try.checked os 3 .any (Rows.fnExactClashSpec.pre6 enc Try.prog Try.f3 Rows.fnExactClashRow.domain false) (Rows.fnExactClashSpec.post enc Try.prog Try.f3 false true false false) := by
  refine returnsInHanded_of_change (C := Try.checked) own started (by kernel_rfl) Try.func3
    (ChangeSpec.witness6 (enc := enc) (C := Try.checked) false ⟨#[], #[.agg #[.int .i64 0, .int .i64 0, .int .i64 0, .int .i64 0], .agg #[.int .i64 0, .int .i64 0, .int .i64 0, .int .i64 0]], []⟩ 8 (by kernel_rfl) (by kernel_rfl) (by kernel_rfl) (by kernel_rfl)) ?_
  intro W base args ds gs before hval0 hW hcnd _
  have hval : ∀ (j : Nat) t v, Try.f3.params[j]? = some t → args[j]? = some v → Value.okWide Try.prog W .any base t v := hval0
  have hW' := hW
  obtain ⟨p, q, hA0, hV, rfl, hfz, hnd⟩ := hW
  have hA : DataW.TrodAll enc Try.prog W 0 (fun _ => true) true Try.f3.params.toList args.toList ds p := hA0
  rw [Try.params3] at hA hval
  obtain ⟨v0, vs0, d0, ds0, p0, q0, hargs, rfl, rfl, h0, r0⟩ := trodAll_cons hA
  obtain ⟨v1, vs1, d1, ds1, p1, q1, rfl, rfl, rfl, h1, r1⟩ := trodAll_cons r0
  obtain ⟨rfl, rfl, rfl⟩ := trodAll_nil r1
  obtain rfl : args = #[v0, v1] := by cases args; simp_all
  obtain ⟨rfl, rfl⟩ := trodVars_none hV
  have k0 := h0
  have lt0 : ∀ x ∈ p0, x.block < W.heap.size := by obtain ⟨m, hm⟩ := k0; exact DataW.trod_lt m _ _ _ hm
  have w0 := openEvt (hval 0 23 v0 rfl rfl) h0
  have k1 := h1
  have lt1 : ∀ x ∈ p1, x.block < W.heap.size := by obtain ⟨m, hm⟩ := k1; exact DataW.trod_lt m _ _ _ hm
  have w1 := openEvt (hval 1 23 v1 rfl rfl) h1
  clear hA0 hval0
  refine (walk v0 v1 W w0 w1).mono fun e W' ⟨he, bel⟩ => ?_
  subst he
  exact ⟨_, rfl, _, _, _, [], _, [], hW', trodAll_mk1 (shut_bool Try.underlying4 _), (trodAll_cons_mk (Below.trod laidOut (by kernel_rfl) (of_decide_eq_true (by kernel_rfl)) k0 bel lt0) (trodAll_cons_mk (Below.trod laidOut (by kernel_rfl) (of_decide_eq_true (by kernel_rfl)) k1 bel lt1) trodAll_mk0)), rfl, bel.frame _, fun h => by cases h⟩

theorem over : Rows.fnExactClashRow.holds Try.pinned (OpenSpec.ofChange Rows.fnExactClashSpec) :=
  OpenClaim.holds_of_wide 3 Try.f3 rfl rfl rfl rfl rfl rfl rfl ⟨rfl, rfl, rfl, rfl, rfl⟩ rfl rfl rfl rfl rfl (by kernel_rfl) Try.func3 (by kernel_rfl)
    (of_decide_eq_true (by kernel_rfl)) (by unfold Func.isWrapper; first | (rw [if_pos (by decide +kernel)]; kernel_rfl) | (rw [if_neg (by decide +kernel)]; exact ⟨rfl, rfl⟩))
    (fun os started H enc _ => lifted os started H enc)

end Go.Proofs.Ytfmlgiakmoadhaa.fnExactClash
namespace Go.Proofs.Ytfmlgiakmoadhaa
theorem fnExactClash_holds : Rows.FnExactClashSaid := fnExactClash.over
#print axioms fnExactClash_holds
end Go.Proofs.Ytfmlgiakmoadhaa
