/-
  Proved: whatever bytes events are drawn from, what is Before, what clashes, where a race is and how many clocks there are is as the model says; each event is Before all later ones of its thread, what is Before is so of three, and one thread alone never races (the law FnOrdered returns true), without any condition.
-/
import Derived.Test.YtllghgcancennaaRows
import Derived.Test.YtllghgcancennaaJ30
import Derived.Test.YtllghgcancennaaJ31
import Derived.Test.YtllghgcancennaaJ34
import Derived.Test.YtllghgcancennaaJ35
import Derived.Test.YtllghgcancennaaJ33
import Derived.Test.YtllghgcancennaaKEvQ
import Derived.Test.YtllghgcancennaaKEvS
import Derived.Test.YtllghgcancennaaJ19
import Derived.Test.YtllghgcancennaaJ29
import Derived.Test.YtllghgcancennaaKClcT
import Derived.WalkKit
import Derived.ProofKit
import Derived.OpenShut
import Derived.ShutString
import Derived.ChangeOld
import Derived.Below
namespace Go.Proofs.Ytllghgcancennaa.fnOrdered
open Go.ChangeShapes Go.WideShapes Go.ChangeAt Go.RowKit
open Go.ChangeMaps (open_string shut_string)
set_option linter.unusedVariables false

theorem own : ownKnob Try.prog.godebug = none := by kernel_rfl
theorem laidOut : laidOutB Try.prog = true := by kernel_rfl
set_option maxRecDepth 100000 in
set_option maxHeartbeats 16000000 in
theorem walk (a0 : Option Addr) (len0 cap0 : Nat) (z0 : List Int) (w : World) (w0 : IsRow .u8 w a0 len0 cap0 z0) :
    Calls Try.prog 8 #[.slice a0 len0 cap0] w fun e w' => e = .returned (.bool true) ∧ Below w.heap.size w w' := by
  by_cases hbig : (1048576 : Int) < (len0 : Int)
  · clear w0
    go_enter Try.func8, Try.ntmps8
    go_wp2_with (go_at_call 22; refine (bigYes _ _ _ _ hbig).mono ?_; rintro e wb ⟨rfl, rfl⟩)
    go_ret
    exact ⟨rfl, Below.refl _ _⟩
  · have hin := in_of w0 (by omega)
    clear w0
    generalize z0.take len0 = zs at hin
    have HIN := hide hin
    clear hin
    obtain ⟨i0, hi, hz0, hz1, hz2⟩ := info_parts Try.infoEvtD
    have HI := hide (And.intro hi (And.intro hz0 (And.intro hz1 hz2)))
    clear hi hz0 hz1 hz2
    go_enter Try.func8, Try.ntmps8
    go_wp2_with fail
    refine (bigNo _ _ _ _ (by omega)).mono ?_
    rintro e wb ⟨rfl, hw⟩
    subst wb
    go_wp2_with fail
    refine (drawBeforeE _ _ _ _ _ HIN.out).mono ?_
    rintro e x1 ⟨xs, v1, i, j, rfl, r1, hxl, b1⟩
    obtain ⟨a1, c1, e1, _⟩ := r1.shape
    subst e1
    have HX := hide r1
    have HBw := hide b1
    replace HIN := hide (HIN.out.at b1)
    clear r1 b1
    go_wp2_with fail
    refine (beforeI _ xs _ i j HX.out (by omega)).mono ?_
    rintro e x2 ⟨he, b1⟩
    obtain ⟨BV, hBV⟩ : ∃ b, beforeX xs i j = b := ⟨_, rfl⟩
    rw [hBV] at he
    subst he
    have HBV := hide hBV
    replace HX := hide (HX.out.at b1)
    replace HBw := hide (HBw.out.trans (b1.mono HBw.out.size))
    replace HIN := hide (HIN.out.at b1)
    clear b1 hBV
    go_wp2_with fail
    refine (drawClashE _ _ _ _ _ HIN.out).mono ?_
    rintro e x3 ⟨c, d, rfl, b1⟩
    replace HX := hide (HX.out.at b1)
    replace HBw := hide (HBw.out.trans (b1.mono HBw.out.size))
    replace HIN := hide (HIN.out.at b1)
    clear b1
    unfold evtV
    go_upto_region 6 with fail
    have bA := ((Below.refl x3.heap.size x3).alloc (Nat.le_refl _) (.cells #[.int .i64 c.w, .int .i64 c.k, .int .i64 c.i, .int .i64 c.a] 40)).alloc (by simp) (.cells #[.int .i64 d.w, .int .i64 d.k, .int .i64 d.i, .int .i64 d.a] 40)
    have E8 := hide (heap_alloc_new (x3.alloc (.cells #[.int .i64 c.w, .int .i64 c.k, .int .i64 c.i, .int .i64 c.a] 40)) (.cells #[.int .i64 d.w, .int .i64 d.k, .int .i64 d.i, .int .i64 d.a] 40))
    have E7 := hide ((Below.heap_alloc _ (.cells #[.int .i64 d.w, .int .i64 d.k, .int .i64 d.i, .int .i64 d.a] 40) _ (by simp)).trans (heap_alloc_new x3 (.cells #[.int .i64 c.w, .int .i64 c.k, .int .i64 c.i, .int .i64 c.a] 40)))
    replace HX := hide (HX.out.at bA)
    replace HBw := hide (HBw.out.trans (bA.mono HBw.out.size))
    replace HIN := hide (HIN.out.at bA)
    obtain ⟨gc, hgc⟩ : ∃ g, x3.heap.size = g := ⟨_, rfl⟩
    simp only [World.size_alloc] at E8
    obtain ⟨gd, hgd⟩ : ∃ g, x3.heap.size + 1 = g := ⟨_, rfl⟩
    rw [hgd] at E8 ⊢
    rw [hgc] at E7 ⊢
    clear bA hgc hgd
    generalize (x3.alloc (.cells #[.int .i64 c.w, .int .i64 c.k, .int .i64 c.i, .int .i64 c.a] 40)).alloc (.cells #[.int .i64 d.w, .int .i64 d.k, .int .i64 d.i, .int .i64 d.a] 40) = x4 at *
    go_wp2_with fail
    refine (drawRaceE _ _ _ _ _ HIN.out).mono ?_
    rintro e x5 ⟨rs, v2, rfl, r2, hrl, b1⟩
    obtain ⟨a2, c2, e2, _⟩ := r2.shape
    subst e2
    have HR := hide r2
    replace HX := hide (HX.out.at b1)
    replace HBw := hide (HBw.out.trans (b1.mono HBw.out.size))
    replace E7 := hide ((b1.block _ (Array.getElem?_eq_some_iff.1 E7.out).1).trans E7.out)
    replace E8 := hide ((b1.block _ (Array.getElem?_eq_some_iff.1 E8.out).1).trans E8.out)
    clear b1 r2 HIN
    go_wp2_with fail
    refine (raceI _ rs _ HR.out (by omega)).mono ?_
    rintro e x6 ⟨he, b1⟩
    obtain ⟨KV, hKV⟩ : ∃ k, raceX rs = k := ⟨_, rfl⟩
    rw [hKV] at he
    subst he
    have HKV := hide hKV
    replace HR := hide (HR.out.at b1)
    replace HX := hide (HX.out.at b1)
    replace HBw := hide (HBw.out.trans (b1.mono HBw.out.size))
    replace E7 := hide ((b1.block _ (Array.getElem?_eq_some_iff.1 E7.out).1).trans E7.out)
    replace E8 := hide ((b1.block _ (Array.getElem?_eq_some_iff.1 E8.out).1).trans E8.out)
    clear b1 hKV
    obtain ⟨CV, hCV⟩ : ∃ b, clashB c d = b := ⟨_, rfl⟩
    have HCV := hide hCV
    have hn1 : (BV != BV) = false := by simp
    have hn2 : (CV != CV) = false := by simp
    have hn3 : (KV != KV) = false := by simp
    clear hCV
    go_upto_region 8 with fail
    have HS : Hid (∀ w', Below x6.heap.size x6 w' → w'.cell? ⟨gc, 0, none⟩ = some (.int .i64 c.w) ∧ w'.cell? ⟨gc, 1, none⟩ = some (.int .i64 c.k) ∧ w'.cell? ⟨gc, 2, none⟩ = some (.int .i64 c.i) ∧ w'.cell? ⟨gc, 3, none⟩ = some (.int .i64 c.a) ∧ w'.cell? ⟨gd, 0, none⟩ = some (.int .i64 d.w) ∧ w'.cell? ⟨gd, 1, none⟩ = some (.int .i64 d.k) ∧ w'.cell? ⟨gd, 2, none⟩ = some (.int .i64 d.i) ∧ w'.cell? ⟨gd, 3, none⟩ = some (.int .i64 d.a)) := hide (fun w' hb => ⟨(box_of ((hb.block _ (Array.getElem?_eq_some_iff.1 E7.out).1).trans E7.out)).1 0 _ rfl, (box_of ((hb.block _ (Array.getElem?_eq_some_iff.1 E7.out).1).trans E7.out)).1 1 _ rfl, (box_of ((hb.block _ (Array.getElem?_eq_some_iff.1 E7.out).1).trans E7.out)).1 2 _ rfl, (box_of ((hb.block _ (Array.getElem?_eq_some_iff.1 E7.out).1).trans E7.out)).1 3 _ rfl, (box_of ((hb.block _ (Array.getElem?_eq_some_iff.1 E8.out).1).trans E8.out)).1 0 _ rfl, (box_of ((hb.block _ (Array.getElem?_eq_some_iff.1 E8.out).1).trans E8.out)).1 1 _ rfl, (box_of ((hb.block _ (Array.getElem?_eq_some_iff.1 E8.out).1).trans E8.out)).1 2 _ rfl, (box_of ((hb.block _ (Array.getElem?_eq_some_iff.1 E8.out).1).trans E8.out)).1 3 _ rfl⟩)
    have HD : Hid (Below x6.heap.size x6 x6.drew) := hide (Below.refl x6.heap.size x6).drew
    refine wp_region_held_drew (S := fun w' => w'.cell? ⟨gc, 0, none⟩ = some (.int .i64 c.w) ∧ w'.cell? ⟨gc, 1, none⟩ = some (.int .i64 c.k) ∧ w'.cell? ⟨gc, 2, none⟩ = some (.int .i64 c.i) ∧ w'.cell? ⟨gc, 3, none⟩ = some (.int .i64 c.a) ∧ w'.cell? ⟨gd, 0, none⟩ = some (.int .i64 d.w) ∧ w'.cell? ⟨gd, 1, none⟩ = some (.int .i64 d.k) ∧ w'.cell? ⟨gd, 2, none⟩ = some (.int .i64 d.i) ∧ w'.cell? ⟨gd, 3, none⟩ = some (.int .i64 d.a)) (by kernel_rfl) (HS.out _ HD.out) (fun hHeld => ?_)
    generalize x6.drew = x0 at HD hHeld ⊢
    refine wpAnyH_take (i := 0) (v := ?_) rfl (by kernel_rfl) (by kernel_rfl) (by kernel_rfl) (fun _ _ _ h => h) (Or.inl ⟨by rfl, ?_⟩) (by assumption) ?_
    rotate_left
    · intro w' hSw
      try dsimp only at hSw
      go_simp; try rfl
    simp only [List.getElem_toArray, List.getElem_cons_zero, Act.put, List.setIfInBounds_toArray, List.set_cons_zero, List.set_cons_succ]
    refine wpAnyH_take (i := 1) (v := ?_) rfl (by kernel_rfl) (by kernel_rfl) (by kernel_rfl) (fun _ _ _ h => h) (Or.inl ⟨by rfl, ?_⟩) (by assumption) ?_
    rotate_left
    · intro w' hSw
      try dsimp only at hSw
      go_simp; try rfl
    simp only [List.getElem_toArray, List.getElem_cons_succ, List.getElem_cons_zero, Act.put, List.setIfInBounds_toArray, List.set_cons_zero, List.set_cons_succ]
    refine wpAnyH_take (i := 2) (v := ?_) rfl (by kernel_rfl) (by kernel_rfl) (by kernel_rfl) (fun _ _ _ h => h) (Or.inl ⟨by rfl, ?_⟩) (by assumption) ?_
    rotate_left
    · intro w' hSw
      try dsimp only at hSw
      go_simp; try rfl
    simp only [List.getElem_toArray, List.getElem_cons_succ, List.getElem_cons_zero, Act.put, List.setIfInBounds_toArray, List.set_cons_zero, List.set_cons_succ]
    refine wpAnyH_take (i := 3) (v := ?_) rfl (by kernel_rfl) (by kernel_rfl) (by kernel_rfl) (fun _ _ _ h => h) (Or.inl ⟨by rfl, ?_⟩) (by assumption) ?_
    rotate_left
    · intro w' hSw
      try dsimp only at hSw
      go_simp; try rfl
    simp only [List.getElem_toArray, List.getElem_cons_succ, List.getElem_cons_zero, Act.put, List.setIfInBounds_toArray, List.set_cons_zero, List.set_cons_succ]
    refine wpAnyH_ready (rs := [4]) (by kernel_rfl) (by simp) (AllReadyH.cons rfl (fun K hK => ?_) AllReadyH.nil)
    refine step_callW (some 42) rfl (by kernel_rfl) 10 _ _ rfl #[.slice a1 xs.length c1, .int .i64 i, .int .i64 j] (by kernel_rfl) (beforeS _ xs _ i j (HX.out.at HD.out) (by omega)) ?_
    rintro e x42 ⟨he, b1⟩
    rw [HBV.out] at he
    subst he
    refine ⟨_, rfl, ?_⟩
    replace HD := hide (HD.out.trans (b1.mono HD.out.size))
    clear b1
    refine hK.out _ _ (HS.out _ HD.out) (fun hHeld => ?_)
    clear hK K
    simp only [Act.put, List.setIfInBounds_toArray, List.set_cons_zero, List.set_cons_succ]
    refine wpAnyH_take (i := 5) (v := ?_) rfl (by kernel_rfl) (by kernel_rfl) (by kernel_rfl) (fun _ _ _ h => h) (Or.inl ⟨by rfl, ?_⟩) (by assumption) ?_
    rotate_left
    · intro w' hSw
      try dsimp only at hSw
      go_simp; try rfl
    simp only [List.getElem_toArray, List.getElem_cons_succ, List.getElem_cons_zero, Act.put, List.setIfInBounds_toArray, List.set_cons_zero, List.set_cons_succ]
    refine wpAnyH_take (i := 6) (v := ?_) rfl (by kernel_rfl) (by kernel_rfl) (by kernel_rfl) (fun _ _ _ h => h) (Or.inl ⟨by rfl, ?_⟩) (by assumption) ?_
    rotate_left
    · intro w' hSw
      try dsimp only at hSw
      go_simp; try rfl
    simp only [List.getElem_toArray, List.getElem_cons_succ, List.getElem_cons_zero, Act.put, List.setIfInBounds_toArray, List.set_cons_zero, List.set_cons_succ]
    refine wpAnyH_take (i := 7) (v := ?_) rfl (by kernel_rfl) (by kernel_rfl) (by kernel_rfl) (fun _ _ _ h => h) (Or.inl ⟨by rfl, ?_⟩) (by assumption) ?_
    rotate_left
    · intro w' hSw
      try dsimp only at hSw
      go_simp; try rfl
    simp only [List.getElem_toArray, List.getElem_cons_succ, List.getElem_cons_zero, Act.put, List.setIfInBounds_toArray, List.set_cons_zero, List.set_cons_succ]
    refine wpAnyH_take (i := 8) (v := ?_) rfl (by kernel_rfl) (by kernel_rfl) (by kernel_rfl) (fun _ _ _ h => h) (Or.inl ⟨by rfl, ?_⟩) (by assumption) ?_
    rotate_left
    · intro w' hSw
      try dsimp only at hSw
      go_simp; try rfl
    simp only [List.getElem_toArray, List.getElem_cons_succ, List.getElem_cons_zero, Act.put, List.setIfInBounds_toArray, List.set_cons_zero, List.set_cons_succ]
    refine wpAnyH_take (i := 10) (v := ?_) rfl (by kernel_rfl) (by kernel_rfl) (by kernel_rfl) (fun _ _ _ h => h) (Or.inl ⟨by rfl, ?_⟩) (by assumption) ?_
    rotate_left
    · intro w' hSw
      try dsimp only at hSw
      go_simp; try rfl
    simp only [List.getElem_toArray, List.getElem_cons_succ, List.getElem_cons_zero, Act.put, List.setIfInBounds_toArray, List.set_cons_zero, List.set_cons_succ]
    refine wpAnyH_take (i := 11) (v := ?_) rfl (by kernel_rfl) (by kernel_rfl) (by kernel_rfl) (fun _ _ _ h => h) (Or.inl ⟨by rfl, ?_⟩) (by assumption) ?_
    rotate_left
    · intro w' hSw
      try dsimp only at hSw
      go_simp; try rfl
    simp only [List.getElem_toArray, List.getElem_cons_succ, List.getElem_cons_zero, Act.put, List.setIfInBounds_toArray, List.set_cons_zero, List.set_cons_succ]
    refine wpAnyH_ready (rs := [9]) (by kernel_rfl) (by simp) (AllReadyH.cons rfl (fun K hK => ?_) AllReadyH.nil)
    refine step_callW (some 47) rfl (by kernel_rfl) 31 _ _ rfl #[.agg #[.int .i64 c.w, .int .i64 c.k, .int .i64 c.i, .int .i64 c.a], .agg #[.int .i64 d.w, .int .i64 d.k, .int .i64 d.i, .int .i64 d.a]] (by kernel_rfl) (clashI _ c d) ?_
    rintro e x47 ⟨he, b1⟩
    rw [HCV.out] at he
    subst he
    refine ⟨_, rfl, ?_⟩
    replace HD := hide (HD.out.trans (b1.mono HD.out.size))
    clear b1
    refine hK.out _ _ (HS.out _ HD.out) (fun hHeld => ?_)
    clear hK K
    simp only [Act.put, List.setIfInBounds_toArray, List.set_cons_zero, List.set_cons_succ]
    refine wpAnyH_ready (rs := [12]) (by kernel_rfl) (by simp) (AllReadyH.cons rfl (fun K hK => ?_) AllReadyH.nil)
    refine step_callW (some 50) rfl (by kernel_rfl) 32 _ _ rfl #[.agg #[.int .i64 c.w, .int .i64 c.k, .int .i64 c.i, .int .i64 c.a], .agg #[.int .i64 d.w, .int .i64 d.k, .int .i64 d.i, .int .i64 d.a]] (by kernel_rfl) (clashS _ c d) ?_
    rintro e x50 ⟨he, b1⟩
    rw [HCV.out] at he
    subst he
    refine ⟨_, rfl, ?_⟩
    replace HD := hide (HD.out.trans (b1.mono HD.out.size))
    clear b1
    refine hK.out _ _ (HS.out _ HD.out) (fun hHeld => ?_)
    clear hK K
    simp only [Act.put, List.setIfInBounds_toArray, List.set_cons_zero, List.set_cons_succ]
    refine wpAnyH_take (i := 13) (v := ?_) rfl (by kernel_rfl) (by kernel_rfl) (by kernel_rfl) (fun _ _ _ h => h) (Or.inl ⟨by rfl, ?_⟩) (by assumption) ?_
    rotate_left
    · intro w' hSw
      try dsimp only at hSw
      go_simp; try rfl
    simp only [List.getElem_toArray, List.getElem_cons_succ, List.getElem_cons_zero, Act.put, List.setIfInBounds_toArray, List.set_cons_zero, List.set_cons_succ]
    refine wpAnyH_take (i := 14) (v := ?_) rfl (by kernel_rfl) (by kernel_rfl) (by kernel_rfl) (fun _ _ _ h => h) (Or.inl ⟨by rfl, ?_⟩) (by assumption) ?_
    rotate_left
    · intro w' hSw
      try dsimp only at hSw
      go_simp; try rfl
    simp only [List.getElem_toArray, List.getElem_cons_succ, List.getElem_cons_zero, Act.put, List.setIfInBounds_toArray, List.set_cons_zero, List.set_cons_succ]
    refine wpAnyH_take (i := 15) (v := ?_) rfl (by kernel_rfl) (by kernel_rfl) (by kernel_rfl) (fun _ _ _ h => h) (Or.inl ⟨by rfl, ?_⟩) (by assumption) ?_
    rotate_left
    · intro w' hSw
      try dsimp only at hSw
      go_simp; try rfl
    simp only [List.getElem_toArray, List.getElem_cons_succ, List.getElem_cons_zero, Act.put, List.setIfInBounds_toArray, List.set_cons_zero, List.set_cons_succ]
    refine wpAnyH_take (i := 16) (v := ?_) rfl (by kernel_rfl) (by kernel_rfl) (by kernel_rfl) (fun _ _ _ h => h) (Or.inl ⟨by rfl, ?_⟩) (by assumption) ?_
    rotate_left
    · intro w' hSw
      try dsimp only at hSw
      go_simp; try rfl
    simp only [List.getElem_toArray, List.getElem_cons_succ, List.getElem_cons_zero, Act.put, List.setIfInBounds_toArray, List.set_cons_zero, List.set_cons_succ]
    refine wpAnyH_take (i := 17) (v := ?_) rfl (by kernel_rfl) (by kernel_rfl) (by kernel_rfl) (fun _ _ _ h => h) (Or.inl ⟨by rfl, ?_⟩) (by assumption) ?_
    rotate_left
    · intro w' hSw
      try dsimp only at hSw
      go_simp; try rfl
    simp only [List.getElem_toArray, List.getElem_cons_succ, List.getElem_cons_zero, Act.put, List.setIfInBounds_toArray, List.set_cons_zero, List.set_cons_succ]
    refine wpAnyH_take (i := 19) (v := ?_) rfl (by kernel_rfl) (by kernel_rfl) (by kernel_rfl) (fun _ _ _ h => h) (Or.inl ⟨by rfl, ?_⟩) (by assumption) ?_
    rotate_left
    · intro w' hSw
      try dsimp only at hSw
      go_simp; try rfl
    simp only [List.getElem_toArray, List.getElem_cons_succ, List.getElem_cons_zero, Act.put, List.setIfInBounds_toArray, List.set_cons_zero, List.set_cons_succ]
    refine wpAnyH_take (i := 20) (v := ?_) rfl (by kernel_rfl) (by kernel_rfl) (by kernel_rfl) (fun _ _ _ h => h) (Or.inl ⟨by rfl, ?_⟩) (by assumption) ?_
    rotate_left
    · intro w' hSw
      try dsimp only at hSw
      go_simp; try rfl
    simp only [List.getElem_toArray, List.getElem_cons_succ, List.getElem_cons_zero, Act.put, List.setIfInBounds_toArray, List.set_cons_zero, List.set_cons_succ]
    refine wpAnyH_ready (rs := [18]) (by kernel_rfl) (by simp) (AllReadyH.cons rfl (fun K hK => ?_) AllReadyH.nil)
    refine step_callW (some 56) rfl (by kernel_rfl) 31 _ _ rfl #[.agg #[.int .i64 c.w, .int .i64 c.k, .int .i64 c.i, .int .i64 c.a], .agg #[.int .i64 d.w, .int .i64 d.k, .int .i64 d.i, .int .i64 d.a]] (by kernel_rfl) (clashI _ c d) ?_
    rintro e x56 ⟨he, b1⟩
    rw [HCV.out] at he
    subst he
    refine ⟨_, rfl, ?_⟩
    replace HD := hide (HD.out.trans (b1.mono HD.out.size))
    clear b1
    refine hK.out _ _ (HS.out _ HD.out) (fun hHeld => ?_)
    clear hK K
    simp only [Act.put, List.setIfInBounds_toArray, List.set_cons_zero, List.set_cons_succ]
    refine wpAnyH_ready (rs := [21]) (by kernel_rfl) (by simp) (AllReadyH.cons rfl (fun K hK => ?_) AllReadyH.nil)
    refine step_callW (some 59) rfl (by kernel_rfl) 31 _ _ rfl #[.agg #[.int .i64 d.w, .int .i64 d.k, .int .i64 d.i, .int .i64 d.a], .agg #[.int .i64 c.w, .int .i64 c.k, .int .i64 c.i, .int .i64 c.a]] (by kernel_rfl) (clashI _ d c) ?_
    rintro e x59 ⟨he, b1⟩
    rw [clash_comm, HCV.out] at he
    subst he
    refine ⟨_, rfl, ?_⟩
    replace HD := hide (HD.out.trans (b1.mono HD.out.size))
    clear b1
    refine hK.out _ _ (HS.out _ HD.out) (fun hHeld => ?_)
    clear hK K
    simp only [Act.put, List.setIfInBounds_toArray, List.set_cons_zero, List.set_cons_succ]
    refine wpAnyH_take (i := 22) (v := ?_) rfl (by kernel_rfl) (by kernel_rfl) (by kernel_rfl) (fun _ _ _ h => h) (Or.inl ⟨by rfl, ?_⟩) (by assumption) ?_
    rotate_left
    · intro w' hSw
      try dsimp only at hSw
      go_simp; try rfl
    simp only [List.getElem_toArray, List.getElem_cons_succ, List.getElem_cons_zero, Act.put, List.setIfInBounds_toArray, List.set_cons_zero, List.set_cons_succ]
    refine wpAnyH_take (i := 23) (v := ?_) rfl (by kernel_rfl) (by kernel_rfl) (by kernel_rfl) (fun _ _ _ h => h) (Or.inl ⟨by rfl, ?_⟩) (by assumption) ?_
    rotate_left
    · intro w' hSw
      try dsimp only at hSw
      go_simp; try rfl
    simp only [List.getElem_toArray, List.getElem_cons_succ, List.getElem_cons_zero, Act.put, List.setIfInBounds_toArray, List.set_cons_zero, List.set_cons_succ]
    refine wpAnyH_take (i := 24) (v := ?_) rfl (by kernel_rfl) (by kernel_rfl) (by kernel_rfl) (fun _ _ _ h => h) (Or.inl ⟨by rfl, ?_⟩) (by assumption) ?_
    rotate_left
    · intro w' hSw
      try dsimp only at hSw
      go_simp; try rfl
    simp only [List.getElem_toArray, List.getElem_cons_succ, List.getElem_cons_zero, Act.put, List.setIfInBounds_toArray, List.set_cons_zero, List.set_cons_succ]
    refine wpAnyH_take (i := 25) (v := ?_) rfl (by kernel_rfl) (by kernel_rfl) (by kernel_rfl) (fun _ _ _ h => h) (Or.inl ⟨by rfl, ?_⟩) (by assumption) ?_
    rotate_left
    · intro w' hSw
      try dsimp only at hSw
      go_simp; try rfl
    simp only [List.getElem_toArray, List.getElem_cons_succ, List.getElem_cons_zero, Act.put, List.setIfInBounds_toArray, List.set_cons_zero, List.set_cons_succ]
    refine wpAnyH_take (i := 26) (v := ?_) rfl (by kernel_rfl) (by kernel_rfl) (by kernel_rfl) (fun _ _ _ h => h) (Or.inl ⟨by rfl, ?_⟩) (by assumption) ?_
    rotate_left
    · intro w' hSw
      try dsimp only at hSw
      go_simp; try rfl
    simp only [List.getElem_toArray, List.getElem_cons_succ, List.getElem_cons_zero, Act.put, List.setIfInBounds_toArray, List.set_cons_zero, List.set_cons_succ]
    refine wpAnyH_ready (rs := [27]) (by kernel_rfl) (by simp) (AllReadyH.cons rfl (fun K hK => ?_) AllReadyH.nil)
    refine step_callW (some 65) rfl (by kernel_rfl) 20 _ _ rfl #[.slice a2 rs.length c2] (by kernel_rfl) (raceS _ rs _ (HR.out.at HD.out) (by omega)) ?_
    rintro e x65 ⟨he, b1⟩
    rw [HKV.out] at he
    subst he
    refine ⟨_, rfl, ?_⟩
    replace HD := hide (HD.out.trans (b1.mono HD.out.size))
    clear b1
    refine hK.out _ _ (HS.out _ HD.out) (fun hHeld => ?_)
    clear hK K
    simp only [Act.put, List.setIfInBounds_toArray, List.set_cons_zero, List.set_cons_succ]
    refine wpAnyH_take (i := 28) (v := ?_) rfl (by kernel_rfl) (by kernel_rfl) (by kernel_rfl) (fun _ _ _ h => h) (Or.inl ⟨by rfl, ?_⟩) (by assumption) ?_
    rotate_left
    · intro w' hSw
      try dsimp only at hSw
      go_simp; try rfl
    simp only [List.getElem_toArray, List.getElem_cons_succ, List.getElem_cons_zero, Act.put, List.setIfInBounds_toArray, List.set_cons_zero, List.set_cons_succ]
    refine wpAnyH_take (i := 29) (v := ?_) rfl (by kernel_rfl) (by kernel_rfl) (by kernel_rfl) (fun _ _ _ h => h) (Or.inl ⟨by rfl, ?_⟩) (by assumption) ?_
    rotate_left
    · intro w' hSw
      try dsimp only at hSw
      go_simp; try rfl
    simp only [List.getElem_toArray, List.getElem_cons_succ, List.getElem_cons_zero, Act.put, List.setIfInBounds_toArray, List.set_cons_zero, List.set_cons_succ]
    refine wpAnyH_done (by kernel_rfl) ?_ _
    replace HR := hide (HR.out.at HD.out)
    replace HBw := hide (HBw.out.trans (HD.out.mono HBw.out.size))
    clear HS HD hHeld E7 E8 HX
    go_wp2_with fail
    refine (clocksI _ rs _ HR.out (by omega)).mono ?_
    rintro e y1 ⟨u2, rfl, p2, b2⟩
    obtain ⟨d2, f2, ee2⟩ := p2.shape
    subst ee2
    replace HR := hide (HR.out.at b2)
    replace HBw := hide (HBw.out.trans (b2.mono HBw.out.size))
    clear p2 b2
    go_wp2_with fail
    refine (clocksS _ rs _ HR.out (by omega)).mono ?_
    rintro e X ⟨u3, rfl, p3, b3⟩
    obtain ⟨d3, f3, ee3⟩ := p3.shape
    subst ee3
    replace HR := hide (HR.out.at b3)
    replace HBw := hide (HBw.out.trans (b3.mono HBw.out.size))
    clear p3 b3
    have HEV : Hid (0 < (clocksX rs).length → evB rs = true ∧ (clocksX rs).length = rs.length) := hide (fun h => by
      unfold clocksX at h ⊢
      split at h
      · rename_i he
        rw [if_pos he, clkN_len]
        exact ⟨he, rfl⟩
      · simp at h)
    have hLb : (clocksX rs).length ≤ 15 := by
      by_cases h : 0 < (clocksX rs).length
      · have := (HEV.out h).2
        omega
      · omega
    generalize hLe : (clocksX rs).length = L at *
    have hne : ((L : Int) != (L : Int)) = false := by simp
    go_wp2
    go_loopw [12, 13, 14] (fun k _ _ wr => ∃ x : Nat, x ≤ L ∧ k = .int .i64 (x : Int) ∧ Hid (Below X.heap.size X wr)) (fun k _ _ _ => L - (intOf k).toNat)
    case atStart => exact ⟨0, Nat.zero_le _, rfl, hide (Below.refl _ _)⟩
    case round =>
      obtain ⟨x, hx, rfl, HB⟩ := hrel
      by_cases hlx : x < L
      · obtain ⟨heb, hLR⟩ := HEV.out (by omega)
        have HLR := hide hLR
        clear hLR
        have hxI : (x : Int) < (L : Int) := by omega
        obtain ⟨_, _, ea, _, _, hc⟩ := event_at HR.out
        cases ea
        obtain ⟨b2, o2, rfl, hb2, hc2⟩ := hc (by have := HLR.out; omega)
        clear hc
        have hwx : IntKind.i64.wrap ((x : Int) + 1) = (((x + 1 : Nat)) : Int) := by rw [IntKind.wrap_i64]; omega
        go_wp2
        go_loopw [13, 14] (fun k _ wr => ∃ y : Nat, x < y ∧ y ≤ L ∧ k = .int .i64 (y : Int) ∧ Hid (Below X.heap.size X wr)) (fun k _ _ => L - (intOf k).toNat)
        case atStart => exact ⟨x + 1, by omega, by omega, by first | rfl | go_num, HB⟩
        case round =>
          clear HB
          obtain ⟨y, hxy, hy, rfl, HBq⟩ := hrel
          by_cases hly : y < L
          · have hyR : y < rs.length := by have := HLR.out; omega
            have hxR : x < rs.length := by have := HLR.out; omega
            have hyI : (y : Int) < (L : Int) := by omega
            have hyRI : (y : Int) < (rs.length : Int) := by omega
            have hxRI : (x : Int) < (rs.length : Int) := by omega
            obtain ⟨p, hp⟩ : ∃ p, rs.getD x default = p := ⟨_, rfl⟩
            obtain ⟨q, hq⟩ : ∃ q, rs.getD y default = q := ⟨_, rfl⟩
            have ex := (hc2 x hxR).1
            have ey := (hc2 y hyR).1
            rw [hp] at ex
            rw [hq] at ey
            by_cases hw : p.w = q.w
            · have hpq : (rs.getD x default).w = (rs.getD y default).w := by rw [hp, hq]; exact hw
              go_upto_region 19 with fail
              have HS : Hid (∀ w', Below wr.heap.size wr w' → w'.cell? ⟨b2, o2 + x * 4, none⟩ = some (.int .i64 p.w) ∧ w'.cell? ⟨b2, o2 + y * 4, none⟩ = some (.int .i64 q.w)) := hide (fun w' hb => ⟨((HBq.out.trans (hb.mono HBq.out.size)).cell (p := ⟨b2, o2 + x * 4, none⟩) hb2).trans ex, ((HBq.out.trans (hb.mono HBq.out.size)).cell (p := ⟨b2, o2 + y * 4, none⟩) hb2).trans ey⟩)
              have HD : Hid (Below wr.heap.size wr wr.drew) := hide (Below.refl wr.heap.size wr).drew
              refine wp_region_held_drew (S := fun w' => w'.cell? ⟨b2, o2 + x * 4, none⟩ = some (.int .i64 p.w) ∧ w'.cell? ⟨b2, o2 + y * 4, none⟩ = some (.int .i64 q.w)) (by kernel_rfl) (HS.out _ HD.out) (fun hHeld => ?_)
              generalize wr.drew = x0 at HD hHeld ⊢
              refine wpAnyH_take (i := 0) (v := ?_) rfl (by kernel_rfl) (by kernel_rfl) (by kernel_rfl) (fun _ _ _ h => h) (Or.inl ⟨by rfl, ?_⟩) (by assumption) ?_
              rotate_left
              · intro w' hSw
                try dsimp only at hSw
                go_simp; try rfl
              simp only [List.getElem_toArray, List.getElem_cons_zero, Act.put, List.setIfInBounds_toArray, List.set_cons_zero, List.set_cons_succ]
              refine wpAnyH_take (i := 1) (v := ?_) rfl (by kernel_rfl) (by kernel_rfl) (by kernel_rfl) (fun _ _ _ h => h) (Or.inl ⟨by rfl, ?_⟩) (by assumption) ?_
              rotate_left
              · intro w' hSw
                try dsimp only at hSw
                go_simp; try rfl
              simp only [List.getElem_toArray, List.getElem_cons_succ, List.getElem_cons_zero, Act.put, List.setIfInBounds_toArray, List.set_cons_zero, List.set_cons_succ]
              refine wpAnyH_take (i := 2) (v := ?_) rfl (by kernel_rfl) (by kernel_rfl) (by kernel_rfl) (fun _ _ _ h => h) (Or.inl ⟨by rfl, ?_⟩) (by assumption) ?_
              rotate_left
              · intro w' hSw
                try dsimp only at hSw
                go_simp; try rfl
              simp only [List.getElem_toArray, List.getElem_cons_succ, List.getElem_cons_zero, Act.put, List.setIfInBounds_toArray, List.set_cons_zero, List.set_cons_succ]
              refine wpAnyH_take (i := 3) (v := ?_) rfl (by kernel_rfl) (by kernel_rfl) (by kernel_rfl) (fun _ _ _ h => h) (Or.inl ⟨by rfl, ?_⟩) (by assumption) ?_
              rotate_left
              · intro w' hSw
                try dsimp only at hSw
                go_simp; try rfl
              simp only [List.getElem_toArray, List.getElem_cons_succ, List.getElem_cons_zero, Act.put, List.setIfInBounds_toArray, List.set_cons_zero, List.set_cons_succ]
              refine wpAnyH_take (i := 4) (v := ?_) rfl (by kernel_rfl) (by kernel_rfl) (by kernel_rfl) (fun _ _ _ h => h) (Or.inl ⟨by rfl, ?_⟩) (by assumption) ?_
              rotate_left
              · intro w' hSw
                try dsimp only at hSw
                go_simp; try rfl
              simp only [List.getElem_toArray, List.getElem_cons_succ, List.getElem_cons_zero, Act.put, List.setIfInBounds_toArray, List.set_cons_zero, List.set_cons_succ]
              refine wpAnyH_take (i := 5) (v := ?_) rfl (by kernel_rfl) (by kernel_rfl) (by kernel_rfl) (fun _ _ _ h => h) (Or.inl ⟨by rfl, ?_⟩) (by assumption) ?_
              rotate_left
              · intro w' hSw
                try dsimp only at hSw
                go_simp; try rfl
              simp only [List.getElem_toArray, List.getElem_cons_succ, List.getElem_cons_zero, Act.put, List.setIfInBounds_toArray, List.set_cons_zero, List.set_cons_succ]
              refine wpAnyH_take (i := 6) (v := ?_) rfl (by kernel_rfl) (by kernel_rfl) (by kernel_rfl) (fun _ _ _ h => h) (Or.inl ⟨by rfl, ?_⟩) (by assumption) ?_
              rotate_left
              · intro w' hSw
                try dsimp only at hSw
                go_simp; try rfl
              simp only [List.getElem_toArray, List.getElem_cons_succ, List.getElem_cons_zero, Act.put, List.setIfInBounds_toArray, List.set_cons_zero, List.set_cons_succ]
              refine wpAnyH_take (i := 7) (v := ?_) rfl (by kernel_rfl) (by kernel_rfl) (by kernel_rfl) (fun _ _ _ h => h) (Or.inl ⟨by rfl, ?_⟩) (by assumption) ?_
              rotate_left
              · intro w' hSw
                try dsimp only at hSw
                go_simp; try rfl
              simp only [List.getElem_toArray, List.getElem_cons_succ, List.getElem_cons_zero, Act.put, List.setIfInBounds_toArray, List.set_cons_zero, List.set_cons_succ]
              refine wpAnyH_take (i := 8) (v := ?_) rfl (by kernel_rfl) (by kernel_rfl) (by kernel_rfl) (fun _ _ _ h => h) (Or.inl ⟨by rfl, ?_⟩) (by assumption) ?_
              rotate_left
              · intro w' hSw
                try dsimp only at hSw
                go_simp; try rfl
              simp only [List.getElem_toArray, List.getElem_cons_succ, List.getElem_cons_zero, Act.put, List.setIfInBounds_toArray, List.set_cons_zero, List.set_cons_succ]
              refine wpAnyH_take (i := 9) (v := ?_) rfl (by kernel_rfl) (by kernel_rfl) (by kernel_rfl) (fun _ _ _ h => h) (Or.inl ⟨by rfl, ?_⟩) (by assumption) ?_
              rotate_left
              · intro w' hSw
                try dsimp only at hSw
                go_simp; try rfl
              simp only [List.getElem_toArray, List.getElem_cons_succ, List.getElem_cons_zero, Act.put, List.setIfInBounds_toArray, List.set_cons_zero, List.set_cons_succ]
              refine wpAnyH_take (i := 10) (v := ?_) rfl (by kernel_rfl) (by kernel_rfl) (by kernel_rfl) (fun _ _ _ h => h) (Or.inl ⟨by rfl, ?_⟩) (by assumption) ?_
              rotate_left
              · intro w' hSw
                try dsimp only at hSw
                go_simp; try rfl
              simp only [List.getElem_toArray, List.getElem_cons_succ, List.getElem_cons_zero, Act.put, List.setIfInBounds_toArray, List.set_cons_zero, List.set_cons_succ]
              refine wpAnyH_take (i := 11) (v := ?_) rfl (by kernel_rfl) (by kernel_rfl) (by kernel_rfl) (fun _ _ _ h => h) (Or.inl ⟨by rfl, ?_⟩) (by assumption) ?_
              rotate_left
              · intro w' hSw
                try dsimp only at hSw
                go_simp; try rfl
              simp only [List.getElem_toArray, List.getElem_cons_succ, List.getElem_cons_zero, Act.put, List.setIfInBounds_toArray, List.set_cons_zero, List.set_cons_succ]
              refine wpAnyH_take (i := 12) (v := ?_) rfl (by kernel_rfl) (by kernel_rfl) (by kernel_rfl) (fun _ _ _ h => h) (Or.inl ⟨by rfl, ?_⟩) (by assumption) ?_
              rotate_left
              · intro w' hSw
                try dsimp only at hSw
                go_simp; try rfl
              simp only [List.getElem_toArray, List.getElem_cons_succ, List.getElem_cons_zero, Act.put, List.setIfInBounds_toArray, List.set_cons_zero, List.set_cons_succ]
              refine wpAnyH_take (i := 13) (v := ?_) rfl (by kernel_rfl) (by kernel_rfl) (by kernel_rfl) (fun _ _ _ h => h) (Or.inl ⟨by rfl, ?_⟩) (by assumption) ?_
              rotate_left
              · intro w' hSw
                try dsimp only at hSw
                go_simp; try rfl
              simp only [List.getElem_toArray, List.getElem_cons_succ, List.getElem_cons_zero, Act.put, List.setIfInBounds_toArray, List.set_cons_zero, List.set_cons_succ]
              refine wpAnyH_take (i := 14) (v := ?_) rfl (by kernel_rfl) (by kernel_rfl) (by kernel_rfl) (fun _ _ _ h => h) (Or.inl ⟨by rfl, ?_⟩) (by assumption) ?_
              rotate_left
              · intro w' hSw
                try dsimp only at hSw
                go_simp; try rfl
              simp only [List.getElem_toArray, List.getElem_cons_succ, List.getElem_cons_zero, Act.put, List.setIfInBounds_toArray, List.set_cons_zero, List.set_cons_succ]
              refine wpAnyH_ready (rs := [15]) (by kernel_rfl) (by simp) (AllReadyH.cons rfl (fun K hK => ?_) AllReadyH.nil)
              refine step_callW (some 105) rfl (by kernel_rfl) 12 _ _ rfl #[.slice (some ⟨b2, o2, none⟩) rs.length c2, .int .i64 (x : Int), .int .i64 (y : Int)] (by kernel_rfl) (beforeI _ rs _ (x : Int) (y : Int) (HR.out.at (HBq.out.trans (HD.out.mono HBq.out.size))) (by omega)) ?_
              rintro e x105 ⟨he, b1⟩
              rw [bef_thread heb hxy hyR hpq] at he
              subst he
              refine ⟨_, rfl, ?_⟩
              replace HD := hide (HD.out.trans (b1.mono HD.out.size))
              clear b1
              refine hK.out _ _ (HS.out _ HD.out) (fun hHeld => ?_)
              clear hK K
              simp only [Act.put, List.setIfInBounds_toArray, List.set_cons_zero, List.set_cons_succ]
              refine wpAnyH_take (i := 16) (v := ?_) rfl (by kernel_rfl) (by kernel_rfl) (by kernel_rfl) (fun _ _ _ h => h) (Or.inl ⟨by rfl, ?_⟩) (by assumption) ?_
              rotate_left
              · intro w' hSw
                try dsimp only at hSw
                go_simp; try rfl
              simp only [List.getElem_toArray, List.getElem_cons_succ, List.getElem_cons_zero, Act.put, List.setIfInBounds_toArray, List.set_cons_zero, List.set_cons_succ]
              refine wpAnyH_take (i := 17) (v := ?_) rfl (by kernel_rfl) (by kernel_rfl) (by kernel_rfl) (fun _ _ _ h => h) (Or.inl ⟨by rfl, ?_⟩) (by assumption) ?_
              rotate_left
              · intro w' hSw
                try dsimp only at hSw
                go_simp; try rfl
              simp only [List.getElem_toArray, List.getElem_cons_succ, List.getElem_cons_zero, Act.put, List.setIfInBounds_toArray, List.set_cons_zero, List.set_cons_succ]
              refine wpAnyH_done (by kernel_rfl) ?_ _
              have HB2 := hide (HBq.out.trans (HD.out.mono HBq.out.size))
              clear HS HD hHeld
              clear ex ey
              have hwy : IntKind.i64.wrap ((y : Int) + 1) = (((y + 1 : Nat)) : Int) := by rw [IntKind.wrap_i64]; omega
              go_wp2
              go_loopw [14] (fun k wr => ∃ z : Nat, y < z ∧ z ≤ L ∧ k = .int .i64 (z : Int) ∧ Hid (Below X.heap.size X wr)) (fun k _ => L - (intOf k).toNat)
              case atStart => exact ⟨y + 1, by omega, by omega, by first | rfl | go_num, HB2⟩
              case round =>
                clear HB2
                obtain ⟨z, hyz, hz, rfl, HBz⟩ := hrel
                by_cases hlz : z < L
                · have hRz : z < rs.length := by have := HLR.out; omega
                  have hzI : (z : Int) < (L : Int) := by omega
                  go_wp2_with fail
                  refine (beforeI _ rs _ (x : Int) (y : Int) (HR.out.at HBz.out) (by omega)).mono ?_
                  rintro e y1 ⟨rfl, b1⟩
                  have HB3 := hide (HBz.out.trans (b1.mono HBz.out.size))
                  clear b1
                  cases B1 : beforeX rs (x : Int) (y : Int) with
                  | false =>
                    go_wp2
                    exact ⟨⟨z + 1, by omega, by omega, by go_num, HB3⟩, by simp [intOf]; omega⟩
                  | true =>
                    go_wp2_with fail
                    refine (beforeI _ rs _ (y : Int) (z : Int) (HR.out.at HB3.out) (by omega)).mono ?_
                    rintro e y2 ⟨rfl, b1⟩
                    have HB4 := hide (HB3.out.trans (b1.mono HB3.out.size))
                    clear b1
                    cases B2 : beforeX rs (y : Int) (z : Int) with
                    | false =>
                      go_wp2
                      exact ⟨⟨z + 1, by omega, by omega, by go_num, HB4⟩, by simp [intOf]; omega⟩
                    | true =>
                      go_wp2_with fail
                      refine (beforeI _ rs _ (x : Int) (z : Int) (HR.out.at HB4.out) (by omega)).mono ?_
                      rintro e y3 ⟨he, b1⟩
                      rw [bef_trans heb hxy hyz hRz B1 B2] at he
                      subst he
                      have HB5 := hide (HB4.out.trans (b1.mono HB4.out.size))
                      clear b1
                      go_wp2
                      exact ⟨⟨z + 1, by omega, by omega, by go_num, HB5⟩, by simp [intOf]; omega⟩
                · obtain rfl : z = L := by omega
                  have hnz : ¬ (z : Int) < (z : Int) := by omega
                  go_wp2
                  exact ⟨⟨y + 1, by omega, by omega, by go_num, HBz⟩, by simp [intOf]; omega⟩
            · have hwb : (p.w == q.w) = false := by simpa using hw
              go_upto_region 19 with fail
              have HS : Hid (∀ w', Below wr.heap.size wr w' → w'.cell? ⟨b2, o2 + x * 4, none⟩ = some (.int .i64 p.w) ∧ w'.cell? ⟨b2, o2 + y * 4, none⟩ = some (.int .i64 q.w)) := hide (fun w' hb => ⟨((HBq.out.trans (hb.mono HBq.out.size)).cell (p := ⟨b2, o2 + x * 4, none⟩) hb2).trans ex, ((HBq.out.trans (hb.mono HBq.out.size)).cell (p := ⟨b2, o2 + y * 4, none⟩) hb2).trans ey⟩)
              have HD : Hid (Below wr.heap.size wr wr.drew) := hide (Below.refl wr.heap.size wr).drew
              refine wp_region_held_drew (S := fun w' => w'.cell? ⟨b2, o2 + x * 4, none⟩ = some (.int .i64 p.w) ∧ w'.cell? ⟨b2, o2 + y * 4, none⟩ = some (.int .i64 q.w)) (by kernel_rfl) (HS.out _ HD.out) (fun hHeld => ?_)
              generalize wr.drew = x0 at HD hHeld ⊢
              refine wpAnyH_take (i := 0) (v := ?_) rfl (by kernel_rfl) (by kernel_rfl) (by kernel_rfl) (fun _ _ _ h => h) (Or.inl ⟨by rfl, ?_⟩) (by assumption) ?_
              rotate_left
              · intro w' hSw
                try dsimp only at hSw
                go_simp; try rfl
              simp only [List.getElem_toArray, List.getElem_cons_zero, Act.put, List.setIfInBounds_toArray, List.set_cons_zero, List.set_cons_succ]
              refine wpAnyH_take (i := 1) (v := ?_) rfl (by kernel_rfl) (by kernel_rfl) (by kernel_rfl) (fun _ _ _ h => h) (Or.inl ⟨by rfl, ?_⟩) (by assumption) ?_
              rotate_left
              · intro w' hSw
                try dsimp only at hSw
                go_simp; try rfl
              simp only [List.getElem_toArray, List.getElem_cons_succ, List.getElem_cons_zero, Act.put, List.setIfInBounds_toArray, List.set_cons_zero, List.set_cons_succ]
              refine wpAnyH_take (i := 2) (v := ?_) rfl (by kernel_rfl) (by kernel_rfl) (by kernel_rfl) (fun _ _ _ h => h) (Or.inl ⟨by rfl, ?_⟩) (by assumption) ?_
              rotate_left
              · intro w' hSw
                try dsimp only at hSw
                go_simp; try rfl
              simp only [List.getElem_toArray, List.getElem_cons_succ, List.getElem_cons_zero, Act.put, List.setIfInBounds_toArray, List.set_cons_zero, List.set_cons_succ]
              refine wpAnyH_take (i := 3) (v := ?_) rfl (by kernel_rfl) (by kernel_rfl) (by kernel_rfl) (fun _ _ _ h => h) (Or.inl ⟨by rfl, ?_⟩) (by assumption) ?_
              rotate_left
              · intro w' hSw
                try dsimp only at hSw
                go_simp; try rfl
              simp only [List.getElem_toArray, List.getElem_cons_succ, List.getElem_cons_zero, Act.put, List.setIfInBounds_toArray, List.set_cons_zero, List.set_cons_succ]
              refine wpAnyH_take (i := 4) (v := ?_) rfl (by kernel_rfl) (by kernel_rfl) (by kernel_rfl) (fun _ _ _ h => h) (Or.inl ⟨by rfl, ?_⟩) (by assumption) ?_
              rotate_left
              · intro w' hSw
                try dsimp only at hSw
                go_simp; try rfl
              simp only [List.getElem_toArray, List.getElem_cons_succ, List.getElem_cons_zero, Act.put, List.setIfInBounds_toArray, List.set_cons_zero, List.set_cons_succ]
              refine wpAnyH_take (i := 5) (v := ?_) rfl (by kernel_rfl) (by kernel_rfl) (by kernel_rfl) (fun _ _ _ h => h) (Or.inl ⟨by rfl, ?_⟩) (by assumption) ?_
              rotate_left
              · intro w' hSw
                try dsimp only at hSw
                go_simp; try rfl
              simp only [List.getElem_toArray, List.getElem_cons_succ, List.getElem_cons_zero, Act.put, List.setIfInBounds_toArray, List.set_cons_zero, List.set_cons_succ]
              refine wpAnyH_take (i := 6) (v := ?_) rfl (by kernel_rfl) (by kernel_rfl) (by kernel_rfl) (fun _ _ _ h => h) (Or.inl ⟨by rfl, ?_⟩) (by assumption) ?_
              rotate_left
              · intro w' hSw
                try dsimp only at hSw
                go_simp; try rfl
              simp only [List.getElem_toArray, List.getElem_cons_succ, List.getElem_cons_zero, Act.put, List.setIfInBounds_toArray, List.set_cons_zero, List.set_cons_succ]
              refine wpAnyH_take (i := 7) (v := ?_) rfl (by kernel_rfl) (by kernel_rfl) (by kernel_rfl) (fun _ _ _ h => h) (Or.inl ⟨by rfl, ?_⟩) (by assumption) ?_
              rotate_left
              · intro w' hSw
                try dsimp only at hSw
                go_simp; try rfl
              simp only [List.getElem_toArray, List.getElem_cons_succ, List.getElem_cons_zero, Act.put, List.setIfInBounds_toArray, List.set_cons_zero, List.set_cons_succ]
              refine wpAnyH_take (i := 8) (v := ?_) rfl (by kernel_rfl) (by kernel_rfl) (by kernel_rfl) (fun _ _ _ h => h) (Or.inl ⟨by rfl, ?_⟩) (by assumption) ?_
              rotate_left
              · intro w' hSw
                try dsimp only at hSw
                go_simp; try rfl
              simp only [List.getElem_toArray, List.getElem_cons_succ, List.getElem_cons_zero, Act.put, List.setIfInBounds_toArray, List.set_cons_zero, List.set_cons_succ]
              refine wpAnyH_take (i := 9) (v := ?_) rfl (by kernel_rfl) (by kernel_rfl) (by kernel_rfl) (fun _ _ _ h => h) (Or.inl ⟨by rfl, ?_⟩) (by assumption) ?_
              rotate_left
              · intro w' hSw
                try dsimp only at hSw
                go_simp; try rfl
              simp only [List.getElem_toArray, List.getElem_cons_succ, List.getElem_cons_zero, Act.put, List.setIfInBounds_toArray, List.set_cons_zero, List.set_cons_succ]
              refine wpAnyH_take (i := 10) (v := ?_) rfl (by kernel_rfl) (by kernel_rfl) (by kernel_rfl) (fun _ _ _ h => h) (Or.inl ⟨by rfl, ?_⟩) (by assumption) ?_
              rotate_left
              · intro w' hSw
                try dsimp only at hSw
                go_simp; try rfl
              simp only [List.getElem_toArray, List.getElem_cons_succ, List.getElem_cons_zero, Act.put, List.setIfInBounds_toArray, List.set_cons_zero, List.set_cons_succ]
              refine wpAnyH_take (i := 11) (v := ?_) rfl (by kernel_rfl) (by kernel_rfl) (by kernel_rfl) (fun _ _ _ h => h) (Or.inl ⟨by rfl, ?_⟩) (by assumption) ?_
              rotate_left
              · intro w' hSw
                try dsimp only at hSw
                go_simp; try rfl
              simp only [List.getElem_toArray, List.getElem_cons_succ, List.getElem_cons_zero, Act.put, List.setIfInBounds_toArray, List.set_cons_zero, List.set_cons_succ]
              refine wpAnyH_take (i := 12) (v := undef) rfl (by kernel_rfl) (by kernel_rfl) (by kernel_rfl) (fun _ _ _ h => h) (Or.inr ⟨by rfl, rfl⟩) (by assumption) ?_
              simp only [List.getElem_toArray, List.getElem_cons_succ, List.getElem_cons_zero, Act.put, List.setIfInBounds_toArray, List.set_cons_zero, List.set_cons_succ]
              refine wpAnyH_take (i := 13) (v := undef) rfl (by kernel_rfl) (by kernel_rfl) (by kernel_rfl) (fun _ _ _ h => h) (Or.inr ⟨by rfl, rfl⟩) (by assumption) ?_
              simp only [List.getElem_toArray, List.getElem_cons_succ, List.getElem_cons_zero, Act.put, List.setIfInBounds_toArray, List.set_cons_zero, List.set_cons_succ]
              refine wpAnyH_take (i := 14) (v := undef) rfl (by kernel_rfl) (by kernel_rfl) (by kernel_rfl) (fun _ _ _ h => h) (Or.inr ⟨by rfl, rfl⟩) (by assumption) ?_
              simp only [List.getElem_toArray, List.getElem_cons_succ, List.getElem_cons_zero, Act.put, List.setIfInBounds_toArray, List.set_cons_zero, List.set_cons_succ]
              refine wpAnyH_take (i := 15) (v := undef) rfl (by kernel_rfl) (by kernel_rfl) (by kernel_rfl) (fun _ _ _ h => h) (Or.inr ⟨by rfl, rfl⟩) (by assumption) ?_
              simp only [List.getElem_toArray, List.getElem_cons_succ, List.getElem_cons_zero, Act.put, List.setIfInBounds_toArray, List.set_cons_zero, List.set_cons_succ]
              refine wpAnyH_take (i := 16) (v := undef) rfl (by kernel_rfl) (by kernel_rfl) (by kernel_rfl) (fun _ _ _ h => h) (Or.inr ⟨by rfl, rfl⟩) (by assumption) ?_
              simp only [List.getElem_toArray, List.getElem_cons_succ, List.getElem_cons_zero, Act.put, List.setIfInBounds_toArray, List.set_cons_zero, List.set_cons_succ]
              refine wpAnyH_take (i := 17) (v := ?_) rfl (by kernel_rfl) (by kernel_rfl) (by kernel_rfl) (fun _ _ _ h => h) (Or.inl ⟨by rfl, ?_⟩) (by assumption) ?_
              rotate_left
              · intro w' hSw
                try dsimp only at hSw
                go_simp; try rfl
              simp only [List.getElem_toArray, List.getElem_cons_succ, List.getElem_cons_zero, Act.put, List.setIfInBounds_toArray, List.set_cons_zero, List.set_cons_succ]
              refine wpAnyH_done (by kernel_rfl) ?_ _
              have HB2 := hide (HBq.out.trans (HD.out.mono HBq.out.size))
              clear HS HD hHeld
              clear ex ey
              have hwy : IntKind.i64.wrap ((y : Int) + 1) = (((y + 1 : Nat)) : Int) := by rw [IntKind.wrap_i64]; omega
              go_wp2
              go_loopw [14] (fun k wr => ∃ z : Nat, y < z ∧ z ≤ L ∧ k = .int .i64 (z : Int) ∧ Hid (Below X.heap.size X wr)) (fun k _ => L - (intOf k).toNat)
              case atStart => exact ⟨y + 1, by omega, by omega, by first | rfl | go_num, HB2⟩
              case round =>
                clear HB2
                obtain ⟨z, hyz, hz, rfl, HBz⟩ := hrel
                by_cases hlz : z < L
                · have hRz : z < rs.length := by have := HLR.out; omega
                  have hzI : (z : Int) < (L : Int) := by omega
                  go_wp2_with fail
                  refine (beforeI _ rs _ (x : Int) (y : Int) (HR.out.at HBz.out) (by omega)).mono ?_
                  rintro e y1 ⟨rfl, b1⟩
                  have HB3 := hide (HBz.out.trans (b1.mono HBz.out.size))
                  clear b1
                  cases B1 : beforeX rs (x : Int) (y : Int) with
                  | false =>
                    go_wp2
                    exact ⟨⟨z + 1, by omega, by omega, by go_num, HB3⟩, by simp [intOf]; omega⟩
                  | true =>
                    go_wp2_with fail
                    refine (beforeI _ rs _ (y : Int) (z : Int) (HR.out.at HB3.out) (by omega)).mono ?_
                    rintro e y2 ⟨rfl, b1⟩
                    have HB4 := hide (HB3.out.trans (b1.mono HB3.out.size))
                    clear b1
                    cases B2 : beforeX rs (y : Int) (z : Int) with
                    | false =>
                      go_wp2
                      exact ⟨⟨z + 1, by omega, by omega, by go_num, HB4⟩, by simp [intOf]; omega⟩
                    | true =>
                      go_wp2_with fail
                      refine (beforeI _ rs _ (x : Int) (z : Int) (HR.out.at HB4.out) (by omega)).mono ?_
                      rintro e y3 ⟨he, b1⟩
                      rw [bef_trans heb hxy hyz hRz B1 B2] at he
                      subst he
                      have HB5 := hide (HB4.out.trans (b1.mono HB4.out.size))
                      clear b1
                      go_wp2
                      exact ⟨⟨z + 1, by omega, by omega, by go_num, HB5⟩, by simp [intOf]; omega⟩
                · obtain rfl : z = L := by omega
                  have hnz : ¬ (z : Int) < (z : Int) := by omega
                  go_wp2
                  exact ⟨⟨y + 1, by omega, by omega, by go_num, HBz⟩, by simp [intOf]; omega⟩
          · obtain rfl : y = L := by omega
            have hny : ¬ (y : Int) < (y : Int) := by omega
            go_wp2
            exact ⟨⟨x + 1, by omega, by go_num, HBq⟩, by simp [intOf]; omega⟩
      · obtain rfl : x = L := by omega
        have hnl : ¬ (x : Int) < (x : Int) := by omega
        clear hx hlx hLb HEV hLe
        have HO := hide (ownD_litC wr wr.heap.size (Nat.le_refl _) 40 4 0 #[] (by decide) rfl)
        have HA := hide ((Below.refl wr.heap.size wr).alloc (Nat.le_refl _) (.cells #[] 40))
        go_upto_region 27 with fail
        have HB2 := hide (HB.out.trans (HA.out.mono HB.out.size))
        have hM0 := HB.out.size
        obtain ⟨M, hM⟩ : ∃ M, wr.heap.size = M := ⟨_, rfl⟩
        have hMY : M ≤ (wr.alloc (.cells #[] 40)).heap.size := by rw [← hM]; simp
        rw [hM] at HO hM0 ⊢
        clear hM HA HB
        generalize wr.alloc (.cells #[] 40) = Y1 at *
        go_wp2
        go_loopw [15, 16] (fun r k wr => ∃ (n : Nat) (ys : List Evt), n ≤ rs.length ∧ ys.length ≤ n ∧ M ≤ wr.heap.size ∧ Hid (∀ y ∈ ys, y.w = 1) ∧ k = .int .i64 (n : Int) ∧ ∃ (va : Option Addr) (vc : Nat), r = .slice va ys.length vc ∧ Hid (OwnD wr M wr.heap.size (evts ys) (.slice va ys.length vc)) ∧ Hid (Below X.heap.size X wr)) (fun _ k _ => rs.length - (intOf k).toNat)
        case atStart => exact ⟨0, [], Nat.zero_le _, Nat.le_refl _, hMY, hide (fun y hy => by simp at hy), rfl, _, _, rfl, HO, HB2⟩
        case round =>
          clear HO HB2
          obtain ⟨n, ys, hn, hyn, hgm, HY, rfl, va, vc, rfl, HO, HB⟩ := hrel
          by_cases hlt : n < rs.length
          · obtain ⟨_, _, ea, _, _, hc⟩ := event_at (HR.out.at HB.out)
            cases ea
            obtain ⟨b2, o2, rfl, hb2, hc2⟩ := hc (by omega)
            obtain ⟨d0, d1, d2, d3⟩ := hc2 n hlt
            clear hc2 hc
            obtain ⟨p, hp⟩ : ∃ p, rs.getD n default = p := ⟨_, rfl⟩
            rw [hp] at d0 d1 d2 d3
            have hnI : (n : Int) < (rs.length : Int) := by omega
            cases hw : (p.w == 1) with
            | true =>
              have HY2 : Hid (∀ y ∈ ys ++ [p], y.w = 1) := hide (fun y hy => by
                rcases List.mem_append.1 hy with h | h
                · exact HY.out y h
                · rw [List.mem_singleton] at h; rw [h]; exact eq_of_beq hw)
              have HXa := hide ((Below.refl wr.heap.size wr).alloc (Nat.le_refl _) (.cells #[.int .i64 p.w, .int .i64 p.k, .int .i64 p.i, .int .i64 p.a] 40))
              have hsX := HXa.out.size
              have hown := hide (OwnDL.cons (HO.out.below HXa.out) (ownDL_nil _ wr.heap.size wr.heap.size) hgm (Nat.le_refl _))
              have hbx := hide (box_of (heap_alloc_new wr (.cells #[.int .i64 p.w, .int .i64 p.k, .int .i64 p.i, .int .i64 p.a] 40))).1
              have hw0 := HB.out.size
              have HBx := hide (HB.out.trans (HXa.out.mono hw0))
              clear HY
              go_wp2_with (first
                | (at_builtin; refine appL rfl _ _ 25 rfl M wr.heap.size wr.heap.size 40 i0 (.agg #[.int .i64 0, .int .i64 0, .int .i64 0, .int .i64 0]) 4 32 Try.underlying25 HI.out.1 HI.out.2.1 HI.out.2.2.1 HI.out.2.2.2 rfl (by decide) (.slice va ys.length vc) ys.length (ys.flatMap evtD) [] [] [] [] rfl hown.out rfl _ _ [.int .i64 p.w, .int .i64 p.k, .int .i64 p.i, .int .i64 p.a] (evtD p) rfl hbx.out (ownDL_vals _ _ _ [.int .i64 p.w, .int .i64 p.k, .int .i64 p.i, .int .i64 p.a]) rfl (one4E _ _ _ _) (by omega) (by decide) (Nat.le_refl _) hgm (by omega) ?_; intro g9 vc9 w9 o9 gr9 hq9; have HB9 := hide (HBx.out.grown gr9 HBx.out.size (fun q hq => Nat.le_trans hM0 (hq9 q hq).1)); have HO9 := hide (OwnDL.mid (c1 := []) (v1 := []) o9 rfl); have hz9 := gr9.size; clear o9 gr9 hq9)
                | fail)
              refine ⟨⟨n + 1, ys ++ [p], by omega, ?_, ?_, HY2, by go_num, some ⟨g9, 0, none⟩, vc9, ?_, hide ?_, HB9⟩, ?_⟩
              · rw [List.length_append]; simp only [List.length_cons, List.length_nil]; omega
              · omega
              · rw [List.length_append]; rfl
              · rw [evts_snoc, List.length_append]
                exact HO9.out
              · simp [intOf]; omega
            | false =>
              go_wp2
              exact ⟨⟨n + 1, ys, by omega, by omega, hgm, HY, by go_num, va, vc, rfl, HO, HB⟩, by simp [intOf]; omega⟩
          · obtain rfl : n = rs.length := by omega
            have hnl : ¬ (rs.length : Int) < (rs.length : Int) := by omega
            have hK := race_lt rs
            rw [HKV.out] at hK
            go_wp2_with fail
            refine (raceI _ ys _ (HO.out.rd (Nat.le_refl _)) (by omega)).mono ?_
            rintro e y9 ⟨he, b1⟩
            rw [race_one HY.out] at he
            subst he
            have HB2 := hide (HB.out.trans (b1.mono HB.out.size))
            clear b1
            go_wp2
            go_ret
            exact ⟨rfl, HBw.out.trans (HB2.out.mono HBw.out.size)⟩

set_option maxRecDepth 100000 in
theorem lifted (os : Os) (started : os.Started) (H : Type) (enc : TypeId × Value → H) :
    ReturnsInHanded {} Try.checked os 8 .any (Rows.fnOrderedSpec.pre6 enc Try.prog Try.f8 Rows.fnOrderedRow.domain false) (Rows.fnOrderedSpec.post enc Try.prog Try.f8 false true false false) := by
  refine returnsInHanded_of_change (C := Try.checked) own started (by kernel_rfl) Try.func8
    (ChangeSpec.witness6 (enc := enc) (C := Try.checked) false ⟨#[], #[.slice none 0 0], []⟩ 8 (by kernel_rfl) (by kernel_rfl) (by kernel_rfl) (by kernel_rfl)) ?_
  intro W base args ds gs before hval0 hW hcnd _
  have hval : ∀ (j : Nat) t v, Try.f8.params[j]? = some t → args[j]? = some v → Value.okWide Try.prog W .any base t v := hval0
  have hW' := hW
  obtain ⟨p, q, hA0, hV, rfl, hfz, hnd⟩ := hW
  have hA : DataW.TrodAll enc Try.prog W 0 (fun _ => true) true Try.f8.params.toList args.toList ds p := hA0
  rw [Try.params8] at hA hval
  obtain ⟨v0, vs0, d0, ds0, p0, q0, hargs, rfl, rfl, h0, r0⟩ := trodAll_cons hA
  obtain ⟨rfl, rfl, rfl⟩ := trodAll_nil r0
  obtain rfl : args = #[v0] := by cases args; simp_all
  obtain ⟨rfl, rfl⟩ := trodVars_none hV
  obtain ⟨a0, len0, cap0, rfl⟩ := okWide_slice Try.underlying36 (hval 0 36 v0 rfl rfl)
  have k0 := h0
  have lt0 : ∀ x ∈ p0, x.block < W.heap.size := by obtain ⟨m, hm⟩ := k0; exact DataW.trod_lt m _ _ _ hm
  obtain ⟨z0, w0⟩ : ∃ zs, IsRow .u8 W a0 len0 cap0 zs := by
    obtain ⟨fuel, hf⟩ := h0
    rcases open_ints Try.underlying36 Try.underlying5 (by kernel_rfl) hf with ⟨hcs, _⟩ | ⟨x, l, c, zs, hcs, _, hl, hm, hz, _, hcell, hwz⟩
    · simp [Value.cells] at hcs
      obtain ⟨rfl, rfl, rfl⟩ := hcs
      exact ⟨[], .inl ⟨rfl, rfl, rfl, rfl⟩⟩
    · simp [Value.cells] at hcs
      obtain ⟨rfl, rfl, rfl⟩ := hcs
      exact ⟨zs, .inr ⟨_, rfl, hl, hm, by simpa using hz, hcell, hwz⟩⟩
  clear hA0 hval0
  refine (walk a0 len0 cap0 z0 W w0).mono fun e W' ⟨he, bel⟩ => ?_
  subst he
  exact ⟨_, rfl, _, _, _, [], _, [], hW', trodAll_mk1 (shut_bool Try.underlying4 _), (trodAll_cons_mk (Below.trod laidOut (by kernel_rfl) (of_decide_eq_true (by kernel_rfl)) k0 bel lt0) trodAll_mk0), rfl, bel.frame _, fun h => by cases h⟩

theorem over : Rows.fnOrderedRow.holds Try.pinned (OpenSpec.ofChange Rows.fnOrderedSpec) :=
  OpenClaim.holds_of_wide 8 Try.f8 rfl rfl rfl rfl rfl rfl rfl ⟨rfl, rfl, rfl, rfl, rfl⟩ rfl rfl rfl rfl rfl (by kernel_rfl) Try.func8 (by kernel_rfl)
    (of_decide_eq_true (by kernel_rfl)) (by unfold Func.isWrapper; first | (rw [if_pos (by decide +kernel)]; kernel_rfl) | (rw [if_neg (by decide +kernel)]; exact ⟨rfl, rfl⟩))
    (fun os started H enc _ => lifted os started H enc)

end Go.Proofs.Ytllghgcancennaa.fnOrdered
namespace Go.Proofs.Ytllghgcancennaa
theorem fnOrdered_holds : Rows.FnOrderedSaid := fnOrdered.over
#print axioms fnOrdered_holds
end Go.Proofs.Ytllghgcancennaa
