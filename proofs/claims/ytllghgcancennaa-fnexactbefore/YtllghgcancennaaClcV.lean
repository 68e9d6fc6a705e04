/-
  Before in the program.
-/
import Derived.Test.YtllghgcancennaaClcI
import Derived.Test.YtllghgcancennaaClcW
import Derived.Test.YtllghgcancennaaStepW
import Derived.Deep.RegionHeld
namespace Go.Proofs.Ytllghgcancennaa
open Go.RowKit

set_option maxRecDepth 100000 in
set_option maxHeartbeats 8000000 in
theorem beforeI (w : World) (xs : List Evt) (v : Value) (i j : Int) (h : Reads w w.heap.size (evts xs) v) (hm : xs.length ≤ 1048576) :
    Calls Try.prog 12 #[v, .int .i64 i, .int .i64 j] w fun e w' => e = .returned (.bool (beforeX xs i j)) ∧ Below w.heap.size w w' := by
  have HR := hide h
  obtain ⟨a1, c1, e1, _⟩ := h.shape
  subst e1
  clear h
  obtain ⟨V, hV⟩ : ∃ V, beforeX xs i j = V := ⟨_, rfl⟩
  have HV := hide hV
  rw [hV]
  clear hV
  go_enter Try.func12, Try.ntmps12
  go_wp2_with fail
  refine (clocksI w xs _ HR.out hm).mono ?_
  rintro e x2 ⟨u2, rfl, o2, b2⟩
  have HB := hide b2
  clear b2
  cases c : evB xs with
  | false =>
    have hX : clocksX xs = [] := by unfold clocksX; rw [c]; rfl
    rw [hX] at o2
    obtain ⟨ra, rc, re⟩ := o2.shape
    subst re
    clear o2 hX
    have HF : Hid (V = false) := hide (by rw [← HV.out]; unfold beforeX; rw [c]; rfl)
    have hl0 : (([] : List (List Smp)).length : Int) = 0 := rfl
    by_cases p1 : i < 0
    · go_wp2
      go_ret
      exact ⟨by rw [HF.out]; rfl, HB.out⟩
    · by_cases p3 : i ≥ j
      · go_wp2
        go_ret
        exact ⟨by rw [HF.out]; rfl, HB.out⟩
      · have p2 : j ≥ 0 := by omega
        go_wp2
        go_ret
        exact ⟨by rw [HF.out]; rfl, HB.out⟩
  | true =>
    have hx : xs.length ≤ 3000 := (evB_in c).1
    have hX : clocksX xs = clkN xs xs.length := by unfold clocksX; rw [if_pos c]
    rw [hX] at o2
    clear hX
    have HX := hide o2
    clear o2
    obtain ⟨ra, rc, re, _, hrw⟩ := rws_at (HX.out.rd (Nat.le_refl _))
    subst re
    rw [clkN_len] at hrw ⊢
    by_cases p1 : i < 0
    · have HF : Hid (V = false) := hide (by rw [← HV.out]; unfold beforeX; rw [c, decide_eq_false (show ¬ (0 : Int) ≤ i by omega)]; rfl)
      go_wp2
      go_ret
      exact ⟨by rw [HF.out]; rfl, HB.out⟩
    · by_cases p3 : i ≥ j
      · have HF : Hid (V = false) := hide (by rw [← HV.out]; unfold beforeX; rw [c, decide_eq_false (show ¬ i < j by omega)]; simp)
        go_wp2
        go_ret
        exact ⟨by rw [HF.out]; rfl, HB.out⟩
      · by_cases p2 : j ≥ (xs.length : Int)
        · have HF : Hid (V = false) := hide (by rw [← HV.out]; unfold beforeX; rw [c, decide_eq_false (show ¬ j < (xs.length : Int) by omega)]; simp)
          go_wp2
          go_ret
          exact ⟨by rw [HF.out]; rfl, HB.out⟩
        · obtain ⟨p, rfl⟩ := Int.eq_ofNat_of_zero_le (show 0 ≤ i by omega)
          obtain ⟨q, rfl⟩ := Int.eq_ofNat_of_zero_le (show 0 ≤ j by omega)
          have hpq : p < q := by omega
          have hqn : q < xs.length := by omega
          have hpqI : (p : Int) < (q : Int) := by omega
          have hqnI : (q : Int) < (xs.length : Int) := by omega
          have hpnI : (p : Int) < (xs.length : Int) := by omega
          obtain ⟨gb, go, rfl, hgb, hrw2⟩ := hrw (by omega)
          obtain ⟨uq, hcq, hrq⟩ := hrw2 q hqn
          obtain ⟨up, hcp, hrp⟩ := hrw2 p (by omega)
          clear hrw hrw2
          obtain ⟨cq, hq⟩ : ∃ c, (clkN xs xs.length).getD q [] = c := ⟨_, rfl⟩
          obtain ⟨cp, hp⟩ : ∃ c, (clkN xs xs.length).getD p [] = c := ⟨_, rfl⟩
          have hgq : GoodC xs cq := hq ▸ clkN_goodAt (Nat.le_refl _) hqn
          have hgp : GoodC xs cp := hp ▸ clkN_goodAt (Nat.le_refl _) (by omega)
          rw [hq] at hrq
          rw [hp] at hrp
          have Hqm : cq.length ≤ 1048576 := by have := hgq.len; omega
          have Hpm : cp.length ≤ 1048576 := by have := hgp.len; omega
          clear hgq hgp
          have Hq := hide hrq
          have Hp := hide hrp
          clear hrq hrp
          obtain ⟨a', cap', ea, hcap, _, hc⟩ := event_at (HR.out.at HB.out)
          cases ea
          obtain ⟨eb, eo, rfl, hbb, hcell⟩ := hc (by omega)
          obtain ⟨dw, _, _, _⟩ := hcell p (by omega)
          clear hc hcell
          obtain ⟨y, hy⟩ : ∃ y, xs.getD p default = y := ⟨_, rfl⟩
          rw [hy] at dw
          have HF : Hid (V = decide (cntX cp y.w ≤ cntX cq y.w)) := hide (by rw [← HV.out]; unfold beforeX; rw [c, decide_eq_true (show (0 : Int) ≤ (p : Int) by omega), decide_eq_true hpqI, decide_eq_true hqnI, Int.toNat_natCast, Int.toNat_natCast, hq, hp, hy]; rfl)
          clear hq hp hy
          go_upto_region 5 with fail
          have HS : Hid (∀ w', Below x2.heap.size x2 w' → w'.cell? ⟨gb, go + q, none⟩ = some uq ∧ w'.cell? ⟨gb, go + p, none⟩ = some up) := hide (fun w' hb => ⟨(hb.cell (p := ⟨gb, go + q, none⟩) (by dsimp only; omega)).trans hcq, (hb.cell (p := ⟨gb, go + p, none⟩) (by dsimp only; omega)).trans hcp⟩)
          have HD : Hid (Below x2.heap.size x2 x2.drew) := hide (Below.refl x2.heap.size x2).drew
          clear hcq hcp dw hbb hgb
          refine wp_region_held_drew (S := fun w' => w'.cell? ⟨gb, go + q, none⟩ = some uq ∧ w'.cell? ⟨gb, go + p, none⟩ = some up) (by kernel_rfl) (HS.out _ HD.out) (fun hHeld => ?_)
          generalize x2.drew = x0 at HD hHeld ⊢
          refine wpAnyH_take (i := 0) (v := ?_) rfl (by kernel_rfl) (by kernel_rfl) (by kernel_rfl) (fun _ _ _ h => h) (Or.inl ⟨by rfl, ?_⟩) (by assumption) ?_
          rotate_left
          · intro w' hSw
            try dsimp only at hSw
            go_simp; try rfl
          simp only [List.getElem_toArray, List.getElem_cons_zero, Act.put, List.setIfInBounds_toArray, List.set_cons_zero, List.set_cons_succ]
          refine wpAnyH_take (i := 1) (v := ?_) rfl (by kernel_rfl) (by kernel_rfl) (by kernel_rfl) (fun _ _ _ h => h) (Or.inl ⟨by rfl, ?_⟩) (by assumption) ?_
          rotate_left
          · intro w' hSw
            try dsimp only at hSw
            go_simp; try rfl
          simp only [List.getElem_toArray, List.getElem_cons_succ, List.getElem_cons_zero, Act.put, List.setIfInBounds_toArray, List.set_cons_zero, List.set_cons_succ]
          refine wpAnyH_take (i := 2) (v := ?_) rfl (by kernel_rfl) (by kernel_rfl) (by kernel_rfl) (fun _ _ _ h => h) (Or.inl ⟨by rfl, ?_⟩) (by assumption) ?_
          rotate_left
          · intro w' hSw
            try dsimp only at hSw
            go_simp; try rfl
          simp only [List.getElem_toArray, List.getElem_cons_succ, List.getElem_cons_zero, Act.put, List.setIfInBounds_toArray, List.set_cons_zero, List.set_cons_succ]
          refine wpAnyH_take (i := 3) (v := ?_) rfl (by kernel_rfl) (by kernel_rfl) (by kernel_rfl) (fun _ _ _ h => h) (Or.inl ⟨by rfl, ?_⟩) (by assumption) ?_
          rotate_left
          · intro w' hSw
            try dsimp only at hSw
            go_simp; try rfl
          simp only [List.getElem_toArray, List.getElem_cons_succ, List.getElem_cons_zero, Act.put, List.setIfInBounds_toArray, List.set_cons_zero, List.set_cons_succ]
          refine wpAnyH_take (i := 4) (v := ?_) rfl (by kernel_rfl) (by kernel_rfl) (by kernel_rfl) (fun _ _ _ h => h) (Or.inl ⟨by rfl, ?_⟩) (by assumption) ?_
          rotate_left
          · intro w' hSw
            try dsimp only at hSw
            go_simp; try rfl
          simp only [List.getElem_toArray, List.getElem_cons_succ, List.getElem_cons_zero, Act.put, List.setIfInBounds_toArray, List.set_cons_zero, List.set_cons_succ]
          refine wpAnyH_take (i := 6) (v := ?_) rfl (by kernel_rfl) (by kernel_rfl) (by kernel_rfl) (fun _ _ _ h => h) (Or.inl ⟨by rfl, ?_⟩) (by assumption) ?_
          rotate_left
          · intro w' hSw
            try dsimp only at hSw
            go_simp; try rfl
          simp only [List.getElem_toArray, List.getElem_cons_succ, List.getElem_cons_zero, Act.put, List.setIfInBounds_toArray, List.set_cons_zero, List.set_cons_succ]
          refine wpAnyH_take (i := 7) (v := ?_) rfl (by kernel_rfl) (by kernel_rfl) (by kernel_rfl) (fun _ _ _ h => h) (Or.inl ⟨by rfl, ?_⟩) (by assumption) ?_
          rotate_left
          · intro w' hSw
            try dsimp only at hSw
            go_simp; try rfl
          simp only [List.getElem_toArray, List.getElem_cons_succ, List.getElem_cons_zero, Act.put, List.setIfInBounds_toArray, List.set_cons_zero, List.set_cons_succ]
          refine wpAnyH_take (i := 8) (v := ?_) rfl (by kernel_rfl) (by kernel_rfl) (by kernel_rfl) (fun _ _ _ h => h) (Or.inl ⟨by rfl, ?_⟩) (by assumption) ?_
          rotate_left
          · intro w' hSw
            try dsimp only at hSw
            go_simp; try rfl
          simp only [List.getElem_toArray, List.getElem_cons_succ, List.getElem_cons_zero, Act.put, List.setIfInBounds_toArray, List.set_cons_zero, List.set_cons_succ]
          refine wpAnyH_take (i := 9) (v := ?_) rfl (by kernel_rfl) (by kernel_rfl) (by kernel_rfl) (fun _ _ _ h => h) (Or.inl ⟨by rfl, ?_⟩) (by assumption) ?_
          rotate_left
          · intro w' hSw
            try dsimp only at hSw
            go_simp; try rfl
          simp only [List.getElem_toArray, List.getElem_cons_succ, List.getElem_cons_zero, Act.put, List.setIfInBounds_toArray, List.set_cons_zero, List.set_cons_succ]
          refine wpAnyH_take (i := 10) (v := ?_) rfl (by kernel_rfl) (by kernel_rfl) (by kernel_rfl) (fun _ _ _ h => h) (Or.inl ⟨by rfl, ?_⟩) (by assumption) ?_
          rotate_left
          · intro w' hSw
            try dsimp only at hSw
            go_simp; try rfl
          simp only [List.getElem_toArray, List.getElem_cons_succ, List.getElem_cons_zero, Act.put, List.setIfInBounds_toArray, List.set_cons_zero, List.set_cons_succ]
          refine wpAnyH_ready (rs := [5]) (by kernel_rfl) (by simp) (AllReadyH.cons rfl (fun K hK => ?_) AllReadyH.nil)
          refine step_callW (some 34) rfl (by kernel_rfl) 37 _ _ rfl #[uq, .int .i64 y.w] (by kernel_rfl) (countI _ cq _ y.w (Hq.out.at HD.out) Hqm) ?_
          rintro e x34 ⟨rfl, b1⟩
          refine ⟨_, rfl, ?_⟩
          replace HD := hide (HD.out.trans (b1.mono HD.out.size))
          clear b1
          refine hK.out _ _ (HS.out _ HD.out) (fun hHeld => ?_)
          clear hK K
          simp only [Act.put, List.setIfInBounds_toArray, List.set_cons_zero, List.set_cons_succ]
          refine wpAnyH_ready (rs := [11]) (by kernel_rfl) (by simp) (AllReadyH.cons rfl (fun K hK => ?_) AllReadyH.nil)
          refine step_callW (some 40) rfl (by kernel_rfl) 37 _ _ rfl #[up, .int .i64 y.w] (by kernel_rfl) (countI _ cp _ y.w (Hp.out.at HD.out) Hpm) ?_
          rintro e x40 ⟨rfl, b1⟩
          refine ⟨_, rfl, ?_⟩
          replace HD := hide (HD.out.trans (b1.mono HD.out.size))
          clear b1
          refine hK.out _ _ (HS.out _ HD.out) (fun hHeld => ?_)
          clear hK K
          simp only [Act.put, List.setIfInBounds_toArray, List.set_cons_zero, List.set_cons_succ]
          refine wpAnyH_take (i := 12) (v := ?_) rfl (by kernel_rfl) (by kernel_rfl) (by kernel_rfl) (fun _ _ _ h => h) (Or.inl ⟨by rfl, ?_⟩) (by assumption) ?_
          rotate_left
          · intro w' hSw
            try dsimp only at hSw
            go_simp; try rfl
          simp only [List.getElem_toArray, List.getElem_cons_succ, List.getElem_cons_zero, Act.put, List.setIfInBounds_toArray, List.set_cons_zero, List.set_cons_succ]
          refine wpAnyH_take (i := 13) (v := ?_) rfl (by kernel_rfl) (by kernel_rfl) (by kernel_rfl) (fun _ _ _ h => h) (Or.inl ⟨by rfl, ?_⟩) (by assumption) ?_
          rotate_left
          · intro w' hSw
            try dsimp only at hSw
            go_simp; try rfl
          simp only [List.getElem_toArray, List.getElem_cons_succ, List.getElem_cons_zero, Act.put, List.setIfInBounds_toArray, List.set_cons_zero, List.set_cons_succ]
          refine wpAnyH_done (by kernel_rfl) ?_ _
          go_wp2
          go_ret
          exact ⟨by rw [HF.out]; rfl, HB.out.trans (HD.out.mono HB.out.size)⟩
end Go.Proofs.Ytllghgcancennaa
