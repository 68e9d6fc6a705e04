/-
  Joined: SameK, ClcV.
-/
import Derived.Test.YtllghgcancennaaJ7
import Derived.Laws.StructEq
import Derived.RegionTactic
import Derived.Test.YtllghgcancennaaJ29
import Derived.Test.YtllghgcancennaaJ19
import Derived.Test.YtllghgcancennaaJ13
import Derived.Deep.RegionHeld
/-
  What sameStamps answers of equal clocks.
-/
namespace Go.Proofs.Ytllghgcancennaa
open Go.RowKit

set_option maxRecDepth 100000 in
set_option maxHeartbeats 2000000 in
theorem sameK (w : World) (v1 v2 : Value) (xs : List Smp) (h1 : Reads w w.heap.size (smps xs) v1) (h2 : Reads w w.heap.size (smps xs) v2) (hm : xs.length ≤ 1048576) :
    Calls Try.prog 25 #[v1, v2] w fun e w' => e = .returned (.bool true) ∧ Below w.heap.size w w' := by
  have HX1 := hide h1
  have HX2 := hide h2
  obtain ⟨a1, cap1, rfl, _⟩ := h1.shape
  obtain ⟨a2, cap2, rfl, _⟩ := h2.shape
  clear h1 h2
  obtain ⟨n, hn⟩ : ∃ n, xs.length = n := ⟨_, rfl⟩
  have hne : ((n : Int) != (n : Int)) = false := by simp
  rw [hn] at HX1 HX2 hm ⊢
  go_enter Try.func25, Try.ntmps25
  go_wp2
  go_loopw [5] (fun i wr => ∃ j : Nat, j ≤ n ∧ i = .int .i64 (j : Int) ∧ Below w.heap.size w wr) (fun i _ => n - (intOf i).toNat)
  case atStart => exact ⟨0, Nat.zero_le _, rfl, Below.refl _ _⟩
  case round =>
    obtain ⟨j, hj, rfl, hb⟩ := hrel
    have HB := hide hb
    have hs := hb.size
    clear hb
    by_cases hlt : j < n
    · obtain ⟨a1', cap1', ea1, _, _, hx1⟩ := stamp_at (HX1.out.at HB.out)
      rw [hn] at ea1
      cases ea1
      obtain ⟨b1, o1, rfl, hb1, hc1⟩ := hx1 (by omega)
      obtain ⟨a2', cap2', ea2, _, _, hx2⟩ := stamp_at (HX2.out.at HB.out)
      rw [hn] at ea2
      cases ea2
      obtain ⟨b2, o2, rfl, hb2, hc2⟩ := hx2 (by omega)
      have hq1 := hc1 j (by omega)
      have hq2 := hc2 j (by omega)
      generalize xs.getD j default = z at *
      obtain ⟨x, y⟩ := z
      have q1 : wr.drew.cell? ⟨b1, o1 + j * 2, none⟩ = some (.int .i64 x) := hq1.1
      have q2 : wr.drew.cell? ⟨b1, o1 + j * 2 + 1, none⟩ = some (.int .i64 y) := hq1.2
      have q3 : wr.drew.cell? ⟨b2, o2 + j * 2, none⟩ = some (.int .i64 x) := hq2.1
      have q4 : wr.drew.cell? ⟨b2, o2 + j * 2 + 1, none⟩ = some (.int .i64 y) := hq2.2
      clear hx1 hx2 hc1 hc2 hq1 hq2
      have e1 : (x == x) = true := by simp
      have e2 : (y == y) = true := by simp
      go_upto_region 6 with fail
      go_region
      all_goals (go_wp2; exact ⟨⟨j + 1, hlt, by go_num, below_drewN HB.out 1⟩, by simp [intOf]; omega⟩)
    · go_wp2
      go_ret
      exact ⟨rfl, HB.out⟩
end Go.Proofs.Ytllghgcancennaa
/-
  Before in the program.
-/
namespace Go.Proofs.Ytllghgcancennaa
open Go.RowKit

set_option maxRecDepth 100000 in
set_option maxHeartbeats 8000000 in
theorem beforeI (w : World) (xs : List Evt) (v : Value) (i j : Int) (h : Reads w w.heap.size (evts xs) v) (hm : xs.length ≤ 1048576) :
    Calls Try.prog 12 #[v, .int .i64 i, .int .i64 j] w fun e w' => e = .returned (.bool (beforeX xs i j)) ∧ Below w.heap.size w w' := by
  have HR := hide h
  obtain ⟨a1, c1, e1, _⟩ := h.shape
  subst e1
  clear h
  obtain ⟨V, hV⟩ : ∃ V, beforeX xs i j = V := ⟨_, rfl⟩
  have HV := hide hV
  rw [hV]
  clear hV
  go_enter Try.func12, Try.ntmps12
  go_wp2_with fail
  refine (clocksI w xs _ HR.out hm).mono ?_
  rintro e x2 ⟨u2, rfl, o2, b2⟩
  have HB := hide b2
  clear b2
  cases c : evB xs with
  | false =>
    have hX : clocksX xs = [] := by unfold clocksX; rw [c]; rfl
    rw [hX] at o2
    obtain ⟨ra, rc, re⟩ := o2.shape
    subst re
    clear o2 hX
    have HF : Hid (V = false) := hide (by rw [← HV.out]; unfold beforeX; rw [c]; rfl)
    have hl0 : (([] : List (List Smp)).length : Int) = 0 := rfl
    by_cases p1 : i < 0
    · go_wp2
      go_ret
      exact ⟨by rw [HF.out]; rfl, HB.out⟩
    · by_cases p3 : i ≥ j
      · go_wp2
        go_ret
        exact ⟨by rw [HF.out]; rfl, HB.out⟩
      · have p2 : j ≥ 0 := by omega
        go_wp2
        go_ret
        exact ⟨by rw [HF.out]; rfl, HB.out⟩
  | true =>
    have hx : xs.length ≤ 3000 := (evB_in c).1
    have hX : clocksX xs = clkN xs xs.length := by unfold clocksX; rw [if_pos c]
    rw [hX] at o2
    clear hX
    have HX := hide o2
    clear o2
    obtain ⟨ra, rc, re, _, hrw⟩ := rws_at (HX.out.rd (Nat.le_refl _))
    subst re
    rw [clkN_len] at hrw ⊢
    by_cases p1 : i < 0
    · have HF : Hid (V = false) := hide (by rw [← HV.out]; unfold beforeX; rw [c, decide_eq_false (show ¬ (0 : Int) ≤ i by omega)]; rfl)
      go_wp2
      go_ret
      exact ⟨by rw [HF.out]; rfl, HB.out⟩
    · by_cases p3 : i ≥ j
      · have HF : Hid (V = false) := hide (by rw [← HV.out]; unfold beforeX; rw [c, decide_eq_false (show ¬ i < j by omega)]; simp)
        go_wp2
        go_ret
        exact ⟨by rw [HF.out]; rfl, HB.out⟩
      · by_cases p2 : j ≥ (xs.length : Int)
        · have HF : Hid (V = false) := hide (by rw [← HV.out]; unfold beforeX; rw [c, decide_eq_false (show ¬ j < (xs.length : Int) by omega)]; simp)
          go_wp2
          go_ret
          exact ⟨by rw [HF.out]; rfl, HB.out⟩
        · obtain ⟨p, rfl⟩ := Int.eq_ofNat_of_zero_le (show 0 ≤ i by omega)
          obtain ⟨q, rfl⟩ := Int.eq_ofNat_of_zero_le (show 0 ≤ j by omega)
          have hpq : p < q := by omega
          have hqn : q < xs.length := by omega
          have hpqI : (p : Int) < (q : Int) := by omega
          have hqnI : (q : Int) < (xs.length : Int) := by omega
          have hpnI : (p : Int) < (xs.length : Int) := by omega
          obtain ⟨gb, go, rfl, hgb, hrw2⟩ := hrw (by omega)
          obtain ⟨uq, hcq, hrq⟩ := hrw2 q hqn
          obtain ⟨up, hcp, hrp⟩ := hrw2 p (by omega)
          clear hrw hrw2
          obtain ⟨cq, hq⟩ : ∃ c, (clkN xs xs.length).getD q [] = c := ⟨_, rfl⟩
          obtain ⟨cp, hp⟩ : ∃ c, (clkN xs xs.length).getD p [] = c := ⟨_, rfl⟩
          have hgq : GoodC xs cq := hq ▸ clkN_goodAt (Nat.le_refl _) hqn
          have hgp : GoodC xs cp := hp ▸ clkN_goodAt (Nat.le_refl _) (by omega)
          rw [hq] at hrq
          rw [hp] at hrp
          have Hqm : cq.length ≤ 1048576 := by have := hgq.len; omega
          have Hpm : cp.length ≤ 1048576 := by have := hgp.len; omega
          clear hgq hgp
          have Hq := hide hrq
          have Hp := hide hrp
          clear hrq hrp
          obtain ⟨a', cap', ea, hcap, _, hc⟩ := event_at (HR.out.at HB.out)
          cases ea
          obtain ⟨eb, eo, rfl, hbb, hcell⟩ := hc (by omega)
          obtain ⟨dw, _, _, _⟩ := hcell p (by omega)
          clear hc hcell
          obtain ⟨y, hy⟩ : ∃ y, xs.getD p default = y := ⟨_, rfl⟩
          rw [hy] at dw
          have HF : Hid (V = decide (cntX cp y.w ≤ cntX cq y.w)) := hide (by rw [← HV.out]; unfold beforeX; rw [c, decide_eq_true (show (0 : Int) ≤ (p : Int) by omega), decide_eq_true hpqI, decide_eq_true hqnI, Int.toNat_natCast, Int.toNat_natCast, hq, hp, hy]; rfl)
          clear hq hp hy
          go_upto_region 5 with fail
          have HS : Hid (∀ w', Below x2.heap.size x2 w' → w'.cell? ⟨gb, go + q, none⟩ = some uq ∧ w'.cell? ⟨gb, go + p, none⟩ = some up) := hide (fun w' hb => ⟨(hb.cell (p := ⟨gb, go + q, none⟩) (by dsimp only; omega)).trans hcq, (hb.cell (p := ⟨gb, go + p, none⟩) (by dsimp only; omega)).trans hcp⟩)
          have HD : Hid (Below x2.heap.size x2 x2.drew) := hide (Below.refl x2.heap.size x2).drew
          clear hcq hcp dw hbb hgb
          refine wp_region_held_drew (S := fun w' => w'.cell? ⟨gb, go + q, none⟩ = some uq ∧ w'.cell? ⟨gb, go + p, none⟩ = some up) (by kernel_rfl) (HS.out _ HD.out) (fun hHeld => ?_)
          generalize x2.drew = x0 at HD hHeld ⊢
          refine wpAnyH_take (i := 0) (v := ?_) rfl (by kernel_rfl) (by kernel_rfl) (by kernel_rfl) (fun _ _ _ h => h) (Or.inl ⟨by rfl, ?_⟩) (by assumption) ?_
          rotate_left
          · intro w' hSw
            try dsimp only at hSw
            go_simp; try rfl
          simp only [List.getElem_toArray, List.getElem_cons_zero, Act.put, List.setIfInBounds_toArray, List.set_cons_zero, List.set_cons_succ]
          refine wpAnyH_take (i := 1) (v := ?_) rfl (by kernel_rfl) (by kernel_rfl) (by kernel_rfl) (fun _ _ _ h => h) (Or.inl ⟨by rfl, ?_⟩) (by assumption) ?_
          rotate_left
          · intro w' hSw
            try dsimp only at hSw
            go_simp; try rfl
          simp only [List.getElem_toArray, List.getElem_cons_succ, List.getElem_cons_zero, Act.put, List.setIfInBounds_toArray, List.set_cons_zero, List.set_cons_succ]
          refine wpAnyH_take (i := 2) (v := ?_) rfl (by kernel_rfl) (by kernel_rfl) (by kernel_rfl) (fun _ _ _ h => h) (Or.inl ⟨by rfl, ?_⟩) (by assumption) ?_
          rotate_left
          · intro w' hSw
            try dsimp only at hSw
            go_simp; try rfl
          simp only [List.getElem_toArray, List.getElem_cons_succ, List.getElem_cons_zero, Act.put, List.setIfInBounds_toArray, List.set_cons_zero, List.set_cons_succ]
          refine wpAnyH_take (i := 3) (v := ?_) rfl (by kernel_rfl) (by kernel_rfl) (by kernel_rfl) (fun _ _ _ h => h) (Or.inl ⟨by rfl, ?_⟩) (by assumption) ?_
          rotate_left
          · intro w' hSw
            try dsimp only at hSw
            go_simp; try rfl
          simp only [List.getElem_toArray, List.getElem_cons_succ, List.getElem_cons_zero, Act.put, List.setIfInBounds_toArray, List.set_cons_zero, List.set_cons_succ]
          refine wpAnyH_take (i := 4) (v := ?_) rfl (by kernel_rfl) (by kernel_rfl) (by kernel_rfl) (fun _ _ _ h => h) (Or.inl ⟨by rfl, ?_⟩) (by assumption) ?_
          rotate_left
          · intro w' hSw
            try dsimp only at hSw
            go_simp; try rfl
          simp only [List.getElem_toArray, List.getElem_cons_succ, List.getElem_cons_zero, Act.put, List.setIfInBounds_toArray, List.set_cons_zero, List.set_cons_succ]
          refine wpAnyH_take (i := 6) (v := ?_) rfl (by kernel_rfl) (by kernel_rfl) (by kernel_rfl) (fun _ _ _ h => h) (Or.inl ⟨by rfl, ?_⟩) (by assumption) ?_
          rotate_left
          · intro w' hSw
            try dsimp only at hSw
            go_simp; try rfl
          simp only [List.getElem_toArray, List.getElem_cons_succ, List.getElem_cons_zero, Act.put, List.setIfInBounds_toArray, List.set_cons_zero, List.set_cons_succ]
          refine wpAnyH_take (i := 7) (v := ?_) rfl (by kernel_rfl) (by kernel_rfl) (by kernel_rfl) (fun _ _ _ h => h) (Or.inl ⟨by rfl, ?_⟩) (by assumption) ?_
          rotate_left
          · intro w' hSw
            try dsimp only at hSw
            go_simp; try rfl
          simp only [List.getElem_toArray, List.getElem_cons_succ, List.getElem_cons_zero, Act.put, List.setIfInBounds_toArray, List.set_cons_zero, List.set_cons_succ]
          refine wpAnyH_take (i := 8) (v := ?_) rfl (by kernel_rfl) (by kernel_rfl) (by kernel_rfl) (fun _ _ _ h => h) (Or.inl ⟨by rfl, ?_⟩) (by assumption) ?_
          rotate_left
          · intro w' hSw
            try dsimp only at hSw
            go_simp; try rfl
          simp only [List.getElem_toArray, List.getElem_cons_succ, List.getElem_cons_zero, Act.put, List.setIfInBounds_toArray, List.set_cons_zero, List.set_cons_succ]
          refine wpAnyH_take (i := 9) (v := ?_) rfl (by kernel_rfl) (by kernel_rfl) (by kernel_rfl) (fun _ _ _ h => h) (Or.inl ⟨by rfl, ?_⟩) (by assumption) ?_
          rotate_left
          · intro w' hSw
            try dsimp only at hSw
            go_simp; try rfl
          simp only [List.getElem_toArray, List.getElem_cons_succ, List.getElem_cons_zero, Act.put, List.setIfInBounds_toArray, List.set_cons_zero, List.set_cons_succ]
          refine wpAnyH_take (i := 10) (v := ?_) rfl (by kernel_rfl) (by kernel_rfl) (by kernel_rfl) (fun _ _ _ h => h) (Or.inl ⟨by rfl, ?_⟩) (by assumption) ?_
          rotate_left
          · intro w' hSw
            try dsimp only at hSw
            go_simp; try rfl
          simp only [List.getElem_toArray, List.getElem_cons_succ, List.getElem_cons_zero, Act.put, List.setIfInBounds_toArray, List.set_cons_zero, List.set_cons_succ]
          refine wpAnyH_ready (rs := [5]) (by kernel_rfl) (by simp) (AllReadyH.cons rfl (fun K hK => ?_) AllReadyH.nil)
          refine step_callW (some 34) rfl (by kernel_rfl) 37 _ _ rfl #[uq, .int .i64 y.w] (by kernel_rfl) (countI _ cq _ y.w (Hq.out.at HD.out) Hqm) ?_
          rintro e x34 ⟨rfl, b1⟩
          refine ⟨_, rfl, ?_⟩
          replace HD := hide (HD.out.trans (b1.mono HD.out.size))
          clear b1
          refine hK.out _ _ (HS.out _ HD.out) (fun hHeld => ?_)
          clear hK K
          simp only [Act.put, List.setIfInBounds_toArray, List.set_cons_zero, List.set_cons_succ]
          refine wpAnyH_ready (rs := [11]) (by kernel_rfl) (by simp) (AllReadyH.cons rfl (fun K hK => ?_) AllReadyH.nil)
          refine step_callW (some 40) rfl (by kernel_rfl) 37 _ _ rfl #[up, .int .i64 y.w] (by kernel_rfl) (countI _ cp _ y.w (Hp.out.at HD.out) Hpm) ?_
          rintro e x40 ⟨rfl, b1⟩
          refine ⟨_, rfl, ?_⟩
          replace HD := hide (HD.out.trans (b1.mono HD.out.size))
          clear b1
          refine hK.out _ _ (HS.out _ HD.out) (fun hHeld => ?_)
          clear hK K
          simp only [Act.put, List.setIfInBounds_toArray, List.set_cons_zero, List.set_cons_succ]
          refine wpAnyH_take (i := 12) (v := ?_) rfl (by kernel_rfl) (by kernel_rfl) (by kernel_rfl) (fun _ _ _ h => h) (Or.inl ⟨by rfl, ?_⟩) (by assumption) ?_
          rotate_left
          · intro w' hSw
            try dsimp only at hSw
            go_simp; try rfl
          simp only [List.getElem_toArray, List.getElem_cons_succ, List.getElem_cons_zero, Act.put, List.setIfInBounds_toArray, List.set_cons_zero, List.set_cons_succ]
          refine wpAnyH_take (i := 13) (v := ?_) rfl (by kernel_rfl) (by kernel_rfl) (by kernel_rfl) (fun _ _ _ h => h) (Or.inl ⟨by rfl, ?_⟩) (by assumption) ?_
          rotate_left
          · intro w' hSw
            try dsimp only at hSw
            go_simp; try rfl
          simp only [List.getElem_toArray, List.getElem_cons_succ, List.getElem_cons_zero, Act.put, List.setIfInBounds_toArray, List.set_cons_zero, List.set_cons_succ]
          refine wpAnyH_done (by kernel_rfl) ?_ _
          go_wp2
          go_ret
          exact ⟨by rw [HF.out]; rfl, HB.out.trans (HD.out.mono HB.out.size)⟩
end Go.Proofs.Ytllghgcancennaa
