/-
  Joined: OrdX, ClcB.
-/
import Derived.Test.YtllghgcancennaaJ11
import Derived.Test.YtllghgcancennaaKClcT
import Derived.Test.YtllghgcancennaaJ19
import Derived.Test.YtllghgcancennaaJ13
import Derived.Deep.RegionHeld
/-
  What is before what: of one thread, of three; one thread alone never races.
-/
namespace Go.Proofs.Ytllghgcancennaa
open Go.RowKit

theorem clash_comm (a b : Evt) : clashB b a = clashB a b := by
  rw [Bool.eq_iff_iff, clash_iff, clash_iff]
  constructor
  · rintro ⟨h1, h2, h3, h4, h5, h6⟩
    exact ⟨fun e => h1 e.symm, h2.symm, h3.symm, h5, h4, h6.symm⟩
  · rintro ⟨h1, h2, h3, h4, h5, h6⟩
    exact ⟨fun e => h1 e.symm, h2.symm, h3.symm, h5, h4, h6.symm⟩
theorem bef_thread {xs : List Evt} (he : evB xs = true) {x y : Nat} (hxy : x < y) (hy : y < xs.length) (hw : (xs.getD x default).w = (xs.getD y default).w) : beforeX xs (x : Int) (y : Int) = true := by
  rw [before_clk he hxy hy]
  exact decide_eq_true (thread_mono he y hxy hy hw _)
theorem bef_trans {xs : List Evt} (he : evB xs = true) {x y z : Nat} (hxy : x < y) (hyz : y < z) (hz : z < xs.length) (h1 : beforeX xs (x : Int) (y : Int) = true) (h2 : beforeX xs (y : Int) (z : Int) = true) : beforeX xs (x : Int) (z : Int) = true := by
  rw [before_clk he hxy (by omega)] at h1
  rw [before_clk he hyz hz] at h2
  rw [before_clk he (by omega) hz]
  have h3 := of_decide_eq_true h1
  have h4 := knowing he z hyz hz (of_decide_eq_true h2) (who xs x)
  exact decide_eq_true (by omega)
theorem race_one {ys : List Evt} (h : ∀ y ∈ ys, y.w = 1) : raceX ys = -1 := by
  have hg : ∀ i, i < ys.length → (ys.getD i default).w = 1 := fun i hi => h _ (by
    rw [List.getD_eq_getElem?_getD, List.getElem?_eq_getElem hi]
    exact List.getElem_mem hi)
  refine raceX_none (fun j hj => racesAt_no (fun i hi => ?_))
  unfold raceB
  have hc : clashB (ys.getD i default) (ys.getD j default) = false := by
    cases hc : clashB (ys.getD i default) (ys.getD j default) with
    | false => rfl
    | true =>
      have h1 := ((clash_iff _ _).1 hc).1
      rw [hg i (by omega), hg j hj] at h1
      exact absurd rfl h1
  rw [hc]
  rfl
theorem race_lt (xs : List Evt) : raceX xs < (xs.length : Int) := by
  unfold raceX
  split
  · split
    · rename_i j hj
      have := List.mem_of_find?_eq_some hj
      have := List.mem_range.1 this
      omega
    · omega
  · omega
end Go.Proofs.Ytllghgcancennaa
/-
  Before in the model.
-/
namespace Go.Proofs.Ytllghgcancennaa
open Go.RowKit

theorem countSB (w : World) (xs : List Smp) (v : Value) (q : Int) (h : Reads w w.heap.size (smps xs) v) (hm : xs.length ≤ 1048576) :
    Calls Try.prog 35 #[v, .int .i64 q] w fun e w' => e = .returned (.int .i64 (cntX xs q)) ∧ Below w.heap.size w w' := calls_same (countS w xs v q h hm)
set_option maxRecDepth 100000 in
set_option maxHeartbeats 8000000 in
theorem beforeS (w : World) (xs : List Evt) (v : Value) (i j : Int) (h : Reads w w.heap.size (evts xs) v) (hm : xs.length ≤ 1048576) :
    Calls Try.prog 10 #[v, .int .i64 i, .int .i64 j] w fun e w' => e = .returned (.bool (beforeX xs i j)) ∧ Below w.heap.size w w' := by
  have HR := hide h
  obtain ⟨a1, c1, e1, _⟩ := h.shape
  subst e1
  clear h
  obtain ⟨V, hV⟩ : ∃ V, beforeX xs i j = V := ⟨_, rfl⟩
  have HV := hide hV
  rw [hV]
  clear hV
  go_enter Try.func10, Try.ntmps10
  go_wp2_with fail
  refine (eventsOkS w xs _ HR.out hm).mono ?_
  rintro e x1 ⟨rfl, b1⟩
  have HB := hide b1
  clear b1
  cases c : evB xs with
  | false =>
    have HF : Hid (V = false) := hide (by rw [← HV.out]; unfold beforeX; rw [c]; rfl)
    go_wp2
    go_ret
    exact ⟨by rw [HF.out]; rfl, HB.out⟩
  | true =>
    have hx : xs.length ≤ 3000 := by
      have c' := c
      unfold evB at c'
      rw [Bool.and_eq_true] at c'
      exact of_decide_eq_true c'.2
    by_cases p1 : i < 0
    · have HF : Hid (V = false) := hide (by rw [← HV.out]; unfold beforeX; rw [c, decide_eq_false (show ¬ (0 : Int) ≤ i by omega)]; rfl)
      go_wp2
      go_ret
      exact ⟨by rw [HF.out]; rfl, HB.out⟩
    · by_cases p2 : j ≥ (xs.length : Int)
      · have HF : Hid (V = false) := hide (by rw [← HV.out]; unfold beforeX; rw [c, decide_eq_false (show ¬ j < (xs.length : Int) by omega)]; simp)
        go_wp2
        go_ret
        exact ⟨by rw [HF.out]; rfl, HB.out⟩
      · by_cases p3 : i ≥ j
        · have HF : Hid (V = false) := hide (by rw [← HV.out]; unfold beforeX; rw [c, decide_eq_false (show ¬ i < j by omega)]; simp)
          go_wp2
          go_ret
          exact ⟨by rw [HF.out]; rfl, HB.out⟩
        · obtain ⟨p, rfl⟩ := Int.eq_ofNat_of_zero_le (show 0 ≤ i by omega)
          obtain ⟨q, rfl⟩ := Int.eq_ofNat_of_zero_le (show 0 ≤ j by omega)
          have hpq : p < q := by omega
          have hqn : q < xs.length := by omega
          have hpqI : (p : Int) < (q : Int) := by omega
          have hqnI : (q : Int) < (xs.length : Int) := by omega
          have hpnI : (p : Int) < (xs.length : Int) := by omega
          go_wp2_with fail
          refine (clkNS x1 xs _ (HR.out.at HB.out) hx).mono ?_
          rintro e x2 ⟨u2, rfl, o2, b2⟩
          have HX := hide o2
          replace HB := hide (HB.out.trans (b2.mono HB.out.size))
          clear o2 b2
          obtain ⟨ra, rc, re, _, hrw⟩ := rws_at (HX.out.rd (Nat.le_refl _))
          subst re
          rw [clkN_len] at hrw ⊢
          obtain ⟨gb, go, rfl, hgb, hrw2⟩ := hrw (by omega)
          obtain ⟨uq, hcq, hrq⟩ := hrw2 q hqn
          obtain ⟨up, hcp, hrp⟩ := hrw2 p (by omega)
          clear hrw hrw2
          obtain ⟨cq, hq⟩ : ∃ c, (clkN xs xs.length).getD q [] = c := ⟨_, rfl⟩
          obtain ⟨cp, hp⟩ : ∃ c, (clkN xs xs.length).getD p [] = c := ⟨_, rfl⟩
          have hgq : GoodC xs cq := hq ▸ clkN_goodAt (Nat.le_refl _) hqn
          have hgp : GoodC xs cp := hp ▸ clkN_goodAt (Nat.le_refl _) (by omega)
          rw [hq] at hrq
          rw [hp] at hrp
          have Hqm : cq.length ≤ 1048576 := by have := hgq.len; omega
          have Hpm : cp.length ≤ 1048576 := by have := hgp.len; omega
          clear hgq hgp
          have Hq := hide hrq
          have Hp := hide hrp
          clear hrq hrp
          obtain ⟨a', cap', ea, hcap, _, hc⟩ := event_at (HR.out.at HB.out)
          cases ea
          obtain ⟨eb, eo, rfl, hbb, hcell⟩ := hc (by omega)
          obtain ⟨dw, _, _, _⟩ := hcell p (by omega)
          clear hc hcell
          obtain ⟨y, hy⟩ : ∃ y, xs.getD p default = y := ⟨_, rfl⟩
          rw [hy] at dw
          have HF : Hid (V = decide (cntX cp y.w ≤ cntX cq y.w)) := hide (by rw [← HV.out]; unfold beforeX; rw [c, decide_eq_true (show (0 : Int) ≤ (p : Int) by omega), decide_eq_true hpqI, decide_eq_true hqnI, Int.toNat_natCast, Int.toNat_natCast, hq, hp, hy]; rfl)
          clear hq hp hy
          go_upto_region 4 with fail
          have HS : Hid (∀ w', Below x2.heap.size x2 w' → w'.cell? ⟨eb, eo + p * 4, none⟩ = some (.int .i64 y.w) ∧ w'.cell? ⟨gb, go + q, none⟩ = some uq ∧ w'.cell? ⟨gb, go + p, none⟩ = some up) := hide (fun w' hb => ⟨(hb.cell (p := ⟨eb, eo + p * 4, none⟩) (by dsimp only; omega)).trans dw, (hb.cell (p := ⟨gb, go + q, none⟩) (by dsimp only; omega)).trans hcq, (hb.cell (p := ⟨gb, go + p, none⟩) (by dsimp only; omega)).trans hcp⟩)
          have HD : Hid (Below x2.heap.size x2 x2.drew) := hide (Below.refl x2.heap.size x2).drew
          clear hcq hcp dw hbb hgb
          refine wp_region_held_drew (S := fun w' => w'.cell? ⟨eb, eo + p * 4, none⟩ = some (.int .i64 y.w) ∧ w'.cell? ⟨gb, go + q, none⟩ = some uq ∧ w'.cell? ⟨gb, go + p, none⟩ = some up) (by kernel_rfl) (HS.out _ HD.out) (fun hHeld => ?_)
          generalize x2.drew = x0 at HD hHeld ⊢
          refine wpAnyH_take (i := 0) (v := ?_) rfl (by kernel_rfl) (by kernel_rfl) (by kernel_rfl) (fun _ _ _ h => h) (Or.inl ⟨by rfl, ?_⟩) (by assumption) ?_
          rotate_left
          · intro w' hSw
            try dsimp only at hSw
            go_simp; try rfl
          simp only [List.getElem_toArray, List.getElem_cons_zero, Act.put, List.setIfInBounds_toArray, List.set_cons_zero, List.set_cons_succ]
          refine wpAnyH_take (i := 1) (v := ?_) rfl (by kernel_rfl) (by kernel_rfl) (by kernel_rfl) (fun _ _ _ h => h) (Or.inl ⟨by rfl, ?_⟩) (by assumption) ?_
          rotate_left
          · intro w' hSw
            try dsimp only at hSw
            go_simp; try rfl
          simp only [List.getElem_toArray, List.getElem_cons_succ, List.getElem_cons_zero, Act.put, List.setIfInBounds_toArray, List.set_cons_zero, List.set_cons_succ]
          refine wpAnyH_take (i := 2) (v := ?_) rfl (by kernel_rfl) (by kernel_rfl) (by kernel_rfl) (fun _ _ _ h => h) (Or.inl ⟨by rfl, ?_⟩) (by assumption) ?_
          rotate_left
          · intro w' hSw
            try dsimp only at hSw
            go_simp; try rfl
          simp only [List.getElem_toArray, List.getElem_cons_succ, List.getElem_cons_zero, Act.put, List.setIfInBounds_toArray, List.set_cons_zero, List.set_cons_succ]
          refine wpAnyH_take (i := 3) (v := ?_) rfl (by kernel_rfl) (by kernel_rfl) (by kernel_rfl) (fun _ _ _ h => h) (Or.inl ⟨by rfl, ?_⟩) (by assumption) ?_
          rotate_left
          · intro w' hSw
            try dsimp only at hSw
            go_simp; try rfl
          simp only [List.getElem_toArray, List.getElem_cons_succ, List.getElem_cons_zero, Act.put, List.setIfInBounds_toArray, List.set_cons_zero, List.set_cons_succ]
          refine wpAnyH_take (i := 4) (v := ?_) rfl (by kernel_rfl) (by kernel_rfl) (by kernel_rfl) (fun _ _ _ h => h) (Or.inl ⟨by rfl, ?_⟩) (by assumption) ?_
          rotate_left
          · intro w' hSw
            try dsimp only at hSw
            go_simp; try rfl
          simp only [List.getElem_toArray, List.getElem_cons_succ, List.getElem_cons_zero, Act.put, List.setIfInBounds_toArray, List.set_cons_zero, List.set_cons_succ]
          refine wpAnyH_take (i := 5) (v := ?_) rfl (by kernel_rfl) (by kernel_rfl) (by kernel_rfl) (fun _ _ _ h => h) (Or.inl ⟨by rfl, ?_⟩) (by assumption) ?_
          rotate_left
          · intro w' hSw
            try dsimp only at hSw
            go_simp; try rfl
          simp only [List.getElem_toArray, List.getElem_cons_succ, List.getElem_cons_zero, Act.put, List.setIfInBounds_toArray, List.set_cons_zero, List.set_cons_succ]
          refine wpAnyH_take (i := 6) (v := ?_) rfl (by kernel_rfl) (by kernel_rfl) (by kernel_rfl) (fun _ _ _ h => h) (Or.inl ⟨by rfl, ?_⟩) (by assumption) ?_
          rotate_left
          · intro w' hSw
            try dsimp only at hSw
            go_simp; try rfl
          simp only [List.getElem_toArray, List.getElem_cons_succ, List.getElem_cons_zero, Act.put, List.setIfInBounds_toArray, List.set_cons_zero, List.set_cons_succ]
          refine wpAnyH_take (i := 7) (v := ?_) rfl (by kernel_rfl) (by kernel_rfl) (by kernel_rfl) (fun _ _ _ h => h) (Or.inl ⟨by rfl, ?_⟩) (by assumption) ?_
          rotate_left
          · intro w' hSw
            try dsimp only at hSw
            go_simp; try rfl
          simp only [List.getElem_toArray, List.getElem_cons_succ, List.getElem_cons_zero, Act.put, List.setIfInBounds_toArray, List.set_cons_zero, List.set_cons_succ]
          refine wpAnyH_take (i := 8) (v := ?_) rfl (by kernel_rfl) (by kernel_rfl) (by kernel_rfl) (fun _ _ _ h => h) (Or.inl ⟨by rfl, ?_⟩) (by assumption) ?_
          rotate_left
          · intro w' hSw
            try dsimp only at hSw
            go_simp; try rfl
          simp only [List.getElem_toArray, List.getElem_cons_succ, List.getElem_cons_zero, Act.put, List.setIfInBounds_toArray, List.set_cons_zero, List.set_cons_succ]
          refine wpAnyH_take (i := 10) (v := ?_) rfl (by kernel_rfl) (by kernel_rfl) (by kernel_rfl) (fun _ _ _ h => h) (Or.inl ⟨by rfl, ?_⟩) (by assumption) ?_
          rotate_left
          · intro w' hSw
            try dsimp only at hSw
            go_simp; try rfl
          simp only [List.getElem_toArray, List.getElem_cons_succ, List.getElem_cons_zero, Act.put, List.setIfInBounds_toArray, List.set_cons_zero, List.set_cons_succ]
          refine wpAnyH_take (i := 11) (v := ?_) rfl (by kernel_rfl) (by kernel_rfl) (by kernel_rfl) (fun _ _ _ h => h) (Or.inl ⟨by rfl, ?_⟩) (by assumption) ?_
          rotate_left
          · intro w' hSw
            try dsimp only at hSw
            go_simp; try rfl
          simp only [List.getElem_toArray, List.getElem_cons_succ, List.getElem_cons_zero, Act.put, List.setIfInBounds_toArray, List.set_cons_zero, List.set_cons_succ]
          refine wpAnyH_take (i := 12) (v := ?_) rfl (by kernel_rfl) (by kernel_rfl) (by kernel_rfl) (fun _ _ _ h => h) (Or.inl ⟨by rfl, ?_⟩) (by assumption) ?_
          rotate_left
          · intro w' hSw
            try dsimp only at hSw
            go_simp; try rfl
          simp only [List.getElem_toArray, List.getElem_cons_succ, List.getElem_cons_zero, Act.put, List.setIfInBounds_toArray, List.set_cons_zero, List.set_cons_succ]
          refine wpAnyH_take (i := 13) (v := ?_) rfl (by kernel_rfl) (by kernel_rfl) (by kernel_rfl) (fun _ _ _ h => h) (Or.inl ⟨by rfl, ?_⟩) (by assumption) ?_
          rotate_left
          · intro w' hSw
            try dsimp only at hSw
            go_simp; try rfl
          simp only [List.getElem_toArray, List.getElem_cons_succ, List.getElem_cons_zero, Act.put, List.setIfInBounds_toArray, List.set_cons_zero, List.set_cons_succ]
          refine wpAnyH_take (i := 14) (v := ?_) rfl (by kernel_rfl) (by kernel_rfl) (by kernel_rfl) (fun _ _ _ h => h) (Or.inl ⟨by rfl, ?_⟩) (by assumption) ?_
          rotate_left
          · intro w' hSw
            try dsimp only at hSw
            go_simp; try rfl
          simp only [List.getElem_toArray, List.getElem_cons_succ, List.getElem_cons_zero, Act.put, List.setIfInBounds_toArray, List.set_cons_zero, List.set_cons_succ]
          refine wpAnyH_take (i := 15) (v := ?_) rfl (by kernel_rfl) (by kernel_rfl) (by kernel_rfl) (fun _ _ _ h => h) (Or.inl ⟨by rfl, ?_⟩) (by assumption) ?_
          rotate_left
          · intro w' hSw
            try dsimp only at hSw
            go_simp; try rfl
          simp only [List.getElem_toArray, List.getElem_cons_succ, List.getElem_cons_zero, Act.put, List.setIfInBounds_toArray, List.set_cons_zero, List.set_cons_succ]
          refine wpAnyH_take (i := 16) (v := ?_) rfl (by kernel_rfl) (by kernel_rfl) (by kernel_rfl) (fun _ _ _ h => h) (Or.inl ⟨by rfl, ?_⟩) (by assumption) ?_
          rotate_left
          · intro w' hSw
            try dsimp only at hSw
            go_simp; try rfl
          simp only [List.getElem_toArray, List.getElem_cons_succ, List.getElem_cons_zero, Act.put, List.setIfInBounds_toArray, List.set_cons_zero, List.set_cons_succ]
          refine wpAnyH_take (i := 17) (v := ?_) rfl (by kernel_rfl) (by kernel_rfl) (by kernel_rfl) (fun _ _ _ h => h) (Or.inl ⟨by rfl, ?_⟩) (by assumption) ?_
          rotate_left
          · intro w' hSw
            try dsimp only at hSw
            go_simp; try rfl
          simp only [List.getElem_toArray, List.getElem_cons_succ, List.getElem_cons_zero, Act.put, List.setIfInBounds_toArray, List.set_cons_zero, List.set_cons_succ]
          refine wpAnyH_take (i := 18) (v := ?_) rfl (by kernel_rfl) (by kernel_rfl) (by kernel_rfl) (fun _ _ _ h => h) (Or.inl ⟨by rfl, ?_⟩) (by assumption) ?_
          rotate_left
          · intro w' hSw
            try dsimp only at hSw
            go_simp; try rfl
          simp only [List.getElem_toArray, List.getElem_cons_succ, List.getElem_cons_zero, Act.put, List.setIfInBounds_toArray, List.set_cons_zero, List.set_cons_succ]
          refine wpAnyH_ready (rs := [9]) (by kernel_rfl) (by simp) (AllReadyH.cons rfl (fun K hK => ?_) AllReadyH.nil)
          refine step_callW (some 37) rfl (by kernel_rfl) 35 _ _ rfl #[uq, .int .i64 y.w] (by kernel_rfl) (countSB _ cq _ y.w (Hq.out.at HD.out) Hqm) ?_
          rintro e x37 ⟨rfl, b1⟩
          refine ⟨_, rfl, ?_⟩
          replace HD := hide (HD.out.trans (b1.mono HD.out.size))
          clear b1
          refine hK.out _ _ (HS.out _ HD.out) (fun hHeld => ?_)
          clear hK K
          simp only [Act.put, List.setIfInBounds_toArray, List.set_cons_zero, List.set_cons_succ]
          refine wpAnyH_ready (rs := [19]) (by kernel_rfl) (by simp) (AllReadyH.cons rfl (fun K hK => ?_) AllReadyH.nil)
          refine step_callW (some 47) rfl (by kernel_rfl) 35 _ _ rfl #[up, .int .i64 y.w] (by kernel_rfl) (countSB _ cp _ y.w (Hp.out.at HD.out) Hpm) ?_
          rintro e x47 ⟨rfl, b1⟩
          refine ⟨_, rfl, ?_⟩
          replace HD := hide (HD.out.trans (b1.mono HD.out.size))
          clear b1
          refine hK.out _ _ (HS.out _ HD.out) (fun hHeld => ?_)
          clear hK K
          simp only [Act.put, List.setIfInBounds_toArray, List.set_cons_zero, List.set_cons_succ]
          refine wpAnyH_take (i := 20) (v := ?_) rfl (by kernel_rfl) (by kernel_rfl) (by kernel_rfl) (fun _ _ _ h => h) (Or.inl ⟨by rfl, ?_⟩) (by assumption) ?_
          rotate_left
          · intro w' hSw
            try dsimp only at hSw
            go_simp; try rfl
          simp only [List.getElem_toArray, List.getElem_cons_succ, List.getElem_cons_zero, Act.put, List.setIfInBounds_toArray, List.set_cons_zero, List.set_cons_succ]
          refine wpAnyH_take (i := 21) (v := ?_) rfl (by kernel_rfl) (by kernel_rfl) (by kernel_rfl) (fun _ _ _ h => h) (Or.inl ⟨by rfl, ?_⟩) (by assumption) ?_
          rotate_left
          · intro w' hSw
            try dsimp only at hSw
            go_simp; try rfl
          simp only [List.getElem_toArray, List.getElem_cons_succ, List.getElem_cons_zero, Act.put, List.setIfInBounds_toArray, List.set_cons_zero, List.set_cons_succ]
          refine wpAnyH_done (by kernel_rfl) ?_ _
          go_wp2
          go_ret
          exact ⟨by rw [HF.out]; rfl, HB.out.trans (HD.out.mono HB.out.size)⟩
end Go.Proofs.Ytllghgcancennaa
