/-
  Joined: ClcI, ClcV.
-/
import Derived.Test.YtbanifnfkabelaaJ27
import Derived.Carry
import Derived.Test.YtbanifnfkabelaaJ21
import Derived.Test.YtbanifnfkabelaaJ12
import Derived.Deep.RegionHeld
/-
  The program's Clocks.
-/
namespace Go.Proofs.Ytbanifnfkabelaa
open Go.RowKit

theorem out_known {w : World} {B hi j : Nat} {xs : List Evt} {v : Value} {us : List Value} (h : Out w B hi (clkN xs j) v us) : ∀ k i, (0 ≤ k ∧ k ≤ 6) → (0 ≤ i ∧ i ≤ 1000000) → Reads w w.heap.size (smps (fcl xs j k i)) ((fsrc xs us j k i).getD (.slice none 0 0)) := by
  intro k i _ _
  have hl := idxS_lt xs j k i
  unfold fcl fsrc atC
  by_cases c : 0 ≤ idxS xs j k i
  · rw [if_pos c, if_pos c]
    exact h.reads (by rw [clkN_len]; omega)
  · rw [if_neg c, if_neg c]
    exact (ownD_nil w 0 0 64 2).rd (Nat.le_refl _)
theorem evB_in {xs : List Evt} (h : evB xs = true) : xs.length ≤ 3000 ∧ ∀ j, j < xs.length → evAt (xs.getD j default) = true := by
  unfold evB at h
  rw [Bool.and_eq_true] at h
  refine ⟨of_decide_eq_true h.2, fun j hj => ?_⟩
  rw [List.getD_eq_getElem?_getD, List.getElem?_eq_getElem hj]
  exact List.all_eq_true.1 h.1 _ (List.getElem_mem hj)
theorem fsrc_zero (xs : List Evt) (k i : Int) : fsrc xs [] 0 k i = none := by
  have h := idxS_lt xs 0 k i
  unfold fsrc
  rw [if_neg (by omega)]
set_option maxRecDepth 100000 in
set_option maxHeartbeats 8000000 in
theorem clocksI (w : World) (xs : List Evt) (v : Value) (h : Reads w w.heap.size (evts xs) v) (hm : xs.length ≤ 1048576) :
    Calls Try.prog 14 #[v] w fun e w' => rowP w w' (rws (clocksX xs)) e := by
  have HR := hide h
  obtain ⟨a1, c1, e1, _⟩ := h.shape
  subst e1
  clear h
  have hmm := @run_makeMap Try.prog
  go_enter Try.func14, Try.ntmps14
  go_wp2_with fail
  refine (eventsOkI w xs _ HR.out hm).mono ?_
  rintro e x1 ⟨rfl, b1⟩
  have HB1 := hide b1
  clear b1
  cases c : evB xs with
  | false =>
    have HX : Hid (clocksX xs = []) := hide (by unfold clocksX; rw [c]; rfl)
    go_wp2
    go_ret
    refine ⟨_, rfl, ?_, HB1.out⟩
    rw [HX.out]
    exact ownD_nil _ _ _ _ _
  | true =>
    have HX : Hid (clocksX xs = clkN xs xs.length) := hide (by unfold clocksX; rw [if_pos c])
    have hx := (evB_in c).1
    have HEv := hide (evB_in c).2
    have hs1 := HB1.out.size
    have HK := hide (KnM.made x1)
    have HB := hide (HB1.out.trans (((Below.refl x1.heap.size x1).alloc (Nat.le_refl _) (.map #[] 0)).mono hs1))
    have hB1 : (x1.alloc (.map #[] 0)).heap.size = x1.heap.size + 1 := by simp
    go_upto_region 5 with fail
    obtain ⟨g, hg⟩ : ∃ g, x1.heap.size = g := ⟨_, rfl⟩
    rw [hg] at HK hB1 hs1 ⊢
    clear hg HB1
    generalize x1.alloc (.map #[] 0) = W1 at *
    obtain ⟨B, hBe⟩ : ∃ B, W1.heap.size = B := ⟨_, rfl⟩
    have hgB : g < B := by omega
    have hBr : B ≤ W1.heap.size := by omega
    clear hB1 hBe
    have HO := hide (outNone W1 B W1.heap.size hBr)
    go_wp2
    go_loopw [3, 13] (fun r i wr => ∃ (j : Nat) (us : List Value) (va : Option Addr) (vc : Nat), j ≤ xs.length ∧ i = .int .i64 (j : Int) ∧ r = .slice va j vc ∧ Hid (Out wr B wr.heap.size (clkN xs j) (.slice va j vc) us) ∧ Hid (KnM wr g (2 * j) (fsrc xs us j)) ∧ Hid (Below w.heap.size w wr) ∧ B ≤ wr.heap.size) (fun _ i _ => xs.length - (intOf i).toNat)
    case atStart => exact ⟨0, [], _, _, Nat.zero_le _, rfl, rfl, HO, hide (HK.out.congr (fun k i _ _ => fsrc_zero xs k i)), HB, hBr⟩
    case round =>
      clear HO HK HB hBr
      obtain ⟨j, us, va, vc, hj, rfl, rfl, HO, HK, HB, hBr⟩ := hrel
      by_cases hlt : j < xs.length
      · obtain ⟨a', cap', ea, hcap, _, hc⟩ := event_at (HR.out.at HB.out)
        cases ea
        obtain ⟨b, o, rfl, hbb, hcell⟩ := hc (by omega)
        obtain ⟨d0, d1, d2, d3⟩ := hcell j hlt
        clear hc hcell
        obtain ⟨y, hy⟩ : ∃ y, xs.getD j default = y := ⟨_, rfl⟩
        rw [hy] at d0 d1 d2 d3
        have HYo : Hid (evAt y = true) := hide (by rw [← hy]; exact HEv.out j hlt)
        have HNX : Hid (nextC xs (clkN xs j) j = (tickX ((aheadC (fsrc xs us j 0 y.w).isSome (fcl xs j) y).foldl joinK []) y.w)) := hide (by unfold nextC; rw [← ahead_fold (us := us) hy, hy])
        have HY := hide hy
        clear hy
        have hltI : (j : Int) < (xs.length : Int) := by omega
        go_upto_region 8 with fail
        clear d0 d1 d2 d3
        have b1 := (Below.refl wr.heap.size wr).alloc (Nat.le_refl _) (.cells #[.int .i64 y.w, .int .i64 y.k, .int .i64 y.i, .int .i64 y.a] 29)
        have EF := hide (heap_alloc_new wr (.cells #[.int .i64 y.w, .int .i64 y.k, .int .i64 y.i, .int .i64 y.a] 29))
        replace HO := hide ((HO.out.below b1).up b1.size)
        replace HK := hide (HK.out.below b1)
        replace HB := hide (HB.out.trans (b1.mono HB.out.size))
        have hBr2 : B ≤ (wr.alloc (.cells #[.int .i64 y.w, .int .i64 y.k, .int .i64 y.i, .int .i64 y.a] 29)).heap.size := Nat.le_trans hBr b1.size
        clear b1 hbb hBr
        obtain ⟨gf, hgf⟩ : ∃ g, wr.heap.size = g := ⟨_, rfl⟩
        rw [hgf] at EF ⊢
        clear hgf
        generalize wr.alloc (.cells #[.int .i64 y.w, .int .i64 y.k, .int .i64 y.i, .int .i64 y.a] 29) = W2 at *
        have k0 := (box_of EF.out).1 0 _ rfl
        have k1 := (box_of EF.out).1 1 _ rfl
        have k2 := (box_of EF.out).1 2 _ rfl
        have k3 := (box_of EF.out).1 3 _ rfl
        have HFR := hide (out_known HO.out)
        have HGD := hide (fun k i (_ : 0 ≤ k ∧ k ≤ 6) (_ : 0 ≤ i ∧ i ≤ 1000000) => atC_good (clkN_good xs j hj) (idxS xs j k i))
        have hsx := HB.out.size
        go_wp2_with (first
          | (go_at_call 29; refine (goesOnI _ xs g (2 * j) (fsrc xs us j) (fcl xs j) y HK.out (by omega) HFR.out HGD.out hx HYo.out).mono ?_; rintro e Z1 ⟨u9, rfl, o9, q9, k9⟩; obtain ⟨u9a, u9c, u9e⟩ := o9.shape; subst u9e; have hz1 := q9.size; have HXa := hide ((Below.refl Z1.heap.size Z1).alloc (Nat.le_refl _) (.cells #[.slice u9a (tickX ((aheadC (fsrc xs us j 0 y.w).isSome (fcl xs j) y).foldl joinK []) y.w).length u9c] 42)); have hsX := HXa.out.size; have HD := hide ((o9.below HXa.out).up HXa.out.size); have HO9 := hide ((HO.out.grownP q9 hgB).below HXa.out); have HK9 := hide (k9.below HXa.out); have HBz := hide ((HB.out.grown q9 hsx (fun q hq => by injection hq with hq; omega)).trans (HXa.out.mono (by omega))); have hbx := hide (box_of (heap_alloc_new Z1 (.cells #[.slice u9a (tickX ((aheadC (fsrc xs us j 0 y.w).isSome (fcl xs j) y).foldl joinK []) y.w).length u9c] 42))).1; clear o9 q9 k9 HXa)
          | (at_builtin; refine Out.app rfl _ _ rfl B _ _ j (clkN xs j) (clkN_len xs j) _ us rfl HO9.out _ _ _ (tickX ((aheadC (fsrc xs us j 0 y.w).isSome (fcl xs j) y).foldl joinK []) y.w) rfl hbx.out HD.out (by omega) (Nat.le_refl _) hBr2 (by omega) ?_; intro g9 vc9 w9 o9 gr9 hq9; have HOE := hide o9; have HKE := hide (HK9.out.grown gr9 (fun e => by have := (hq9 _ e).1; omega)); have HBE := hide (HBz.out.grown gr9 (by omega) (fun q hq => by have := (hq9 q hq).1; omega)); have hB9 := gr9.size; clear o9 gr9 hq9)
          | fail)
        refine ⟨⟨j + 1, us ++ [.slice u9a (tickX ((aheadC (fsrc xs us j 0 y.w).isSome (fcl xs j) y).foldl joinK []) y.w).length u9c], some ⟨g9, 0, none⟩, vc9, by omega, by go_num, rfl, hide ?_, hide ?_, HBE, by omega⟩, by simp [intOf]; omega⟩
        · rw [clkN_succ, HNX.out]
          exact HOE.out
        · have h := HKE.out.congr (f' := fsrc xs (us ++ [.slice u9a (tickX ((aheadC (fsrc xs us j 0 y.w).isSome (fcl xs j) y).foldl joinK []) y.w).length u9c]) (j + 1)) (fun k i h1 h2 => fsrc_next HY.out (by rw [HO.out.1, clkN_len]) h1 h2)
          exact h
      · obtain rfl : j = xs.length := by omega
        have hnl : ¬ (xs.length : Int) < (xs.length : Int) := by omega
        have HD := hide HO.out.done
        go_wp2
        go_ret
        refine ⟨_, rfl, ?_, HB.out⟩
        rw [HX.out]
        exact HD.out.mono (by omega)
end Go.Proofs.Ytbanifnfkabelaa
/-
  Before in the program.
-/
namespace Go.Proofs.Ytbanifnfkabelaa
open Go.RowKit

set_option maxRecDepth 100000 in
set_option maxHeartbeats 8000000 in
theorem beforeI (w : World) (xs : List Evt) (v : Value) (i j : Int) (h : Reads w w.heap.size (evts xs) v) (hm : xs.length ≤ 1048576) :
    Calls Try.prog 6 #[v, .int .i64 i, .int .i64 j] w fun e w' => e = .returned (.bool (beforeX xs i j)) ∧ Below w.heap.size w w' := by
  have HR := hide h
  obtain ⟨a1, c1, e1, _⟩ := h.shape
  subst e1
  clear h
  obtain ⟨V, hV⟩ : ∃ V, beforeX xs i j = V := ⟨_, rfl⟩
  have HV := hide hV
  rw [hV]
  clear hV
  go_enter Try.func6, Try.ntmps6
  go_wp2_with fail
  refine (clocksI w xs _ HR.out hm).mono ?_
  rintro e x2 ⟨u2, rfl, o2, b2⟩
  have HB := hide b2
  clear b2
  cases c : evB xs with
  | false =>
    have hX : clocksX xs = [] := by unfold clocksX; rw [c]; rfl
    rw [hX] at o2
    obtain ⟨ra, rc, re⟩ := o2.shape
    subst re
    clear o2 hX
    have HF : Hid (V = false) := hide (by rw [← HV.out]; unfold beforeX; rw [c]; rfl)
    have hl0 : (([] : List (List Smp)).length : Int) = 0 := rfl
    by_cases p1 : i < 0
    · go_wp2
      go_ret
      exact ⟨by rw [HF.out]; rfl, HB.out⟩
    · by_cases p3 : i ≥ j
      · go_wp2
        go_ret
        exact ⟨by rw [HF.out]; rfl, HB.out⟩
      · have p2 : j ≥ 0 := by omega
        go_wp2
        go_ret
        exact ⟨by rw [HF.out]; rfl, HB.out⟩
  | true =>
    have hx : xs.length ≤ 3000 := (evB_in c).1
    have hX : clocksX xs = clkN xs xs.length := by unfold clocksX; rw [if_pos c]
    rw [hX] at o2
    clear hX
    have HX := hide o2
    clear o2
    obtain ⟨ra, rc, re, _, hrw⟩ := rws_at (HX.out.rd (Nat.le_refl _))
    subst re
    rw [clkN_len] at hrw ⊢
    by_cases p1 : i < 0
    · have HF : Hid (V = false) := hide (by rw [← HV.out]; unfold beforeX; rw [c, decide_eq_false (show ¬ (0 : Int) ≤ i by omega)]; rfl)
      go_wp2
      go_ret
      exact ⟨by rw [HF.out]; rfl, HB.out⟩
    · by_cases p3 : i ≥ j
      · have HF : Hid (V = false) := hide (by rw [← HV.out]; unfold beforeX; rw [c, decide_eq_false (show ¬ i < j by omega)]; simp)
        go_wp2
        go_ret
        exact ⟨by rw [HF.out]; rfl, HB.out⟩
      · by_cases p2 : j ≥ (xs.length : Int)
        · have HF : Hid (V = false) := hide (by rw [← HV.out]; unfold beforeX; rw [c, decide_eq_false (show ¬ j < (xs.length : Int) by omega)]; simp)
          go_wp2
          go_ret
          exact ⟨by rw [HF.out]; rfl, HB.out⟩
        · obtain ⟨p, rfl⟩ := Int.eq_ofNat_of_zero_le (show 0 ≤ i by omega)
          obtain ⟨q, rfl⟩ := Int.eq_ofNat_of_zero_le (show 0 ≤ j by omega)
          have hpq : p < q := by omega
          have hqn : q < xs.length := by omega
          have hpqI : (p : Int) < (q : Int) := by omega
          have hqnI : (q : Int) < (xs.length : Int) := by omega
          have hpnI : (p : Int) < (xs.length : Int) := by omega
          obtain ⟨gb, go, rfl, hgb, hrw2⟩ := hrw (by omega)
          obtain ⟨uq, hcq, hrq⟩ := hrw2 q hqn
          obtain ⟨up, hcp, hrp⟩ := hrw2 p (by omega)
          clear hrw hrw2
          obtain ⟨cq, hq⟩ : ∃ c, (clkN xs xs.length).getD q [] = c := ⟨_, rfl⟩
          obtain ⟨cp, hp⟩ : ∃ c, (clkN xs xs.length).getD p [] = c := ⟨_, rfl⟩
          have hgq : GoodC xs cq := hq ▸ clkN_goodAt (Nat.le_refl _) hqn
          have hgp : GoodC xs cp := hp ▸ clkN_goodAt (Nat.le_refl _) (by omega)
          rw [hq] at hrq
          rw [hp] at hrp
          have Hqm : cq.length ≤ 1048576 := by have := hgq.len; omega
          have Hpm : cp.length ≤ 1048576 := by have := hgp.len; omega
          clear hgq hgp
          have Hq := hide hrq
          have Hp := hide hrp
          clear hrq hrp
          obtain ⟨a', cap', ea, hcap, _, hc⟩ := event_at (HR.out.at HB.out)
          cases ea
          obtain ⟨eb, eo, rfl, hbb, hcell⟩ := hc (by omega)
          obtain ⟨dw, _, _, _⟩ := hcell p (by omega)
          clear hc hcell
          obtain ⟨y, hy⟩ : ∃ y, xs.getD p default = y := ⟨_, rfl⟩
          rw [hy] at dw
          have HF : Hid (V = decide (cntX cp y.w ≤ cntX cq y.w)) := hide (by rw [← HV.out]; unfold beforeX; rw [c, decide_eq_true (show (0 : Int) ≤ (p : Int) by omega), decide_eq_true hpqI, decide_eq_true hqnI, Int.toNat_natCast, Int.toNat_natCast, hq, hp, hy]; rfl)
          clear hq hp hy
          go_upto_region 5 with fail
          have HS : Hid (∀ w', Below x2.heap.size x2 w' → w'.cell? ⟨gb, go + q, none⟩ = some uq ∧ w'.cell? ⟨gb, go + p, none⟩ = some up) := hide (fun w' hb => ⟨(hb.cell (p := ⟨gb, go + q, none⟩) (by dsimp only; omega)).trans hcq, (hb.cell (p := ⟨gb, go + p, none⟩) (by dsimp only; omega)).trans hcp⟩)
          have HD : Hid (Below x2.heap.size x2 x2.drew) := hide (Below.refl x2.heap.size x2).drew
          clear hcq hcp dw hbb hgb
          refine wp_region_held_drew (S := fun w' => w'.cell? ⟨gb, go + q, none⟩ = some uq ∧ w'.cell? ⟨gb, go + p, none⟩ = some up) (by kernel_rfl) (HS.out _ HD.out) (fun hHeld => ?_)
          generalize x2.drew = x0 at HD hHeld ⊢
          refine wpAnyH_take (i := 0) (v := ?_) rfl (by kernel_rfl) (by kernel_rfl) (by kernel_rfl) (fun _ _ _ h => h) (Or.inl ⟨by rfl, ?_⟩) (by assumption) ?_
          rotate_left
          · intro w' hSw
            try dsimp only at hSw
            go_simp; try rfl
          simp only [List.getElem_toArray, List.getElem_cons_zero, Act.put, List.setIfInBounds_toArray, List.set_cons_zero, List.set_cons_succ]
          refine wpAnyH_take (i := 1) (v := ?_) rfl (by kernel_rfl) (by kernel_rfl) (by kernel_rfl) (fun _ _ _ h => h) (Or.inl ⟨by rfl, ?_⟩) (by assumption) ?_
          rotate_left
          · intro w' hSw
            try dsimp only at hSw
            go_simp; try rfl
          simp only [List.getElem_toArray, List.getElem_cons_succ, List.getElem_cons_zero, Act.put, List.setIfInBounds_toArray, List.set_cons_zero, List.set_cons_succ]
          refine wpAnyH_take (i := 2) (v := ?_) rfl (by kernel_rfl) (by kernel_rfl) (by kernel_rfl) (fun _ _ _ h => h) (Or.inl ⟨by rfl, ?_⟩) (by assumption) ?_
          rotate_left
          · intro w' hSw
            try dsimp only at hSw
            go_simp; try rfl
          simp only [List.getElem_toArray, List.getElem_cons_succ, List.getElem_cons_zero, Act.put, List.setIfInBounds_toArray, List.set_cons_zero, List.set_cons_succ]
          refine wpAnyH_take (i := 3) (v := ?_) rfl (by kernel_rfl) (by kernel_rfl) (by kernel_rfl) (fun _ _ _ h => h) (Or.inl ⟨by rfl, ?_⟩) (by assumption) ?_
          rotate_left
          · intro w' hSw
            try dsimp only at hSw
            go_simp; try rfl
          simp only [List.getElem_toArray, List.getElem_cons_succ, List.getElem_cons_zero, Act.put, List.setIfInBounds_toArray, List.set_cons_zero, List.set_cons_succ]
          refine wpAnyH_take (i := 4) (v := ?_) rfl (by kernel_rfl) (by kernel_rfl) (by kernel_rfl) (fun _ _ _ h => h) (Or.inl ⟨by rfl, ?_⟩) (by assumption) ?_
          rotate_left
          · intro w' hSw
            try dsimp only at hSw
            go_simp; try rfl
          simp only [List.getElem_toArray, List.getElem_cons_succ, List.getElem_cons_zero, Act.put, List.setIfInBounds_toArray, List.set_cons_zero, List.set_cons_succ]
          refine wpAnyH_take (i := 6) (v := ?_) rfl (by kernel_rfl) (by kernel_rfl) (by kernel_rfl) (fun _ _ _ h => h) (Or.inl ⟨by rfl, ?_⟩) (by assumption) ?_
          rotate_left
          · intro w' hSw
            try dsimp only at hSw
            go_simp; try rfl
          simp only [List.getElem_toArray, List.getElem_cons_succ, List.getElem_cons_zero, Act.put, List.setIfInBounds_toArray, List.set_cons_zero, List.set_cons_succ]
          refine wpAnyH_take (i := 7) (v := ?_) rfl (by kernel_rfl) (by kernel_rfl) (by kernel_rfl) (fun _ _ _ h => h) (Or.inl ⟨by rfl, ?_⟩) (by assumption) ?_
          rotate_left
          · intro w' hSw
            try dsimp only at hSw
            go_simp; try rfl
          simp only [List.getElem_toArray, List.getElem_cons_succ, List.getElem_cons_zero, Act.put, List.setIfInBounds_toArray, List.set_cons_zero, List.set_cons_succ]
          refine wpAnyH_take (i := 8) (v := ?_) rfl (by kernel_rfl) (by kernel_rfl) (by kernel_rfl) (fun _ _ _ h => h) (Or.inl ⟨by rfl, ?_⟩) (by assumption) ?_
          rotate_left
          · intro w' hSw
            try dsimp only at hSw
            go_simp; try rfl
          simp only [List.getElem_toArray, List.getElem_cons_succ, List.getElem_cons_zero, Act.put, List.setIfInBounds_toArray, List.set_cons_zero, List.set_cons_succ]
          refine wpAnyH_take (i := 9) (v := ?_) rfl (by kernel_rfl) (by kernel_rfl) (by kernel_rfl) (fun _ _ _ h => h) (Or.inl ⟨by rfl, ?_⟩) (by assumption) ?_
          rotate_left
          · intro w' hSw
            try dsimp only at hSw
            go_simp; try rfl
          simp only [List.getElem_toArray, List.getElem_cons_succ, List.getElem_cons_zero, Act.put, List.setIfInBounds_toArray, List.set_cons_zero, List.set_cons_succ]
          refine wpAnyH_take (i := 10) (v := ?_) rfl (by kernel_rfl) (by kernel_rfl) (by kernel_rfl) (fun _ _ _ h => h) (Or.inl ⟨by rfl, ?_⟩) (by assumption) ?_
          rotate_left
          · intro w' hSw
            try dsimp only at hSw
            go_simp; try rfl
          simp only [List.getElem_toArray, List.getElem_cons_succ, List.getElem_cons_zero, Act.put, List.setIfInBounds_toArray, List.set_cons_zero, List.set_cons_succ]
          refine wpAnyH_ready (rs := [5]) (by kernel_rfl) (by simp) (AllReadyH.cons rfl (fun K hK => ?_) AllReadyH.nil)
          refine step_callW (some 34) rfl (by kernel_rfl) 19 _ _ rfl #[uq, .int .i64 y.w] (by kernel_rfl) (countI _ cq _ y.w (Hq.out.at HD.out) Hqm) ?_
          rintro e x34 ⟨rfl, b1⟩
          refine ⟨_, rfl, ?_⟩
          replace HD := hide (HD.out.trans (b1.mono HD.out.size))
          clear b1
          refine hK.out _ _ (HS.out _ HD.out) (fun hHeld => ?_)
          clear hK K
          simp only [Act.put, List.setIfInBounds_toArray, List.set_cons_zero, List.set_cons_succ]
          refine wpAnyH_ready (rs := [11]) (by kernel_rfl) (by simp) (AllReadyH.cons rfl (fun K hK => ?_) AllReadyH.nil)
          refine step_callW (some 40) rfl (by kernel_rfl) 19 _ _ rfl #[up, .int .i64 y.w] (by kernel_rfl) (countI _ cp _ y.w (Hp.out.at HD.out) Hpm) ?_
          rintro e x40 ⟨rfl, b1⟩
          refine ⟨_, rfl, ?_⟩
          replace HD := hide (HD.out.trans (b1.mono HD.out.size))
          clear b1
          refine hK.out _ _ (HS.out _ HD.out) (fun hHeld => ?_)
          clear hK K
          simp only [Act.put, List.setIfInBounds_toArray, List.set_cons_zero, List.set_cons_succ]
          refine wpAnyH_take (i := 12) (v := ?_) rfl (by kernel_rfl) (by kernel_rfl) (by kernel_rfl) (fun _ _ _ h => h) (Or.inl ⟨by rfl, ?_⟩) (by assumption) ?_
          rotate_left
          · intro w' hSw
            try dsimp only at hSw
            go_simp; try rfl
          simp only [List.getElem_toArray, List.getElem_cons_succ, List.getElem_cons_zero, Act.put, List.setIfInBounds_toArray, List.set_cons_zero, List.set_cons_succ]
          refine wpAnyH_take (i := 13) (v := ?_) rfl (by kernel_rfl) (by kernel_rfl) (by kernel_rfl) (fun _ _ _ h => h) (Or.inl ⟨by rfl, ?_⟩) (by assumption) ?_
          rotate_left
          · intro w' hSw
            try dsimp only at hSw
            go_simp; try rfl
          simp only [List.getElem_toArray, List.getElem_cons_succ, List.getElem_cons_zero, Act.put, List.setIfInBounds_toArray, List.set_cons_zero, List.set_cons_succ]
          refine wpAnyH_done (by kernel_rfl) ?_ _
          go_wp2
          go_ret
          exact ⟨by rw [HF.out]; rfl, HB.out.trans (HD.out.mono HB.out.size)⟩
end Go.Proofs.Ytbanifnfkabelaa
