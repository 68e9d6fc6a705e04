/-
  The program's Clocks.
-/
import Derived.Test.YtllghgcancennaaClcG
import Derived.Test.YtllghgcancennaaEvP
import Derived.Carry
namespace Go.Proofs.Ytllghgcancennaa
open Go.RowKit

theorem out_known {w : World} {B hi j : Nat} {xs : List Evt} {v : Value} {us : List Value} (h : Out w B hi (clkN xs j) v us) : ∀ k i, (0 ≤ k ∧ k ≤ 6) → (0 ≤ i ∧ i ≤ 1000000) → Reads w w.heap.size (smps (fcl xs j k i)) ((fsrc xs us j k i).getD (.slice none 0 0)) := by
  intro k i _ _
  have hl := idxS_lt xs j k i
  unfold fcl fsrc atC
  by_cases c : 0 ≤ idxS xs j k i
  · rw [if_pos c, if_pos c]
    exact h.reads (by rw [clkN_len]; omega)
  · rw [if_neg c, if_neg c]
    exact (ownD_nil w 0 0 72 2).rd (Nat.le_refl _)
theorem evB_in {xs : List Evt} (h : evB xs = true) : xs.length ≤ 3000 ∧ ∀ j, j < xs.length → evAt (xs.getD j default) = true := by
  unfold evB at h
  rw [Bool.and_eq_true] at h
  refine ⟨of_decide_eq_true h.2, fun j hj => ?_⟩
  rw [List.getD_eq_getElem?_getD, List.getElem?_eq_getElem hj]
  exact List.all_eq_true.1 h.1 _ (List.getElem_mem hj)
theorem fsrc_zero (xs : List Evt) (k i : Int) : fsrc xs [] 0 k i = none := by
  have h := idxS_lt xs 0 k i
  unfold fsrc
  rw [if_neg (by omega)]
set_option maxRecDepth 100000 in
set_option maxHeartbeats 8000000 in
theorem clocksI (w : World) (xs : List Evt) (v : Value) (h : Reads w w.heap.size (evts xs) v) (hm : xs.length ≤ 1048576) :
    Calls Try.prog 15 #[v] w fun e w' => rowP w w' (rws (clocksX xs)) e := by
  have HR := hide h
  obtain ⟨a1, c1, e1, _⟩ := h.shape
  subst e1
  clear h
  have hmm := @run_makeMap Try.prog
  go_enter Try.func15, Try.ntmps15
  go_wp2_with fail
  refine (eventsOkI w xs _ HR.out hm).mono ?_
  rintro e x1 ⟨rfl, b1⟩
  have HB1 := hide b1
  clear b1
  cases c : evB xs with
  | false =>
    have HX : Hid (clocksX xs = []) := hide (by unfold clocksX; rw [c]; rfl)
    go_wp2
    go_ret
    refine ⟨_, rfl, ?_, HB1.out⟩
    rw [HX.out]
    exact ownD_nil _ _ _ _ _
  | true =>
    have HX : Hid (clocksX xs = clkN xs xs.length) := hide (by unfold clocksX; rw [if_pos c])
    have hx := (evB_in c).1
    have HEv := hide (evB_in c).2
    have hs1 := HB1.out.size
    have HK := hide (KnM.made x1)
    have HB := hide (HB1.out.trans (((Below.refl x1.heap.size x1).alloc (Nat.le_refl _) (.map #[] 0)).mono hs1))
    have hB1 : (x1.alloc (.map #[] 0)).heap.size = x1.heap.size + 1 := by simp
    go_upto_region 5 with fail
    obtain ⟨g, hg⟩ : ∃ g, x1.heap.size = g := ⟨_, rfl⟩
    rw [hg] at HK hB1 hs1 ⊢
    clear hg HB1
    generalize x1.alloc (.map #[] 0) = W1 at *
    obtain ⟨B, hBe⟩ : ∃ B, W1.heap.size = B := ⟨_, rfl⟩
    have hgB : g < B := by omega
    have hBr : B ≤ W1.heap.size := by omega
    clear hB1 hBe
    have HO := hide (outNone W1 B W1.heap.size hBr)
    go_wp2
    go_loopw [3, 13] (fun r i wr => ∃ (j : Nat) (us : List Value) (va : Option Addr) (vc : Nat), j ≤ xs.length ∧ i = .int .i64 (j : Int) ∧ r = .slice va j vc ∧ Hid (Out wr B wr.heap.size (clkN xs j) (.slice va j vc) us) ∧ Hid (KnM wr g (2 * j) (fsrc xs us j)) ∧ Hid (Below w.heap.size w wr) ∧ B ≤ wr.heap.size) (fun _ i _ => xs.length - (intOf i).toNat)
    case atStart => exact ⟨0, [], _, _, Nat.zero_le _, rfl, rfl, HO, hide (HK.out.congr (fun k i _ _ => fsrc_zero xs k i)), HB, hBr⟩
    case round =>
      clear HO HK HB hBr
      obtain ⟨j, us, va, vc, hj, rfl, rfl, HO, HK, HB, hBr⟩ := hrel
      by_cases hlt : j < xs.length
      · obtain ⟨a', cap', ea, hcap, _, hc⟩ := event_at (HR.out.at HB.out)
        cases ea
        obtain ⟨b, o, rfl, hbb, hcell⟩ := hc (by omega)
        obtain ⟨d0, d1, d2, d3⟩ := hcell j hlt
        clear hc hcell
        obtain ⟨y, hy⟩ : ∃ y, xs.getD j default = y := ⟨_, rfl⟩
        rw [hy] at d0 d1 d2 d3
        have HYo : Hid (evAt y = true) := hide (by rw [← hy]; exact HEv.out j hlt)
        have HNX : Hid (nextC xs (clkN xs j) j = (tickX ((aheadC (fsrc xs us j 0 y.w).isSome (fcl xs j) y).foldl joinK []) y.w)) := hide (by unfold nextC; rw [← ahead_fold (us := us) hy, hy])
        have HY := hide hy
        clear hy
        have hltI : (j : Int) < (xs.length : Int) := by omega
        go_upto_region 8 with fail
        clear d0 d1 d2 d3
        have b1 := (Below.refl wr.heap.size wr).alloc (Nat.le_refl _) (.cells #[.int .i64 y.w, .int .i64 y.k, .int .i64 y.i, .int .i64 y.a] 40)
        have EF := hide (heap_alloc_new wr (.cells #[.int .i64 y.w, .int .i64 y.k, .int .i64 y.i, .int .i64 y.a] 40))
        replace HO := hide ((HO.out.below b1).up b1.size)
        replace HK := hide (HK.out.below b1)
        replace HB := hide (HB.out.trans (b1.mono HB.out.size))
        have hBr2 : B ≤ (wr.alloc (.cells #[.int .i64 y.w, .int .i64 y.k, .int .i64 y.i, .int .i64 y.a] 40)).heap.size := Nat.le_trans hBr b1.size
        clear b1 hbb hBr
        obtain ⟨gf, hgf⟩ : ∃ g, wr.heap.size = g := ⟨_, rfl⟩
        rw [hgf] at EF ⊢
        clear hgf
        generalize wr.alloc (.cells #[.int .i64 y.w, .int .i64 y.k, .int .i64 y.i, .int .i64 y.a] 40) = W2 at *
        have k0 := (box_of EF.out).1 0 _ rfl
        have k1 := (box_of EF.out).1 1 _ rfl
        have k2 := (box_of EF.out).1 2 _ rfl
        have k3 := (box_of EF.out).1 3 _ rfl
        have HFR := hide (out_known HO.out)
        have HGD := hide (fun k i (_ : 0 ≤ k ∧ k ≤ 6) (_ : 0 ≤ i ∧ i ≤ 1000000) => atC_good (clkN_good xs j hj) (idxS xs j k i))
        have hsx := HB.out.size
        go_wp2_with (first
          | (go_at_call 40; refine (goesOnI _ xs g (2 * j) (fsrc xs us j) (fcl xs j) y HK.out (by omega) HFR.out HGD.out hx HYo.out).mono ?_; rintro e Z1 ⟨u9, rfl, o9, q9, k9⟩; obtain ⟨u9a, u9c, u9e⟩ := o9.shape; subst u9e; have hz1 := q9.size; have HXa := hide ((Below.refl Z1.heap.size Z1).alloc (Nat.le_refl _) (.cells #[.slice u9a (tickX ((aheadC (fsrc xs us j 0 y.w).isSome (fcl xs j) y).foldl joinK []) y.w).length u9c] 44)); have hsX := HXa.out.size; have HD := hide ((o9.below HXa.out).up HXa.out.size); have HO9 := hide ((HO.out.grownP q9 hgB).below HXa.out); have HK9 := hide (k9.below HXa.out); have HBz := hide ((HB.out.grown q9 hsx (fun q hq => by injection hq with hq; omega)).trans (HXa.out.mono (by omega))); have hbx := hide (box_of (heap_alloc_new Z1 (.cells #[.slice u9a (tickX ((aheadC (fsrc xs us j 0 y.w).isSome (fcl xs j) y).foldl joinK []) y.w).length u9c] 44))).1; clear o9 q9 k9 HXa)
          | (at_builtin; refine Out.app rfl _ _ rfl B _ _ j (clkN xs j) (clkN_len xs j) _ us rfl HO9.out _ _ _ (tickX ((aheadC (fsrc xs us j 0 y.w).isSome (fcl xs j) y).foldl joinK []) y.w) rfl hbx.out HD.out (by omega) (Nat.le_refl _) hBr2 (by omega) ?_; intro g9 vc9 w9 o9 gr9 hq9; have HOE := hide o9; have HKE := hide (HK9.out.grown gr9 (fun e => by have := (hq9 _ e).1; omega)); have HBE := hide (HBz.out.grown gr9 (by omega) (fun q hq => by have := (hq9 q hq).1; omega)); have hB9 := gr9.size; clear o9 gr9 hq9)
          | fail)
        refine ⟨⟨j + 1, us ++ [.slice u9a (tickX ((aheadC (fsrc xs us j 0 y.w).isSome (fcl xs j) y).foldl joinK []) y.w).length u9c], some ⟨g9, 0, none⟩, vc9, by omega, by go_num, rfl, hide ?_, hide ?_, HBE, by omega⟩, by simp [intOf]; omega⟩
        · rw [clkN_succ, HNX.out]
          exact HOE.out
        · have h := HKE.out.congr (f' := fsrc xs (us ++ [.slice u9a (tickX ((aheadC (fsrc xs us j 0 y.w).isSome (fcl xs j) y).foldl joinK []) y.w).length u9c]) (j + 1)) (fun k i h1 h2 => fsrc_next HY.out (by rw [HO.out.1, clkN_len]) h1 h2)
          exact h
      · obtain rfl : j = xs.length := by omega
        have hnl : ¬ (xs.length : Int) < (xs.length : Int) := by omega
        have HD := hide HO.out.done
        go_wp2
        go_ret
        refine ⟨_, rfl, ?_, HB.out⟩
        rw [HX.out]
        exact HD.out.mono (by omega)
end Go.Proofs.Ytllghgcancennaa
