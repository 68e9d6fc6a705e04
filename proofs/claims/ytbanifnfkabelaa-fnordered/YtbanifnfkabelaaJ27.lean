/-
  Joined: ClcG, EvP.
-/
import Derived.Test.YtbanifnfkabelaaJ25
import Derived.Test.YtbanifnfkabelaaJ26
import Derived.Test.YtbanifnfkabelaaJ1
import Derived.Test.YtbanifnfkabelaaJ17
import Derived.Test.YtbanifnfkabelaaJ13
/-
  The program's known.goesOn: the clock behind an event, and what is known then.
-/
namespace Go.Proofs.Ytbanifnfkabelaa
open Go.RowKit

theorem below_grown {w x : World} (h : Below w.heap.size w x) (own : Option Nat) : w.grownBy x own := ⟨h.os, h.tape, h.output, h.size, fun k hk _ => h.block k hk⟩
theorem KnM.mono {w : World} {g n m : Nat} {f : Int → Int → Option Value} (h : KnM w g n f) (hm : n ≤ m) : KnM w g m f := by
  obtain ⟨D, h1, h2⟩ := h
  exact ⟨D, h1.mono hm, h2⟩
theorem aheadC_len (b : Bool) (fc : Int → Int → List Smp) (y : Evt) : (aheadC b fc y).length ≤ 3 := by
  unfold aheadC
  have h2 : (if y.k = 3 then [fc 4 y.i] else if y.k = 6 then [fc 0 y.i] else []).length ≤ 1 := by
    split
    · simp
    · split <;> simp
  have h1 : (if b = true then [] else [fc 5 y.w]).length ≤ 1 := by split <;> simp
  rw [List.length_cons, List.length_append]
  omega
set_option maxRecDepth 100000 in
set_option maxHeartbeats 16000000 in
theorem goesOnI (w : World) (xs : List Evt) (g n : Nat) (f : Int → Int → Option Value) (fc : Int → Int → List Smp) (y : Evt) (hk : KnM w g n f) (hn : n ≤ 100000)
    (hf : ∀ k i, (0 ≤ k ∧ k ≤ 6) → (0 ≤ i ∧ i ≤ 1000000) → Reads w w.heap.size (smps (fc k i)) ((f k i).getD (.slice none 0 0))) (hg : ∀ k i, (0 ≤ k ∧ k ≤ 6) → (0 ≤ i ∧ i ≤ 1000000) → GoodC xs (fc k i)) (hx : xs.length ≤ 3000) (hy : evAt y = true) :
    Calls Try.prog 29 #[.map (some g), .agg #[.int .i64 y.w, .int .i64 y.k, .int .i64 y.i, .int .i64 y.a]] w fun e w' => ∃ u, e = .returned u ∧ OwnD w' w.heap.size w'.heap.size (smps (tickX ((aheadC (f 0 y.w).isSome fc y).foldl joinK []) y.w)) u ∧ w.grownBy w' (some g) ∧ KnM w' g (n + 2) (nextF f y u) := by
  have HK := hide hk
  have hgl := hk.lt
  have HF := hide hf
  have HY := hide hy
  have HE := hide (evAt_in hy)
  have hyw : 0 ≤ y.w ∧ y.w ≤ 1000000 := by have := HE.out.1; omega
  have HCG := hide (aheadC_all (b := (f 0 y.w).isSome) hy hg)
  have HGF := hide (foldJ_good (GoodC.nil xs) HCG.out)
  have HCL := hide (aheadC_len (f 0 y.w).isSome fc y)
  clear hk hf hy hg
  have HB := hide ((Below.refl w.heap.size w).alloc (Nat.le_refl _) (.cells #[.int .i64 y.w, .int .i64 y.k, .int .i64 y.i, .int .i64 y.a] 29))
  have EF := hide (heap_alloc_new w (.cells #[.int .i64 y.w, .int .i64 y.k, .int .i64 y.i, .int .i64 y.a] 29))
  have hB1 : w.heap.size + 1 ≤ (w.alloc (.cells #[.int .i64 y.w, .int .i64 y.k, .int .i64 y.i, .int .i64 y.a] 29)).heap.size := by simp
  go_enter Try.func29, Try.ntmps29
  go_upto_region 1 with fail
  generalize w.alloc (.cells #[.int .i64 y.w, .int .i64 y.k, .int .i64 y.i, .int .i64 y.a] 29) = W at *
  have HS : Hid (∀ w', Below W.heap.size W w' → w'.cell? ⟨w.heap.size, 0, none⟩ = some (.int .i64 y.w) ∧ w'.cell? ⟨w.heap.size, 1, none⟩ = some (.int .i64 y.k) ∧ w'.cell? ⟨w.heap.size, 2, none⟩ = some (.int .i64 y.i) ∧ w'.cell? ⟨w.heap.size, 3, none⟩ = some (.int .i64 y.a)) := hide (fun w' hb => ⟨(hb.cell (p := ⟨w.heap.size, 0, none⟩) (by dsimp only; omega)).trans ((box_of EF.out).1 0 _ rfl), (hb.cell (p := ⟨w.heap.size, 1, none⟩) (by dsimp only; omega)).trans ((box_of EF.out).1 1 _ rfl), (hb.cell (p := ⟨w.heap.size, 2, none⟩) (by dsimp only; omega)).trans ((box_of EF.out).1 2 _ rfl), (hb.cell (p := ⟨w.heap.size, 3, none⟩) (by dsimp only; omega)).trans ((box_of EF.out).1 3 _ rfl)⟩)
  have HD : Hid (Below W.heap.size W W.drew) := hide (Below.refl W.heap.size W).drew
  refine wp_region_held_drew (S := fun w' => w'.cell? ⟨w.heap.size, 0, none⟩ = some (.int .i64 y.w) ∧ w'.cell? ⟨w.heap.size, 1, none⟩ = some (.int .i64 y.k) ∧ w'.cell? ⟨w.heap.size, 2, none⟩ = some (.int .i64 y.i) ∧ w'.cell? ⟨w.heap.size, 3, none⟩ = some (.int .i64 y.a)) (by kernel_rfl) (HS.out _ HD.out) (fun hHeld => ?_)
  generalize W.drew = x0 at HD hHeld ⊢
  refine wpAnyH_take (i := 0) (v := ?_) rfl (by kernel_rfl) (by kernel_rfl) (by kernel_rfl) (fun _ _ _ h => h) (Or.inl ⟨by rfl, ?_⟩) (by assumption) ?_
  rotate_left
  · intro w' hSw
    try dsimp only at hSw
    go_simp; try rfl
  simp only [List.getElem_toArray, List.getElem_cons_zero, Act.put, List.setIfInBounds_toArray, List.set_cons_zero, List.set_cons_succ]
  refine wpAnyH_take (i := 1) (v := ?_) rfl (by kernel_rfl) (by kernel_rfl) (by kernel_rfl) (fun _ _ _ h => h) (Or.inl ⟨by rfl, ?_⟩) (by assumption) ?_
  rotate_left
  · intro w' hSw
    try dsimp only at hSw
    go_simp; try rfl
  simp only [List.getElem_toArray, List.getElem_cons_succ, List.getElem_cons_zero, Act.put, List.setIfInBounds_toArray, List.set_cons_zero, List.set_cons_succ]
  refine wpAnyH_take (i := 4) (v := ?_) rfl (by kernel_rfl) (by kernel_rfl) (by kernel_rfl) (fun _ _ _ h => h) (Or.inl ⟨by rfl, ?_⟩) (by assumption) ?_
  rotate_left
  · intro w' hSw
    try dsimp only at hSw
    go_simp; try rfl
  simp only [List.getElem_toArray, List.getElem_cons_succ, List.getElem_cons_zero, Act.put, List.setIfInBounds_toArray, List.set_cons_zero, List.set_cons_succ]
  refine wpAnyH_take (i := 5) (v := ?_) rfl (by kernel_rfl) (by kernel_rfl) (by kernel_rfl) (fun _ _ _ h => h) (Or.inl ⟨by rfl, ?_⟩) (by assumption) ?_
  rotate_left
  · intro w' hSw
    try dsimp only at hSw
    go_simp; try rfl
  simp only [List.getElem_toArray, List.getElem_cons_succ, List.getElem_cons_zero, Act.put, List.setIfInBounds_toArray, List.set_cons_zero, List.set_cons_succ]
  refine wpAnyH_ready (rs := [2]) (by kernel_rfl) (by simp) (AllReadyH.cons rfl (fun K hK => ?_) AllReadyH.nil)
  refine step_callW (some 8) rfl (by kernel_rfl) 41 _ _ rfl #[.map (some g), .agg #[.int .i64 y.w, .int .i64 y.k, .int .i64 y.i, .int .i64 y.a]] (by kernel_rfl) (aheadI _ g n f fc y (HK.out.below (HB.out.trans (HD.out.mono HB.out.size))) (fun k i h1 h2 => (HF.out k i h1 h2).at (HB.out.trans (HD.out.mono HB.out.size))) HY.out) ?_
  rintro e x1 ⟨u1, rfl, r1, b1⟩
  refine ⟨_, rfl, ?_⟩
  replace HD := hide (HD.out.trans (b1.mono HD.out.size))
  have R1 := hide r1
  clear r1 b1
  refine hK.out _ _ (HS.out _ HD.out) (fun hHeld => ?_)
  clear hK K
  simp only [Act.put, List.setIfInBounds_toArray, List.set_cons_zero, List.set_cons_succ]
  refine wpAnyH_ready (rs := [3]) (by kernel_rfl) (by simp) (AllReadyH.cons rfl (fun K hK => ?_) AllReadyH.nil)
  refine step_callW (some 9) rfl (by kernel_rfl) 40 _ _ rfl #[u1] (by kernel_rfl) (joinAllI _ xs _ u1 R1.out HCG.out hx (by have := HCL.out; omega)) ?_
  rintro e x2 ⟨u2, rfl, r2, b2⟩
  refine ⟨_, rfl, ?_⟩
  replace HD := hide (HD.out.trans (b2.mono HD.out.size))
  have R2 := hide (r2.rd (Nat.le_refl _))
  clear r2 b2 R1
  refine hK.out _ _ (HS.out _ HD.out) (fun hHeld => ?_)
  clear hK K
  simp only [Act.put, List.setIfInBounds_toArray, List.set_cons_zero, List.set_cons_succ]
  refine wpAnyH_ready (rs := [6]) (by kernel_rfl) (by simp) (AllReadyH.cons rfl (fun K hK => ?_) AllReadyH.nil)
  have hz2 := HD.out.size
  refine step_callW (some 12) rfl (by kernel_rfl) 39 _ _ rfl #[u2, .int .i64 y.w] (by kernel_rfl) (tickI _ _ u2 y.w R2.out (HGF.out.g hx)) ?_
  rintro e x3 ⟨u3, rfl, r3, b3⟩
  refine ⟨_, rfl, ?_⟩
  replace HD := hide (HD.out.trans (b3.mono HD.out.size))
  have HT := hide r3
  have hz3 := b3.size
  clear r3 b3 R2
  refine hK.out _ _ (HS.out _ HD.out) (fun hHeld => ?_)
  clear hK K
  simp only [Act.put, List.setIfInBounds_toArray, List.set_cons_zero, List.set_cons_succ]
  refine wpAnyH_take (i := 7) (v := ?_) rfl (by kernel_rfl) (by kernel_rfl) (by kernel_rfl) (fun _ _ _ h => h) (Or.inl ⟨by rfl, ?_⟩) (by assumption) ?_
  rotate_left
  · intro w' hSw
    try dsimp only at hSw
    go_simp; try rfl
  simp only [List.getElem_toArray, List.getElem_cons_succ, List.getElem_cons_zero, Act.put, List.setIfInBounds_toArray, List.set_cons_zero, List.set_cons_succ]
  refine wpAnyH_done (by kernel_rfl) ?_ _
  have HGW := hide (below_grown (HB.out.trans (HD.out.mono HB.out.size)) (some g))
  have HK3 := hide (HK.out.below (HB.out.trans (HD.out.mono HB.out.size)))
  have EF3 := hide ((HD.out.block _ (by omega)).trans EF.out)
  have k0 := (box_of EF3.out).1 0 _ rfl
  obtain ⟨d3, hd3⟩ := clR_own HT.out
  have hwx : w.heap.size ≤ x2.heap.size := by omega
  clear HS hHeld HK HF HCG HGF HCL
  cases c4 : (y.k == 4) with
  | true =>
    have c4e : y.k = 4 := eq_of_beq c4
    have HC : Hid ((y.k = 4 ∨ y.k = 5)) := hide (.inl c4e)
    clear c4e
    go_wp2_with (first
      | (refine wp_known rfl _ _ _ rfl g n f rfl HK3.out (by unfold maxLen; omega) 0 y.w (by omega) hyw rfl u3 d3 hd3 rfl ?_; intro w1 h1 g1; have HK4 := hide h1; have HG4 := hide g1; have EF4 := hide ((g1.block _ (Array.getElem?_eq_some_iff.1 EF3.out).1 (fun e => by injection e with e; omega)).trans EF3.out); have w1k0 := (box_of EF4.out).1 0 _ rfl; have w1k1 := (box_of EF4.out).1 1 _ rfl; have w1k2 := (box_of EF4.out).1 2 _ rfl; clear h1 g1)
      | (refine wp_known rfl _ _ _ rfl g (n + 1) (putF f 0 y.w u3) rfl HK4.out (by unfold maxLen; omega) y.k y.i HE.out.2.1 HE.out.2.2 rfl u3 d3 hd3 rfl ?_; intro w2 h1 g1; have HK5 := hide h1; have HG5 := hide g1; have EF5 := hide ((g1.block _ (Array.getElem?_eq_some_iff.1 EF4.out).1 (fun e => by injection e with e; omega)).trans EF4.out); have w2k0 := (box_of EF5.out).1 0 _ rfl; have w2k1 := (box_of EF5.out).1 1 _ rfl; have w2k2 := (box_of EF5.out).1 2 _ rfl; clear h1 g1)
      | fail)
    go_ret
    refine ⟨u3, rfl, ?_, ?_, ?_⟩
    · exact (((HT.out.grownP HG4.out (by omega)).grownP HG5.out (by omega)).mono (by omega)).up (by have := HG5.out.size; have := HG4.out.size; omega)
    · exact grownBy_trans (grownBy_trans HGW.out HG4.out) HG5.out
    · unfold nextF
      rw [if_pos HC.out]
      exact HK5.out
  | false =>
    have c4e : ¬ y.k = 4 := fun e => by rw [e] at c4; simp at c4
    cases c5 : (y.k == 5) with
    | true =>
      have c5e : y.k = 5 := eq_of_beq c5
      have HC : Hid ((y.k = 4 ∨ y.k = 5)) := hide (.inr c5e)
      clear c5e
      go_wp2_with (first
        | (refine wp_known rfl _ _ _ rfl g n f rfl HK3.out (by unfold maxLen; omega) 0 y.w (by omega) hyw rfl u3 d3 hd3 rfl ?_; intro w1 h1 g1; have HK4 := hide h1; have HG4 := hide g1; have EF4 := hide ((g1.block _ (Array.getElem?_eq_some_iff.1 EF3.out).1 (fun e => by injection e with e; omega)).trans EF3.out); have w1k0 := (box_of EF4.out).1 0 _ rfl; have w1k1 := (box_of EF4.out).1 1 _ rfl; have w1k2 := (box_of EF4.out).1 2 _ rfl; clear h1 g1)
        | (refine wp_known rfl _ _ _ rfl g (n + 1) (putF f 0 y.w u3) rfl HK4.out (by unfold maxLen; omega) y.k y.i HE.out.2.1 HE.out.2.2 rfl u3 d3 hd3 rfl ?_; intro w2 h1 g1; have HK5 := hide h1; have HG5 := hide g1; have EF5 := hide ((g1.block _ (Array.getElem?_eq_some_iff.1 EF4.out).1 (fun e => by injection e with e; omega)).trans EF4.out); have w2k0 := (box_of EF5.out).1 0 _ rfl; have w2k1 := (box_of EF5.out).1 1 _ rfl; have w2k2 := (box_of EF5.out).1 2 _ rfl; clear h1 g1)
        | fail)
      go_ret
      refine ⟨u3, rfl, ?_, ?_, ?_⟩
      · exact (((HT.out.grownP HG4.out (by omega)).grownP HG5.out (by omega)).mono (by omega)).up (by have := HG5.out.size; have := HG4.out.size; omega)
      · exact grownBy_trans (grownBy_trans HGW.out HG4.out) HG5.out
      · unfold nextF
        rw [if_pos HC.out]
        exact HK5.out
    | false =>
      have c5e : ¬ y.k = 5 := fun e => by rw [e] at c5; simp at c5
      have HC : Hid (¬ (y.k = 4 ∨ y.k = 5)) := hide (by omega)
      go_wp2_with (first
        | (refine wp_known rfl _ _ _ rfl g n f rfl HK3.out (by unfold maxLen; omega) 0 y.w (by omega) hyw rfl u3 d3 hd3 rfl ?_; intro w1 h1 g1; have HK4 := hide h1; have HG4 := hide g1; have EF4 := hide ((g1.block _ (Array.getElem?_eq_some_iff.1 EF3.out).1 (fun e => by injection e with e; omega)).trans EF3.out); have w1k0 := (box_of EF4.out).1 0 _ rfl; have w1k1 := (box_of EF4.out).1 1 _ rfl; have w1k2 := (box_of EF4.out).1 2 _ rfl; clear h1 g1)
        | fail)
      go_ret
      refine ⟨u3, rfl, ?_, ?_, ?_⟩
      · exact (((HT.out.grownP HG4.out (by omega))).mono (by omega)).up (by have := HG4.out.size; omega)
      · exact grownBy_trans HGW.out HG4.out
      · unfold nextF
        rw [if_neg HC.out]
        exact HK4.out.mono (by omega)
end Go.Proofs.Ytbanifnfkabelaa
/-
  Events in the program: EventsOk.
-/
namespace Go.Proofs.Ytbanifnfkabelaa
open Go.RowKit

theorem evAll_no {xs : List Evt} {j : Nat} (hj : j < xs.length) (h : evAt (xs.getD j default) = false) : xs.all evAt = false := by
  cases c : xs.all evAt with
  | false => rfl
  | true =>
    rw [List.all_eq_true] at c
    have := c (xs.getD j default) (by rw [List.getD_eq_getElem?_getD, List.getElem?_eq_getElem hj]; exact List.getElem_mem hj)
    rw [h] at this
    cases this
theorem evAll_yes {xs : List Evt} (h : ∀ i, i < xs.length → evAt (xs.getD i default) = true) : xs.all evAt = true := by
  rw [List.all_eq_true]
  intro y hy
  obtain ⟨i, hi, rfl⟩ := List.getElem_of_mem hy
  have := h i hi
  rwa [List.getD_eq_getElem?_getD, List.getElem?_eq_getElem hi] at this
set_option maxRecDepth 100000 in
set_option maxHeartbeats 4000000 in
theorem onumI (w : World) (q : Int) : Calls Try.prog 44 #[.int .i64 q] w fun e w' => e = .returned (.bool (inB q 1 1000000)) ∧ w' = w := by
  go_enter Try.func44, Try.ntmps44
  go_wp2_with fail
  refine (inImpl _ _ _ _).mono ?_
  rintro e x2 ⟨rfl, hx2⟩
  rw [hx2]
  clear hx2 x2
  go_wp2
  go_ret
  exact ⟨rfl, rfl⟩
set_option maxRecDepth 100000 in
set_option maxHeartbeats 8000000 in
theorem rightI (w : World) (y : Evt) :
    Calls Try.prog 38 #[.agg #[.int .i64 y.w, .int .i64 y.k, .int .i64 y.i, .int .i64 y.a]] w fun e w' => e = .returned (.bool (evAt y)) ∧ Below w.heap.size w w' := by
  obtain ⟨V, hV⟩ : ∃ V, evAt y = V := ⟨_, rfl⟩
  have HV := hide hV
  rw [hV]
  clear hV
  go_enter Try.func38, Try.ntmps38
  go_upto_region 1 with fail
  have bA := (Below.refl w.heap.size w).alloc (Nat.le_refl _) (.cells #[.int .i64 y.w, .int .i64 y.k, .int .i64 y.i, .int .i64 y.a] 29)
  have EF := hide (heap_alloc_new w (.cells #[.int .i64 y.w, .int .i64 y.k, .int .i64 y.i, .int .i64 y.a] 29))
  have HBw := hide bA
  clear bA
  obtain ⟨gf, hgf⟩ : ∃ g, w.heap.size = g := ⟨_, rfl⟩
  rw [hgf] at EF ⊢
  clear hgf
  generalize w.alloc (.cells #[.int .i64 y.w, .int .i64 y.k, .int .i64 y.i, .int .i64 y.a] 29) = W2 at *
  have k0 := (box_of EF.out).1 0 _ rfl
  have k1 := (box_of EF.out).1 1 _ rfl
  have k2 := (box_of EF.out).1 2 _ rfl
  have k3 := (box_of EF.out).1 3 _ rfl
  go_wp2_with fail
  refine (onumI _ _).mono ?_
  rintro e x2 ⟨rfl, hx2⟩
  rw [hx2]
  clear hx2 x2
  cases c0 : inB y.w 1 1000000 with
  | false =>
    have HF : Hid (V = false) := hide (by rw [← HV.out]; unfold evAt; rw [c0]; rfl)
    go_wp2
    go_ret
    exact ⟨by rw [HF.out]; rfl, HBw.out⟩
  | true =>
    go_wp2_with fail
    refine (inImpl _ _ _ _).mono ?_
    rintro e x2 ⟨rfl, hx2⟩
    rw [hx2]
    clear hx2 x2
    cases c1 : inB y.k 0 6 with
    | false =>
      have HF : Hid (V = false) := hide (by rw [← HV.out]; unfold evAt; rw [c0, c1]; rfl)
      go_wp2
      go_ret
      exact ⟨by rw [HF.out]; rfl, HBw.out⟩
    | true =>
      go_wp2_with fail
      refine (inImpl _ _ _ _).mono ?_
      rintro e x2 ⟨rfl, hx2⟩
      rw [hx2]
      clear hx2 x2
      cases c2 : inB y.i 0 1000000 with
      | false =>
        have HF : Hid (V = false) := hide (by rw [← HV.out]; unfold evAt; rw [c0, c1, c2]; rfl)
        go_wp2
        go_ret
        exact ⟨by rw [HF.out]; rfl, HBw.out⟩
      | true =>
        go_wp2_with fail
        refine (inImpl _ _ _ _).mono ?_
        rintro e x2 ⟨rfl, hx2⟩
        rw [hx2]
        clear hx2 x2
        have HF : Hid (V = inB y.a 0 7) := hide (by rw [← HV.out]; unfold evAt; rw [c0, c1, c2]; rfl)
        clear c0 c1 c2
        go_wp2
        go_ret
        exact ⟨by rw [HF.out]; rfl, HBw.out⟩
set_option maxRecDepth 100000 in
set_option maxHeartbeats 8000000 in
theorem eachEvI (w : World) (xs : List Evt) (u : Value) (h : Reads w w.heap.size (evts xs) u) (hm : xs.length ≤ 1048576) :
    Calls Try.prog 37 #[u, .int .i64 3000, .func (.func 38) #[] #[]] w fun e w' => e = .returned (.bool (evB xs)) ∧ Below w.heap.size w w' := by
  have HR := hide h
  obtain ⟨a1, c1, e1, _⟩ := h.shape
  subst e1
  clear h
  by_cases hl : xs.length ≤ 3000
  case neg =>
    have HF : Hid (evB xs = false) := hide (by unfold evB; rw [decide_eq_false hl, Bool.and_false])
    go_enter Try.func37, Try.ntmps37
    go_wp2
    go_ret
    exact ⟨by rw [HF.out]; rfl, Below.refl _ _⟩
  have HE : Hid (evB xs = xs.all evAt) := hide (by unfold evB; rw [decide_eq_true hl, Bool.and_true])
  have HN : Hid (∀ j, j < xs.length → evAt (xs.getD j default) = false → xs.all evAt = false) := hide (fun j h1 h2 => evAll_no h1 h2)
  have HYs : Hid ((∀ i, i < xs.length → evAt (xs.getD i default) = true) → xs.all evAt = true) := hide (fun h => evAll_yes h)
  rw [HE.out]
  generalize xs.all evAt = V at *
  clear HE
  go_enter Try.func37, Try.ntmps37
  go_wp2
  go_loopw [15] (fun i wr => ∃ j : Nat, j ≤ xs.length ∧ i = .int .i64 (j : Int) ∧ Hid (Below w.heap.size w wr) ∧ Hid (∀ i, i < j → evAt (xs.getD i default) = true)) (fun i _ => xs.length - (intOf i).toNat)
  case atStart => exact ⟨0, Nat.zero_le _, rfl, hide (Below.refl _ _), hide (fun i hi => by omega)⟩
  case round =>
    obtain ⟨j, hj, rfl, HBr, HQ⟩ := hrel
    by_cases hlt : j < xs.length
    · skip
      obtain ⟨a', cap', ea, hcap, _, hc⟩ := event_at (HR.out.at HBr.out)
      cases ea
      obtain ⟨b, o, rfl, hbb, hcell⟩ := hc (by omega)
      obtain ⟨d0, d1, d2, d3⟩ := hcell j hlt
      clear hcell hc
      obtain ⟨y, hy⟩ : ∃ y, xs.getD j default = y := ⟨_, rfl⟩
      rw [hy] at d0 d1 d2 d3
      have HY := hide hy
      clear hy
      go_wp2_with fail
      have b1 := (Below.refl wr.heap.size wr).alloc (Nat.le_refl _) (.cells #[.int .i64 y.w, .int .i64 y.k, .int .i64 y.i, .int .i64 y.a] 29)
      replace HBr := hide (HBr.out.trans (b1.mono HBr.out.size))
      clear b1 d0 d1 d2 d3
      generalize wr.alloc (.cells #[.int .i64 y.w, .int .i64 y.k, .int .i64 y.i, .int .i64 y.a] 29) = W at *
      refine (rightI _ y).mono ?_
      rintro e w1 ⟨rfl, b1⟩
      replace HBr := hide (HBr.out.trans (b1.mono HBr.out.size))
      clear b1
      cases c : evAt y with
      | false =>
        have HF : Hid (V = false) := hide (HN.out j hlt (by rw [HY.out]; exact c))
        go_wp2
        go_ret
        exact ⟨by rw [HF.out]; rfl, HBr.out⟩
      | true =>
        have HQ2 : Hid (∀ i, i < j + 1 → evAt (xs.getD i default) = true) := hide (fun i hi => by
          rcases Nat.lt_succ_iff_lt_or_eq.1 hi with h | rfl
          · exact HQ.out i h
          · rw [HY.out]; exact c)
        go_wp2
        exact ⟨⟨j + 1, by omega, by go_num, HBr, HQ2⟩, by simp [intOf]; omega⟩
    · obtain rfl : j = xs.length := by omega
      have HF : Hid (V = true) := hide (HYs.out HQ.out)
      go_wp2
      go_ret
      exact ⟨by rw [HF.out]; rfl, HBr.out⟩
set_option maxRecDepth 100000 in
set_option maxHeartbeats 4000000 in
theorem eventsOkI (w : World) (xs : List Evt) (v : Value) (h : Reads w w.heap.size (evts xs) v) (hm : xs.length ≤ 1048576) :
    Calls Try.prog 28 #[v] w fun e w' => e = .returned (.bool (evB xs)) ∧ Below w.heap.size w w' := by
  have HR := hide h
  obtain ⟨a1, c1, e1, _⟩ := h.shape
  subst e1
  clear h
  go_enter Try.func28, Try.ntmps28
  go_wp2_with fail
  refine (eachEvI _ xs _ HR.out hm).mono ?_
  rintro e w1 ⟨rfl, b1⟩
  have HB := hide b1
  clear b1
  go_wp2
  go_ret
  exact ⟨rfl, HB.out⟩
end Go.Proofs.Ytbanifnfkabelaa
