/-
  The program's known.goesOn: the clock behind an event, and what is known then.
-/
import Derived.Test.YtllghgcancennaaJ25
import Derived.Test.YtllghgcancennaaJ26
import Derived.Test.YtllghgcancennaaJ1
namespace Go.Proofs.Ytllghgcancennaa
open Go.RowKit

theorem below_grown {w x : World} (h : Below w.heap.size w x) (own : Option Nat) : w.grownBy x own := ⟨h.os, h.tape, h.output, h.size, fun k hk _ => h.block k hk⟩
theorem KnM.mono {w : World} {g n m : Nat} {f : Int → Int → Option Value} (h : KnM w g n f) (hm : n ≤ m) : KnM w g m f := by
  obtain ⟨D, h1, h2⟩ := h
  exact ⟨D, h1.mono hm, h2⟩
theorem aheadC_len (b : Bool) (fc : Int → Int → List Smp) (y : Evt) : (aheadC b fc y).length ≤ 3 := by
  unfold aheadC
  have h2 : (if y.k = 3 then [fc 4 y.i] else if y.k = 6 then [fc 0 y.i] else []).length ≤ 1 := by
    split
    · simp
    · split <;> simp
  have h1 : (if b = true then [] else [fc 5 y.w]).length ≤ 1 := by split <;> simp
  rw [List.length_cons, List.length_append]
  omega
set_option maxRecDepth 100000 in
set_option maxHeartbeats 16000000 in
theorem goesOnI (w : World) (xs : List Evt) (g n : Nat) (f : Int → Int → Option Value) (fc : Int → Int → List Smp) (y : Evt) (hk : KnM w g n f) (hn : n ≤ 100000)
    (hf : ∀ k i, (0 ≤ k ∧ k ≤ 6) → (0 ≤ i ∧ i ≤ 1000000) → Reads w w.heap.size (smps (fc k i)) ((f k i).getD (.slice none 0 0))) (hg : ∀ k i, (0 ≤ k ∧ k ≤ 6) → (0 ≤ i ∧ i ≤ 1000000) → GoodC xs (fc k i)) (hx : xs.length ≤ 3000) (hy : evAt y = true) :
    Calls Try.prog 40 #[.map (some g), .agg #[.int .i64 y.w, .int .i64 y.k, .int .i64 y.i, .int .i64 y.a]] w fun e w' => ∃ u, e = .returned u ∧ OwnD w' w.heap.size w'.heap.size (smps (tickX ((aheadC (f 0 y.w).isSome fc y).foldl joinK []) y.w)) u ∧ w.grownBy w' (some g) ∧ KnM w' g (n + 2) (nextF f y u) := by
  have HK := hide hk
  have hgl := hk.lt
  have HF := hide hf
  have HY := hide hy
  have HE := hide (evAt_in hy)
  have hyw : 0 ≤ y.w ∧ y.w ≤ 1000000 := by have := HE.out.1; omega
  have HCG := hide (aheadC_all (b := (f 0 y.w).isSome) hy hg)
  have HGF := hide (foldJ_good (GoodC.nil xs) HCG.out)
  have HCL := hide (aheadC_len (f 0 y.w).isSome fc y)
  clear hk hf hy hg
  have HB := hide ((Below.refl w.heap.size w).alloc (Nat.le_refl _) (.cells #[.int .i64 y.w, .int .i64 y.k, .int .i64 y.i, .int .i64 y.a] 40))
  have EF := hide (heap_alloc_new w (.cells #[.int .i64 y.w, .int .i64 y.k, .int .i64 y.i, .int .i64 y.a] 40))
  have hB1 : w.heap.size + 1 ≤ (w.alloc (.cells #[.int .i64 y.w, .int .i64 y.k, .int .i64 y.i, .int .i64 y.a] 40)).heap.size := by simp
  go_enter Try.func40, Try.ntmps40
  go_upto_region 1 with fail
  generalize w.alloc (.cells #[.int .i64 y.w, .int .i64 y.k, .int .i64 y.i, .int .i64 y.a] 40) = W at *
  have HS : Hid (∀ w', Below W.heap.size W w' → w'.cell? ⟨w.heap.size, 0, none⟩ = some (.int .i64 y.w) ∧ w'.cell? ⟨w.heap.size, 1, none⟩ = some (.int .i64 y.k) ∧ w'.cell? ⟨w.heap.size, 2, none⟩ = some (.int .i64 y.i) ∧ w'.cell? ⟨w.heap.size, 3, none⟩ = some (.int .i64 y.a)) := hide (fun w' hb => ⟨(hb.cell (p := ⟨w.heap.size, 0, none⟩) (by dsimp only; omega)).trans ((box_of EF.out).1 0 _ rfl), (hb.cell (p := ⟨w.heap.size, 1, none⟩) (by dsimp only; omega)).trans ((box_of EF.out).1 1 _ rfl), (hb.cell (p := ⟨w.heap.size, 2, none⟩) (by dsimp only; omega)).trans ((box_of EF.out).1 2 _ rfl), (hb.cell (p := ⟨w.heap.size, 3, none⟩) (by dsimp only; omega)).trans ((box_of EF.out).1 3 _ rfl)⟩)
  have HD : Hid (Below W.heap.size W W.drew) := hide (Below.refl W.heap.size W).drew
  refine wp_region_held_drew (S := fun w' => w'.cell? ⟨w.heap.size, 0, none⟩ = some (.int .i64 y.w) ∧ w'.cell? ⟨w.heap.size, 1, none⟩ = some (.int .i64 y.k) ∧ w'.cell? ⟨w.heap.size, 2, none⟩ = some (.int .i64 y.i) ∧ w'.cell? ⟨w.heap.size, 3, none⟩ = some (.int .i64 y.a)) (by kernel_rfl) (HS.out _ HD.out) (fun hHeld => ?_)
  generalize W.drew = x0 at HD hHeld ⊢
  refine wpAnyH_take (i := 0) (v := ?_) rfl (by kernel_rfl) (by kernel_rfl) (by kernel_rfl) (fun _ _ _ h => h) (Or.inl ⟨by rfl, ?_⟩) (by assumption) ?_
  rotate_left
  · intro w' hSw
    try dsimp only at hSw
    go_simp; try rfl
  simp only [List.getElem_toArray, List.getElem_cons_zero, Act.put, List.setIfInBounds_toArray, List.set_cons_zero, List.set_cons_succ]
  refine wpAnyH_take (i := 1) (v := ?_) rfl (by kernel_rfl) (by kernel_rfl) (by kernel_rfl) (fun _ _ _ h => h) (Or.inl ⟨by rfl, ?_⟩) (by assumption) ?_
  rotate_left
  · intro w' hSw
    try dsimp only at hSw
    go_simp; try rfl
  simp only [List.getElem_toArray, List.getElem_cons_succ, List.getElem_cons_zero, Act.put, List.setIfInBounds_toArray, List.set_cons_zero, List.set_cons_succ]
  refine wpAnyH_take (i := 4) (v := ?_) rfl (by kernel_rfl) (by kernel_rfl) (by kernel_rfl) (fun _ _ _ h => h) (Or.inl ⟨by rfl, ?_⟩) (by assumption) ?_
  rotate_left
  · intro w' hSw
    try dsimp only at hSw
    go_simp; try rfl
  simp only [List.getElem_toArray, List.getElem_cons_succ, List.getElem_cons_zero, Act.put, List.setIfInBounds_toArray, List.set_cons_zero, List.set_cons_succ]
  refine wpAnyH_take (i := 5) (v := ?_) rfl (by kernel_rfl) (by kernel_rfl) (by kernel_rfl) (fun _ _ _ h => h) (Or.inl ⟨by rfl, ?_⟩) (by assumption) ?_
  rotate_left
  · intro w' hSw
    try dsimp only at hSw
    go_simp; try rfl
  simp only [List.getElem_toArray, List.getElem_cons_succ, List.getElem_cons_zero, Act.put, List.setIfInBounds_toArray, List.set_cons_zero, List.set_cons_succ]
  refine wpAnyH_ready (rs := [2]) (by kernel_rfl) (by simp) (AllReadyH.cons rfl (fun K hK => ?_) AllReadyH.nil)
  refine step_callW (some 8) rfl (by kernel_rfl) 65 _ _ rfl #[.map (some g), .agg #[.int .i64 y.w, .int .i64 y.k, .int .i64 y.i, .int .i64 y.a]] (by kernel_rfl) (aheadI _ g n f fc y (HK.out.below (HB.out.trans (HD.out.mono HB.out.size))) (fun k i h1 h2 => (HF.out k i h1 h2).at (HB.out.trans (HD.out.mono HB.out.size))) HY.out) ?_
  rintro e x1 ⟨u1, rfl, r1, b1⟩
  refine ⟨_, rfl, ?_⟩
  replace HD := hide (HD.out.trans (b1.mono HD.out.size))
  have R1 := hide r1
  clear r1 b1
  refine hK.out _ _ (HS.out _ HD.out) (fun hHeld => ?_)
  clear hK K
  simp only [Act.put, List.setIfInBounds_toArray, List.set_cons_zero, List.set_cons_succ]
  refine wpAnyH_ready (rs := [3]) (by kernel_rfl) (by simp) (AllReadyH.cons rfl (fun K hK => ?_) AllReadyH.nil)
  refine step_callW (some 9) rfl (by kernel_rfl) 55 _ _ rfl #[u1] (by kernel_rfl) (joinAllI _ xs _ u1 R1.out HCG.out hx (by have := HCL.out; omega)) ?_
  rintro e x2 ⟨u2, rfl, r2, b2⟩
  refine ⟨_, rfl, ?_⟩
  replace HD := hide (HD.out.trans (b2.mono HD.out.size))
  have R2 := hide (r2.rd (Nat.le_refl _))
  clear r2 b2 R1
  refine hK.out _ _ (HS.out _ HD.out) (fun hHeld => ?_)
  clear hK K
  simp only [Act.put, List.setIfInBounds_toArray, List.set_cons_zero, List.set_cons_succ]
  refine wpAnyH_ready (rs := [6]) (by kernel_rfl) (by simp) (AllReadyH.cons rfl (fun K hK => ?_) AllReadyH.nil)
  have hz2 := HD.out.size
  refine step_callW (some 12) rfl (by kernel_rfl) 64 _ _ rfl #[u2, .int .i64 y.w] (by kernel_rfl) (tickI _ _ u2 y.w R2.out (HGF.out.g hx)) ?_
  rintro e x3 ⟨u3, rfl, r3, b3⟩
  refine ⟨_, rfl, ?_⟩
  replace HD := hide (HD.out.trans (b3.mono HD.out.size))
  have HT := hide r3
  have hz3 := b3.size
  clear r3 b3 R2
  refine hK.out _ _ (HS.out _ HD.out) (fun hHeld => ?_)
  clear hK K
  simp only [Act.put, List.setIfInBounds_toArray, List.set_cons_zero, List.set_cons_succ]
  refine wpAnyH_take (i := 7) (v := ?_) rfl (by kernel_rfl) (by kernel_rfl) (by kernel_rfl) (fun _ _ _ h => h) (Or.inl ⟨by rfl, ?_⟩) (by assumption) ?_
  rotate_left
  · intro w' hSw
    try dsimp only at hSw
    go_simp; try rfl
  simp only [List.getElem_toArray, List.getElem_cons_succ, List.getElem_cons_zero, Act.put, List.setIfInBounds_toArray, List.set_cons_zero, List.set_cons_succ]
  refine wpAnyH_done (by kernel_rfl) ?_ _
  have HGW := hide (below_grown (HB.out.trans (HD.out.mono HB.out.size)) (some g))
  have HK3 := hide (HK.out.below (HB.out.trans (HD.out.mono HB.out.size)))
  have EF3 := hide ((HD.out.block _ (by omega)).trans EF.out)
  have k0 := (box_of EF3.out).1 0 _ rfl
  obtain ⟨d3, hd3⟩ := clR_own HT.out
  have hwx : w.heap.size ≤ x2.heap.size := by omega
  clear HS hHeld HK HF HCG HGF HCL
  cases c4 : (y.k == 4) with
  | true =>
    have c4e : y.k = 4 := eq_of_beq c4
    have HC : Hid ((y.k = 4 ∨ y.k = 5)) := hide (.inl c4e)
    clear c4e
    go_wp2_with (first
      | (refine wp_known rfl _ _ _ rfl g n f rfl HK3.out (by unfold maxLen; omega) 0 y.w (by omega) hyw rfl u3 d3 hd3 rfl ?_; intro w1 h1 g1; have HK4 := hide h1; have HG4 := hide g1; have EF4 := hide ((g1.block _ (Array.getElem?_eq_some_iff.1 EF3.out).1 (fun e => by injection e with e; omega)).trans EF3.out); have w1k0 := (box_of EF4.out).1 0 _ rfl; have w1k1 := (box_of EF4.out).1 1 _ rfl; have w1k2 := (box_of EF4.out).1 2 _ rfl; clear h1 g1)
      | (refine wp_known rfl _ _ _ rfl g (n + 1) (putF f 0 y.w u3) rfl HK4.out (by unfold maxLen; omega) y.k y.i HE.out.2.1 HE.out.2.2 rfl u3 d3 hd3 rfl ?_; intro w2 h1 g1; have HK5 := hide h1; have HG5 := hide g1; have EF5 := hide ((g1.block _ (Array.getElem?_eq_some_iff.1 EF4.out).1 (fun e => by injection e with e; omega)).trans EF4.out); have w2k0 := (box_of EF5.out).1 0 _ rfl; have w2k1 := (box_of EF5.out).1 1 _ rfl; have w2k2 := (box_of EF5.out).1 2 _ rfl; clear h1 g1)
      | fail)
    go_ret
    refine ⟨u3, rfl, ?_, ?_, ?_⟩
    · exact (((HT.out.grownP HG4.out (by omega)).grownP HG5.out (by omega)).mono (by omega)).up (by have := HG5.out.size; have := HG4.out.size; omega)
    · exact grownBy_trans (grownBy_trans HGW.out HG4.out) HG5.out
    · unfold nextF
      rw [if_pos HC.out]
      exact HK5.out
  | false =>
    have c4e : ¬ y.k = 4 := fun e => by rw [e] at c4; simp at c4
    cases c5 : (y.k == 5) with
    | true =>
      have c5e : y.k = 5 := eq_of_beq c5
      have HC : Hid ((y.k = 4 ∨ y.k = 5)) := hide (.inr c5e)
      clear c5e
      go_wp2_with (first
        | (refine wp_known rfl _ _ _ rfl g n f rfl HK3.out (by unfold maxLen; omega) 0 y.w (by omega) hyw rfl u3 d3 hd3 rfl ?_; intro w1 h1 g1; have HK4 := hide h1; have HG4 := hide g1; have EF4 := hide ((g1.block _ (Array.getElem?_eq_some_iff.1 EF3.out).1 (fun e => by injection e with e; omega)).trans EF3.out); have w1k0 := (box_of EF4.out).1 0 _ rfl; have w1k1 := (box_of EF4.out).1 1 _ rfl; have w1k2 := (box_of EF4.out).1 2 _ rfl; clear h1 g1)
        | (refine wp_known rfl _ _ _ rfl g (n + 1) (putF f 0 y.w u3) rfl HK4.out (by unfold maxLen; omega) y.k y.i HE.out.2.1 HE.out.2.2 rfl u3 d3 hd3 rfl ?_; intro w2 h1 g1; have HK5 := hide h1; have HG5 := hide g1; have EF5 := hide ((g1.block _ (Array.getElem?_eq_some_iff.1 EF4.out).1 (fun e => by injection e with e; omega)).trans EF4.out); have w2k0 := (box_of EF5.out).1 0 _ rfl; have w2k1 := (box_of EF5.out).1 1 _ rfl; have w2k2 := (box_of EF5.out).1 2 _ rfl; clear h1 g1)
        | fail)
      go_ret
      refine ⟨u3, rfl, ?_, ?_, ?_⟩
      · exact (((HT.out.grownP HG4.out (by omega)).grownP HG5.out (by omega)).mono (by omega)).up (by have := HG5.out.size; have := HG4.out.size; omega)
      · exact grownBy_trans (grownBy_trans HGW.out HG4.out) HG5.out
      · unfold nextF
        rw [if_pos HC.out]
        exact HK5.out
    | false =>
      have c5e : ¬ y.k = 5 := fun e => by rw [e] at c5; simp at c5
      have HC : Hid (¬ (y.k = 4 ∨ y.k = 5)) := hide (by omega)
      go_wp2_with (first
        | (refine wp_known rfl _ _ _ rfl g n f rfl HK3.out (by unfold maxLen; omega) 0 y.w (by omega) hyw rfl u3 d3 hd3 rfl ?_; intro w1 h1 g1; have HK4 := hide h1; have HG4 := hide g1; have EF4 := hide ((g1.block _ (Array.getElem?_eq_some_iff.1 EF3.out).1 (fun e => by injection e with e; omega)).trans EF3.out); have w1k0 := (box_of EF4.out).1 0 _ rfl; have w1k1 := (box_of EF4.out).1 1 _ rfl; have w1k2 := (box_of EF4.out).1 2 _ rfl; clear h1 g1)
        | fail)
      go_ret
      refine ⟨u3, rfl, ?_, ?_, ?_⟩
      · exact (((HT.out.grownP HG4.out (by omega))).mono (by omega)).up (by have := HG4.out.size; omega)
      · exact grownBy_trans HGW.out HG4.out
      · unfold nextF
        rw [if_neg HC.out]
        exact HK4.out.mono (by omega)
end Go.Proofs.Ytllghgcancennaa
