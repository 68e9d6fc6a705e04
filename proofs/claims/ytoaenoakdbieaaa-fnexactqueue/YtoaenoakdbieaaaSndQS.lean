/-
  What Queue does in the model.
-/
import Derived.Test.YtoaenoakdbieaaaSndQ
namespace Go.Proofs.Ytoaenoakdbieaaa
open Go.RowKit

theorem OwnY.sameAt {w w' : World} {b hi : Nat} {v : Value} {xs : List MsX} (h : OwnY w b hi v xs) (hv : ∀ q, v.ownBlock = some q → w'.heap[q]? = w.heap[q]?) (hu : ∀ u ∈ vals xs, ∀ q, u.ownBlock = some q → w'.heap[q]? = w.heap[q]?) : OwnY w' b hi v xs :=
  ⟨owns_same h.1 hv, fun x hx => ⟨owns_same (h.2.1 x hx).1 (hu _ (vals_mem hx).1), owns_same (h.2.1 x hx).2 (hu _ (vals_mem hx).2)⟩, h.2.2⟩

attribute [local go_sem ↓] Go.wp_at_zero Go.wp_at_succ
set_option maxRecDepth 100000 in
set_option maxHeartbeats 8000000 in
theorem queueSpec (w : World) (base : Int) (v : Value) (ms : List Ms) (m : Ms) (cv nv : Value) (h : RdS w w.heap.size v ms) (hmt : Mt w w.heap.size (m, cv, nv)) (hm : ms.length ≤ 1048576) (hgd : GoodS ms) (hgm : GoodM m) :
    Calls Try.prog 29 #[sndV base v, msV m cv nv] w (ansQ w (quR base ms m)) := by
  have HR := hide h
  have HX := hide hmt
  obtain ⟨a, cap, rfl, _⟩ := ms_at h
  obtain ⟨a5, c5, e5, _⟩ := cells_at hmt.1
  obtain ⟨a6, c6, e6, _⟩ := notes_at hmt.2
  simp only at e5 e6
  subst e5 e6
  clear h hmt
  have hE0 := heap_alloc_new w (.cells #[.int .i64 base, .slice a ms.length cap] 51)
  have hE1 := heap_alloc_new (w.alloc (.cells #[.int .i64 base, .slice a ms.length cap] 51)) (.cells #[.int .i64 m.k, .int .i64 m.i, .int .i64 m.u, .int .i64 m.c, .int .i64 m.n, .slice a5 m.cs.length c5, .slice a6 m.ns.length c6] 65)
  have hE2 := heap_alloc_new ((w.alloc (.cells #[.int .i64 base, .slice a ms.length cap] 51)).alloc (.cells #[.int .i64 m.k, .int .i64 m.i, .int .i64 m.u, .int .i64 m.c, .int .i64 m.n, .slice a5 m.cs.length c5, .slice a6 m.ns.length c6] 65)) (.cells #[.int .i64 0, .slice none 0 0] 51)
  have bA := (((Below.refl w.heap.size w).alloc (Nat.le_refl _) (.cells #[.int .i64 base, .slice a ms.length cap] 51)).alloc (by simp) (.cells #[.int .i64 m.k, .int .i64 m.i, .int .i64 m.u, .int .i64 m.c, .int .i64 m.n, .slice a5 m.cs.length c5, .slice a6 m.ns.length c6] 65)).alloc (by simp; omega) (.cells #[.int .i64 0, .slice none 0 0] 51)
  have hsz : (((w.alloc (.cells #[.int .i64 base, .slice a ms.length cap] 51)).alloc (.cells #[.int .i64 m.k, .int .i64 m.i, .int .i64 m.u, .int .i64 m.c, .int .i64 m.n, .slice a5 m.cs.length c5, .slice a6 m.ns.length c6] 65)).alloc (.cells #[.int .i64 0, .slice none 0 0] 51)).heap.size = w.heap.size + 1 + 1 + 1 := by simp
  simp only [World.size_alloc] at hE1 hE2
  have H0 := hide ((Below.heap_alloc _ (.cells #[.int .i64 0, .slice none 0 0] 51) w.heap.size (by simp; omega)).trans ((Below.heap_alloc _ (.cells #[.int .i64 m.k, .int .i64 m.i, .int .i64 m.u, .int .i64 m.c, .int .i64 m.n, .slice a5 m.cs.length c5, .slice a6 m.ns.length c6] 65) w.heap.size (by simp)).trans hE0))
  have H1 := hide ((Below.heap_alloc _ (.cells #[.int .i64 0, .slice none 0 0] 51) (w.heap.size + 1) (by simp)).trans hE1)
  have H2 := hide hE2
  have HB := hide bA
  clear bA hE0 hE1 hE2
  unfold sndV msV msgV
  go_enter Try.func29, Try.ntmps29
  go_wp2_with fail
  refine (copySndS _ base _ ms _ (HR.out.at HB.out) (Nat.le_refl _) hm hgd).mono ?_
  rintro e w3 ⟨v3, rfl, o3, b3⟩
  rw [hsz] at o3
  have hs3 : w.heap.size + 1 + 1 + 1 ≤ w3.heap.size := by have := b3.size; rw [hsz] at this; exact this
  replace H0 := hide ((b3.block w.heap.size (by rw [hsz]; omega)).trans H0.out)
  replace H1 := hide ((b3.block (w.heap.size + 1) (by rw [hsz]; omega)).trans H1.out)
  replace H2 := hide ((b3.block (w.heap.size + 1 + 1) (by rw [hsz]; omega)).trans H2.out)
  obtain ⟨xs, hxs, oy⟩ := o3
  have hxl0 : xs.length = ms.length := by rw [← hxs]; simp
  obtain ⟨a3, c3, e3⟩ := oy.shape
  rw [hxl0] at e3
  subst e3
  replace HB := hide (HB.out.trans (b3.mono HB.out.size))
  have HOX := hide oy
  have HXS := hide hxs
  have hxl := hide hxl0
  clear b3 oy hsz hxs hxl0
  have bD := (Below.refl w3.heap.size w3).alloc (Nat.le_refl _) (.cells #[.int .i64 base, .slice a3 ms.length c3] 51)
  have HX4 := hide (heap_alloc_new w3 (.cells #[.int .i64 base, .slice a3 ms.length c3] 51))
  replace H0 := hide ((bD.block w.heap.size (by omega)).trans H0.out)
  replace H1 := hide ((bD.block (w.heap.size + 1) (by omega)).trans H1.out)
  replace H2 := hide ((bD.block (w.heap.size + 1 + 1) (by omega)).trans H2.out)
  replace HOX := hide (HOX.out.below bD)
  have hs4 : (w3.alloc (.cells #[.int .i64 base, .slice a3 ms.length c3] 51)).heap.size = w3.heap.size + 1 := by simp
  replace HB := hide (HB.out.trans (bD.mono HB.out.size))
  obtain ⟨gx, hgx⟩ : ∃ gx, gx = w3.heap.size := ⟨_, rfl⟩
  have f0 := (box_of H0.out).1 0 _ rfl
  have f1 := (box_of H0.out).1 1 _ rfl
  clear bD
  unfold sndV
  go_wp2_with fail
  clear f0 f1
  generalize w3.alloc (.cells #[.int .i64 base, .slice a3 ms.length c3] 51) = w4 at *
  rw [← hgx] at HX4 HOX hs4 hs3 ⊢
  clear hgx
  refine (sndSpec _ base _ ms _ (HR.out.at HB.out) (Nat.le_refl _) (by omega) hgd).mono ?_
  rintro e w6 ⟨rfl, b6⟩
  have hs6 : gx < w6.heap.size := by have := b6.size; omega
  replace H0 := hide ((b6.block w.heap.size (by omega)).trans H0.out)
  replace H1 := hide ((b6.block (w.heap.size + 1) (by omega)).trans H1.out)
  replace H2 := hide ((b6.block (w.heap.size + 1 + 1) (by omega)).trans H2.out)
  replace HX4 := hide ((b6.block gx (by omega)).trans HX4.out)
  replace HOX := hide (HOX.out.below b6)
  replace HB := hide (HB.out.trans (b6.mono HB.out.size))
  clear b6 hs4
  have HEND : Hid (quR base ms m = ((base, ms), false) → ∀ W, Below w.heap.size w W → OwnY W (w.heap.size + 1 + 1 + 1) gx (.slice a3 ms.length c3) xs → gx ≤ W.heap.size → ansQ w (quR base ms m) (.returned (.tuple #[.agg #[.int .i64 base, .slice a3 ms.length c3], .bool false])) ((W.setCell ⟨w.heap.size + 1 + 1, 0, none⟩ (.int .i64 base)).setCell ⟨w.heap.size + 1 + 1, 1, none⟩ (.slice a3 ms.length c3))) := hide (fun hv W hb ho hg => by
    rw [hv]
    refine ⟨_, rfl, ⟨xs, HXS.out, ?_⟩, (hb.setCell (by simp; omega) _).setCell (by simp; omega) _⟩
    refine ((OwnY.same ho (fun q hq _ _ => ?_)).mono (by omega)).up (by simp; omega)
    rw [heap_setCell_other _ _ _ _ (by simp; omega), heap_setCell_other _ _ _ _ (by simp; omega)])
  cases hok : sOk base ms with
  | false =>
    have hv : quR base ms m = ((base, ms), false) := by unfold quR; rw [sOk_snoc, hok]; rfl
    have x0 := (box_of HX4.out).1 0 _ rfl
    have x1 := (box_of HX4.out).1 1 _ rfl
    have r0 := (box_of H2.out).1 0 _ rfl
    have r1 := (box_of H2.out).1 1 _ rfl
    have rz := (box_of H2.out).2
    go_wp2
    exact bodyPost_ret (v := .tuple #[.agg #[.int .i64 base, .slice a3 ms.length c3], .bool false]) (results_ct Try.results29 _ _ _ rfl (loadS (put2 H2.out _ _))) rfl (HEND.out hv _ HB.out HOX.out (Nat.le_of_lt hs6))
  | true =>
    have hall := sOk_all hok
    have hb0 := hall.1
    have hl40 := hall.2.1
    have HX1 := hide (box_of H1.out).1
    have p0 := HX1.out 0 _ rfl
    have p1 := HX1.out 1 _ rfl
    have p2 := HX1.out 2 _ rfl
    have p3 := HX1.out 3 _ rfl
    have p4 := HX1.out 4 _ rfl
    have p5 := HX1.out 5 _ rfl
    have p6 := HX1.out 6 _ rfl
    clear HX1
    go_wp2_with fail
    clear p0 p1 p2 p3 p4 p5 p6
    refine (msSpec _ m _ _ (HX.out.at HB.out) hgm).mono ?_
    rintro e w5 ⟨rfl, b5⟩
    have hs5 : gx < w5.heap.size := by have := b5.size; omega
    replace H0 := hide ((b5.block w.heap.size (by omega)).trans H0.out)
    replace H1 := hide ((b5.block (w.heap.size + 1) (by omega)).trans H1.out)
    replace H2 := hide ((b5.block (w.heap.size + 1 + 1) (by omega)).trans H2.out)
    replace HX4 := hide ((b5.block gx (by omega)).trans HX4.out)
    replace HOX := hide (HOX.out.below b5)
    replace HB := hide (HB.out.trans (b5.mono HB.out.size))
    clear b5 hs6
    have f0 := (box_of H0.out).1 0 _ rfl
    have f1 := (box_of H0.out).1 1 _ rfl
    have x0 := (box_of HX4.out).1 0 _ rfl
    have x1 := (box_of HX4.out).1 1 _ rfl
    have xz := (box_of HX4.out).2
    have r0 := (box_of H2.out).1 0 _ rfl
    have r1 := (box_of H2.out).1 1 _ rfl
    have rz := (box_of H2.out).2
    cases hmo : msOk m with
    | false =>
      have hv : quR base ms m = ((base, ms), false) := by unfold quR; rw [sOk_snoc, hok, hmo]; rfl
      go_wp2
      exact bodyPost_ret (v := .tuple #[.agg #[.int .i64 base, .slice a3 ms.length c3], .bool false]) (results_ct Try.results29 _ _ _ rfl (loadS (put2 H2.out _ _))) rfl (HEND.out hv _ HB.out HOX.out (Nat.le_of_lt hs5))
    | true =>
      by_cases h40 : ms.length = 40
      · have hv : quR base ms m = ((base, ms), false) := by unfold quR; rw [sOk_snoc, hok, hmo, decide_eq_true h40]; rfl
        have h40i : ((ms.length : Int) == 40) = true := by simp [h40]
        clear h40
        go_wp2
        exact bodyPost_ret (v := .tuple #[.agg #[.int .i64 base, .slice a3 ms.length c3], .bool false]) (results_ct Try.results29 _ _ _ rfl (loadS (put2 H2.out _ _))) rfl (HEND.out hv _ HB.out HOX.out (Nat.le_of_lt hs5))
      · have h40i : ((ms.length : Int) == 40) = false := by simp; omega
        by_cases hmx : base + (ms.length : Int) = 16777215
        · have hv : quR base ms m = ((base, ms), false) := by unfold quR; rw [sOk_snoc, hok, hmo, decide_eq_false h40, decide_eq_true hmx]; rfl
          have hmxi : (base + (ms.length : Int) == 16777215) = true := by simp [hmx]
          clear hmx
          go_wp2
          exact bodyPost_ret (v := .tuple #[.agg #[.int .i64 base, .slice a3 ms.length c3], .bool false]) (results_ct Try.results29 _ _ _ rfl (loadS (put2 H2.out _ _))) rfl (HEND.out hv _ HB.out HOX.out (Nat.le_of_lt hs5))
        · have HV : Hid (quR base ms m = ((base, ms ++ [m]), true)) := hide (by unfold quR; rw [sOk_snoc, hok, hmo, decide_eq_false h40, decide_eq_false hmx]; rfl)
          have hmxi : (base + (ms.length : Int) == 16777215) = false := by simpa using hmx
          have HT := hide (show Mt w5.drew w5.drew.heap.size (m, .slice a5 m.cs.length c5, .slice a6 m.ns.length c6) from (HX.out.at HB.out).drewN 1)
          have HX1 := hide (box_of H1.out).1
          have p0 := HX1.out 0 _ rfl
          have p1 := HX1.out 1 _ rfl
          have p2 := HX1.out 2 _ rfl
          have p3 := HX1.out 3 _ rfl
          have p4 := HX1.out 4 _ rfl
          have p5 := HX1.out 5 _ rfl
          have p6 := HX1.out 6 _ rfl
          clear HX1
          have hnn : Hid (xs.length ≤ 2000000) := hide (by rw [hxl.out]; omega)
          have hlow : Hid (∀ q, (Value.slice a3 ms.length c3).ownBlock = some q → q ≠ gx ∧ w.heap.size + 1 + 1 + 1 ≤ q ∧ q < gx) := hide (fun q hq => by
            have h1 := (World.ownsRow.lt HOX.out.1 q hq).1
            have h2 := HOX.out.2.2.2.1 q hq
            exact ⟨by omega, by omega, by omega⟩)
          clear HEND hmx h40 hall hok hmo
          go_upto_region 4 with fail
          clear r0 r1 rz
          go_region_law
            (first
              | (refine step_callM rfl 69 _ _ rfl #[msV m (.slice a5 m.cs.length c5) (.slice a6 m.ns.length c6)] (by kernel_rfl) (copyMsS _ m _ _ HT.out hgm) ?_; rintro e w6 ⟨u5, u6, rfl, o5, o6, b6, hord⟩; refine ⟨_, rfl, ?_⟩; obtain ⟨au, cu, rfl⟩ := ownC_shape o5; obtain ⟨av, cw, rfl⟩ := ownN_shape o6; have bB := below_of_drew b6; have hsB := bB.size;
                  have HF : Hid (∀ q, (Value.slice au m.cs.length cu).ownBlock = some q → (Value.slice a3 ms.length c3).ownBlock ≠ some q ∧ ∀ z ∈ vals xs, z.ownBlock ≠ some q) := hide (fun q hq => by
                    have h1 : w5.heap.size ≤ q := (o5.lt q hq).1
                    exact ⟨fun e => by have := HOX.out.2.2.2.1 q e; omega, fun z hz e => by have := HOX.out.2.2.2.2 z hz q e; omega⟩);
                  have HF2 : Hid (∀ q, (Value.slice av m.ns.length cw).ownBlock = some q → (Value.slice a3 ms.length c3).ownBlock ≠ some q ∧ (∀ z ∈ vals xs, z.ownBlock ≠ some q) ∧ (Value.slice au m.cs.length cu).ownBlock ≠ some q) := hide (fun q hq => by
                    have h1 : w5.heap.size ≤ q := (o6.lt q hq).1
                    exact ⟨fun e => by have := HOX.out.2.2.2.1 q e; omega, fun z hz e => by have := HOX.out.2.2.2.2 z hz q e; omega, fun e => by have := hord q e q hq; omega⟩);
                  have HNU : Hid (∀ z ∈ vals (xs ++ [(m, Value.slice au m.cs.length cu, Value.slice av m.ns.length cw)]), ∀ q, z.ownBlock = some q → q ≠ gx) := hide (fun z hz q hq => by
                    rw [vals_app, vals_one] at hz
                    rcases List.mem_append.1 hz with hz | hz
                    · have := HOX.out.2.2.2.2 z hz q hq; omega
                    · simp at hz
                      rcases hz with rfl | rfl
                      · have h1 : w5.heap.size ≤ q := (o5.lt q hq).1
                        omega
                      · have h1 : w5.heap.size ≤ q := (o6.lt q hq).1
                        omega);
                  have HU := hide (OwnC.mono o5 (show w.heap.size + 1 + 1 + 1 ≤ w5.drew.heap.size from Nat.le_trans hs3 (Nat.le_of_lt hs5))); have HVV := hide (OwnN.mono o6 (show w.heap.size + 1 + 1 + 1 ≤ w5.drew.heap.size from Nat.le_trans hs3 (Nat.le_of_lt hs5)));
                  have HO6 := hide (HOX.out.below bB); have HX6 := hide ((bB.block gx hs5).trans HX4.out); have H26 := hide ((bB.block (w.heap.size + 1 + 1) (by omega)).trans H2.out); have HB6 := hide (HB.out.trans (bB.mono HB.out.size));
                  clear b6 o5 o6 hord;
                  have HBx := hide (Box.new w6 #[.int .i64 m.k, .int .i64 m.i, .int .i64 m.u, .int .i64 m.c, .int .i64 m.n, .slice au m.cs.length cu, .slice av m.ns.length cw] 65);
                  have bD := (Below.refl w6.heap.size w6).alloc (Nat.le_refl _) (.cells #[.int .i64 m.k, .int .i64 m.i, .int .i64 m.u, .int .i64 m.c, .int .i64 m.n, .slice au m.cs.length cu, .slice av m.ns.length cw] 65);
                  have y6 := (bB.cell (p := ⟨gx, 1, none⟩) hs5).trans x1; have y7 := (bD.cell (p := ⟨gx, 1, none⟩) (by simp; omega)).trans y6;
                  have HO7 := hide (HO6.out.below bD); have HU7 := hide (OwnC.below HU.out bD); have HV7 := hide (OwnN.below HVV.out bD); have HX7 := hide ((bD.block gx (by omega)).trans HX6.out); have H27 := hide ((bD.block (w.heap.size + 1 + 1) (by omega)).trans H26.out); have HB7 := hide (HB6.out.trans (bD.mono HB6.out.size));
                  have HSD : Hid (w.heap.size + 1 + 1 + 1 ≤ (w6.alloc (.cells #[.int .i64 m.k, .int .i64 m.i, .int .i64 m.u, .int .i64 m.c, .int .i64 m.n, .slice au m.cs.length cu, .slice av m.ns.length cw] 65)).heap.size ∧ gx < (w6.alloc (.cells #[.int .i64 m.k, .int .i64 m.i, .int .i64 m.u, .int .i64 m.c, .int .i64 m.n, .slice au m.cs.length cu, .slice av m.ns.length cw] 65)).heap.size) := hide ⟨Nat.le_trans (by omega) bD.size, Nat.lt_of_lt_of_le (by omega) bD.size⟩;
                  clear bB bD HO6 HU HVV HX6 H26 HB6; unfold msV msgV)
              | (refine step_app_Ms rfl _ _ rfl (w.heap.size + 1 + 1 + 1) _ w6.heap.size 1 _ xs (m, .slice au m.cs.length cu, .slice av m.ns.length cw) (by rfl) HO7.out (by rfl) HBx.out HU7.out HV7.out HF.out HF2.out hnn.out HSD.out.1 ?_; intro v8 w8 o8 g8 hat; obtain ⟨a8, c8, e8⟩ := o8.shape; have HO8 := hide o8; rw [List.length_append, hxl.out] at e8; subst e8;
                  have hng : Hid ((Value.slice a8 (ms.length + [(m, Value.slice au m.cs.length cu, Value.slice av m.ns.length cw)].length) c8).ownBlock ≠ some gx) := hide (fun e => by
                    have h1 := HSD.out.2
                    rcases hat with ha | ha
                    · rw [ha] at e; exact (hlow.out gx e).1 rfl
                    · rw [ha] at e; cases e; omega);
                  have HX8 := hide ((g8.block gx HSD.out.2 (fun e => (hlow.out gx e.symm).1 rfl)).trans HX7.out); have H28 := hide ((g8.block (w.heap.size + 1 + 1) (by have := HSD.out.1; omega) (fun e => by have := (hlow.out _ e.symm).2.1; omega)).trans H27.out);
                  have HB8 := hide (HB7.out.grown g8 (by have := HSD.out.1; omega) (fun q hq => by have := (hlow.out q hq).2.1; omega)); have hs8 := g8.size;
                  have y0 := (box_of HX8.out).1 0 _ rfl; have y1 := (box_of HX8.out).1 1 _ rfl; have yz := (box_of HX8.out).2; clear o8 hat))
          all_goals (
            have HX9 := hide (heap_setCell_same w8 gx 1 _ 51 (.slice a8 (ms.length + 1) c8) HX8.out)
            have H29 := hide ((heap_setCell_other w8 ⟨gx, 1, none⟩ (w.heap.size + 1 + 1) (.slice a8 (ms.length + 1) c8) (by simp; omega)).trans H28.out)
            have HO9 := hide (HO8.out.sameAt (w' := w8.setCell ⟨gx, 1, none⟩ (.slice a8 (ms.length + 1) c8)) (fun q hq => heap_setCell_other w8 _ q _ (fun e => hng.out (by rw [hq]; exact congrArg some e))) (fun u hu q hq => heap_setCell_other w8 _ q _ (HNU.out u hu q hq)))
            have HB9 := hide (HB8.out.setCell (p := ⟨gx, 1, none⟩) (by simp; omega) (.slice a8 (ms.length + 1) c8))
            have hs9 : w8.heap.size = (w8.setCell ⟨gx, 1, none⟩ (.slice a8 (ms.length + 1) c8)).heap.size := by simp
            have HS9 := hide hs9
            simp only [Array.setIfInBounds] at HX9
            clear x0 x1 xz p0 p1 p2 p3 p4 p5 p6 f0 f1 y6 y7 y0 y1 yz hs9
            have k0 := (box_of HX9.out).1 0 _ rfl
            have k1 := (box_of HX9.out).1 1 _ rfl
            have r0 := (box_of H29.out).1 0 _ rfl
            have r1 := (box_of H29.out).1 1 _ rfl
            have rz := (box_of H29.out).2
            generalize w8.setCell ⟨gx, 1, none⟩ (.slice a8 (ms.length + 1) c8) = w9 at *
            go_wp2
            refine bodyPost_ret (v := .tuple #[.agg #[.int .i64 base, .slice a8 (ms.length + 1) c8], .bool true]) (results_ct Try.results29 _ _ _ rfl (loadS (put2 H29.out _ _))) rfl (show ansQ w (quR base ms m) _ _ from by
              rw [HV.out]
              refine ⟨_, rfl, ⟨xs ++ [(m, .slice au m.cs.length cu, .slice av m.ns.length cw)], by rw [List.map_append, HXS.out]; rfl, ?_⟩, (HB9.out.setCell (by simp; omega) _).setCell (by simp; omega) _⟩
              refine ((OwnY.same HO9.out (fun q hq _ _ => ?_)).mono (by omega)).up (by rw [HS9.out]; simp)
              rw [heap_setCell_other _ _ _ _ (by simp; omega), heap_setCell_other _ _ _ _ (by simp; omega)]))
end Go.Proofs.Ytoaenoakdbieaaa
