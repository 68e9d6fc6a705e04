/-
  What Post does in the model.
-/
import Derived.Test.YtmlbemcblgnbjaaNetPosI
namespace Go.Proofs.Ytmlbemcblgnbjaa
open Go.RowKit

theorem netOk_snoc (size : Int) (ps : List Pk) (p : Pk) : netOk size (ps ++ [p]) = (netOk size ps && (pkOk size p && decide (ps.length ≠ 60))) := by
  unfold netOk
  rw [List.all_append]
  simp only [List.all_cons, List.all_nil, Bool.and_true, List.length_append, List.length_cons, List.length_nil]
  rw [show decide (ps.length + (0 + 1) ≤ 60) = (decide (ps.length ≤ 60) && decide (ps.length ≠ 60)) from by rw [← Bool.decide_and]; exact decide_eq_decide.2 (by omega)]
  generalize decide (ps.length ≤ 60) = x
  generalize decide (ps.length ≠ 60) = y
  generalize ps.all (pkOk size) = z
  cases inB size 1 4 <;> cases x <;> cases y <;> cases z <;> cases pkOk size p <;> rfl

theorem postN_zero {size : Int} {ps : List Pk} {p : Pk} (h : netOk size ps = false) : postN size ps p = ((0, []), false) := by
  rw [postN_no (by rw [netOk_snoc, h]; rfl), asN_no h]
theorem postN_was {size : Int} {ps : List Pk} {p : Pk} (h : netOk size ps = true) (h2 : (pkOk size p && decide (ps.length ≠ 60)) = false) : postN size ps p = ((size, ps), false) := by
  rw [postN_no (by rw [netOk_snoc, h, h2]; rfl), asN_yes h]
theorem postN_done {size : Int} {ps : List Pk} {p : Pk} (h : netOk size ps = true) (h2 : pkOk size p = true) (h3 : ps.length ≠ 60) : postN size ps p = ((size, ps ++ [p]), true) :=
  postN_yes (by rw [netOk_snoc, h, h2]; simp [h3])

theorem OwnX.sameAt {w w' : World} {b hi : Nat} {v : Value} {xs : List (Pk × Value)} (h : OwnX w b hi v xs) (h1 : ∀ q, v.ownBlock = some q → w'.heap[q]? = w.heap[q]?) (h2 : ∀ u ∈ xs.map Prod.snd, ∀ q, u.ownBlock = some q → w'.heap[q]? = w.heap[q]?) : OwnX w' b hi v xs :=
  ⟨owns_same h.1 h1, fun x hx => owns_same (h.2.1 x hx) (h2 _ (List.mem_map_of_mem hx)), h.2.2⟩

attribute [local go_sem ↓] Go.wp_at_zero Go.wp_at_succ
set_option maxRecDepth 100000 in
set_option maxHeartbeats 4000000 in
theorem postSpec (w : World) (size : Int) (v : Value) (ps : List Pk) (p : Pk) (bv : Value) (h : RdP w w.heap.size v ps) (hp : Bt w w.heap.size bv p.b) (hm : ps.length ≤ 1048576) :
    Calls Try.prog 7 #[netV size v, pkV p bv] w (ansN w (postN size ps p)) := by
  have HR := hide h
  have HP := hide hp
  obtain ⟨a, cap, rfl, _⟩ := pk_at h
  obtain ⟨pa, pc, rfl, _⟩ := hp
  clear h
  unfold netV pkV
  have HB := hide ((((Below.refl w.heap.size w).alloc (Nat.le_refl _) (.cells #[.int .i64 size, .slice a ps.length cap] 26)).alloc (by simp) (.cells #[.int .i64 p.f, .int .i64 p.t, .slice pa p.b.length pc, .bool p.s] 28)).alloc (by simp; omega) (.cells #[.int .i64 0, .slice none 0 0] 26))
  have HE0 := hide ((Below.heap_alloc ((w.alloc (.cells #[.int .i64 size, .slice a ps.length cap] 26)).alloc (.cells #[.int .i64 p.f, .int .i64 p.t, .slice pa p.b.length pc, .bool p.s] 28)) (.cells #[.int .i64 0, .slice none 0 0] 26) w.heap.size (by simp; omega)).trans ((Below.heap_alloc (w.alloc (.cells #[.int .i64 size, .slice a ps.length cap] 26)) (.cells #[.int .i64 p.f, .int .i64 p.t, .slice pa p.b.length pc, .bool p.s] 28) w.heap.size (by simp)).trans (heap_alloc_new w (.cells #[.int .i64 size, .slice a ps.length cap] 26))))
  have HE1 := hide ((Below.heap_alloc ((w.alloc (.cells #[.int .i64 size, .slice a ps.length cap] 26)).alloc (.cells #[.int .i64 p.f, .int .i64 p.t, .slice pa p.b.length pc, .bool p.s] 28)) (.cells #[.int .i64 0, .slice none 0 0] 26) (w.heap.size + 1) (by simp)).trans (by have := heap_alloc_new (w.alloc (.cells #[.int .i64 size, .slice a ps.length cap] 26)) (.cells #[.int .i64 p.f, .int .i64 p.t, .slice pa p.b.length pc, .bool p.s] 28); simp only [World.size_alloc] at this; exact this))
  have HE2 := hide (heap_alloc_new ((w.alloc (.cells #[.int .i64 size, .slice a ps.length cap] 26)).alloc (.cells #[.int .i64 p.f, .int .i64 p.t, .slice pa p.b.length pc, .bool p.s] 28)) (.cells #[.int .i64 0, .slice none 0 0] 26))
  have hsz : (((w.alloc (.cells #[.int .i64 size, .slice a ps.length cap] 26)).alloc (.cells #[.int .i64 p.f, .int .i64 p.t, .slice pa p.b.length pc, .bool p.s] 28)).alloc (.cells #[.int .i64 0, .slice none 0 0] 26)).heap.size = w.heap.size + 1 + 1 + 1 := by simp
  simp only [World.size_alloc] at HE2
  have HS := hide hsz
  clear hsz
  go_enter Try.func7, Try.ntmps7
  go_wp2_with fail
  generalize ((w.alloc (.cells #[.int .i64 size, .slice a ps.length cap] 26)).alloc (.cells #[.int .i64 p.f, .int .i64 p.t, .slice pa p.b.length pc, .bool p.s] 28)).alloc (.cells #[.int .i64 0, .slice none 0 0] 26) = w1 at *
  refine (netSpec _ size _ ps _ (HR.out.at HB.out) (Nat.le_refl _) hm).mono ?_
  rintro e w2 ⟨rfl, b2⟩
  have E0 := (b2.block w.heap.size (by have := HS.out; omega)).trans HE0.out
  have E1 := (b2.block (w.heap.size + 1) (by have := HS.out; omega)).trans HE1.out
  have E2 := (b2.block (w.heap.size + 1 + 1) (by have := HS.out; omega)).trans HE2.out
  have h22 : w.heap.size + 1 + 1 + 1 ≤ w2.heap.size := by have := HS.out; have := b2.size; omega
  replace HB := hide (HB.out.trans (b2.mono HB.out.size))
  clear b2 HE0 HE1 HE2 HS
  cases hok : netOk size ps with
  | false =>
    have r0 := (box_of E2).1 0 _ rfl
    have r1 := (box_of E2).1 1 _ rfl
    have z1 := (box_of E2).2
    have HE := hide E2
    clear E0 E1 E2
    go_wp2
    exact bodyPost_ret (v := .tuple #[.agg #[.int .i64 0, .slice none 0 0], .bool false]) (results_ct Try.results7 _ _ _ rfl (load2 (put2 HE.out _ _))) rfl (show ansN w (postN size ps p) _ _ from by
      rw [postN_zero hok]
      exact ⟨_, rfl, ownP_nil _ _ _, (HB.out.setCell (by simp; omega) _).setCell (by simp; omega) _⟩)
  | true =>
    have hlen := (netOk_all hok).2.1
    have f0 := (box_of E0).1 0 _ rfl
    have f1 := (box_of E0).1 1 _ rfl
    have H0 := hide E0
    have H1 := hide E1
    have H2 := hide E2
    clear E0 E1 E2
    go_wp2_with fail
    refine (copyNetS _ size _ ps _ (HR.out.at HB.out) (Nat.le_refl _) hm).mono ?_
    rintro e w3 ⟨v3, rfl, o3, b3⟩
    obtain ⟨a3, c3, rfl⟩ := o3.shape
    have HO := hide o3
    replace H0 := hide ((b3.block w.heap.size (by omega)).trans H0.out)
    replace H1 := hide ((b3.block (w.heap.size + 1) (by omega)).trans H1.out)
    replace H2 := hide ((b3.block (w.heap.size + 1 + 1) (by omega)).trans H2.out)
    have h23 := b3.size
    have hne : Hid ((.slice a3 ps.length c3 : Value).ownBlock ≠ some w3.heap.size) := hide (fun e => by obtain ⟨xs, _, hx⟩ := o3; have := hx.2.2.2.1 _ e; omega)
    replace HB := hide (HB.out.trans (b3.mono HB.out.size))
    clear b3 o3 f0 f1
    unfold netV
    have bX := (Below.refl w3.heap.size w3).alloc (Nat.le_refl _) (.cells #[.int .i64 size, .slice a3 ps.length c3] 26)
    have HX := hide (heap_alloc_new w3 (.cells #[.int .i64 size, .slice a3 ps.length c3] 26))
    replace H0 := hide ((bX.block w.heap.size (by omega)).trans H0.out)
    replace H1 := hide ((bX.block (w.heap.size + 1) (by omega)).trans H1.out)
    replace H2 := hide ((bX.block (w.heap.size + 1 + 1) (by omega)).trans H2.out)
    replace HO := hide (HO.out.below bX)
    replace HB := hide (HB.out.trans (bX.mono HB.out.size))
    have hs4 : w3.heap.size < (w3.alloc (.cells #[.int .i64 size, .slice a3 ps.length c3] 26)).heap.size := by simp
    clear bX
    have f0 := (box_of H0.out).1 0 _ rfl
    have f1 := (box_of H0.out).1 1 _ rfl
    have p0 := (box_of H1.out).1 0 _ rfl
    have p1 := (box_of H1.out).1 1 _ rfl
    have p2 := (box_of H1.out).1 2 _ rfl
    have p3 := (box_of H1.out).1 3 _ rfl
    go_wp2_with fail
    generalize hgw : w3.alloc (.cells #[.int .i64 size, .slice a3 ps.length c3] 26) = w4 at *
    generalize hgx : w3.heap.size = gx at *
    clear hgw
    refine (pkSpec _ p _ _ size).mono ?_
    rintro e w5 ⟨rfl, b5⟩
    replace H0 := hide ((b5.block w.heap.size (by omega)).trans H0.out)
    replace H1 := hide ((b5.block (w.heap.size + 1) (by omega)).trans H1.out)
    replace H2 := hide ((b5.block (w.heap.size + 1 + 1) (by omega)).trans H2.out)
    replace HX := hide ((b5.block gx hs4).trans HX.out)
    replace HO := hide (HO.out.below b5)
    replace HB := hide (HB.out.trans (b5.mono HB.out.size))
    have hs5 : gx < w5.heap.size := Nat.lt_of_lt_of_le hs4 b5.size
    clear b5 f0 f1 p0 p1 p2 p3
    have f0 := (box_of H0.out).1 0 _ rfl
    have f1 := (box_of H0.out).1 1 _ rfl
    have x0 := (box_of HX.out).1 0 _ rfl
    have x1 := (box_of HX.out).1 1 _ rfl
    have xz := (box_of HX.out).2
    have r0 := (box_of H2.out).1 0 _ rfl
    have r1 := (box_of H2.out).1 1 _ rfl
    have rz := (box_of H2.out).2
    have m0 : ¬ w.heap.size + 1 + 1 = gx := by omega
    have hfin : ∀ (b : Bool), (pkOk size p && decide (ps.length ≠ 60)) = false → b = false → ansN w (postN size ps p) (.returned (.tuple #[.agg #[.int .i64 size, .slice a3 ps.length c3], .bool b])) ((w5.setCell ⟨w.heap.size + 1 + 1, 0, none⟩ (.int .i64 size)).setCell ⟨w.heap.size + 1 + 1, 1, none⟩ (.slice a3 ps.length c3)) := fun b hb hb2 => by
      subst hb2
      rw [postN_was hok hb]
      refine ⟨_, rfl, ?_, (HB.out.setCell (by simp; omega) _).setCell (by simp; omega) _⟩
      refine ((OwnP.same HO.out (fun q hq _ _ => ?_)).mono (by omega)).up (by simp; omega)
      rw [heap_setCell_other _ _ _ _ (by simp; omega), heap_setCell_other _ _ _ _ (by simp; omega)]
    have HFin := hide hfin
    clear hfin
    cases hpk : pkOk size p with
    | false =>
      go_wp2
      exact bodyPost_ret (v := .tuple #[.agg #[.int .i64 size, .slice a3 ps.length c3], .bool false]) (results_ct Try.results7 _ _ _ rfl (load2 (put2 H2.out _ _))) rfl (HFin.out _ (by rw [hpk]; rfl) rfl)
    | true =>
      by_cases h60 : ps.length = 60
      · have h60' : ((ps.length : Int) == 60) = true := by simp [h60]
        have H60 := hide h60
        clear h60
        go_wp2
        exact bodyPost_ret (v := .tuple #[.agg #[.int .i64 size, .slice a3 ps.length c3], .bool false]) (results_ct Try.results7 _ _ _ rfl (load2 (put2 H2.out _ _))) rfl (HFin.out _ (by rw [hpk]; simp [H60.out]) rfl)
      · have h60' : ((ps.length : Int) == 60) = false := by simp; omega
        have p0 := (box_of H1.out).1 0 _ rfl
        have p1 := (box_of H1.out).1 1 _ rfl
        have p2 := (box_of H1.out).1 2 _ rfl
        have p3 := (box_of H1.out).1 3 _ rfl
        have HT := hide (show Bt w5.drew w5.drew.heap.size (.slice pa p.b.length pc) p.b from (HP.out.at HB.out).drewN 1)
        obtain ⟨xs, hxs, hox⟩ := HO.out
        have HXS := hide hxs
        have HOX := hide hox
        have hnn : Hid (xs.length ≤ 2000000) := hide (by have : xs.length = ps.length := by rw [← hxs]; simp
                                                         omega)
        have hxl : Hid (xs.length = ps.length) := hide (by rw [← hxs]; simp)
        have hlow : Hid (∀ q, (Value.slice a3 ps.length c3).ownBlock = some q → q ≠ gx ∧ w.heap.size + 1 + 1 + 1 ≤ q ∧ q < gx) := hide (fun q hq => by
          have h1 := (World.ownsRow.lt hox.1 q hq).1
          have h2 := hox.2.2.2.1 q hq
          exact ⟨by omega, by omega, by omega⟩)
        clear hxs hox HFin r0 r1
        go_wp2_with fail
        go_region_law
          (first
            | (refine step_call rfl 29 _ _ rfl #[pkV p (.slice pa p.b.length pc)] (by kernel_rfl) (copyPkS _ p _ HT.out) ?_; rintro e w6 ⟨u, rfl, ou, b6⟩; refine ⟨_, rfl, ?_⟩; obtain ⟨au, cu, rfl⟩ := own_shape ou; have bB := below_of_drew b6; have hsB := bB.size;
                have HF : Hid (∀ q, (Value.slice au p.b.length cu).ownBlock = some q → (Value.slice a3 ps.length c3).ownBlock ≠ some q ∧ ∀ z ∈ xs.map Prod.snd, z.ownBlock ≠ some q) := hide (fun q hq => by
                  have h1 : w5.heap.size ≤ q := (ou.lt q hq).1
                  exact ⟨fun e => by have := HOX.out.2.2.2.1 q e; omega, fun z hz e => by have := HOX.out.2.2.2.2 z hz q e; omega⟩);
                have HNU : Hid (∀ z ∈ (xs ++ [(p, Value.slice au p.b.length cu)]).map Prod.snd, ∀ q, z.ownBlock = some q → q ≠ gx) := hide (fun z hz q hq => by
                  rw [List.map_append] at hz
                  rcases List.mem_append.1 hz with hz | hz
                  · have := HOX.out.2.2.2.2 z hz q hq; omega
                  · obtain rfl := List.mem_singleton.1 hz
                    have h1 : w5.heap.size ≤ q := (ou.lt q hq).1
                    omega);
                have HU := hide (ou.mono (show w.heap.size + 1 + 1 + 1 ≤ w5.drew.heap.size from Nat.le_trans (by omega) (Nat.le_of_lt hs5)));
                have HO6 := hide ((HOX.out.below bB).mono h22); have HX6 := hide ((bB.block gx hs5).trans HX.out); have H26 := hide ((bB.block (w.heap.size + 1 + 1) (by omega)).trans H2.out); have HB6 := hide (HB.out.trans (bB.mono HB.out.size));
                clear b6 ou;
                have HBx := hide (Box.new w6 #[.int .i64 p.f, .int .i64 p.t, .slice au p.b.length cu, .bool p.s] 28);
                have bD := (Below.refl w6.heap.size w6).alloc (Nat.le_refl _) (.cells #[.int .i64 p.f, .int .i64 p.t, .slice au p.b.length cu, .bool p.s] 28);
                have y6 := (bB.cell (p := ⟨gx, 1, none⟩) hs5).trans x1; have y7 := (bD.cell (p := ⟨gx, 1, none⟩) (by simp; omega)).trans y6;
                have HO7 := hide (HO6.out.below bD); have HU7 := hide (HU.out.below bD); have HX7 := hide ((bD.block gx (by omega)).trans HX6.out); have H27 := hide ((bD.block (w.heap.size + 1 + 1) (by omega)).trans H26.out); have HB7 := hide (HB6.out.trans (bD.mono HB6.out.size));
                have HSD : Hid (w.heap.size + 1 + 1 + 1 ≤ (w6.alloc (.cells #[.int .i64 p.f, .int .i64 p.t, .slice au p.b.length cu, .bool p.s] 28)).heap.size ∧ gx < (w6.alloc (.cells #[.int .i64 p.f, .int .i64 p.t, .slice au p.b.length cu, .bool p.s] 28)).heap.size) := hide ⟨Nat.le_trans (by omega) bD.size, Nat.lt_of_lt_of_le (by omega) bD.size⟩;
                clear bB bD HO6 HU HX6 H26 HB6; unfold pkV)
            | (refine step_app_Pk rfl _ _ rfl (w.heap.size + 1 + 1 + 1) _ w6.heap.size 1 _ xs (p, .slice au p.b.length cu) (by rfl) HO7.out (by rfl) HBx.out HU7.out HF.out hnn.out HSD.out.1 ?_; intro v8 w8 o8 g8 hat; obtain ⟨a8, c8, e8⟩ := o8.shape; have HO8 := hide o8; rw [List.length_append, hxl.out] at e8; subst e8;
                have hng : Hid ((Value.slice a8 (ps.length + [(p, Value.slice au p.b.length cu)].length) c8).ownBlock ≠ some gx) := hide (fun e => by
                  have h1 := HSD.out.2
                  rcases hat with ha | ha
                  · rw [ha] at e; exact (hlow.out gx e).1 rfl
                  · rw [ha] at e; cases e; omega);
                have HX8 := hide ((g8.block gx HSD.out.2 (fun e => (hlow.out gx e.symm).1 rfl)).trans HX7.out); have H28 := hide ((g8.block (w.heap.size + 1 + 1) (by have := HSD.out.1; omega) (fun e => by have := (hlow.out _ e.symm).2.1; omega)).trans H27.out);
                have HB8 := hide (HB7.out.grown g8 (by have := HSD.out.1; omega) (fun q hq => by have := (hlow.out q hq).2.1; omega)); have hs8 := g8.size;
                have y0 := (box_of HX8.out).1 0 _ rfl; have y1 := (box_of HX8.out).1 1 _ rfl; have yz := (box_of HX8.out).2; clear o8 hat))
        all_goals (
          have HX9 := hide (heap_setCell_same w8 gx 1 _ 26 (.slice a8 (ps.length + 1) c8) HX8.out)
          have H29 := hide ((heap_setCell_other w8 ⟨gx, 1, none⟩ (w.heap.size + 1 + 1) (.slice a8 (ps.length + 1) c8) (by simp; omega)).trans H28.out)
          have HO9 := hide (HO8.out.sameAt (w' := w8.setCell ⟨gx, 1, none⟩ (.slice a8 (ps.length + 1) c8)) (fun q hq => heap_setCell_other w8 _ q _ (fun e => hng.out (by rw [hq]; exact congrArg some e))) (fun u hu q hq => heap_setCell_other w8 _ q _ (HNU.out u hu q hq)))
          have HB9 := hide (HB8.out.setCell (p := ⟨gx, 1, none⟩) (by simp; omega) (.slice a8 (ps.length + 1) c8))
          have hs9 : w8.heap.size = (w8.setCell ⟨gx, 1, none⟩ (.slice a8 (ps.length + 1) c8)).heap.size := by simp
          have HS9 := hide hs9
          simp only [Array.setIfInBounds] at HX9
          clear x0 x1 xz p0 p1 p2 p3 f0 f1 y6 y7 y0 y1 yz rz hs9
          have k0 := (box_of HX9.out).1 0 _ rfl
          have k1 := (box_of HX9.out).1 1 _ rfl
          have r0 := (box_of H29.out).1 0 _ rfl
          have r1 := (box_of H29.out).1 1 _ rfl
          have rz := (box_of H29.out).2
          generalize w8.setCell ⟨gx, 1, none⟩ (.slice a8 (ps.length + 1) c8) = w9 at *
          go_wp2
          refine bodyPost_ret (v := .tuple #[.agg #[.int .i64 size, .slice a8 (ps.length + 1) c8], .bool true]) (results_ct Try.results7 _ _ _ rfl (load2 (put2 H29.out _ _))) rfl (show ansN w (postN size ps p) _ _ from by
            rw [postN_done hok hpk h60]
            refine ⟨_, rfl, ⟨xs ++ [(p, .slice au p.b.length cu)], by rw [List.map_append, HXS.out]; rfl, ?_⟩, (HB9.out.setCell (by simp; omega) _).setCell (by simp; omega) _⟩
            refine ((OwnX.same HO9.out (fun q hq _ _ => ?_)).mono (by omega)).up (by rw [HS9.out]; simp)
            rw [heap_setCell_other _ _ _ _ (by simp; omega), heap_setCell_other _ _ _ _ (by simp; omega)]))
end Go.Proofs.Ytmlbemcblgnbjaa
