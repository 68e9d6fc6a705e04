/-
  What Spoil does in the model.
-/
import Derived.Test.YtmlbemcblgnbjaaNetSpI
namespace Go.Proofs.Ytmlbemcblgnbjaa
open Go.RowKit

theorem set_self {α : Type} (l : List α) (i : Nat) (v : α) (h : l[i]? = some v) : l.set i v = l := by
  apply List.ext_getElem?
  intro k
  rw [List.getElem?_set]
  split
  · rename_i e; subst e
    split
    · exact h.symm
    · rename_i hk; rw [List.getElem?_eq_none (by omega)] 
  · rfl
/-- The bytes and the mark of packet j are stored, and the rest is as it was. -/
theorem OwnX.two {w : World} {b hi g n c : Nat} {xs : List (Pk × Value)} (h : OwnX w b hi (.slice (some ⟨g, 0, none⟩) n c) xs) (hn : xs.length = n) (j : Nat) (hj : j < n) (p : Pk) (u : Value) (h0 : (xs.getD j default).1.f = p.f) (h1 : (xs.getD j default).1.t = p.t) (hu : Own w b u p.b)
    (hf : ∀ q, u.ownBlock = some q → g ≠ q ∧ (∀ x ∈ xs.map Prod.snd, x.ownBlock ≠ some q) ∧ q < hi) :
    OwnX ((w.setCell ⟨g, j * 4 + 2, none⟩ u).setCell ⟨g, j * 4 + 3, none⟩ (.bool p.s)) b hi (.slice (some ⟨g, 0, none⟩) n c) (xs.set j (p, u)) := by
  subst hn
  obtain ⟨hr, ho, hs, hv, hx⟩ := h
  have hl : (xs.flatMap pkC).length = xs.length * 4 := flat_len pkC 4 pkC_len xs
  have h3 := World.ownsRow.stored hr (j * 4 + 2) u
  have h4 := World.ownsRow.stored h3.1 (j * 4 + 3) (.bool p.s)
  have hfin := h4.1
  have g0 := flat_get pkC 4 pkC_len xs default j 0 hj (by omega)
  have g1 := flat_get pkC 4 pkC_len xs default j 1 hj (by omega)
  rw [Nat.add_zero] at g0
  unfold pkC at g0 g1
  simp only [List.getElem?_cons_zero, List.getElem?_cons_succ] at g0 g1
  rw [h0] at g0
  rw [h1] at g1
  have e0 : (xs.flatMap pkC).set (j * 4) (.int .i64 p.f) = xs.flatMap pkC := set_self _ _ _ (by unfold pkC; exact g0)
  have e1 : (xs.flatMap pkC).set (j * 4 + 1) (.int .i64 p.t) = xs.flatMap pkC := set_self _ _ _ (by unfold pkC; exact g1)
  have hfl := flat_pk xs j (p, u) hj
  simp only at hfl
  rw [e0, e1] at hfl
  rw [hfl] at hfin
  refine OwnX.turn (w := w) (by rw [List.length_set]; exact hfin) (grownBy_trans h3.2 h4.2) (fun x hx => ?_) ?_ hv (fun y hy => ?_)
  · rcases List.mem_or_eq_of_mem_set hx with hx | rfl
    · exact ho x hx
    · exact hu
  · rw [List.map_set]
    exact hs.set j (fun q hq => ⟨fun e => (hf q hq).1 (by simpa [Value.ownBlock] using e), (hf q hq).2.1⟩)
  · rw [List.map_set] at hy
    rcases List.mem_or_eq_of_mem_set hy with hy | rfl
    · exact hx y hy
    · exact fun q hq => (hf q hq).2.2

attribute [local go_sem ↓] Go.wp_at_zero Go.wp_at_succ
set_option maxRecDepth 100000 in
set_option maxHeartbeats 8000000 in
theorem spoilSpec (w : World) (size : Int) (v : Value) (ps : List Pk) (i bit : Int) (h : RdP w w.heap.size v ps) (hb : -9223372036854775808 ≤ bit ∧ bit ≤ 9223372036854775807) (hm : ps.length ≤ 1048576) :
    Calls Try.prog 18 #[netV size v, .int .i64 i, .int .i64 bit] w (ansN w (spoilN size ps i bit)) := by
  have HR := hide h
  have HGD := hide h.good
  obtain ⟨a, cap, rfl, _⟩ := pk_at h
  clear h
  unfold netV
  have bA := ((Below.refl w.heap.size w).alloc (Nat.le_refl _) (.cells #[.int .i64 size, .slice a ps.length cap] 26)).alloc (by simp) (.cells #[.int .i64 0, .slice none 0 0] 26)
  have HE0 := hide ((Below.heap_alloc (w.alloc (.cells #[.int .i64 size, .slice a ps.length cap] 26)) (.cells #[.int .i64 0, .slice none 0 0] 26) w.heap.size (by simp)).trans (heap_alloc_new w (.cells #[.int .i64 size, .slice a ps.length cap] 26)))
  have HE1 := hide (heap_alloc_new (w.alloc (.cells #[.int .i64 size, .slice a ps.length cap] 26)) (.cells #[.int .i64 0, .slice none 0 0] 26))
  simp only [World.size_alloc] at HE1
  have HB := hide bA
  clear bA
  go_enter Try.func18, Try.ntmps18
  go_wp2_with fail
  refine (netSpec _ size _ ps _ (HR.out.at HB.out) (Nat.le_refl _) hm).mono ?_
  rintro e w1 ⟨rfl, b1⟩
  have E0 := (b1.block w.heap.size (by simp; omega)).trans HE0.out
  have E1 := (b1.block (w.heap.size + 1) (by simp)).trans HE1.out
  have hs1 : w.heap.size + 1 + 1 ≤ w1.heap.size := by have := b1.size; simp at this; omega
  replace HB := hide (HB.out.trans (b1.mono HB.out.size))
  clear b1 HE0 HE1
  have f0 := (box_of E0).1 0 _ rfl
  have f1 := (box_of E0).1 1 _ rfl
  have r0 := (box_of E1).1 0 _ rfl
  have r1 := (box_of E1).1 1 _ rfl
  have z1 := (box_of E1).2
  have H0 := hide E0
  have H1 := hide E1
  clear E0 E1
  cases hnet : netOk size ps with
  | false =>
    have hok2 : mayN size ps i bit = false := by unfold mayN hasN; rw [hnet]; rfl
    go_wp2
    exact bodyPost_ret (v := .tuple #[.agg #[.int .i64 0, .slice none 0 0], .bool false]) (results_ct Try.results18 _ _ _ rfl (load2 (put2 H1.out _ _))) rfl (show ansN w (spoilN size ps i bit) _ _ from by
      rw [spoilN_no hok2, asN_no hnet]
      exact ⟨_, rfl, ownP_nil _ _ _, (HB.out.setCell (by simp) _).setCell (by simp) _⟩)
  | true =>
    have h60 := (netOk_all hnet).2.1
    go_wp2_with fail
    clear f0 f1 r0 r1 z1
    refine (copyNetS _ size _ ps _ (HR.out.at HB.out) (Nat.le_refl _) hm).mono ?_
    rintro e w3 ⟨v3, rfl, o3, b3⟩
    obtain ⟨xs, hxs, hox⟩ := o3
    have hxl : xs.length = ps.length := by rw [← hxs]; simp
    obtain ⟨av, cv, ev⟩ := OwnX.shape hox
    rw [hxl] at ev
    subst ev
    have HOX := hide hox
    have HXS := hide hxs
    have HXL := hide hxl
    have hs3 := b3.size
    replace H0 := hide ((b3.block w.heap.size (by omega)).trans H0.out)
    replace H1 := hide ((b3.block (w.heap.size + 1) (by omega)).trans H1.out)
    replace HB := hide (HB.out.trans (b3.mono HB.out.size))
    clear b3 hox hxs hxl
    unfold netV
    have bD := (Below.refl w3.heap.size w3).alloc (Nat.le_refl _) (.cells #[.int .i64 size, .slice av ps.length cv] 26)
    have HX := hide (heap_alloc_new w3 (.cells #[.int .i64 size, .slice av ps.length cv] 26))
    replace H0 := hide ((bD.block w.heap.size (by omega)).trans H0.out)
    replace H1 := hide ((bD.block (w.heap.size + 1) (by omega)).trans H1.out)
    replace HOX := hide (HOX.out.below bD)
    have hs4 : (w3.alloc (.cells #[.int .i64 size, .slice av ps.length cv] 26)).heap.size = w3.heap.size + 1 := by simp
    have HS4 := hide hs4
    replace HB := hide (HB.out.trans (bD.mono HB.out.size))
    clear bD hs4
    have f1 := (box_of H0.out).1 1 _ rfl
    have x0 := (box_of HX.out).1 0 _ rfl
    have x1 := (box_of HX.out).1 1 _ rfl
    have r0 := (box_of H1.out).1 0 _ rfl
    have r1 := (box_of H1.out).1 1 _ rfl
    have z1 := (box_of H1.out).2
    have m1 : ¬ w.heap.size + 1 = w3.heap.size := by omega
    have HEND : Hid (spoilN size ps i bit = ((size, ps), false) → ∀ W, W = ((w3.alloc (.cells #[.int .i64 size, .slice av ps.length cv] 26)).setCell ⟨w.heap.size + 1, 0, none⟩ (.int .i64 size)).setCell ⟨w.heap.size + 1, 1, none⟩ (.slice av ps.length cv) → ansN w (spoilN size ps i bit) (.returned (.tuple #[.agg #[.int .i64 size, .slice av ps.length cv], .bool false])) W) := hide (fun hv W hW => by
      subst hW
      rw [hv]
      refine ⟨_, rfl, ⟨xs, HXS.out, ?_⟩, (HB.out.setCell (by simp) _).setCell (by simp) _⟩
      refine ((OwnX.same HOX.out (fun q hq _ _ => ?_)).mono (by omega)).up (by simp)
      rw [heap_setCell_other _ _ _ _ (by simp; omega), heap_setCell_other _ _ _ _ (by simp; omega)])
    cases hin : inB i 0 ((ps.length : Int) - 1) with
    | false =>
      have hok2 : mayN size ps i bit = false := by unfold mayN hasN; rw [hnet, hin]; rfl
      go_wp2_with (go_at_call 32; refine (inSpec _ _ _ _).mono ?_; rw [hin]; rintro e w9 ⟨rfl, hw9⟩; subst w9)
      exact bodyPost_ret (v := .tuple #[.agg #[.int .i64 size, .slice av ps.length cv], .bool false]) (results_ct Try.results18 _ _ _ rfl (load2 (put2 H1.out _ _))) rfl (HEND.out (by rw [spoilN_no hok2, asN_yes hnet]) _ rfl)
    | true =>
      have hok2 : hasN size ps i = true := by unfold hasN; rw [hnet, hin]; rfl
      obtain ⟨j, rfl, hj, _⟩ := hasN_at hok2
      have HSN : Hid (spoilN size ps (j : Int) bit = bif (!(ps.getD j default).s && decide (0 ≤ bit ∧ bit / 8 < ((ps.getD j default).b.length : Int))) then ((size, ps.set j (spoilt (ps.getD j default) bit)), true) else ((size, ps), false)) := hide (by
        unfold spoilN mayN; rw [hok2, asN_yes hnet]; rfl)
      obtain ⟨a', cap', ea, _, _, hx⟩ := pk_at (HR.out.low HB.out (Nat.le_refl _))
      cases ea
      obtain ⟨b, o, rfl, hbw, hc⟩ := hx (by omega)
      obtain ⟨a2, c2, e0, e1, e2, e3, hc0, hi2⟩ := hc j hj
      have HIJ := hide (hi2.up (show w.heap.size ≤ w3.heap.size by omega))
      have HC0 := hide hc0
      clear hc hx hi2 hc0
      have hpj : (xs.getD j default).1 = ps.getD j default := by
        rw [← HXS.out]
        simp [List.getD, show j < xs.length by rw [HXL.out]; exact hj]
      have HPJ := hide hpj
      clear hpj
      generalize ps.getD j default = p at *
      obtain ⟨f, t, zs, sp⟩ := p
      simp only at *
      cases sp with
      | true =>
        go_wp2_with (go_at_call 32; refine (inSpec _ _ _ _).mono ?_; rw [hin]; rintro e w9 ⟨rfl, hw9⟩; subst w9)
        exact bodyPost_ret (v := .tuple #[.agg #[.int .i64 size, .slice av ps.length cv], .bool false]) (results_ct Try.results18 _ _ _ rfl (load2 (put2 H1.out _ _))) rfl (HEND.out (by rw [HSN.out]; rfl) _ rfl)
      | false =>
        by_cases hn : bit < 0
        · go_wp2_with (go_at_call 32; refine (inSpec _ _ _ _).mono ?_; rw [hin]; rintro e w9 ⟨rfl, hw9⟩; subst w9)
          exact bodyPost_ret (v := .tuple #[.agg #[.int .i64 size, .slice av ps.length cv], .bool false]) (results_ct Try.results18 _ _ _ rfl (load2 (put2 H1.out _ _))) rfl (HEND.out (by
            rw [HSN.out]
            show (bif (!false && decide (0 ≤ bit ∧ bit / 8 < (zs.length : Int))) then _ else _) = _
            rw [decide_eq_false (by omega)]; rfl) _ rfl)
        · have hn' : 0 ≤ bit := by omega
          by_cases hge : (zs.length : Int) ≤ bit / 8
          · clear hn
            go_wp2_with (go_at_call 32; refine (inSpec _ _ _ _).mono ?_; rw [hin]; rintro e w9 ⟨rfl, hw9⟩; subst w9)
            exact bodyPost_ret (v := .tuple #[.agg #[.int .i64 size, .slice av ps.length cv], .bool false]) (results_ct Try.results18 _ _ _ rfl (load2 (put2 H1.out _ _))) rfl (HEND.out (by
              rw [HSN.out]
              show (bif (!false && decide (0 ≤ bit ∧ bit / 8 < (zs.length : Int))) then _ else _) = _
              rw [decide_eq_false (by omega)]; rfl) _ rfl)
          · have hlt : bit / 8 < (zs.length : Int) := by omega
            clear hn hge
            clear HEND
            obtain ⟨g, rfl⟩ : ∃ g, av = some ⟨g, 0, none⟩ := by
              rcases HOX.out.1.2 with ⟨e, h1⟩ | ⟨g, c', _, e, _⟩
              · rw [HXL.out] at h1; omega
              · simp only [Value.slice.injEq] at e; exact ⟨g, e.1⟩
            have hgl : w1.heap.size ≤ g ∧ g < w3.heap.size := ⟨(World.ownsRow.lt HOX.out.1 g rfl).1, HOX.out.2.2.2.1 g rfl⟩
            have hhi : Hid (∀ u ∈ xs.map Prod.snd, ∀ q, u.ownBlock = some q → q < w3.heap.size) := hide HOX.out.2.2.2.2
            have HV : Hid (spoilN size ps (j : Int) bit = ((size, ps.set j ⟨f, t, turned zs bit, true⟩), true)) := hide (by
              rw [HSN.out]
              show (bif (!false && decide (0 ≤ bit ∧ bit / 8 < (zs.length : Int))) then _ else _) = _
              rw [decide_eq_true ⟨hn', hlt⟩]; rfl)
            go_wp2_with (go_at_call 32; refine (inSpec _ _ _ _).mono ?_; rw [hin]; rintro e w9 ⟨rfl, hw9⟩; subst w9)
            clear hn' hlt HSN f1 x0 x1 r0 r1 z1 e0 e1 e3
            generalize w3.alloc (.cells #[.int .i64 size, .slice (some ⟨g, 0, none⟩) ps.length cv] 26) = w4 at *
            have hs4 := HS4.out
            have HIK := hide (HIJ.out.up (show w3.heap.size ≤ w4.heap.size by omega))
            have HD0 : Hid (Below w4.heap.size w4 w4.drew) := hide (Below.refl w4.heap.size w4).drew
            have HRW : Hid (∀ w', Below w4.heap.size w4 w' → ∀ r, r < 4 → (∃ z, w'.cell? ⟨g, j * 4 + r, none⟩ = some z) ∧ w'.frozen? ⟨g, j * 4 + r, none⟩ = false) := hide (fun w' hw r hr => by
              have hrow := (HOX.out.below hw).1
              rw [HXL.out] at hrow
              refine ⟨?_, World.ownsRow.frozenAt hrow _⟩
              rw [World.ownsRow.cellAt hrow _ (by omega), flat_get pkC 4 pkC_len _ default j r (by rw [HXL.out]; exact hj) hr]
              exact ⟨_, List.getElem?_eq_getElem (by rw [pkC_len]; exact hr)⟩)
            have HSS : Hid (∀ w', Below w4.heap.size w4 w' → w'.cell? ⟨w3.heap.size, 1, none⟩ = some (.slice (some ⟨g, 0, none⟩) ps.length cv) ∧ w'.cell? ⟨w.heap.size, 1, none⟩ = some (.slice (some ⟨b, o, none⟩) ps.length cap) ∧ w'.cell? ⟨b, o + j * 4 + 2, none⟩ = some (.slice a2 zs.length c2)) := hide (fun w' hw =>
              ⟨(hw.cell (p := ⟨w3.heap.size, 1, none⟩) (by dsimp only; omega)).trans ((box_of HX.out).1 1 _ rfl), (hw.cell (p := ⟨w.heap.size, 1, none⟩) (by dsimp only; omega)).trans ((box_of H0.out).1 1 _ rfl), (hw.cell (p := ⟨b, o + j * 4 + 2, none⟩) (by dsimp only; omega)).trans e2⟩)
            have HST : Hid (∀ w' u, Below w4.heap.size w4 w' → (w'.setCell ⟨g, j * 4 + 2, none⟩ u).cell? ⟨w3.heap.size, 1, none⟩ = some (.slice (some ⟨g, 0, none⟩) ps.length cv) ∧ (w'.setCell ⟨g, j * 4 + 2, none⟩ u).cell? ⟨w.heap.size, 1, none⟩ = some (.slice (some ⟨b, o, none⟩) ps.length cap) ∧ (w'.setCell ⟨g, j * 4 + 2, none⟩ u).cell? ⟨b, o + j * 4 + 2, none⟩ = some (.slice a2 zs.length c2)) := hide (fun w' u hw => by
              obtain ⟨q0, q1, q2⟩ := HSS.out w' hw
              refine ⟨?_, ?_, ?_⟩ <;> (rw [cell_setNe (by dsimp only; omega)]; assumption))
            clear e2
            go_region_held_law (fun w' => w'.cell? ⟨w3.heap.size, 1, none⟩ = some (.slice (some ⟨g, 0, none⟩) ps.length cv) ∧ w'.cell? ⟨w.heap.size, 1, none⟩ = some (.slice (some ⟨b, o, none⟩) ps.length cap) ∧ w'.cell? ⟨b, o + j * 4 + 2, none⟩ = some (.slice a2 zs.length c2))
              (first | exact HST.out _ _ HD1.out | exact HSS.out _ HD1.out | exact HSS.out _ HD0.out)
              (first
                | (refine step_callTo (some 57) rfl rfl 39 _ _ rfl #[.slice a2 zs.length c2, .int .i64 bit] (by kernel_rfl) (turnSpec _ a2 zs.length c2 zs bit (HIK.out.at HD0.out) HC0.out hb) ?_; rintro e x5 ⟨v5, rfl, o5, b5⟩; obtain ⟨a5, c5, e5⟩ := own_shape o5; rw [turned_len] at e5; subst e5; refine ⟨_, rfl, ?_⟩; have HD1 : Hid (Below w4.heap.size w4 x5) := hide (HD0.out.trans (b5.mono HD0.out.size)); have O5 : Hid (Own x5 w4.heap.size (.slice a5 zs.length c5) (turned zs bit)) := hide o5; obtain ⟨⟨zz2, d2⟩, zg2⟩ := HRW.out x5 HD1.out 2 (by omega); clear b5 o5)
                | fail)
            have hs5 := HD1.out.size
            have E8 := hide ((HD1.out.block w3.heap.size (by omega)).trans HX.out)
            have E1 := hide ((HD1.out.block (w.heap.size + 1) (by omega)).trans H1.out)
            have EX := hide (HOX.out.below HD1.out)
            have EB := hide (HB.out.trans (HD1.out.mono HB.out.size))
            have q3 := OwnX.two (EX.out.up (hi' := x5.heap.size) (by omega)) HXL.out j hj ⟨f, t, turned zs bit, true⟩ (.slice a5 zs.length c5) (by rw [HPJ.out]) (by rw [HPJ.out]) (O5.out.mono (by omega)) (fun q hq => by
              have h5 := O5.out.lt q hq
              refine ⟨by omega, fun x hx hxq => ?_, by omega⟩
              have := hhi.out x hx q hxq
              omega)
            have Q3 := hide q3
            clear q3
            obtain ⟨⟨zz3, d3⟩, zg3⟩ := HRW.out x5 HD1.out 3 (by omega)
            have f0 := (box_of E8.out).1 0 _ rfl
            have f1 := (box_of E8.out).1 1 _ rfl
            have r0 := (box_of E1.out).1 0 _ rfl
            have r1 := (box_of E1.out).1 1 _ rfl
            have z1 := (box_of E1.out).2
            have n2 : g ≠ w3.heap.size := by omega
            have n3 : w3.heap.size ≠ g := by omega
            have n6 : w.heap.size + 1 ≠ g := by omega
            have n8 : g ≠ w.heap.size + 1 := by omega
            clear HD0 HSS HST HRW
            go_wp2
            refine bodyPost_ret (v := .tuple #[.agg #[.int .i64 size, .slice (some ⟨g, 0, none⟩) ps.length cv], .bool true]) (results_ct Try.results18 _ _ _ rfl (load2 (put2 (a0 := .int .i64 0) (a1 := .slice none 0 0) ?_ _ _))) rfl (show ansN w (spoilN size ps (j : Int) bit) _ _ from by
              rw [HV.out]
              refine ⟨_, rfl, ⟨xs.set j (⟨f, t, turned zs bit, true⟩, .slice a5 zs.length c5), by rw [List.map_set, HXS.out], ?_⟩, (((EB.out.setCell (by dsimp only; omega) _).setCell (by dsimp only; omega) _).setCell (by dsimp only; omega) _).setCell (by dsimp only; omega) _⟩
              refine ((OwnX.same Q3.out (fun q hq _ _ => ?_)).mono (by omega)).up (by simp)
              rw [heap_setCell_other _ _ _ _ (by simp; omega), heap_setCell_other _ _ _ _ (by simp; omega)])
            rw [heap_setCell_other _ _ _ _ (by dsimp only; omega), heap_setCell_other _ _ _ _ (by dsimp only; omega)]
            exact E1.out
theorem spoilImpl (w : World) (size : Int) (v : Value) (ps : List Pk) (i bit : Int) (h : RdP w w.heap.size v ps) (hb : -9223372036854775808 ≤ bit ∧ bit ≤ 9223372036854775807) (hm : ps.length ≤ 1048576) :
    Calls Try.prog 17 #[netV size v, .int .i64 i, .int .i64 bit] w (ansN w (spoilN size ps i bit)) := by
  cases hh : hasN size ps i with
  | false =>
    rw [spoilN_no (by unfold mayN; rw [hh]; rfl)]
    exact spoilImplNo w size v ps i bit h hm hh
  | true =>
    obtain ⟨j, rfl, hj, hnet⟩ := hasN_at hh
    exact spoilImplYes w size v ps j bit h hb hm hh hj hnet
end Go.Proofs.Ytmlbemcblgnbjaa
