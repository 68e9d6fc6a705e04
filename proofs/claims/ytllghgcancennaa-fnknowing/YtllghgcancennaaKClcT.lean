/-
  The clocks of events in the model.
-/
import Derived.Test.YtllghgcancennaaJ15
import Derived.Test.YtllghgcancennaaJ17
import Derived.Test.YtllghgcancennaaKClkT
import Derived.Test.YtllghgcancennaaKEvS
namespace Go.Proofs.Ytllghgcancennaa
open Go.RowKit

set_option maxRecDepth 100000 in
set_option maxHeartbeats 32000000 in
theorem clkNS (w : World) (xs : List Evt) (v : Value) (h : Reads w w.heap.size (evts xs) v) (hx : xs.length ≤ 3000) :
    Calls Try.prog 34 #[v] w fun e w' => rowP w w' (rws (clkN xs xs.length)) e := by
  have HR := hide h
  have hm : xs.length ≤ 1048576 := by omega
  obtain ⟨a1, c1, e1, _⟩ := h.shape
  subst e1
  clear h
  have HO := hide (Out.zero w)
  have HBX := hide ((Below.refl w.heap.size w).alloc (Nat.le_refl _) (.cells #[] 44))
  go_enter Try.func34, Try.ntmps34
  go_upto_region 2 with fail
  generalize w.alloc (.cells #[] 44) = W1 at *
  go_wp2
  go_loopw [3, 4] (fun r i wr => ∃ (j : Nat) (us : List Value) (va : Option Addr) (vc : Nat), j ≤ xs.length ∧ i = .int .i64 (j : Int) ∧ r = .slice va j vc ∧ Hid (Out wr w.heap.size wr.heap.size (clkN xs j) (.slice va j vc) us) ∧ Hid (Below w.heap.size w wr)) (fun _ i _ => xs.length - (intOf i).toNat)
  case atStart => exact ⟨0, [], _, _, Nat.zero_le _, rfl, rfl, HO, HBX⟩
  case round =>
    obtain ⟨j, us, va, vc, hj, rfl, rfl, HO, HB⟩ := hrel
    by_cases hlt : j < xs.length
    · obtain ⟨a', cap', ea, hcap, _, hc⟩ := event_at (HR.out.at HB.out)
      cases ea
      obtain ⟨b, o, rfl, hbb, hcell⟩ := hc (by omega)
      obtain ⟨d0, d1, d2, d3⟩ := hcell j hlt
      clear hc hcell
      obtain ⟨y, hy⟩ : ∃ y, xs.getD j default = y := ⟨_, rfl⟩
      rw [hy] at d0 d1 d2 d3
      have HY := hide hy
      clear hy
      have hltI : (j : Int) < (xs.length : Int) := by omega
      go_upto_region 6 with fail
      clear d0 d1 d2 d3
      have b1 := (Below.refl wr.heap.size wr).alloc (Nat.le_refl _) (.cells #[.int .i64 y.w, .int .i64 y.k, .int .i64 y.i, .int .i64 y.a] 40)
      have EF := hide (heap_alloc_new wr (.cells #[.int .i64 y.w, .int .i64 y.k, .int .i64 y.i, .int .i64 y.a] 40))
      replace HO := hide ((HO.out.below b1).up b1.size)
      replace HB := hide (HB.out.trans (b1.mono HB.out.size))
      clear b1 hbb
      obtain ⟨gf, hgf⟩ : ∃ g, wr.heap.size = g := ⟨_, rfl⟩
      rw [hgf] at EF ⊢
      clear hgf
      generalize wr.alloc (.cells #[.int .i64 y.w, .int .i64 y.k, .int .i64 y.i, .int .i64 y.a] 40) = W2 at *
      go_upto_region 7 with fail
      have HU := hide ((ownD_zero W2 72 2).rd (Nat.le_refl _))
      have b1 := (Below.refl W2.heap.size W2).alloc (Nat.le_refl _) (.cells #[] 72)
      replace HO := hide ((HO.out.below b1).up b1.size)
      replace EF := hide ((b1.block _ (Array.getElem?_eq_some_iff.1 EF.out).1).trans EF.out)
      replace HB := hide (HB.out.trans (b1.mono HB.out.size))
      clear b1
      have HU : Hid (Reads (W2.alloc (.cells #[] 72)) (W2.alloc (.cells #[] 72)).heap.size (smps []) (.slice (some ⟨W2.heap.size, 0, none⟩) 0 0)) := hide HU.out
      obtain ⟨gu, hgu⟩ : ∃ g, W2.heap.size = g := ⟨_, rfl⟩
      rw [hgu] at HU ⊢
      clear hgu
      generalize W2.alloc (.cells #[] 72) = W3 at *
      have k0 := (box_of EF.out).1 0 _ rfl
      have k1 := (box_of EF.out).1 1 _ rfl
      have k2 := (box_of EF.out).1 2 _ rfl
      go_wp2_with fail
      refine (lastS _ xs _ j (-1) 0 (y.w) (HR.out.at HB.out) hm hj).mono ?_
      rintro e x1 ⟨rfl, b1⟩
      clear k0 k1 k2
      replace HO := hide ((HO.out.below b1).up b1.size)
      replace EF := hide ((b1.block _ (Array.getElem?_eq_some_iff.1 EF.out).1).trans EF.out)
      replace HU := hide (HU.out.at b1)
      replace HB := hide (HB.out.trans (b1.mono HB.out.size))
      clear b1
      have HM1 := hide (lastI_lt (xs := xs) (k := -1) (i := 0) (w := y.w) j)
      have HOW : Hid (ownI xs j = if 0 ≤ lastI xs (-1) 0 y.w j then lastI xs (-1) 0 y.w j else lastI xs 5 y.w (-1) j) := hide (by unfold ownI; rw [HY.out])
      generalize lastI xs (-1) 0 y.w j = m1 at *
      by_cases p1 : 0 ≤ m1
      · obtain ⟨ma, rfl⟩ := Int.eq_ofNat_of_zero_le p1
        have hmm : ma < j := by have := HM1.out.2; omega
        have hmI : (ma : Int) < (j : Int) := by omega
        clear HU
        obtain ⟨g3, o3, c3, e3, hc3⟩ := HO.out.cell (j := ma) (by rw [clkN_len]; omega)
        rw [clkN_len] at e3
        cases e3
        have hr3 := HO.out.reads (j := ma) (by rw [clkN_len]; omega)
        obtain ⟨u1, hu1⟩ : ∃ u, us.getD ma undef = u := ⟨_, rfl⟩
        rw [hu1] at hc3 hr3
        clear hu1
        obtain ⟨u1a, u1c, u1e, _⟩ := hr3.shape
        subst u1e
        have HU := hide hr3
        clear hr3
        obtain ⟨c0, hc0⟩ : ∃ c, (clkN xs j).getD ma [] = c := ⟨_, rfl⟩
        rw [hc0] at HU hc3
        have HC0 : Hid (atC (clkN xs j) (ownI xs j) = c0) := hide (by rw [HOW.out, if_pos p1]; unfold atC; rw [if_pos p1]; exact hc0)
        clear hc0 HOW HM1
        have HG0 : Hid (GoodC xs c0) := hide (by rw [← HC0.out]; exact atC_good (clkN_good xs j hj) _)
        cases c3 : (y.k == 3) with
        | true =>
          have k3e : y.k = 3 := eq_of_beq c3
          have HOT : Hid (othI xs j = lastI xs 4 y.i (-1) j) := hide (by unfold othI; rw [HY.out, if_pos k3e])
          clear k3e
          have k0 := (box_of EF.out).1 0 _ rfl
          have k1 := (box_of EF.out).1 1 _ rfl
          have k2 := (box_of EF.out).1 2 _ rfl
          go_wp2_with fail
          refine (lastS _ xs _ j (4) y.i (-1) (HR.out.at HB.out) hm hj).mono ?_
          rintro e x2 ⟨rfl, b1⟩
          clear k0 k1 k2
          replace HO := hide ((HO.out.below b1).up b1.size)
          replace EF := hide ((b1.block _ (Array.getElem?_eq_some_iff.1 EF.out).1).trans EF.out)
          replace HU := hide (HU.out.at b1)
          replace HB := hide (HB.out.trans (b1.mono HB.out.size))
          clear b1
          clear hc3
          have HM3 := hide (lastI_lt (xs := xs) (k := 4) (i := y.i) (w := -1) j)
          generalize lastI xs (4) y.i (-1) j = m3 at *
          by_cases p3 : 0 ≤ m3
          · obtain ⟨mc, rfl⟩ := Int.eq_ofNat_of_zero_le p3
            have hmc : mc < j := by have := HM3.out.2; omega
            have hmcI : (mc : Int) < (j : Int) := by omega
            obtain ⟨g3, o3, c3, e3, hc3⟩ := HO.out.cell (j := mc) (by rw [clkN_len]; omega)
            rw [clkN_len] at e3
            cases e3
            have hr3 := HO.out.reads (j := mc) (by rw [clkN_len]; omega)
            obtain ⟨u2, hu2⟩ : ∃ u, us.getD mc undef = u := ⟨_, rfl⟩
            rw [hu2] at hc3 hr3
            clear hu2
            obtain ⟨u2a, u2c, u2e, _⟩ := hr3.shape
            subst u2e
            have HU2 := hide hr3
            clear hr3
            obtain ⟨c2, hc2⟩ : ∃ c, (clkN xs j).getD mc [] = c := ⟨_, rfl⟩
            rw [hc2] at HU2 hc3
            have HC2 : Hid (atC (clkN xs j) (othI xs j) = c2) := hide (by rw [HOT.out]; unfold atC; rw [if_pos p3]; exact hc2)
            clear hc2 HOT HM3
            have HG2 : Hid (GoodC xs c2) := hide (by rw [← HC2.out]; exact atC_good (clkN_good xs j hj) _)
            have k0 := (box_of EF.out).1 0 _ rfl
            have k1 := (box_of EF.out).1 1 _ rfl
            have k2 := (box_of EF.out).1 2 _ rfl
            go_wp2_with fail
            refine (joinKS _ c0 c2 _ _ HU.out HU2.out (by have := HG0.out.len; have := HG2.out.len; omega)).mono ?_
            rintro e xj ⟨uj, rfl, oj, b1⟩
            clear k0 k1 k2 HU HU2 hc3
            replace HO := hide ((HO.out.below b1).up b1.size)
            replace EF := hide ((b1.block _ (Array.getElem?_eq_some_iff.1 EF.out).1).trans EF.out)
            replace HB := hide (HB.out.trans (b1.mono HB.out.size))
            clear b1
            obtain ⟨uja, ujc, uje⟩ := oj.shape
            subst uje
            have HU := hide (oj.rd (Nat.le_refl _))
            clear oj
            have HG1 := hide (HG0.out.join HG2.out)
            have HNX : Hid (nextC xs (clkN xs j) j = tickX (joinK c0 c2) y.w) := hide (by unfold nextC; rw [HC0.out, HC2.out, HY.out])
            generalize joinK c0 c2 = c1 at *
            clear HG0 HG2 HC0 HC2
            have k0 := (box_of EF.out).1 0 _ rfl
            have k1 := (box_of EF.out).1 1 _ rfl
            have k2 := (box_of EF.out).1 2 _ rfl
            have HGc := hide (HG1.out.g hx)
            have hsx := HB.out.size
            go_wp2_with (first
              | (go_at_call 61; refine (tickS _ c1 _ y.w HU.out HGc.out).mono ?_; rintro e Z1 ⟨u9, rfl, o9, b9⟩; obtain ⟨u9a, u9c, u9e⟩ := o9.shape; subst u9e; have hz1 := b9.size; have HXa := hide ((Below.refl Z1.heap.size Z1).alloc (Nat.le_refl _) (.cells #[.slice u9a (tickX c1 y.w).length u9c] 44)); have hsX := HXa.out.size; have HD := hide ((o9.below HXa.out).up HXa.out.size); have HO9 := hide ((HO.out.below b9).below HXa.out); have HBz := hide ((HB.out.trans (b9.mono hsx)).trans (HXa.out.mono (by omega))); have hbx := hide (box_of (heap_alloc_new Z1 (.cells #[.slice u9a (tickX c1 y.w).length u9c] 44))).1; clear o9 b9 HXa)
              | (at_builtin; refine Out.app rfl _ _ rfl w.heap.size _ _ j (clkN xs j) (clkN_len xs j) _ us rfl HO9.out _ _ _ (tickX c1 y.w) rfl hbx.out HD.out (by omega) (Nat.le_refl _) hsx (by omega) ?_; intro g9 vc9 w9 o9 gr9 hq9; have HOE := hide o9; have HBE := hide (HBz.out.grown gr9 (by omega) (fun q hq => (hq9 q hq).1)); clear o9 gr9 hq9)
              | fail)
            refine ⟨⟨j + 1, us ++ [.slice u9a (tickX c1 y.w).length u9c], some ⟨g9, 0, none⟩, vc9, by omega, by go_num, rfl, hide ?_, HBE⟩, by simp [intOf]; omega⟩
            rw [clkN_succ, HNX.out]
            exact HOE.out
          · have HC2 : Hid (atC (clkN xs j) (othI xs j) = []) := hide (by rw [HOT.out]; unfold atC; rw [if_neg p3])
            clear HOT HM3
            have HNX : Hid (nextC xs (clkN xs j) j = tickX c0 y.w) := hide (by unfold nextC; rw [HC0.out, HC2.out, HY.out, joinK_nil])
            have HG1 := HG0
            clear HG0 HC0 HC2
            have k0 := (box_of EF.out).1 0 _ rfl
            have k1 := (box_of EF.out).1 1 _ rfl
            have k2 := (box_of EF.out).1 2 _ rfl
            have HGc := hide (HG1.out.g hx)
            have hsx := HB.out.size
            go_wp2_with (first
              | (go_at_call 61; refine (tickS _ c0 _ y.w HU.out HGc.out).mono ?_; rintro e Z1 ⟨u9, rfl, o9, b9⟩; obtain ⟨u9a, u9c, u9e⟩ := o9.shape; subst u9e; have hz1 := b9.size; have HXa := hide ((Below.refl Z1.heap.size Z1).alloc (Nat.le_refl _) (.cells #[.slice u9a (tickX c0 y.w).length u9c] 44)); have hsX := HXa.out.size; have HD := hide ((o9.below HXa.out).up HXa.out.size); have HO9 := hide ((HO.out.below b9).below HXa.out); have HBz := hide ((HB.out.trans (b9.mono hsx)).trans (HXa.out.mono (by omega))); have hbx := hide (box_of (heap_alloc_new Z1 (.cells #[.slice u9a (tickX c0 y.w).length u9c] 44))).1; clear o9 b9 HXa)
              | (at_builtin; refine Out.app rfl _ _ rfl w.heap.size _ _ j (clkN xs j) (clkN_len xs j) _ us rfl HO9.out _ _ _ (tickX c0 y.w) rfl hbx.out HD.out (by omega) (Nat.le_refl _) hsx (by omega) ?_; intro g9 vc9 w9 o9 gr9 hq9; have HOE := hide o9; have HBE := hide (HBz.out.grown gr9 (by omega) (fun q hq => (hq9 q hq).1)); clear o9 gr9 hq9)
              | fail)
            refine ⟨⟨j + 1, us ++ [.slice u9a (tickX c0 y.w).length u9c], some ⟨g9, 0, none⟩, vc9, by omega, by go_num, rfl, hide ?_, HBE⟩, by simp [intOf]; omega⟩
            rw [clkN_succ, HNX.out]
            exact HOE.out
        | false =>
          have k3e : ¬ y.k = 3 := fun e => by rw [e] at c3; simp at c3
          cases c6 : (y.k == 6) with
          | true =>
            have k6e : y.k = 6 := eq_of_beq c6
            have HOT : Hid (othI xs j = lastI xs (-1) 0 y.i j) := hide (by unfold othI; rw [HY.out, if_neg k3e, if_pos k6e])
            clear k3e k6e
            have k0 := (box_of EF.out).1 0 _ rfl
            have k1 := (box_of EF.out).1 1 _ rfl
            have k2 := (box_of EF.out).1 2 _ rfl
            go_wp2_with fail
            refine (lastS _ xs _ j (-1) 0 (y.i) (HR.out.at HB.out) hm hj).mono ?_
            rintro e x3 ⟨rfl, b1⟩
            clear k0 k1 k2
            replace HO := hide ((HO.out.below b1).up b1.size)
            replace EF := hide ((b1.block _ (Array.getElem?_eq_some_iff.1 EF.out).1).trans EF.out)
            replace HU := hide (HU.out.at b1)
            replace HB := hide (HB.out.trans (b1.mono HB.out.size))
            clear b1
            clear hc3
            have HM3 := hide (lastI_lt (xs := xs) (k := -1) (i := 0) (w := y.i) j)
            generalize lastI xs (-1) 0 (y.i) j = m3 at *
            by_cases p3 : 0 ≤ m3
            · obtain ⟨mc, rfl⟩ := Int.eq_ofNat_of_zero_le p3
              have hmc : mc < j := by have := HM3.out.2; omega
              have hmcI : (mc : Int) < (j : Int) := by omega
              obtain ⟨g3, o3, c3, e3, hc3⟩ := HO.out.cell (j := mc) (by rw [clkN_len]; omega)
              rw [clkN_len] at e3
              cases e3
              have hr3 := HO.out.reads (j := mc) (by rw [clkN_len]; omega)
              obtain ⟨u2, hu2⟩ : ∃ u, us.getD mc undef = u := ⟨_, rfl⟩
              rw [hu2] at hc3 hr3
              clear hu2
              obtain ⟨u2a, u2c, u2e, _⟩ := hr3.shape
              subst u2e
              have HU2 := hide hr3
              clear hr3
              obtain ⟨c2, hc2⟩ : ∃ c, (clkN xs j).getD mc [] = c := ⟨_, rfl⟩
              rw [hc2] at HU2 hc3
              have HC2 : Hid (atC (clkN xs j) (othI xs j) = c2) := hide (by rw [HOT.out]; unfold atC; rw [if_pos p3]; exact hc2)
              clear hc2 HOT HM3
              have HG2 : Hid (GoodC xs c2) := hide (by rw [← HC2.out]; exact atC_good (clkN_good xs j hj) _)
              have k0 := (box_of EF.out).1 0 _ rfl
              have k1 := (box_of EF.out).1 1 _ rfl
              have k2 := (box_of EF.out).1 2 _ rfl
              go_wp2_with fail
              refine (joinKS _ c0 c2 _ _ HU.out HU2.out (by have := HG0.out.len; have := HG2.out.len; omega)).mono ?_
              rintro e xj ⟨uj, rfl, oj, b1⟩
              clear k0 k1 k2 HU HU2 hc3
              replace HO := hide ((HO.out.below b1).up b1.size)
              replace EF := hide ((b1.block _ (Array.getElem?_eq_some_iff.1 EF.out).1).trans EF.out)
              replace HB := hide (HB.out.trans (b1.mono HB.out.size))
              clear b1
              obtain ⟨uja, ujc, uje⟩ := oj.shape
              subst uje
              have HU := hide (oj.rd (Nat.le_refl _))
              clear oj
              have HG1 := hide (HG0.out.join HG2.out)
              have HNX : Hid (nextC xs (clkN xs j) j = tickX (joinK c0 c2) y.w) := hide (by unfold nextC; rw [HC0.out, HC2.out, HY.out])
              generalize joinK c0 c2 = c1 at *
              clear HG0 HG2 HC0 HC2
              have k0 := (box_of EF.out).1 0 _ rfl
              have k1 := (box_of EF.out).1 1 _ rfl
              have k2 := (box_of EF.out).1 2 _ rfl
              have HGc := hide (HG1.out.g hx)
              have hsx := HB.out.size
              go_wp2_with (first
                | (go_at_call 61; refine (tickS _ c1 _ y.w HU.out HGc.out).mono ?_; rintro e Z1 ⟨u9, rfl, o9, b9⟩; obtain ⟨u9a, u9c, u9e⟩ := o9.shape; subst u9e; have hz1 := b9.size; have HXa := hide ((Below.refl Z1.heap.size Z1).alloc (Nat.le_refl _) (.cells #[.slice u9a (tickX c1 y.w).length u9c] 44)); have hsX := HXa.out.size; have HD := hide ((o9.below HXa.out).up HXa.out.size); have HO9 := hide ((HO.out.below b9).below HXa.out); have HBz := hide ((HB.out.trans (b9.mono hsx)).trans (HXa.out.mono (by omega))); have hbx := hide (box_of (heap_alloc_new Z1 (.cells #[.slice u9a (tickX c1 y.w).length u9c] 44))).1; clear o9 b9 HXa)
                | (at_builtin; refine Out.app rfl _ _ rfl w.heap.size _ _ j (clkN xs j) (clkN_len xs j) _ us rfl HO9.out _ _ _ (tickX c1 y.w) rfl hbx.out HD.out (by omega) (Nat.le_refl _) hsx (by omega) ?_; intro g9 vc9 w9 o9 gr9 hq9; have HOE := hide o9; have HBE := hide (HBz.out.grown gr9 (by omega) (fun q hq => (hq9 q hq).1)); clear o9 gr9 hq9)
                | fail)
              refine ⟨⟨j + 1, us ++ [.slice u9a (tickX c1 y.w).length u9c], some ⟨g9, 0, none⟩, vc9, by omega, by go_num, rfl, hide ?_, HBE⟩, by simp [intOf]; omega⟩
              rw [clkN_succ, HNX.out]
              exact HOE.out
            · have HC2 : Hid (atC (clkN xs j) (othI xs j) = []) := hide (by rw [HOT.out]; unfold atC; rw [if_neg p3])
              clear HOT HM3
              have HNX : Hid (nextC xs (clkN xs j) j = tickX c0 y.w) := hide (by unfold nextC; rw [HC0.out, HC2.out, HY.out, joinK_nil])
              have HG1 := HG0
              clear HG0 HC0 HC2
              have k0 := (box_of EF.out).1 0 _ rfl
              have k1 := (box_of EF.out).1 1 _ rfl
              have k2 := (box_of EF.out).1 2 _ rfl
              have HGc := hide (HG1.out.g hx)
              have hsx := HB.out.size
              go_wp2_with (first
                | (go_at_call 61; refine (tickS _ c0 _ y.w HU.out HGc.out).mono ?_; rintro e Z1 ⟨u9, rfl, o9, b9⟩; obtain ⟨u9a, u9c, u9e⟩ := o9.shape; subst u9e; have hz1 := b9.size; have HXa := hide ((Below.refl Z1.heap.size Z1).alloc (Nat.le_refl _) (.cells #[.slice u9a (tickX c0 y.w).length u9c] 44)); have hsX := HXa.out.size; have HD := hide ((o9.below HXa.out).up HXa.out.size); have HO9 := hide ((HO.out.below b9).below HXa.out); have HBz := hide ((HB.out.trans (b9.mono hsx)).trans (HXa.out.mono (by omega))); have hbx := hide (box_of (heap_alloc_new Z1 (.cells #[.slice u9a (tickX c0 y.w).length u9c] 44))).1; clear o9 b9 HXa)
                | (at_builtin; refine Out.app rfl _ _ rfl w.heap.size _ _ j (clkN xs j) (clkN_len xs j) _ us rfl HO9.out _ _ _ (tickX c0 y.w) rfl hbx.out HD.out (by omega) (Nat.le_refl _) hsx (by omega) ?_; intro g9 vc9 w9 o9 gr9 hq9; have HOE := hide o9; have HBE := hide (HBz.out.grown gr9 (by omega) (fun q hq => (hq9 q hq).1)); clear o9 gr9 hq9)
                | fail)
              refine ⟨⟨j + 1, us ++ [.slice u9a (tickX c0 y.w).length u9c], some ⟨g9, 0, none⟩, vc9, by omega, by go_num, rfl, hide ?_, HBE⟩, by simp [intOf]; omega⟩
              rw [clkN_succ, HNX.out]
              exact HOE.out
          | false =>
            have k6e : ¬ y.k = 6 := fun e => by rw [e] at c6; simp at c6
            have HC2 : Hid (atC (clkN xs j) (othI xs j) = []) := hide (by unfold othI; rw [HY.out, if_neg k3e, if_neg k6e]; rfl)
            clear k3e k6e
            have HNX : Hid (nextC xs (clkN xs j) j = tickX c0 y.w) := hide (by unfold nextC; rw [HC0.out, HC2.out, HY.out, joinK_nil])
            have HG1 := HG0
            clear HG0 HC0 HC2
            have k0 := (box_of EF.out).1 0 _ rfl
            have k1 := (box_of EF.out).1 1 _ rfl
            have k2 := (box_of EF.out).1 2 _ rfl
            have HGc := hide (HG1.out.g hx)
            have hsx := HB.out.size
            go_wp2_with (first
              | (go_at_call 61; refine (tickS _ c0 _ y.w HU.out HGc.out).mono ?_; rintro e Z1 ⟨u9, rfl, o9, b9⟩; obtain ⟨u9a, u9c, u9e⟩ := o9.shape; subst u9e; have hz1 := b9.size; have HXa := hide ((Below.refl Z1.heap.size Z1).alloc (Nat.le_refl _) (.cells #[.slice u9a (tickX c0 y.w).length u9c] 44)); have hsX := HXa.out.size; have HD := hide ((o9.below HXa.out).up HXa.out.size); have HO9 := hide ((HO.out.below b9).below HXa.out); have HBz := hide ((HB.out.trans (b9.mono hsx)).trans (HXa.out.mono (by omega))); have hbx := hide (box_of (heap_alloc_new Z1 (.cells #[.slice u9a (tickX c0 y.w).length u9c] 44))).1; clear o9 b9 HXa)
              | (at_builtin; refine Out.app rfl _ _ rfl w.heap.size _ _ j (clkN xs j) (clkN_len xs j) _ us rfl HO9.out _ _ _ (tickX c0 y.w) rfl hbx.out HD.out (by omega) (Nat.le_refl _) hsx (by omega) ?_; intro g9 vc9 w9 o9 gr9 hq9; have HOE := hide o9; have HBE := hide (HBz.out.grown gr9 (by omega) (fun q hq => (hq9 q hq).1)); clear o9 gr9 hq9)
              | fail)
            refine ⟨⟨j + 1, us ++ [.slice u9a (tickX c0 y.w).length u9c], some ⟨g9, 0, none⟩, vc9, by omega, by go_num, rfl, hide ?_, HBE⟩, by simp [intOf]; omega⟩
            rw [clkN_succ, HNX.out]
            exact HOE.out
      · have HOW := hide (HOW.out.trans (if_neg p1))
        have k0 := (box_of EF.out).1 0 _ rfl
        have k1 := (box_of EF.out).1 1 _ rfl
        have k2 := (box_of EF.out).1 2 _ rfl
        go_wp2_with fail
        refine (lastS _ xs _ j (5) y.w (-1) (HR.out.at HB.out) hm hj).mono ?_
        rintro e x4 ⟨rfl, b1⟩
        clear k0 k1 k2
        replace HO := hide ((HO.out.below b1).up b1.size)
        replace EF := hide ((b1.block _ (Array.getElem?_eq_some_iff.1 EF.out).1).trans EF.out)
        replace HU := hide (HU.out.at b1)
        replace HB := hide (HB.out.trans (b1.mono HB.out.size))
        clear b1
        have HM2 := hide (lastI_lt (xs := xs) (k := 5) (i := y.w) (w := -1) j)
        generalize lastI xs 5 y.w (-1) j = m2 at *
        by_cases p2 : 0 ≤ m2
        · obtain ⟨mb, rfl⟩ := Int.eq_ofNat_of_zero_le p2
          have hmm : mb < j := by have := HM2.out.2; omega
          have hmI : (mb : Int) < (j : Int) := by omega
          clear HU
          obtain ⟨g3, o3, c3, e3, hc3⟩ := HO.out.cell (j := mb) (by rw [clkN_len]; omega)
          rw [clkN_len] at e3
          cases e3
          have hr3 := HO.out.reads (j := mb) (by rw [clkN_len]; omega)
          obtain ⟨u1, hu1⟩ : ∃ u, us.getD mb undef = u := ⟨_, rfl⟩
          rw [hu1] at hc3 hr3
          clear hu1
          obtain ⟨u1a, u1c, u1e, _⟩ := hr3.shape
          subst u1e
          have HU := hide hr3
          clear hr3
          obtain ⟨c0, hc0⟩ : ∃ c, (clkN xs j).getD mb [] = c := ⟨_, rfl⟩
          rw [hc0] at HU hc3
          have HC0 : Hid (atC (clkN xs j) (ownI xs j) = c0) := hide (by rw [HOW.out]; unfold atC; rw [if_pos p2]; exact hc0)
          clear hc0 HOW HM1 HM2
          have HG0 : Hid (GoodC xs c0) := hide (by rw [← HC0.out]; exact atC_good (clkN_good xs j hj) _)
          cases c3 : (y.k == 3) with
          | true =>
            have k3e : y.k = 3 := eq_of_beq c3
            have HOT : Hid (othI xs j = lastI xs 4 y.i (-1) j) := hide (by unfold othI; rw [HY.out, if_pos k3e])
            clear k3e
            have k0 := (box_of EF.out).1 0 _ rfl
            have k1 := (box_of EF.out).1 1 _ rfl
            have k2 := (box_of EF.out).1 2 _ rfl
            go_wp2_with fail
            refine (lastS _ xs _ j (4) y.i (-1) (HR.out.at HB.out) hm hj).mono ?_
            rintro e x5 ⟨rfl, b1⟩
            clear k0 k1 k2
            replace HO := hide ((HO.out.below b1).up b1.size)
            replace EF := hide ((b1.block _ (Array.getElem?_eq_some_iff.1 EF.out).1).trans EF.out)
            replace HU := hide (HU.out.at b1)
            replace HB := hide (HB.out.trans (b1.mono HB.out.size))
            clear b1
            clear hc3
            have HM3 := hide (lastI_lt (xs := xs) (k := 4) (i := y.i) (w := -1) j)
            generalize lastI xs (4) y.i (-1) j = m3 at *
            by_cases p3 : 0 ≤ m3
            · obtain ⟨mc, rfl⟩ := Int.eq_ofNat_of_zero_le p3
              have hmc : mc < j := by have := HM3.out.2; omega
              have hmcI : (mc : Int) < (j : Int) := by omega
              obtain ⟨g3, o3, c3, e3, hc3⟩ := HO.out.cell (j := mc) (by rw [clkN_len]; omega)
              rw [clkN_len] at e3
              cases e3
              have hr3 := HO.out.reads (j := mc) (by rw [clkN_len]; omega)
              obtain ⟨u2, hu2⟩ : ∃ u, us.getD mc undef = u := ⟨_, rfl⟩
              rw [hu2] at hc3 hr3
              clear hu2
              obtain ⟨u2a, u2c, u2e, _⟩ := hr3.shape
              subst u2e
              have HU2 := hide hr3
              clear hr3
              obtain ⟨c2, hc2⟩ : ∃ c, (clkN xs j).getD mc [] = c := ⟨_, rfl⟩
              rw [hc2] at HU2 hc3
              have HC2 : Hid (atC (clkN xs j) (othI xs j) = c2) := hide (by rw [HOT.out]; unfold atC; rw [if_pos p3]; exact hc2)
              clear hc2 HOT HM3
              have HG2 : Hid (GoodC xs c2) := hide (by rw [← HC2.out]; exact atC_good (clkN_good xs j hj) _)
              have k0 := (box_of EF.out).1 0 _ rfl
              have k1 := (box_of EF.out).1 1 _ rfl
              have k2 := (box_of EF.out).1 2 _ rfl
              go_wp2_with fail
              refine (joinKS _ c0 c2 _ _ HU.out HU2.out (by have := HG0.out.len; have := HG2.out.len; omega)).mono ?_
              rintro e xj ⟨uj, rfl, oj, b1⟩
              clear k0 k1 k2 HU HU2 hc3
              replace HO := hide ((HO.out.below b1).up b1.size)
              replace EF := hide ((b1.block _ (Array.getElem?_eq_some_iff.1 EF.out).1).trans EF.out)
              replace HB := hide (HB.out.trans (b1.mono HB.out.size))
              clear b1
              obtain ⟨uja, ujc, uje⟩ := oj.shape
              subst uje
              have HU := hide (oj.rd (Nat.le_refl _))
              clear oj
              have HG1 := hide (HG0.out.join HG2.out)
              have HNX : Hid (nextC xs (clkN xs j) j = tickX (joinK c0 c2) y.w) := hide (by unfold nextC; rw [HC0.out, HC2.out, HY.out])
              generalize joinK c0 c2 = c1 at *
              clear HG0 HG2 HC0 HC2
              have k0 := (box_of EF.out).1 0 _ rfl
              have k1 := (box_of EF.out).1 1 _ rfl
              have k2 := (box_of EF.out).1 2 _ rfl
              have HGc := hide (HG1.out.g hx)
              have hsx := HB.out.size
              go_wp2_with (first
                | (go_at_call 61; refine (tickS _ c1 _ y.w HU.out HGc.out).mono ?_; rintro e Z1 ⟨u9, rfl, o9, b9⟩; obtain ⟨u9a, u9c, u9e⟩ := o9.shape; subst u9e; have hz1 := b9.size; have HXa := hide ((Below.refl Z1.heap.size Z1).alloc (Nat.le_refl _) (.cells #[.slice u9a (tickX c1 y.w).length u9c] 44)); have hsX := HXa.out.size; have HD := hide ((o9.below HXa.out).up HXa.out.size); have HO9 := hide ((HO.out.below b9).below HXa.out); have HBz := hide ((HB.out.trans (b9.mono hsx)).trans (HXa.out.mono (by omega))); have hbx := hide (box_of (heap_alloc_new Z1 (.cells #[.slice u9a (tickX c1 y.w).length u9c] 44))).1; clear o9 b9 HXa)
                | (at_builtin; refine Out.app rfl _ _ rfl w.heap.size _ _ j (clkN xs j) (clkN_len xs j) _ us rfl HO9.out _ _ _ (tickX c1 y.w) rfl hbx.out HD.out (by omega) (Nat.le_refl _) hsx (by omega) ?_; intro g9 vc9 w9 o9 gr9 hq9; have HOE := hide o9; have HBE := hide (HBz.out.grown gr9 (by omega) (fun q hq => (hq9 q hq).1)); clear o9 gr9 hq9)
                | fail)
              refine ⟨⟨j + 1, us ++ [.slice u9a (tickX c1 y.w).length u9c], some ⟨g9, 0, none⟩, vc9, by omega, by go_num, rfl, hide ?_, HBE⟩, by simp [intOf]; omega⟩
              rw [clkN_succ, HNX.out]
              exact HOE.out
            · have HC2 : Hid (atC (clkN xs j) (othI xs j) = []) := hide (by rw [HOT.out]; unfold atC; rw [if_neg p3])
              clear HOT HM3
              have HNX : Hid (nextC xs (clkN xs j) j = tickX c0 y.w) := hide (by unfold nextC; rw [HC0.out, HC2.out, HY.out, joinK_nil])
              have HG1 := HG0
              clear HG0 HC0 HC2
              have k0 := (box_of EF.out).1 0 _ rfl
              have k1 := (box_of EF.out).1 1 _ rfl
              have k2 := (box_of EF.out).1 2 _ rfl
              have HGc := hide (HG1.out.g hx)
              have hsx := HB.out.size
              go_wp2_with (first
                | (go_at_call 61; refine (tickS _ c0 _ y.w HU.out HGc.out).mono ?_; rintro e Z1 ⟨u9, rfl, o9, b9⟩; obtain ⟨u9a, u9c, u9e⟩ := o9.shape; subst u9e; have hz1 := b9.size; have HXa := hide ((Below.refl Z1.heap.size Z1).alloc (Nat.le_refl _) (.cells #[.slice u9a (tickX c0 y.w).length u9c] 44)); have hsX := HXa.out.size; have HD := hide ((o9.below HXa.out).up HXa.out.size); have HO9 := hide ((HO.out.below b9).below HXa.out); have HBz := hide ((HB.out.trans (b9.mono hsx)).trans (HXa.out.mono (by omega))); have hbx := hide (box_of (heap_alloc_new Z1 (.cells #[.slice u9a (tickX c0 y.w).length u9c] 44))).1; clear o9 b9 HXa)
                | (at_builtin; refine Out.app rfl _ _ rfl w.heap.size _ _ j (clkN xs j) (clkN_len xs j) _ us rfl HO9.out _ _ _ (tickX c0 y.w) rfl hbx.out HD.out (by omega) (Nat.le_refl _) hsx (by omega) ?_; intro g9 vc9 w9 o9 gr9 hq9; have HOE := hide o9; have HBE := hide (HBz.out.grown gr9 (by omega) (fun q hq => (hq9 q hq).1)); clear o9 gr9 hq9)
                | fail)
              refine ⟨⟨j + 1, us ++ [.slice u9a (tickX c0 y.w).length u9c], some ⟨g9, 0, none⟩, vc9, by omega, by go_num, rfl, hide ?_, HBE⟩, by simp [intOf]; omega⟩
              rw [clkN_succ, HNX.out]
              exact HOE.out
          | false =>
            have k3e : ¬ y.k = 3 := fun e => by rw [e] at c3; simp at c3
            cases c6 : (y.k == 6) with
            | true =>
              have k6e : y.k = 6 := eq_of_beq c6
              have HOT : Hid (othI xs j = lastI xs (-1) 0 y.i j) := hide (by unfold othI; rw [HY.out, if_neg k3e, if_pos k6e])
              clear k3e k6e
              have k0 := (box_of EF.out).1 0 _ rfl
              have k1 := (box_of EF.out).1 1 _ rfl
              have k2 := (box_of EF.out).1 2 _ rfl
              go_wp2_with fail
              refine (lastS _ xs _ j (-1) 0 (y.i) (HR.out.at HB.out) hm hj).mono ?_
              rintro e x6 ⟨rfl, b1⟩
              clear k0 k1 k2
              replace HO := hide ((HO.out.below b1).up b1.size)
              replace EF := hide ((b1.block _ (Array.getElem?_eq_some_iff.1 EF.out).1).trans EF.out)
              replace HU := hide (HU.out.at b1)
              replace HB := hide (HB.out.trans (b1.mono HB.out.size))
              clear b1
              clear hc3
              have HM3 := hide (lastI_lt (xs := xs) (k := -1) (i := 0) (w := y.i) j)
              generalize lastI xs (-1) 0 (y.i) j = m3 at *
              by_cases p3 : 0 ≤ m3
              · obtain ⟨mc, rfl⟩ := Int.eq_ofNat_of_zero_le p3
                have hmc : mc < j := by have := HM3.out.2; omega
                have hmcI : (mc : Int) < (j : Int) := by omega
                obtain ⟨g3, o3, c3, e3, hc3⟩ := HO.out.cell (j := mc) (by rw [clkN_len]; omega)
                rw [clkN_len] at e3
                cases e3
                have hr3 := HO.out.reads (j := mc) (by rw [clkN_len]; omega)
                obtain ⟨u2, hu2⟩ : ∃ u, us.getD mc undef = u := ⟨_, rfl⟩
                rw [hu2] at hc3 hr3
                clear hu2
                obtain ⟨u2a, u2c, u2e, _⟩ := hr3.shape
                subst u2e
                have HU2 := hide hr3
                clear hr3
                obtain ⟨c2, hc2⟩ : ∃ c, (clkN xs j).getD mc [] = c := ⟨_, rfl⟩
                rw [hc2] at HU2 hc3
                have HC2 : Hid (atC (clkN xs j) (othI xs j) = c2) := hide (by rw [HOT.out]; unfold atC; rw [if_pos p3]; exact hc2)
                clear hc2 HOT HM3
                have HG2 : Hid (GoodC xs c2) := hide (by rw [← HC2.out]; exact atC_good (clkN_good xs j hj) _)
                have k0 := (box_of EF.out).1 0 _ rfl
                have k1 := (box_of EF.out).1 1 _ rfl
                have k2 := (box_of EF.out).1 2 _ rfl
                go_wp2_with fail
                refine (joinKS _ c0 c2 _ _ HU.out HU2.out (by have := HG0.out.len; have := HG2.out.len; omega)).mono ?_
                rintro e xj ⟨uj, rfl, oj, b1⟩
                clear k0 k1 k2 HU HU2 hc3
                replace HO := hide ((HO.out.below b1).up b1.size)
                replace EF := hide ((b1.block _ (Array.getElem?_eq_some_iff.1 EF.out).1).trans EF.out)
                replace HB := hide (HB.out.trans (b1.mono HB.out.size))
                clear b1
                obtain ⟨uja, ujc, uje⟩ := oj.shape
                subst uje
                have HU := hide (oj.rd (Nat.le_refl _))
                clear oj
                have HG1 := hide (HG0.out.join HG2.out)
                have HNX : Hid (nextC xs (clkN xs j) j = tickX (joinK c0 c2) y.w) := hide (by unfold nextC; rw [HC0.out, HC2.out, HY.out])
                generalize joinK c0 c2 = c1 at *
                clear HG0 HG2 HC0 HC2
                have k0 := (box_of EF.out).1 0 _ rfl
                have k1 := (box_of EF.out).1 1 _ rfl
                have k2 := (box_of EF.out).1 2 _ rfl
                have HGc := hide (HG1.out.g hx)
                have hsx := HB.out.size
                go_wp2_with (first
                  | (go_at_call 61; refine (tickS _ c1 _ y.w HU.out HGc.out).mono ?_; rintro e Z1 ⟨u9, rfl, o9, b9⟩; obtain ⟨u9a, u9c, u9e⟩ := o9.shape; subst u9e; have hz1 := b9.size; have HXa := hide ((Below.refl Z1.heap.size Z1).alloc (Nat.le_refl _) (.cells #[.slice u9a (tickX c1 y.w).length u9c] 44)); have hsX := HXa.out.size; have HD := hide ((o9.below HXa.out).up HXa.out.size); have HO9 := hide ((HO.out.below b9).below HXa.out); have HBz := hide ((HB.out.trans (b9.mono hsx)).trans (HXa.out.mono (by omega))); have hbx := hide (box_of (heap_alloc_new Z1 (.cells #[.slice u9a (tickX c1 y.w).length u9c] 44))).1; clear o9 b9 HXa)
                  | (at_builtin; refine Out.app rfl _ _ rfl w.heap.size _ _ j (clkN xs j) (clkN_len xs j) _ us rfl HO9.out _ _ _ (tickX c1 y.w) rfl hbx.out HD.out (by omega) (Nat.le_refl _) hsx (by omega) ?_; intro g9 vc9 w9 o9 gr9 hq9; have HOE := hide o9; have HBE := hide (HBz.out.grown gr9 (by omega) (fun q hq => (hq9 q hq).1)); clear o9 gr9 hq9)
                  | fail)
                refine ⟨⟨j + 1, us ++ [.slice u9a (tickX c1 y.w).length u9c], some ⟨g9, 0, none⟩, vc9, by omega, by go_num, rfl, hide ?_, HBE⟩, by simp [intOf]; omega⟩
                rw [clkN_succ, HNX.out]
                exact HOE.out
              · have HC2 : Hid (atC (clkN xs j) (othI xs j) = []) := hide (by rw [HOT.out]; unfold atC; rw [if_neg p3])
                clear HOT HM3
                have HNX : Hid (nextC xs (clkN xs j) j = tickX c0 y.w) := hide (by unfold nextC; rw [HC0.out, HC2.out, HY.out, joinK_nil])
                have HG1 := HG0
                clear HG0 HC0 HC2
                have k0 := (box_of EF.out).1 0 _ rfl
                have k1 := (box_of EF.out).1 1 _ rfl
                have k2 := (box_of EF.out).1 2 _ rfl
                have HGc := hide (HG1.out.g hx)
                have hsx := HB.out.size
                go_wp2_with (first
                  | (go_at_call 61; refine (tickS _ c0 _ y.w HU.out HGc.out).mono ?_; rintro e Z1 ⟨u9, rfl, o9, b9⟩; obtain ⟨u9a, u9c, u9e⟩ := o9.shape; subst u9e; have hz1 := b9.size; have HXa := hide ((Below.refl Z1.heap.size Z1).alloc (Nat.le_refl _) (.cells #[.slice u9a (tickX c0 y.w).length u9c] 44)); have hsX := HXa.out.size; have HD := hide ((o9.below HXa.out).up HXa.out.size); have HO9 := hide ((HO.out.below b9).below HXa.out); have HBz := hide ((HB.out.trans (b9.mono hsx)).trans (HXa.out.mono (by omega))); have hbx := hide (box_of (heap_alloc_new Z1 (.cells #[.slice u9a (tickX c0 y.w).length u9c] 44))).1; clear o9 b9 HXa)
                  | (at_builtin; refine Out.app rfl _ _ rfl w.heap.size _ _ j (clkN xs j) (clkN_len xs j) _ us rfl HO9.out _ _ _ (tickX c0 y.w) rfl hbx.out HD.out (by omega) (Nat.le_refl _) hsx (by omega) ?_; intro g9 vc9 w9 o9 gr9 hq9; have HOE := hide o9; have HBE := hide (HBz.out.grown gr9 (by omega) (fun q hq => (hq9 q hq).1)); clear o9 gr9 hq9)
                  | fail)
                refine ⟨⟨j + 1, us ++ [.slice u9a (tickX c0 y.w).length u9c], some ⟨g9, 0, none⟩, vc9, by omega, by go_num, rfl, hide ?_, HBE⟩, by simp [intOf]; omega⟩
                rw [clkN_succ, HNX.out]
                exact HOE.out
            | false =>
              have k6e : ¬ y.k = 6 := fun e => by rw [e] at c6; simp at c6
              have HC2 : Hid (atC (clkN xs j) (othI xs j) = []) := hide (by unfold othI; rw [HY.out, if_neg k3e, if_neg k6e]; rfl)
              clear k3e k6e
              have HNX : Hid (nextC xs (clkN xs j) j = tickX c0 y.w) := hide (by unfold nextC; rw [HC0.out, HC2.out, HY.out, joinK_nil])
              have HG1 := HG0
              clear HG0 HC0 HC2
              have k0 := (box_of EF.out).1 0 _ rfl
              have k1 := (box_of EF.out).1 1 _ rfl
              have k2 := (box_of EF.out).1 2 _ rfl
              have HGc := hide (HG1.out.g hx)
              have hsx := HB.out.size
              go_wp2_with (first
                | (go_at_call 61; refine (tickS _ c0 _ y.w HU.out HGc.out).mono ?_; rintro e Z1 ⟨u9, rfl, o9, b9⟩; obtain ⟨u9a, u9c, u9e⟩ := o9.shape; subst u9e; have hz1 := b9.size; have HXa := hide ((Below.refl Z1.heap.size Z1).alloc (Nat.le_refl _) (.cells #[.slice u9a (tickX c0 y.w).length u9c] 44)); have hsX := HXa.out.size; have HD := hide ((o9.below HXa.out).up HXa.out.size); have HO9 := hide ((HO.out.below b9).below HXa.out); have HBz := hide ((HB.out.trans (b9.mono hsx)).trans (HXa.out.mono (by omega))); have hbx := hide (box_of (heap_alloc_new Z1 (.cells #[.slice u9a (tickX c0 y.w).length u9c] 44))).1; clear o9 b9 HXa)
                | (at_builtin; refine Out.app rfl _ _ rfl w.heap.size _ _ j (clkN xs j) (clkN_len xs j) _ us rfl HO9.out _ _ _ (tickX c0 y.w) rfl hbx.out HD.out (by omega) (Nat.le_refl _) hsx (by omega) ?_; intro g9 vc9 w9 o9 gr9 hq9; have HOE := hide o9; have HBE := hide (HBz.out.grown gr9 (by omega) (fun q hq => (hq9 q hq).1)); clear o9 gr9 hq9)
                | fail)
              refine ⟨⟨j + 1, us ++ [.slice u9a (tickX c0 y.w).length u9c], some ⟨g9, 0, none⟩, vc9, by omega, by go_num, rfl, hide ?_, HBE⟩, by simp [intOf]; omega⟩
              rw [clkN_succ, HNX.out]
              exact HOE.out
        · obtain ⟨c0, hc0⟩ : ∃ c : List Smp, [] = c := ⟨_, rfl⟩
          rw [hc0] at HU
          have HC0 : Hid (atC (clkN xs j) (ownI xs j) = c0) := hide (by rw [HOW.out]; unfold atC; rw [if_neg p2]; exact hc0)
          clear hc0 HOW HM1 HM2
          have HG0 : Hid (GoodC xs c0) := hide (by rw [← HC0.out]; exact atC_good (clkN_good xs j hj) _)
          cases c3 : (y.k == 3) with
          | true =>
            have k3e : y.k = 3 := eq_of_beq c3
            have HOT : Hid (othI xs j = lastI xs 4 y.i (-1) j) := hide (by unfold othI; rw [HY.out, if_pos k3e])
            clear k3e
            have k0 := (box_of EF.out).1 0 _ rfl
            have k1 := (box_of EF.out).1 1 _ rfl
            have k2 := (box_of EF.out).1 2 _ rfl
            go_wp2_with fail
            refine (lastS _ xs _ j (4) y.i (-1) (HR.out.at HB.out) hm hj).mono ?_
            rintro e x7 ⟨rfl, b1⟩
            clear k0 k1 k2
            replace HO := hide ((HO.out.below b1).up b1.size)
            replace EF := hide ((b1.block _ (Array.getElem?_eq_some_iff.1 EF.out).1).trans EF.out)
            replace HU := hide (HU.out.at b1)
            replace HB := hide (HB.out.trans (b1.mono HB.out.size))
            clear b1
            have HM3 := hide (lastI_lt (xs := xs) (k := 4) (i := y.i) (w := -1) j)
            generalize lastI xs (4) y.i (-1) j = m3 at *
            by_cases p3 : 0 ≤ m3
            · obtain ⟨mc, rfl⟩ := Int.eq_ofNat_of_zero_le p3
              have hmc : mc < j := by have := HM3.out.2; omega
              have hmcI : (mc : Int) < (j : Int) := by omega
              obtain ⟨g3, o3, c3, e3, hc3⟩ := HO.out.cell (j := mc) (by rw [clkN_len]; omega)
              rw [clkN_len] at e3
              cases e3
              have hr3 := HO.out.reads (j := mc) (by rw [clkN_len]; omega)
              obtain ⟨u2, hu2⟩ : ∃ u, us.getD mc undef = u := ⟨_, rfl⟩
              rw [hu2] at hc3 hr3
              clear hu2
              obtain ⟨u2a, u2c, u2e, _⟩ := hr3.shape
              subst u2e
              have HU2 := hide hr3
              clear hr3
              obtain ⟨c2, hc2⟩ : ∃ c, (clkN xs j).getD mc [] = c := ⟨_, rfl⟩
              rw [hc2] at HU2 hc3
              have HC2 : Hid (atC (clkN xs j) (othI xs j) = c2) := hide (by rw [HOT.out]; unfold atC; rw [if_pos p3]; exact hc2)
              clear hc2 HOT HM3
              have HG2 : Hid (GoodC xs c2) := hide (by rw [← HC2.out]; exact atC_good (clkN_good xs j hj) _)
              have k0 := (box_of EF.out).1 0 _ rfl
              have k1 := (box_of EF.out).1 1 _ rfl
              have k2 := (box_of EF.out).1 2 _ rfl
              go_wp2_with fail
              refine (joinKS _ c0 c2 _ _ HU.out HU2.out (by have := HG0.out.len; have := HG2.out.len; omega)).mono ?_
              rintro e xj ⟨uj, rfl, oj, b1⟩
              clear k0 k1 k2 HU HU2 hc3
              replace HO := hide ((HO.out.below b1).up b1.size)
              replace EF := hide ((b1.block _ (Array.getElem?_eq_some_iff.1 EF.out).1).trans EF.out)
              replace HB := hide (HB.out.trans (b1.mono HB.out.size))
              clear b1
              obtain ⟨uja, ujc, uje⟩ := oj.shape
              subst uje
              have HU := hide (oj.rd (Nat.le_refl _))
              clear oj
              have HG1 := hide (HG0.out.join HG2.out)
              have HNX : Hid (nextC xs (clkN xs j) j = tickX (joinK c0 c2) y.w) := hide (by unfold nextC; rw [HC0.out, HC2.out, HY.out])
              generalize joinK c0 c2 = c1 at *
              clear HG0 HG2 HC0 HC2
              have k0 := (box_of EF.out).1 0 _ rfl
              have k1 := (box_of EF.out).1 1 _ rfl
              have k2 := (box_of EF.out).1 2 _ rfl
              have HGc := hide (HG1.out.g hx)
              have hsx := HB.out.size
              go_wp2_with (first
                | (go_at_call 61; refine (tickS _ c1 _ y.w HU.out HGc.out).mono ?_; rintro e Z1 ⟨u9, rfl, o9, b9⟩; obtain ⟨u9a, u9c, u9e⟩ := o9.shape; subst u9e; have hz1 := b9.size; have HXa := hide ((Below.refl Z1.heap.size Z1).alloc (Nat.le_refl _) (.cells #[.slice u9a (tickX c1 y.w).length u9c] 44)); have hsX := HXa.out.size; have HD := hide ((o9.below HXa.out).up HXa.out.size); have HO9 := hide ((HO.out.below b9).below HXa.out); have HBz := hide ((HB.out.trans (b9.mono hsx)).trans (HXa.out.mono (by omega))); have hbx := hide (box_of (heap_alloc_new Z1 (.cells #[.slice u9a (tickX c1 y.w).length u9c] 44))).1; clear o9 b9 HXa)
                | (at_builtin; refine Out.app rfl _ _ rfl w.heap.size _ _ j (clkN xs j) (clkN_len xs j) _ us rfl HO9.out _ _ _ (tickX c1 y.w) rfl hbx.out HD.out (by omega) (Nat.le_refl _) hsx (by omega) ?_; intro g9 vc9 w9 o9 gr9 hq9; have HOE := hide o9; have HBE := hide (HBz.out.grown gr9 (by omega) (fun q hq => (hq9 q hq).1)); clear o9 gr9 hq9)
                | fail)
              refine ⟨⟨j + 1, us ++ [.slice u9a (tickX c1 y.w).length u9c], some ⟨g9, 0, none⟩, vc9, by omega, by go_num, rfl, hide ?_, HBE⟩, by simp [intOf]; omega⟩
              rw [clkN_succ, HNX.out]
              exact HOE.out
            · have HC2 : Hid (atC (clkN xs j) (othI xs j) = []) := hide (by rw [HOT.out]; unfold atC; rw [if_neg p3])
              clear HOT HM3
              have HNX : Hid (nextC xs (clkN xs j) j = tickX c0 y.w) := hide (by unfold nextC; rw [HC0.out, HC2.out, HY.out, joinK_nil])
              have HG1 := HG0
              clear HG0 HC0 HC2
              have k0 := (box_of EF.out).1 0 _ rfl
              have k1 := (box_of EF.out).1 1 _ rfl
              have k2 := (box_of EF.out).1 2 _ rfl
              have HGc := hide (HG1.out.g hx)
              have hsx := HB.out.size
              go_wp2_with (first
                | (go_at_call 61; refine (tickS _ c0 _ y.w HU.out HGc.out).mono ?_; rintro e Z1 ⟨u9, rfl, o9, b9⟩; obtain ⟨u9a, u9c, u9e⟩ := o9.shape; subst u9e; have hz1 := b9.size; have HXa := hide ((Below.refl Z1.heap.size Z1).alloc (Nat.le_refl _) (.cells #[.slice u9a (tickX c0 y.w).length u9c] 44)); have hsX := HXa.out.size; have HD := hide ((o9.below HXa.out).up HXa.out.size); have HO9 := hide ((HO.out.below b9).below HXa.out); have HBz := hide ((HB.out.trans (b9.mono hsx)).trans (HXa.out.mono (by omega))); have hbx := hide (box_of (heap_alloc_new Z1 (.cells #[.slice u9a (tickX c0 y.w).length u9c] 44))).1; clear o9 b9 HXa)
                | (at_builtin; refine Out.app rfl _ _ rfl w.heap.size _ _ j (clkN xs j) (clkN_len xs j) _ us rfl HO9.out _ _ _ (tickX c0 y.w) rfl hbx.out HD.out (by omega) (Nat.le_refl _) hsx (by omega) ?_; intro g9 vc9 w9 o9 gr9 hq9; have HOE := hide o9; have HBE := hide (HBz.out.grown gr9 (by omega) (fun q hq => (hq9 q hq).1)); clear o9 gr9 hq9)
                | fail)
              refine ⟨⟨j + 1, us ++ [.slice u9a (tickX c0 y.w).length u9c], some ⟨g9, 0, none⟩, vc9, by omega, by go_num, rfl, hide ?_, HBE⟩, by simp [intOf]; omega⟩
              rw [clkN_succ, HNX.out]
              exact HOE.out
          | false =>
            have k3e : ¬ y.k = 3 := fun e => by rw [e] at c3; simp at c3
            cases c6 : (y.k == 6) with
            | true =>
              have k6e : y.k = 6 := eq_of_beq c6
              have HOT : Hid (othI xs j = lastI xs (-1) 0 y.i j) := hide (by unfold othI; rw [HY.out, if_neg k3e, if_pos k6e])
              clear k3e k6e
              have k0 := (box_of EF.out).1 0 _ rfl
              have k1 := (box_of EF.out).1 1 _ rfl
              have k2 := (box_of EF.out).1 2 _ rfl
              go_wp2_with fail
              refine (lastS _ xs _ j (-1) 0 (y.i) (HR.out.at HB.out) hm hj).mono ?_
              rintro e x8 ⟨rfl, b1⟩
              clear k0 k1 k2
              replace HO := hide ((HO.out.below b1).up b1.size)
              replace EF := hide ((b1.block _ (Array.getElem?_eq_some_iff.1 EF.out).1).trans EF.out)
              replace HU := hide (HU.out.at b1)
              replace HB := hide (HB.out.trans (b1.mono HB.out.size))
              clear b1
              have HM3 := hide (lastI_lt (xs := xs) (k := -1) (i := 0) (w := y.i) j)
              generalize lastI xs (-1) 0 (y.i) j = m3 at *
              by_cases p3 : 0 ≤ m3
              · obtain ⟨mc, rfl⟩ := Int.eq_ofNat_of_zero_le p3
                have hmc : mc < j := by have := HM3.out.2; omega
                have hmcI : (mc : Int) < (j : Int) := by omega
                obtain ⟨g3, o3, c3, e3, hc3⟩ := HO.out.cell (j := mc) (by rw [clkN_len]; omega)
                rw [clkN_len] at e3
                cases e3
                have hr3 := HO.out.reads (j := mc) (by rw [clkN_len]; omega)
                obtain ⟨u2, hu2⟩ : ∃ u, us.getD mc undef = u := ⟨_, rfl⟩
                rw [hu2] at hc3 hr3
                clear hu2
                obtain ⟨u2a, u2c, u2e, _⟩ := hr3.shape
                subst u2e
                have HU2 := hide hr3
                clear hr3
                obtain ⟨c2, hc2⟩ : ∃ c, (clkN xs j).getD mc [] = c := ⟨_, rfl⟩
                rw [hc2] at HU2 hc3
                have HC2 : Hid (atC (clkN xs j) (othI xs j) = c2) := hide (by rw [HOT.out]; unfold atC; rw [if_pos p3]; exact hc2)
                clear hc2 HOT HM3
                have HG2 : Hid (GoodC xs c2) := hide (by rw [← HC2.out]; exact atC_good (clkN_good xs j hj) _)
                have k0 := (box_of EF.out).1 0 _ rfl
                have k1 := (box_of EF.out).1 1 _ rfl
                have k2 := (box_of EF.out).1 2 _ rfl
                go_wp2_with fail
                refine (joinKS _ c0 c2 _ _ HU.out HU2.out (by have := HG0.out.len; have := HG2.out.len; omega)).mono ?_
                rintro e xj ⟨uj, rfl, oj, b1⟩
                clear k0 k1 k2 HU HU2 hc3
                replace HO := hide ((HO.out.below b1).up b1.size)
                replace EF := hide ((b1.block _ (Array.getElem?_eq_some_iff.1 EF.out).1).trans EF.out)
                replace HB := hide (HB.out.trans (b1.mono HB.out.size))
                clear b1
                obtain ⟨uja, ujc, uje⟩ := oj.shape
                subst uje
                have HU := hide (oj.rd (Nat.le_refl _))
                clear oj
                have HG1 := hide (HG0.out.join HG2.out)
                have HNX : Hid (nextC xs (clkN xs j) j = tickX (joinK c0 c2) y.w) := hide (by unfold nextC; rw [HC0.out, HC2.out, HY.out])
                generalize joinK c0 c2 = c1 at *
                clear HG0 HG2 HC0 HC2
                have k0 := (box_of EF.out).1 0 _ rfl
                have k1 := (box_of EF.out).1 1 _ rfl
                have k2 := (box_of EF.out).1 2 _ rfl
                have HGc := hide (HG1.out.g hx)
                have hsx := HB.out.size
                go_wp2_with (first
                  | (go_at_call 61; refine (tickS _ c1 _ y.w HU.out HGc.out).mono ?_; rintro e Z1 ⟨u9, rfl, o9, b9⟩; obtain ⟨u9a, u9c, u9e⟩ := o9.shape; subst u9e; have hz1 := b9.size; have HXa := hide ((Below.refl Z1.heap.size Z1).alloc (Nat.le_refl _) (.cells #[.slice u9a (tickX c1 y.w).length u9c] 44)); have hsX := HXa.out.size; have HD := hide ((o9.below HXa.out).up HXa.out.size); have HO9 := hide ((HO.out.below b9).below HXa.out); have HBz := hide ((HB.out.trans (b9.mono hsx)).trans (HXa.out.mono (by omega))); have hbx := hide (box_of (heap_alloc_new Z1 (.cells #[.slice u9a (tickX c1 y.w).length u9c] 44))).1; clear o9 b9 HXa)
                  | (at_builtin; refine Out.app rfl _ _ rfl w.heap.size _ _ j (clkN xs j) (clkN_len xs j) _ us rfl HO9.out _ _ _ (tickX c1 y.w) rfl hbx.out HD.out (by omega) (Nat.le_refl _) hsx (by omega) ?_; intro g9 vc9 w9 o9 gr9 hq9; have HOE := hide o9; have HBE := hide (HBz.out.grown gr9 (by omega) (fun q hq => (hq9 q hq).1)); clear o9 gr9 hq9)
                  | fail)
                refine ⟨⟨j + 1, us ++ [.slice u9a (tickX c1 y.w).length u9c], some ⟨g9, 0, none⟩, vc9, by omega, by go_num, rfl, hide ?_, HBE⟩, by simp [intOf]; omega⟩
                rw [clkN_succ, HNX.out]
                exact HOE.out
              · have HC2 : Hid (atC (clkN xs j) (othI xs j) = []) := hide (by rw [HOT.out]; unfold atC; rw [if_neg p3])
                clear HOT HM3
                have HNX : Hid (nextC xs (clkN xs j) j = tickX c0 y.w) := hide (by unfold nextC; rw [HC0.out, HC2.out, HY.out, joinK_nil])
                have HG1 := HG0
                clear HG0 HC0 HC2
                have k0 := (box_of EF.out).1 0 _ rfl
                have k1 := (box_of EF.out).1 1 _ rfl
                have k2 := (box_of EF.out).1 2 _ rfl
                have HGc := hide (HG1.out.g hx)
                have hsx := HB.out.size
                go_wp2_with (first
                  | (go_at_call 61; refine (tickS _ c0 _ y.w HU.out HGc.out).mono ?_; rintro e Z1 ⟨u9, rfl, o9, b9⟩; obtain ⟨u9a, u9c, u9e⟩ := o9.shape; subst u9e; have hz1 := b9.size; have HXa := hide ((Below.refl Z1.heap.size Z1).alloc (Nat.le_refl _) (.cells #[.slice u9a (tickX c0 y.w).length u9c] 44)); have hsX := HXa.out.size; have HD := hide ((o9.below HXa.out).up HXa.out.size); have HO9 := hide ((HO.out.below b9).below HXa.out); have HBz := hide ((HB.out.trans (b9.mono hsx)).trans (HXa.out.mono (by omega))); have hbx := hide (box_of (heap_alloc_new Z1 (.cells #[.slice u9a (tickX c0 y.w).length u9c] 44))).1; clear o9 b9 HXa)
                  | (at_builtin; refine Out.app rfl _ _ rfl w.heap.size _ _ j (clkN xs j) (clkN_len xs j) _ us rfl HO9.out _ _ _ (tickX c0 y.w) rfl hbx.out HD.out (by omega) (Nat.le_refl _) hsx (by omega) ?_; intro g9 vc9 w9 o9 gr9 hq9; have HOE := hide o9; have HBE := hide (HBz.out.grown gr9 (by omega) (fun q hq => (hq9 q hq).1)); clear o9 gr9 hq9)
                  | fail)
                refine ⟨⟨j + 1, us ++ [.slice u9a (tickX c0 y.w).length u9c], some ⟨g9, 0, none⟩, vc9, by omega, by go_num, rfl, hide ?_, HBE⟩, by simp [intOf]; omega⟩
                rw [clkN_succ, HNX.out]
                exact HOE.out
            | false =>
              have k6e : ¬ y.k = 6 := fun e => by rw [e] at c6; simp at c6
              have HC2 : Hid (atC (clkN xs j) (othI xs j) = []) := hide (by unfold othI; rw [HY.out, if_neg k3e, if_neg k6e]; rfl)
              clear k3e k6e
              have HNX : Hid (nextC xs (clkN xs j) j = tickX c0 y.w) := hide (by unfold nextC; rw [HC0.out, HC2.out, HY.out, joinK_nil])
              have HG1 := HG0
              clear HG0 HC0 HC2
              have k0 := (box_of EF.out).1 0 _ rfl
              have k1 := (box_of EF.out).1 1 _ rfl
              have k2 := (box_of EF.out).1 2 _ rfl
              have HGc := hide (HG1.out.g hx)
              have hsx := HB.out.size
              go_wp2_with (first
                | (go_at_call 61; refine (tickS _ c0 _ y.w HU.out HGc.out).mono ?_; rintro e Z1 ⟨u9, rfl, o9, b9⟩; obtain ⟨u9a, u9c, u9e⟩ := o9.shape; subst u9e; have hz1 := b9.size; have HXa := hide ((Below.refl Z1.heap.size Z1).alloc (Nat.le_refl _) (.cells #[.slice u9a (tickX c0 y.w).length u9c] 44)); have hsX := HXa.out.size; have HD := hide ((o9.below HXa.out).up HXa.out.size); have HO9 := hide ((HO.out.below b9).below HXa.out); have HBz := hide ((HB.out.trans (b9.mono hsx)).trans (HXa.out.mono (by omega))); have hbx := hide (box_of (heap_alloc_new Z1 (.cells #[.slice u9a (tickX c0 y.w).length u9c] 44))).1; clear o9 b9 HXa)
                | (at_builtin; refine Out.app rfl _ _ rfl w.heap.size _ _ j (clkN xs j) (clkN_len xs j) _ us rfl HO9.out _ _ _ (tickX c0 y.w) rfl hbx.out HD.out (by omega) (Nat.le_refl _) hsx (by omega) ?_; intro g9 vc9 w9 o9 gr9 hq9; have HOE := hide o9; have HBE := hide (HBz.out.grown gr9 (by omega) (fun q hq => (hq9 q hq).1)); clear o9 gr9 hq9)
                | fail)
              refine ⟨⟨j + 1, us ++ [.slice u9a (tickX c0 y.w).length u9c], some ⟨g9, 0, none⟩, vc9, by omega, by go_num, rfl, hide ?_, HBE⟩, by simp [intOf]; omega⟩
              rw [clkN_succ, HNX.out]
              exact HOE.out
    · obtain rfl : j = xs.length := by omega
      have hnl : ¬ (xs.length : Int) < (xs.length : Int) := by omega
      have HD := hide HO.out.done
      go_wp2
      go_ret
      exact ⟨_, rfl, HD.out, HB.out⟩
set_option maxRecDepth 100000 in
set_option maxHeartbeats 4000000 in
theorem clocksS (w : World) (xs : List Evt) (v : Value) (h : Reads w w.heap.size (evts xs) v) (hm : xs.length ≤ 1048576) :
    Calls Try.prog 14 #[v] w fun e w' => rowP w w' (rws (clocksX xs)) e := by
  have HR := hide h
  clear h
  go_enter Try.func14, Try.ntmps14
  go_wp2_with fail
  refine (eventsOkS w xs _ HR.out hm).mono ?_
  rintro e x1 ⟨rfl, b1⟩
  have HB := hide b1
  clear b1
  cases c : evB xs with
  | false =>
    have HX : Hid (clocksX xs = []) := hide (by unfold clocksX; rw [c]; rfl)
    have HD := hide (ownD_zero x1 44 1)
    have HB2 := hide ((Below.refl x1.heap.size x1).alloc (Nat.le_refl _) (.cells #[] 44))
    go_wp2
    go_ret
    refine ⟨_, rfl, ?_, HB.out.trans (HB2.out.mono HB.out.size)⟩
    rw [HX.out]
    exact HD.out.mono HB.out.size
  | true =>
    have HX : Hid (clocksX xs = clkN xs xs.length) := hide (by unfold clocksX; rw [if_pos c])
    have hx : xs.length ≤ 3000 := by
      unfold evB at c
      rw [Bool.and_eq_true] at c
      exact of_decide_eq_true c.2
    go_wp2_with fail
    refine (clkNS x1 xs _ (HR.out.at HB.out) hx).mono ?_
    rintro e x2 ⟨u, rfl, o2, b2⟩
    have HD := hide o2
    have HB2 := hide b2
    clear o2 b2
    go_wp2
    go_ret
    refine ⟨_, rfl, ?_, HB.out.trans (HB2.out.mono HB.out.size)⟩
    rw [HX.out]
    exact HD.out.mono HB.out.size
end Go.Proofs.Ytllghgcancennaa
