/-
  Joined: ClsBS, StepW, StrW.
-/
import Derived.Test.YtpgmipbanpofaaaGreatDoorJ20
import Derived.Test.YtpgmipbanpofaaaGreatDoorJ1
import Derived.Deep.RegionHeldLaw
import Derived.Deep.RegionLaw
import Derived.Deep.DrawnRows
import Derived.Laws.BytesArg
import Derived.Lib.Bytes
/-
  The bytes of a class, by the model.
-/
namespace Go.Proofs.YtpgmipbanpofaaaGreatDoor
open Go.RowKit

theorem typ_neB {w : World} {b l : Nat} {e' : TypeId} {v : Value} {zs : List Int} {vs : Array Value} (h : Own w b v zs) (hl : w.heap[l]? = some (.cells vs e' (0, 0))) (he : (5 : Nat) ≠ e') : v.ownBlock ≠ some l := by
  rcases h.2 with ⟨rfl, _⟩ | ⟨g, c, cur, rfl, _, hg, _⟩
  · intro e; cases e
  · intro e
    cases e
    rw [hg] at hl
    cases hl
    exact he rfl
set_option maxRecDepth 100000 in
set_option maxHeartbeats 16000000 in
theorem clBySpec (w : World) (x : Cl) (pv fv mv : Value) (hp : Reads w w.heap.size (pool x.p) pv) (hf : Reads w w.heap.size (flds x.f) fv) (hme : Reads w w.heap.size (mets x.m) mv) (hG : ClG x) :
    Calls Tryz.prog 16 #[clV x pv fv mv] w fun e w' => ∃ v, e = .returned v ∧ Own w' w.heap.size v (clY x) ∧ Below w.heap.size w w' := by
  obtain ⟨a1, k1, e1, _⟩ := hp.shape
  obtain ⟨a2, k2, e2, _⟩ := hf.shape
  obtain ⟨a3, k3, e3, _⟩ := hme.shape
  subst e1 e2 e3
  have HX := hide (Box.new w #[.string x.n, .string x.s, .slice a1 x.p.length k1, .slice a2 x.f.length k2, .slice a3 x.m.length k3] 27)
  have bA := (Below.refl w.heap.size w).alloc (Nat.le_refl _) (.cells #[.string x.n, .string x.s, .slice a1 x.p.length k1, .slice a2 x.f.length k2, .slice a3 x.m.length k3] 27)
  have HW := hide bA
  have HP := hide (hp.at bA)
  have HF := hide (hf.at bA)
  have HM := hide (hme.at bA)
  have hg : w.heap.size < (w.alloc (.cells #[.string x.n, .string x.s, .slice a1 x.p.length k1, .slice a2 x.f.length k2, .slice a3 x.m.length k3] 27)).heap.size := by simp
  clear hp hf hme bA
  unfold clV
  go_enter Tryz.func16, Tryz.ntmps16
  go_wp2_with fail
  generalize w.alloc (.cells #[.string x.n, .string x.s, .slice a1 x.p.length k1, .slice a2 x.f.length k2, .slice a3 x.m.length k3] 27) = W at *
  refine (clSpec _ x _ _ _ HP.out HF.out HM.out hG).mono ?_
  rintro e W0 ⟨rfl, b1⟩
  replace HX := hide (HX.out.below hg b1)
  replace hg := Nat.lt_of_lt_of_le hg b1.size
  replace HP := hide (HP.out.at b1)
  replace HF := hide (HF.out.at b1)
  replace HM := hide (HM.out.at b1)
  replace HW := hide (HW.out.trans (b1.mono HW.out.size))
  clear b1
  cases hk : clB x with
  | false =>
    have HE : Hid (clY x = []) := hide (by simp [clY, hk])
    have s1 := HW.out.size
    go_wp2
    go_ret
    exact ⟨_, rfl, by rw [HE.out]; exact own_empty _ _ s1, HW.out.alloc s1 _⟩
  | true =>
    have HE : Hid (clY x = (((((pt x.n ++ pt x.s) ++ pn (x.p.length : Int)) ++ x.p.flatMap kcY) ++ pn (x.f.length : Int)) ++ x.f.flatMap fdY) ++ pn (x.m.length : Int) ++ x.m.flatMap meY) := hide (by simp [clY, hk, clY0, rowY])
    have hS := clS_of hk hG
    clear hk
    have hm1 : x.n.size ≤ maxLen := len_max hG.n
    have hm2 : x.s.size ≤ maxLen := len_max hG.s
    have hq1 := hS.p
    have hq2 := hS.f
    have hq3 := hS.m
    have hp2 := pt_pos x.s hS.s
    have hl0 := pt_len x.n
    have hl1 := pt_len x.s
    have HZ := hide hS
    have HQ1 : Hid (∀ wr, Below W0.heap.size W0 wr → _) := hide (fun wr hb => const_at (HP.out.at hb))
    have HQ2 : Hid (∀ wr, Below W0.heap.size W0 wr → _) := hide (fun wr hb => field_at (HF.out.at hb))
    have HQ3 := hide HM.out
    clear hS HP HF HM
    go_wp2_with fail
    have HS : Hid (∀ w', Below W0.heap.size W0 w' → w'.cell? ⟨w.heap.size, 0, none⟩ = some (.string x.n) ∧ w'.cell? ⟨w.heap.size, 1, none⟩ = some (.string x.s)) := hide (fun w' hw => ⟨(hw.cell (p := ⟨w.heap.size, 0, none⟩) hg).trans (HX.out 0 _ rfl), (hw.cell (p := ⟨w.heap.size, 1, none⟩) hg).trans (HX.out 1 _ rfl)⟩)
    have HD0 : Hid (Below W0.heap.size W0 W0.drew) := hide (Below.refl W0.heap.size W0).drew
    go_region_held_law (fun w' => w'.cell? ⟨w.heap.size, 0, none⟩ = some (.string x.n) ∧ w'.cell? ⟨w.heap.size, 1, none⟩ = some (.string x.s))
      (first | exact HS.out _ HD3.out | exact HS.out _ HD2.out | exact HS.out _ HD1.out | exact HS.out _ HD0.out)
      (first
        | (refine step_callB (some 15) rfl rfl 34 _ _ rfl #[.string x.n] (by kernel_rfl) (putTextSpec x.n _ hm1) ?_; rintro e x1 ⟨v1, rfl, o1, b1⟩; refine ⟨_, rfl, ?_⟩; have HD1 : Hid (Below W0.heap.size W0 x1) := hide (HD0.out.trans (b1.mono HD0.out.size)); have HO1 : Hid (Own x1 W0.heap.size v1 (pt x.n)) := hide o1; clear b1 o1)
        | (refine step_callB (some 18) rfl rfl 34 _ _ rfl #[.string x.s] (by kernel_rfl) (putTextSpec x.s _ hm2) ?_; rintro e x2 ⟨v2, rfl, o2, b2⟩; refine ⟨_, rfl, ?_⟩; have HD2 : Hid (Below W0.heap.size W0 x2) := hide (HD1.out.trans (b2.mono HD1.out.size)); have HO2 := hide (HO1.out.below b2); have HU2 := hide o2; clear b2 o2)
        | (refine step_appB (some 19) rfl rfl _ _ rfl W0.heap.size _ v1 v2 (pt x.n) (pt x.s) (by rfl) (by rfl) HO2.out HU2.out (ptByt _) hp2 (by omega) (by omega) HD2.out.size ?_; intro v3 x3 o3 g3; have HD3 : Hid (Below W0.heap.size W0 x3) := hide (HD2.out.grown g3 HD2.out.size (fun q hq => (HO2.out.lt q hq).1)); have HO3 := hide o3; clear o3 g3)
        | fail)
    clear HS HD0 HD1 HD2 HO1 HO2 HU2
    have HD := HD3
    have HO := HO3
    clear HD3 HO3
    obtain ⟨P0, hP0⟩ : ∃ P, pt x.n ++ pt x.s = P := ⟨_, rfl⟩
    rw [hP0] at HO HE
    have hPl : P0.length ≤ 408 := by rw [← hP0, List.length_append]; omega
    clear hP0
    have f2 := (HX.out.below hg HD.out) 2 _ rfl
    go_wp2_with fail
    clear f2
    have hc1 := pn_len (x.p.length : Int)
    refine (putNumSpec _ _).mono ?_
    rintro e w4 ⟨v4, rfl, o4, b4⟩
    have HU := hide o4
    replace HD := hide (HD.out.trans (b4.mono HD.out.size))
    replace HO := hide (HO.out.below b4)
    have s9 := HD.out.size
    clear o4 b4
    go_wp2_with (at_builtin; refine app_own rfl _ _ rfl W0.heap.size _ _ _ (P0) (pn (x.p.length : Int)) rfl HO.out rfl HU.out (pn_byt _) (by omega) (by first | omega | (simp only [List.length_append]; omega)) s9 ?_; intro v5 w5 o5 g5 n5; have HD5 := hide (HD.out.grown g5 s9 (fun q hq => (HO.out.lt q hq).1)); have HO5 := hide o5; clear o5 g5 n5; have f2 := (HX.out.below hg HD5.out) 2 _ rfl)
    replace HD := HD5
    replace HO := HO5
    clear HD5 HO5 HU s9 f2
    obtain ⟨P1, hP1⟩ : ∃ P, P0 ++ pn (x.p.length : Int) = P := ⟨_, rfl⟩
    rw [hP1] at HO HE
    replace hPl : P1.length ≤ 412 := by rw [← hP1, List.length_append]; omega
    clear hP1
    have HL : Hid (∀ j, j ≤ x.p.length → ((x.p.take j).flatMap kcY).length ≤ j * 412) := hide (fun j hj => flat_take_le (fun y _ => kcY_len y) j hj)
    have HT : Hid (∀ j, j < x.p.length → (x.p.take (j + 1)).flatMap kcY = (x.p.take j).flatMap kcY ++ kcY (x.p.getD j default)) := hide (fun j hj => flat_step _ x.p j hj)
    have HGP := hide (fun j hj => getD_mem hG.ps j hj)
    go_loopw [3, 4] (fun out i wr => ∃ j : Nat, j ≤ x.p.length ∧ i = .int .i64 (j : Int) ∧ Hid (Own wr W0.heap.size out (P1 ++ (x.p.take j).flatMap kcY)) ∧ Hid (Below W0.heap.size W0 wr)) (fun _ i _ => x.p.length - (intOf i).toNat)
    case atStart => exact ⟨0, Nat.zero_le _, rfl, hide (by simpa using HO.out), HD⟩
    case round =>
      clear HO HD
      obtain ⟨j, hj, rfl, HO, HD⟩ := hrel
      have f2 := (HX.out.below hg HD.out) 2 _ rfl
      by_cases hlt : j < x.p.length
      · obtain ⟨a', cap', ea, _, _, hc⟩ := HQ1.out wr HD.out
        cases ea
        obtain ⟨b, o, rfl, _, hcell⟩ := hc (by omega)
        obtain ⟨e0, e1, e2, e3⟩ := hcell j hlt
        have hgx := hide (HGP.out j hlt)
        have hlj := HL.out j hj
        have HTj := hide (HT.out j hlt)
        clear hcell hc
        obtain ⟨y, hy⟩ : ∃ y, x.p.getD j default = y := ⟨_, rfl⟩
        rw [hy] at e0 e1 e2 e3 hgx HTj
        clear hy
        have hgl := kcY_len y
        go_wp2_with fail
        clear f2 e0 e1 e2 e3
        refine (constBytesSpec y.k y.n y.a y.b _ (len_max hgx.out.1) (len_max hgx.out.2)).mono ?_
        rintro e w4 ⟨v4, rfl, o4, b4⟩
        have HU := hide o4
        replace HD := hide (HD.out.trans (b4.mono HD.out.size))
        replace HO := hide (HO.out.below b4)
        have s9 := HD.out.size
        clear o4 b4
        go_wp2_with (at_builtin; refine app_own rfl _ _ rfl W0.heap.size _ _ _ (P1 ++ (x.p.take j).flatMap kcY) (kcY y) rfl HO.out rfl HU.out (kcY_byt _) (by omega) (by first | omega | (simp only [List.length_append]; omega)) s9 ?_; intro v5 w5 o5 g5 n5; have HD5 := hide (HD.out.grown g5 s9 (fun q hq => (HO.out.lt q hq).1)); have HO5 := hide o5; clear o5 g5 n5)
        exact ⟨⟨j + 1, by omega, by go_num, hide (by rw [HTj.out, ← List.append_assoc]; exact HO5.out), HD5⟩, by simp [intOf]; omega⟩
      · obtain rfl : j = x.p.length := by omega
        rw [List.take_length] at HO
        have hlj := HL.out _ (Nat.le_refl _)
        rw [List.take_length] at hlj
        clear HL HT HGP HQ1 hlt hj
        obtain ⟨P2, hP2⟩ : ∃ P, P1 ++ x.p.flatMap kcY = P := ⟨_, rfl⟩
        rw [hP2] at HO HE
        replace hPl : P2.length ≤ 12000 := by rw [← hP2, List.length_append]; omega
        clear hP2 hlj
        have f3 := (HX.out.below hg HD.out) 3 _ rfl
        have hc2 := pn_len (x.f.length : Int)
        go_wp2_with fail
        clear f3
        refine (putNumSpec _ _).mono ?_
        rintro e w4 ⟨v4, rfl, o4, b4⟩
        have HU := hide o4
        replace HD := hide (HD.out.trans (b4.mono HD.out.size))
        replace HO := hide (HO.out.below b4)
        have s9 := HD.out.size
        clear o4 b4
        go_wp2_with (at_builtin; refine app_own rfl _ _ rfl W0.heap.size _ _ _ (P2) (pn (x.f.length : Int)) rfl HO.out rfl HU.out (pn_byt _) (by omega) (by first | omega | (simp only [List.length_append]; omega)) s9 ?_; intro v5 w5 o5 g5 n5; have HD5 := hide (HD.out.grown g5 s9 (fun q hq => (HO.out.lt q hq).1)); have HO5 := hide o5; clear o5 g5 n5; have f3 := (HX.out.below hg HD5.out) 3 _ rfl)
        replace HD := HD5
        replace HO := HO5
        clear HD5 HO5 HU s9 f3
        obtain ⟨P3, hP3⟩ : ∃ P, P2 ++ pn (x.f.length : Int) = P := ⟨_, rfl⟩
        rw [hP3] at HO HE
        replace hPl : P3.length ≤ 12004 := by rw [← hP3, List.length_append]; omega
        clear hP3
        have HL : Hid (∀ j, j ≤ x.f.length → ((x.f.take j).flatMap fdY).length ≤ j * 408) := hide (fun j hj => flat_take_le (fun y _ => fdY_len y) j hj)
        have HT : Hid (∀ j, j < x.f.length → (x.f.take (j + 1)).flatMap fdY = (x.f.take j).flatMap fdY ++ fdY (x.f.getD j default)) := hide (fun j hj => flat_step _ x.f j hj)
        have HGP := hide (fun j hj => getD_mem HZ.out.fs j hj)
        go_loopw [3, 5] (fun out i wr => ∃ j : Nat, j ≤ x.f.length ∧ i = .int .i64 (j : Int) ∧ Hid (Own wr W0.heap.size out (P3 ++ (x.f.take j).flatMap fdY)) ∧ Hid (Below W0.heap.size W0 wr)) (fun _ i _ => x.f.length - (intOf i).toNat)
        case atStart => exact ⟨0, Nat.zero_le _, rfl, hide (by simpa using HO.out), HD⟩
        case round =>
          clear HO HD
          obtain ⟨j, hj, rfl, HO, HD⟩ := hrel
          have f3 := (HX.out.below hg HD.out) 3 _ rfl
          by_cases hlt : j < x.f.length
          · obtain ⟨a', cap', ea, _, _, hc⟩ := HQ2.out wr HD.out
            cases ea
            obtain ⟨b, o, rfl, _, hcell⟩ := hc (by omega)
            obtain ⟨e0, e1⟩ := hcell j hlt
            have hgx := hide (HGP.out j hlt)
            have hlj := HL.out j hj
            have HTj := hide (HT.out j hlt)
            clear hcell hc
            obtain ⟨y, hy⟩ : ∃ y, x.f.getD j default = y := ⟨_, rfl⟩
            rw [hy] at e0 e1 hgx HTj
            have HY9 := hide hy
            clear hy
            have hgl := pt_len y.n
            have hgl2 := pt_len y.t
            go_wp2_with fail
            clear f3 e0 e1
            refine (putTextSpec _ _ (len_max (by have := hgx.out.1; omega))).mono ?_
            rintro e w4 ⟨v4, rfl, o4, b4⟩
            have HU := hide o4
            replace HD := hide (HD.out.trans (b4.mono HD.out.size))
            replace HO := hide (HO.out.below b4)
            have s9 := HD.out.size
            clear o4 b4
            go_wp2_with (at_builtin; refine app_own rfl _ _ rfl W0.heap.size _ _ _ (P3 ++ (x.f.take j).flatMap fdY) (pt y.n) rfl HO.out rfl HU.out (ptByt _) (by omega) (by first | omega | (simp only [List.length_append]; omega)) s9 ?_; intro v5 w5 o5 g5 n5; have HD5 := hide (HD.out.grown g5 s9 (fun q hq => (HO.out.lt q hq).1)); have HO5 := hide o5; clear o5 g5 n5; have f3 := (HX.out.below hg HD5.out) 3 _ rfl; obtain ⟨a', cap', ea, _, _, hc⟩ := HQ2.out w5 HD5.out; cases ea; obtain ⟨b', o', eo, _, hcell⟩ := hc (by omega); cases eo; obtain ⟨e0, e1⟩ := hcell j hlt; clear hcell hc; rw [HY9.out] at e0 e1)
            replace HD := HD5
            replace HO := HO5
            clear HD5 HO5 HU s9 f3 e0 e1
            refine (putTextSpec _ _ (len_max (by have := hgx.out.2; omega))).mono ?_
            rintro e w4 ⟨v4, rfl, o4, b4⟩
            have HU := hide o4
            replace HD := hide (HD.out.trans (b4.mono HD.out.size))
            replace HO := hide (HO.out.below b4)
            have s9 := HD.out.size
            clear o4 b4
            go_wp2_with (at_builtin; refine app_own rfl _ _ rfl W0.heap.size _ _ _ (P3 ++ (x.f.take j).flatMap fdY ++ pt y.n) (pt y.t) rfl HO.out rfl HU.out (ptByt _) (by omega) (by first | omega | (simp only [List.length_append]; omega)) s9 ?_; intro v5 w5 o5 g5 n5; have HD5 := hide (HD.out.grown g5 s9 (fun q hq => (HO.out.lt q hq).1)); have HO5 := hide o5; clear o5 g5 n5)
            exact ⟨⟨j + 1, by omega, by go_num, hide (by rw [HTj.out, ← List.append_assoc]; unfold fdY; rw [← List.append_assoc]; exact HO5.out), HD5⟩, by simp [intOf]; omega⟩
          · obtain rfl : j = x.f.length := by omega
            rw [List.take_length] at HO
            have hlj := HL.out _ (Nat.le_refl _)
            rw [List.take_length] at hlj
            clear HL HT HGP HQ2 hlt hj
            obtain ⟨P4, hP4⟩ : ∃ P, P3 ++ x.f.flatMap fdY = P := ⟨_, rfl⟩
            rw [hP4] at HO HE
            replace hPl : P4.length ≤ 16000 := by rw [← hP4, List.length_append]; omega
            clear hP4 hlj
            have f4 := (HX.out.below hg HD.out) 4 _ rfl
            have hc2 := pn_len (x.m.length : Int)
            go_wp2_with fail
            clear f4
            refine (putNumSpec _ _).mono ?_
            rintro e w4 ⟨v4, rfl, o4, b4⟩
            have HU := hide o4
            replace HD := hide (HD.out.trans (b4.mono HD.out.size))
            replace HO := hide (HO.out.below b4)
            have s9 := HD.out.size
            clear o4 b4
            go_wp2_with (at_builtin; refine app_own rfl _ _ rfl W0.heap.size _ _ _ (P4) (pn (x.m.length : Int)) rfl HO.out rfl HU.out (pn_byt _) (by omega) (by first | omega | (simp only [List.length_append]; omega)) s9 ?_; intro v5 w5 o5 g5 n5; have HD5 := hide (HD.out.grown g5 s9 (fun q hq => (HO.out.lt q hq).1)); have HO5 := hide o5; clear o5 g5 n5; have f4 := (HX.out.below hg HD5.out) 4 _ rfl)
            replace HD := HD5
            replace HO := HO5
            clear HD5 HO5 HU s9 f4
            obtain ⟨P5, hP5⟩ : ∃ P, P4 ++ pn (x.m.length : Int) = P := ⟨_, rfl⟩
            rw [hP5] at HO HE
            replace hPl : P5.length ≤ 16004 := by rw [← hP5, List.length_append]; omega
            clear hP5
            have HL : Hid (∀ j, j ≤ x.m.length → ((x.m.take j).flatMap meY).length ≤ j * 2000) := hide (fun j hj => flat_take_le (fun y hy => meY_len y (HZ.out.ms y hy)) j hj)
            have HT : Hid (∀ j, j < x.m.length → (x.m.take (j + 1)).flatMap meY = (x.m.take j).flatMap meY ++ meY (x.m.getD j default)) := hide (fun j hj => flat_step _ x.m j hj)
            have HGP := hide (fun j hj => getD_mem HZ.out.ms j hj)
            have HQ4 : Hid (∀ wr, Below W0.heap.size W0 wr → _) := hide (fun wr hb => meth_at (HQ3.out.low hb (Nat.le_refl _)))
            go_loopw [3, 6] (fun out i wr => ∃ j : Nat, j ≤ x.m.length ∧ i = .int .i64 (j : Int) ∧ Hid (Own wr W0.heap.size out (P5 ++ (x.m.take j).flatMap meY)) ∧ Hid (Below W0.heap.size W0 wr)) (fun _ i _ => x.m.length - (intOf i).toNat)
            case atStart => exact ⟨0, Nat.zero_le _, rfl, hide (by simpa using HO.out), HD⟩
            case round =>
              clear HO HD
              obtain ⟨j, hj, rfl, HO, HD⟩ := hrel
              have f4 := (HX.out.below hg HD.out) 4 _ rfl
              by_cases hlt : j < x.m.length
              · obtain ⟨a', cap', ea, _, _, hc⟩ := HQ4.out wr HD.out
                cases ea
                obtain ⟨b, o, rfl, _, hcell⟩ := hc (by omega)
                obtain ⟨pv, cv, e0, e1, e2, e3, e4, r1, r2⟩ := hcell j hlt
                have hgx := hide (HGP.out j hlt)
                have hlj := HL.out j hj
                have HTj := hide (HT.out j hlt)
                clear hcell hc
                obtain ⟨y, hy⟩ : ∃ y, x.m.getD j default = y := ⟨_, rfl⟩
                rw [hy] at e0 e2 e3 r1 r2 hgx HTj
                clear hy
                obtain ⟨aa, cc, ea, _⟩ := r1.shape
                obtain ⟨ab, cd, eb, _, hcd⟩ := r2.shape
                subst ea eb
                have G7 := hide (heap_alloc_new wr (.cells #[.string y.n, .slice aa y.ps.length cc, .string y.r, .int .i64 y.l, .slice ab y.c.length cd] 48))
                have b3 := (Below.refl wr.heap.size wr).alloc (Nat.le_refl _) (.cells #[.string y.n, .slice aa y.ps.length cc, .string y.r, .int .i64 y.l, .slice ab y.c.length cd] 48)
                have RW1 := hide (r1.kept (fun k hk => (HD.out.block k hk).symm))
                have RW2 := hide (r2.kept (fun k hk => (HD.out.block k hk).symm))
                replace HO := hide (HO.out.below b3)
                replace HD := hide (HD.out.trans (b3.mono HD.out.size))
                have E7 := G7
                clear r1 r2 b3 G7
                have hy1 := pt_len y.n
                have hy2 := pt_len y.r
                have hy3 := pn_len y.l
                have hy4 := pn_len (y.c.length : Int)
                have hy5 := pn_len (y.ps.length : Int)
                have hyp := hgx.out.2.2.1
                have hyc := hgx.out.2.2.2.2.1
                go_wp2_with fail
                clear f4 e0 e1 e2 e3 e4
                generalize wr.alloc (.cells #[.string y.n, .slice aa y.ps.length cc, .string y.r, .int .i64 y.l, .slice ab y.c.length cd] 48) = W7 at *
                generalize wr.heap.size = g7 at *
                obtain ⟨Q, hQ⟩ : ∃ Q, P5 ++ (x.m.take j).flatMap meY = Q := ⟨_, rfl⟩
                rw [hQ] at HO
                have hQl : Q.length ≤ 30000 := by rw [← hQ, List.length_append]; omega
                have HQ9 := hide hQ
                clear hQ hlj
                refine (putTextSpec _ _ (len_max (by have := hgx.out.1; omega))).mono ?_
                rintro e w4 ⟨v4, rfl, o4, b4⟩
                have HU := hide o4
                replace HD := hide (HD.out.trans (b4.mono HD.out.size))
                replace HO := hide (HO.out.below b4)
                have s9 := HD.out.size
                replace E7 := hide ((b4.block _ (Array.getElem?_eq_some_iff.1 E7.out).1).trans E7.out)
                clear o4 b4
                go_wp2_with (at_builtin; refine app_own rfl _ _ rfl W0.heap.size _ _ _ (Q) (pt y.n) rfl HO.out rfl HU.out (ptByt _) (by omega) (by first | omega | (simp only [List.length_append]; omega)) s9 ?_; intro v5 w5 o5 g5 n5; have HD5 := hide (HD.out.grown g5 s9 (fun q hq => (HO.out.lt q hq).1)); have HO5 := hide o5; have E75 := hide ((g5.block _ (Array.getElem?_eq_some_iff.1 E7.out).1 (fun e => typ_neB HO.out E7.out (by decide) e.symm)).trans E7.out); clear o5 g5 n5; have m1 := (box_of E75.out).1 1 _ rfl)
                replace HD := HD5
                replace HO := HO5
                clear HD5 HO5 HU s9 m1
                replace E7 := E75
                clear E75
                refine (putNumSpec _ _).mono ?_
                rintro e w4 ⟨v4, rfl, o4, b4⟩
                have HU := hide o4
                replace HD := hide (HD.out.trans (b4.mono HD.out.size))
                replace HO := hide (HO.out.below b4)
                have s9 := HD.out.size
                replace E7 := hide ((b4.block _ (Array.getElem?_eq_some_iff.1 E7.out).1).trans E7.out)
                clear o4 b4
                go_wp2_with (at_builtin; refine app_own rfl _ _ rfl W0.heap.size _ _ _ (Q ++ pt y.n) (pn (y.ps.length : Int)) rfl HO.out rfl HU.out (pn_byt _) (by omega) (by first | omega | (simp only [List.length_append]; omega)) s9 ?_; intro v5 w5 o5 g5 n5; have HD5 := hide (HD.out.grown g5 s9 (fun q hq => (HO.out.lt q hq).1)); have HO5 := hide o5; have E75 := hide ((g5.block _ (Array.getElem?_eq_some_iff.1 E7.out).1 (fun e => typ_neB HO.out E7.out (by decide) e.symm)).trans E7.out); clear o5 g5 n5; have m1 := (box_of E75.out).1 1 _ rfl)
                replace HD := HD5
                replace HO := HO5
                clear HD5 HO5 HU s9 m1
                replace E7 := E75
                clear E75
                obtain ⟨Q1, hQ1⟩ : ∃ P, Q ++ pt y.n ++ pn (y.ps.length : Int) = P := ⟨_, rfl⟩
                rw [hQ1] at HO
                have hQl1 : Q1.length ≤ 30208 := by rw [← hQ1, List.length_append, List.length_append]; omega
                have HQ8 := hide hQ1
                clear hQ1
                have HLk : Hid (∀ k, k ≤ y.ps.length → ((y.ps.take k).flatMap pt).length ≤ k * 204) := hide (fun k hk => flat_take_le (fun s _ => pt_len s) k hk)
                have HTk : Hid (∀ k, k < y.ps.length → (y.ps.take (k + 1)).flatMap pt = (y.ps.take k).flatMap pt ++ pt (y.ps.getD k default)) := hide (fun k hk => flat_step _ y.ps k hk)
                have HGk := hide (fun k hk => getD_mem hgx.out.2.2.2.1 k hk)
                go_loopw [3, 8] (fun out i wr => ∃ k : Nat, k ≤ y.ps.length ∧ i = .int .i64 (k : Int) ∧ Hid (Own wr W0.heap.size out (Q1 ++ (y.ps.take k).flatMap pt)) ∧ Hid (Below W0.heap.size W0 wr) ∧ Hid (wr.heap[g7]? = some (.cells #[.string y.n, .slice aa y.ps.length cc, .string y.r, .int .i64 y.l, .slice ab y.c.length cd] 48 (0, 0)))) (fun _ i _ => y.ps.length - (intOf i).toNat)
                case atStart => exact ⟨0, Nat.zero_le _, rfl, hide (by simpa using HO.out), HD, E7⟩
                case round =>
                  clear HO HD E7
                  obtain ⟨k, hk, rfl, HO, HD, E7⟩ := hrel
                  have m1 := (box_of E7.out).1 1 _ rfl
                  by_cases hlk : k < y.ps.length
                  · obtain ⟨a', cap', ea, _, _, hc⟩ := str_at (RW1.out.at HD.out)
                    cases ea
                    obtain ⟨b', o', rfl, _, hcell⟩ := hc (by omega)
                    have e0 := hcell k hlk
                    have hgk := hide (HGk.out k hlk)
                    have hlk2 := HLk.out k hk
                    have HTj2 := hide (HTk.out k hlk)
                    clear hcell hc
                    obtain ⟨s, hs⟩ : ∃ s, y.ps.getD k default = s := ⟨_, rfl⟩
                    rw [hs] at e0 hgk HTj2
                    clear hs
                    have hgl := pt_len s
                    go_wp2_with fail
                    clear m1 e0
                    refine (putTextSpec _ _ (len_max (by have := hgk.out; omega))).mono ?_
                    rintro e w4 ⟨v4, rfl, o4, b4⟩
                    have HU := hide o4
                    replace HD := hide (HD.out.trans (b4.mono HD.out.size))
                    replace HO := hide (HO.out.below b4)
                    have s9 := HD.out.size
                    replace E7 := hide ((b4.block _ (Array.getElem?_eq_some_iff.1 E7.out).1).trans E7.out)
                    clear o4 b4
                    go_wp2_with (at_builtin; refine app_own rfl _ _ rfl W0.heap.size _ _ _ (Q1 ++ (y.ps.take k).flatMap pt) (pt s) rfl HO.out rfl HU.out (ptByt _) (by omega) (by first | omega | (simp only [List.length_append]; omega)) s9 ?_; intro v5 w5 o5 g5 n5; have HD5 := hide (HD.out.grown g5 s9 (fun q hq => (HO.out.lt q hq).1)); have HO5 := hide o5; have E75 := hide ((g5.block _ (Array.getElem?_eq_some_iff.1 E7.out).1 (fun e => typ_neB HO.out E7.out (by decide) e.symm)).trans E7.out); clear o5 g5 n5)
                    exact ⟨⟨k + 1, by omega, by go_num, hide (by rw [HTj2.out, ← List.append_assoc]; exact HO5.out), HD5, E75⟩, by simp [intOf]; omega⟩
                  · obtain rfl : k = y.ps.length := by omega
                    rw [List.take_length] at HO
                    have hlk2 := HLk.out _ (Nat.le_refl _)
                    rw [List.take_length] at hlk2
                    clear HLk HTk HGk hlk hk RW1
                    obtain ⟨Q2, hQ2⟩ : ∃ P, Q1 ++ y.ps.flatMap pt = P := ⟨_, rfl⟩
                    rw [hQ2] at HO
                    have hQl2 : Q2.length ≤ 31000 := by rw [← hQ2, List.length_append]; omega
                    have HQ7 := hide hQ2
                    clear hQ2 hlk2
                    have m2 := (box_of E7.out).1 2 _ rfl
                    go_wp2_with fail
                    clear m1 m2
                    refine (putTextSpec _ _ (len_max (by have := hgx.out.2.1; omega))).mono ?_
                    rintro e w4 ⟨v4, rfl, o4, b4⟩
                    have HU := hide o4
                    replace HD := hide (HD.out.trans (b4.mono HD.out.size))
                    replace HO := hide (HO.out.below b4)
                    have s9 := HD.out.size
                    replace E7 := hide ((b4.block _ (Array.getElem?_eq_some_iff.1 E7.out).1).trans E7.out)
                    clear o4 b4
                    go_wp2_with (at_builtin; refine app_own rfl _ _ rfl W0.heap.size _ _ _ (Q2) (pt y.r) rfl HO.out rfl HU.out (ptByt _) (by omega) (by first | omega | (simp only [List.length_append]; omega)) s9 ?_; intro v5 w5 o5 g5 n5; have HD5 := hide (HD.out.grown g5 s9 (fun q hq => (HO.out.lt q hq).1)); have HO5 := hide o5; have E75 := hide ((g5.block _ (Array.getElem?_eq_some_iff.1 E7.out).1 (fun e => typ_neB HO.out E7.out (by decide) e.symm)).trans E7.out); clear o5 g5 n5; have m3 := (box_of E75.out).1 3 _ rfl)
                    replace HD := HD5
                    replace HO := HO5
                    clear HD5 HO5 HU s9 m3
                    replace E7 := E75
                    clear E75
                    refine (putNumSpec _ _).mono ?_
                    rintro e w4 ⟨v4, rfl, o4, b4⟩
                    have HU := hide o4
                    replace HD := hide (HD.out.trans (b4.mono HD.out.size))
                    replace HO := hide (HO.out.below b4)
                    have s9 := HD.out.size
                    replace E7 := hide ((b4.block _ (Array.getElem?_eq_some_iff.1 E7.out).1).trans E7.out)
                    clear o4 b4
                    go_wp2_with (at_builtin; refine app_own rfl _ _ rfl W0.heap.size _ _ _ (Q2 ++ pt y.r) (pn y.l) rfl HO.out rfl HU.out (pn_byt _) (by omega) (by first | omega | (simp only [List.length_append]; omega)) s9 ?_; intro v5 w5 o5 g5 n5; have HD5 := hide (HD.out.grown g5 s9 (fun q hq => (HO.out.lt q hq).1)); have HO5 := hide o5; have E75 := hide ((g5.block _ (Array.getElem?_eq_some_iff.1 E7.out).1 (fun e => typ_neB HO.out E7.out (by decide) e.symm)).trans E7.out); clear o5 g5 n5; have m4 := (box_of E75.out).1 4 _ rfl)
                    replace HD := HD5
                    replace HO := HO5
                    clear HD5 HO5 HU s9 m4
                    replace E7 := E75
                    clear E75
                    refine (putNumSpec _ _).mono ?_
                    rintro e w4 ⟨v4, rfl, o4, b4⟩
                    have HU := hide o4
                    replace HD := hide (HD.out.trans (b4.mono HD.out.size))
                    replace HO := hide (HO.out.below b4)
                    have s9 := HD.out.size
                    replace E7 := hide ((b4.block _ (Array.getElem?_eq_some_iff.1 E7.out).1).trans E7.out)
                    clear o4 b4
                    obtain ⟨ai, ci, ei, _, hci, hin⟩ := byts_in (RW2.out.at HD.out) (by omega) hgx.out.2.2.2.2.2
                    cases ei
                    clear hin
                    have HIN : Hid (∀ W9, Below W0.heap.size W0 W9 → In W9 W9.heap.size ab y.c.length y.c) := hide (fun W9 h9 => by
                      obtain ⟨a', c', e', _, _, h'⟩ := byts_in (RW2.out.at h9) (by omega) hgx.out.2.2.2.2.2
                      cases e'
                      exact h')
                    go_wp2_with (first
                      | (at_builtin; refine app_own rfl _ _ rfl W0.heap.size _ _ _ (Q2 ++ pt y.r ++ pn y.l) (pn (y.c.length : Int)) rfl HO.out rfl HU.out (pn_byt _) (by omega) (by first | omega | (simp only [List.length_append]; omega)) s9 ?_; intro v5 w5 o5 g5 n5; have HD5 := hide (HD.out.grown g5 s9 (fun q hq => (HO.out.lt q hq).1)); have HO5 := hide o5; have E75 := hide ((g5.block _ (Array.getElem?_eq_some_iff.1 E7.out).1 (fun e => typ_neB HO.out E7.out (by decide) e.symm)).trans E7.out); have m4 := (box_of E75.out).1 4 _ rfl; have s5 := HD5.out.size; clear o5 g5 n5)
                      | (at_builtin; refine app_in rfl _ _ rfl W0.heap.size _ _ (Q2 ++ pt y.r ++ pn y.l ++ pn (y.c.length : Int)) rfl HO5.out ab y.c.length cd y.c rfl hci (HIN.out _ HD5.out) (by first | omega | (simp only [List.length_append]; omega)) s5 ?_; intro v6 w6 o6 g6 n6; have HD6 := hide (HD5.out.grown g6 s5 (fun q hq => (HO5.out.lt q hq).1)); have HO6 := hide o6; clear o6 g6 n6))
                    have HM9 : Hid (P5 ++ (x.m.take (j + 1)).flatMap meY = Q2 ++ pt y.r ++ pn y.l ++ pn (y.c.length : Int) ++ y.c) := hide (by
                      rw [HTj.out, ← List.append_assoc, HQ9.out, ← HQ7.out, ← HQ8.out]
                      simp [meY, rowY])
                    exact ⟨⟨j + 1, by omega, by go_num, hide (by rw [HM9.out]; exact HO6.out), HD6⟩, by simp [intOf]; omega⟩
              · obtain rfl : j = x.m.length := by omega
                rw [List.take_length] at HO
                go_wp2
                go_ret
                exact ⟨_, rfl, by rw [HE.out]; exact HO.out.mono HW.out.size, HW.out.trans (HD.out.mono HW.out.size)⟩
end Go.Proofs.YtpgmipbanpofaaaGreatDoor
/-
  A guarded call in a drawn region, by its contract; a row that is owned, in a world that is like it there.
-/
namespace Go.Proofs.YtpgmipbanpofaaaGreatDoor
theorem step_callW {P : Program} {ops : Array Oper} {o : Oper} {a : Act} {w : World} {K : Act → World → Prop} {Q : Exit → Act → World → Prop} {E : Prop} {R : Ending → World → Prop} (d : Option Tmp) (hd : o.dst = d) (hw : Region.wanted o (yielded ops a.tmps) = true)
    (f : FuncId) (xs : Array Operand) (ts : Array TypeId) (_ho : o.op = .call { callee := .value (.func f), args := xs, argTypes := ts }) (args : Array Value) (hrun : (execOp a.eval o).run P w = .ok (.enter f args) w) (hc : Calls P f args w R) (h : ∀ e w', R e w' → ∃ v, e = .returned v ∧ K (a.put d v) w') :
    if Region.wanted o (yielded ops a.tmps) = true then Oper.wp P o a w K Q else E := by
  subst hd
  rw [if_pos hw]
  unfold Oper.wp
  rw [hrun, Oper.upon_enter]
  refine hc.mono fun e w' hh => ?_
  obtain ⟨v, rfl, hk⟩ := h e w' hh
  exact hk
theorem own_like {w w' : World} {b e sz n : Nat} {v : Value} {cs : List Value} (h : w.ownsRow b e sz v n cs) (hs : ∀ q, v.ownBlock = some q → w'.heap[q]? = w.heap[q]?) : w'.ownsRow b e sz v n cs := by
  refine ⟨h.1, ?_⟩
  rcases h.2 with hn | ⟨g, cap, cur, rfl, hb, hgg, rest⟩
  · exact .inl hn
  · exact .inr ⟨g, cap, cur, rfl, hb, (hs g rfl).trans hgg, rest⟩
end Go.Proofs.YtpgmipbanpofaaaGreatDoor
/-
  Bytes as a text.
-/
namespace Go.Proofs.YtpgmipbanpofaaaGreatDoor
open Go.RowKit

theorem in_str {w : World} {B len b o : Nat} (c : Nat) {zs : List Int} (h : In w B (some ⟨b, o, none⟩) len zs) : (convert 22 9 (.slice (some ⟨b, o, none⟩) len c)).run Tryz.prog w = .ok (.string (strOfNums zs)) w :=
  run_convert_bytes_arg (P := Tryz.prog) w 22 5 Tryz.underlying22 Tryz.underlying5 b o len c zs h.1 (fun i hi => by
    obtain ⟨b', o', ha, _, hcell⟩ := h.2.2.2 (by omega)
    cases ha
    exact hcell i hi) 9 Tryz.underlying9

theorem own_str {w : World} {b : Nat} {v : Value} {zs : List Int} (h : Own w b v zs) : (convert 22 9 v).run Tryz.prog w = .ok (.string (strOfNums zs)) w := by
  rcases h.2 with ⟨rfl, h0⟩ | ⟨g, c, cur, rfl, _⟩
  · have hn : zs = [] := List.eq_nil_of_length_eq_zero h0
    subst hn
    exact run_convert_bytes_nil (P := Tryz.prog) w 22 5 Tryz.underlying22 Tryz.underlying5 0 0 9 Tryz.underlying9
  · refine run_convert_bytes_arg (P := Tryz.prog) w 22 5 Tryz.underlying22 Tryz.underlying5 g 0 zs.length c zs rfl (fun i hi => ?_) 9 Tryz.underlying9
    have := World.ownsRow.cellAt h i (by omega)
    rw [Nat.zero_add, this]
    simp [hi]

theorem in_byt {w : World} {B len : Nat} {a : Option Addr} {zs : List Int} (h : In w B a len zs) : Byt zs := by
  intro z hz
  obtain ⟨j, hj, rfl⟩ := List.getElem_of_mem hz
  have hl := h.1
  have := h.2.2.1 j (by omega)
  simpa [hj] using this

theorem byte_inj : ∀ (xs ys : List Int), Byt xs → Byt ys → xs.map (fun n => UInt8.ofNat n.toNat) = ys.map (fun n => UInt8.ofNat n.toNat) → xs = ys
  | [], [], _, _, _ => rfl
  | [], _ :: _, _, _, h => by simp at h
  | _ :: _, [], _, _, h => by simp at h
  | x :: xs, y :: ys, hx, hy, h => by
    simp only [List.map_cons, List.cons.injEq] at h
    have h1 := hx x (by simp)
    have h2 := hy y (by simp)
    have h3 : x.toNat = y.toNat := by
      have := congrArg UInt8.toNat h.1
      simp at this
      omega
    have h4 := byte_inj xs ys (fun z hz => hx z (by simp [hz])) (fun z hz => hy z (by simp [hz])) h.2
    rw [h4, show x = y from by omega]
theorem str_eq (xs ys : List Int) (hx : Byt xs) (hy : Byt ys) : ((strOfNums xs).toList == (strOfNums ys).toList) = decide (xs = ys) := by
  by_cases h : xs = ys
  · subst h; simp
  · rw [decide_eq_false h, beq_eq_false_iff_ne]
    intro h'
    rw [Go.Lib.strOfNums_toList, Go.Lib.strOfNums_toList] at h'
    exact h (byte_inj xs ys hx hy h')

theorem any_str {w : World} {B len c : Nat} {a : Option Addr} {ys : List Int} (h : In w B a len ys) (hc : a = none → c = 0) (hs : ∀ x, a = some x → x.spot = none) : (convert 22 9 (.slice a len c)).run Tryz.prog w = .ok (.string (strOfNums ys)) w := by
  cases a with
  | none =>
    obtain ⟨rfl, rfl⟩ := h.none_len
    obtain rfl := hc rfl
    exact run_convert_bytes_nil (P := Tryz.prog) w 22 5 Tryz.underlying22 Tryz.underlying5 0 0 9 Tryz.underlying9
  | some x =>
    obtain ⟨b, o, sp⟩ := x
    have := hs _ rfl
    simp only at this
    subst this
    exact in_str c h

end Go.Proofs.YtpgmipbanpofaaaGreatDoor
