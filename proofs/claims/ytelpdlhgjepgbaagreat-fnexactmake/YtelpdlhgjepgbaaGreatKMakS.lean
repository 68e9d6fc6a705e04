/-
  One memory in the model: an object is made.
-/
import Derived.Test.YtelpdlhgjepgbaaGreatJ32
import Derived.Test.YtelpdlhgjepgbaaGreatJ24
import Derived.Deep.CutRange
import Derived.Deep.CutBlock
namespace Go.Proofs.YtelpdlhgjepgbaaGreat
open Go.RowKit

set_option maxRecDepth 100000 in
set_option maxHeartbeats 16000000 in
theorem makeS (w : World) (x : Pg) (m : Mm) (u u1 u2 : Value) (q c : Int) (hx : Reads w w.heap.size (kins x.k) u) (h1 : Reads w w.heap.size (obs m.o) u1) (h2 : Reads w w.heap.size (lks m.l) u2) (hk : kinsG x.k) (hg : MmG m) :
    Calls Tryz.prog 6 #[pgV x u, mmV m u1 u2, .int .i64 q, .int .i64 c] w fun e w' => mmP2 w w' (makeX x m q c) (okM x m q c) e := by
  have HPr := hide hx
  have HR := hide h1
  have HL := hide h2
  have hm := hg.o.1
  have hl := hg.l.1
  have hkl := hk.1
  have HK := hide hk
  have HGm := hide hg
  have HGf : Hid (∀ j, j < m.o.length → ObG (m.o.getD j default)) := hide (fun j hj => getD_mem hg.o.2 j hj)
  obtain ⟨a0, c0, e0, _⟩ := hx.shape
  obtain ⟨a1, c1, e1, _⟩ := h1.shape
  obtain ⟨a2, c2, e2, _⟩ := h2.shape
  subst e0 e1 e2
  clear hx h1 h2 hg hk
  obtain ⟨i0, hi, hz0, hz1, hz2⟩ := info_parts Tryz.infoLk
  have HI := hide (And.intro hi (And.intro hz0 (And.intro hz1 hz2)))
  clear hi hz0 hz1 hz2
  obtain ⟨i1, hi, hz0, hz1, hz2⟩ := info_parts Tryz.infoOb
  have HJ := hide (And.intro hi (And.intro hz0 (And.intro hz1 hz2)))
  clear hi hz0 hz1 hz2
  have bA := ((((Below.refl w.heap.size w).alloc (Nat.le_refl _) (.cells #[.slice a0 x.k.length c0] 39)).alloc (by simp) (.cells #[.slice a1 m.o.length c1, .slice a2 m.l.length c2] 34)).alloc (by simp <;> omega) (.cells #[.slice none 0 0, .slice none 0 0] 34))
  have G0 := heap_alloc_new w (.cells #[.slice a0 x.k.length c0] 39)
  have G1 := heap_alloc_new (w.alloc (.cells #[.slice a0 x.k.length c0] 39)) (.cells #[.slice a1 m.o.length c1, .slice a2 m.l.length c2] 34)
  have G2 := heap_alloc_new ((w.alloc (.cells #[.slice a0 x.k.length c0] 39)).alloc (.cells #[.slice a1 m.o.length c1, .slice a2 m.l.length c2] 34)) (.cells #[.slice none 0 0, .slice none 0 0] 34)
  simp only [World.size_alloc] at G1 G2
  have E0 := hide ((Below.heap_alloc _ (.cells #[.slice none 0 0, .slice none 0 0] 34) _ (by simp <;> omega)).trans ((Below.heap_alloc _ (.cells #[.slice a1 m.o.length c1, .slice a2 m.l.length c2] 34) _ (by simp)).trans (G0)))
  have E1 := hide ((Below.heap_alloc _ (.cells #[.slice none 0 0, .slice none 0 0] 34) _ (by simp)).trans (G1))
  have E2 := hide (G2)
  have HB := hide bA
  replace HPr := hide (HPr.out.at bA)
  replace HR := hide (HR.out.at bA)
  replace HL := hide (HL.out.at bA)
  clear bA G0 G1 G2
  unfold pgV mmV
  go_enter Tryz.func6, Tryz.ntmps6
  go_upto_region 1 with fail
  generalize (((w.alloc (.cells #[.slice a0 x.k.length c0] 39)).alloc (.cells #[.slice a1 m.o.length c1, .slice a2 m.l.length c2] 34)).alloc (.cells #[.slice none 0 0, .slice none 0 0] 34)) = W at *
  have hW2 := (Array.getElem?_eq_some_iff.1 E2.out).1
  have q0 := (box_of E0.out).1 0 _ rfl
  have q1 := (box_of E1.out).1 0 _ rfl
  have q2 := (box_of E1.out).1 1 _ rfl
  have hw : IntKind.i64.wrap ((x.k.length : Int) - 1) = (x.k.length : Int) - 1 := by rw [IntKind.wrap_i64]; omega
  go_wp2_with fail
  refine (inSpec _ _ _ _).mono ?_
  rintro e x2 ⟨rfl, hx2⟩
  rw [hx2]
  clear hx2 x2
  cases k1 : inB c 0 ((x.k.length : Int) - 1) with
  | false =>
    have hC : okM x m q c = false := by unfold okM; rw [k1]; rfl
    have HF : Hid (makeX x m q c = m) := hide (by unfold makeX; rw [if_neg (by rw [hC]; simp)])
    have HC := hide hC
    clear hC
    go_wp2_with fail
    refine (copyMmS _ m _ _ HR.out HL.out HGm.out).mono ?_
    rintro e Z1 ⟨v1, v2, rfl, o9, b9⟩
    obtain ⟨⟨pa, pc, pe⟩, ⟨qa, qc, qe⟩⟩ := (show (∃ a c, v1 = .slice a m.o.length c) ∧ (∃ a c, v2 = .slice a m.l.length c) from ⟨by obtain ⟨a, c, e, _⟩ := (mmD_own o9).1.shape; exact ⟨a, c, e⟩, by obtain ⟨a, c, e, _⟩ := (mmD_own o9).2.shape; exact ⟨a, c, e⟩⟩)
    subst pe qe
    have HO := hide o9
    replace E2 := hide ((b9.block _ (Array.getElem?_eq_some_iff.1 E2.out).1).trans E2.out)
    have hW2 := (Array.getElem?_eq_some_iff.1 E2.out).1
    have hzB := HB.out.size
    replace HB := hide (HB.out.trans (b9.mono HB.out.size))
    clear b9 o9 q0 q1 q2
    unfold mmV
    have l0 := (box_of E2.out).1 0 _ rfl
    have l1 := (box_of E2.out).1 1 _ rfl
    have lz := (box_of E2.out).2
    go_wp2
    refine bodyPost_ret (v := .tuple #[.agg #[.slice pa m.o.length pc, .slice qa m.l.length qc], .bool false]) (results_ct Tryz.results6 _ _ _ rfl (loadMm (putN2 E2.out _ _))) rfl ?_
    rw [HF.out, HC.out]
    refine ⟨_, _, rfl, ?_, (HB.out.setCell (by dsimp only; omega) _).setCell (by dsimp only; omega) _⟩
    refine ((OwnDL.same (b := W.heap.size) HO.out (fun q hq hq2 _ => ?_)).mono (by omega)).up (by simp only [World.size_setCell]; omega)
    rw [heap_setCell_other _ _ _ _ (by dsimp only; omega), heap_setCell_other _ _ _ _ (by dsimp only; omega)]
  | true =>
    go_wp2_with fail
    refine (inSpec _ _ _ _).mono ?_
    rintro e x2 ⟨rfl, hx2⟩
    rw [hx2]
    clear hx2 x2
    cases k2 : inB q 1 1000000 with
    | false =>
      have hC : okM x m q c = false := by unfold okM; rw [k1, k2]; rfl
      have HF : Hid (makeX x m q c = m) := hide (by unfold makeX; rw [if_neg (by rw [hC]; simp)])
      have HC := hide hC
      clear hC
      go_wp2_with fail
      refine (copyMmS _ m _ _ HR.out HL.out HGm.out).mono ?_
      rintro e Z1 ⟨v1, v2, rfl, o9, b9⟩
      obtain ⟨⟨pa, pc, pe⟩, ⟨qa, qc, qe⟩⟩ := (show (∃ a c, v1 = .slice a m.o.length c) ∧ (∃ a c, v2 = .slice a m.l.length c) from ⟨by obtain ⟨a, c, e, _⟩ := (mmD_own o9).1.shape; exact ⟨a, c, e⟩, by obtain ⟨a, c, e, _⟩ := (mmD_own o9).2.shape; exact ⟨a, c, e⟩⟩)
      subst pe qe
      have HO := hide o9
      replace E2 := hide ((b9.block _ (Array.getElem?_eq_some_iff.1 E2.out).1).trans E2.out)
      have hW2 := (Array.getElem?_eq_some_iff.1 E2.out).1
      have hzB := HB.out.size
      replace HB := hide (HB.out.trans (b9.mono HB.out.size))
      clear b9 o9 q0 q1 q2
      unfold mmV
      have l0 := (box_of E2.out).1 0 _ rfl
      have l1 := (box_of E2.out).1 1 _ rfl
      have lz := (box_of E2.out).2
      go_wp2
      refine bodyPost_ret (v := .tuple #[.agg #[.slice pa m.o.length pc, .slice qa m.l.length qc], .bool false]) (results_ct Tryz.results6 _ _ _ rfl (loadMm (putN2 E2.out _ _))) rfl ?_
      rw [HF.out, HC.out]
      refine ⟨_, _, rfl, ?_, (HB.out.setCell (by dsimp only; omega) _).setCell (by dsimp only; omega) _⟩
      refine ((OwnDL.same (b := W.heap.size) HO.out (fun q hq hq2 _ => ?_)).mono (by omega)).up (by simp only [World.size_setCell]; omega)
      rw [heap_setCell_other _ _ _ _ (by dsimp only; omega), heap_setCell_other _ _ _ _ (by dsimp only; omega)]
    | true =>
      go_wp2_with fail
      refine (atS _ m _ _ q HR.out HL.out hm).mono ?_
      rintro e w2 ⟨rfl, b1⟩
      replace E0 := hide ((b1.block _ (Array.getElem?_eq_some_iff.1 E0.out).1).trans E0.out)
      replace E1 := hide ((b1.block _ (Array.getElem?_eq_some_iff.1 E1.out).1).trans E1.out)
      replace E2 := hide ((b1.block _ (Array.getElem?_eq_some_iff.1 E2.out).1).trans E2.out)
      replace HPr := hide (HPr.out.at b1)
      replace HR := hide (HR.out.at b1)
      replace HL := hide (HL.out.at b1)
      replace HB := hide (HB.out.trans (b1.mono HB.out.size))
      clear b1
      clear q0 q1 q2 hW2
      generalize w2 = W at *
      have hW2 := (Array.getElem?_eq_some_iff.1 E2.out).1
      have q0 := (box_of E0.out).1 0 _ rfl
      have q1 := (box_of E1.out).1 0 _ rfl
      have q2 := (box_of E1.out).1 1 _ rfl
      by_cases k3 : atM m q < 0
      · have hC : okM x m q c = true := by unfold okM; rw [k1, k2, decide_eq_true k3]; rfl
        have k3' : ¬ (0 ≤ atM m q) := by omega
        obtain ⟨F, hF⟩ : ∃ F, freshX x.k c = F := ⟨_, rfl⟩
        have HFr := hide hF
        have HFv : Hid (makeX x m q c = ⟨insO ⟨q, c, F⟩ m.o, m.l⟩) := hide (by unfold makeX; rw [if_pos hC, hF])
        have HCv := hide hC
        clear hC hF k1 k2
        generalize atM m q = K9 at *
        go_upto_region 3 with fail
        clear q0 q1 q2
        have HZo := hide (ownD_zero W 89 3)
        have HXb := hide ((Below.refl W.heap.size W).alloc (Nat.le_refl _) (.cells #[] 89))
        have hsX := HXb.out.size
        have HLX := hide (HL.out.at HXb.out)
        have q2 := (box_of ((HXb.out.block _ (Array.getElem?_eq_some_iff.1 E1.out).1).trans E1.out)).1 1 _ rfl
        go_upto_region 4 with (first
          | (at_builtin; refine appM rfl _ _ 32 rfl W.heap.size _ 89 i0 (.agg #[.int .i64 0, .int .i64 0, .int .i64 0]) 3 24 Tryz.underlying32 HI.out.1 HI.out.2.1 HI.out.2.2.1 HI.out.2.2.2 rfl (by decide) _ 0 [] rfl HZo.out _ rfl m.l.length 89 (m.l.flatMap lkD) HLX.out (flat_lk m.l) (by omega) (by decide) hsX ?_; intro v9 w9 o9 g9 hb9; rw [Nat.zero_add, List.nil_append] at o9; obtain ⟨aL, cL, e9⟩ := o9.shape; subst e9; have HO9 := hide o9; have HB9 := hide (HXb.out.grown g9 hsX (fun q hq => (hb9 q hq).1)); clear o9 g9 hb9)
          | fail)
        clear q2 HZo HXb hsX HLX
        have bA := (Below.refl w9.heap.size w9).alloc (Nat.le_refl _) (.cells #[.slice none 0 0, .slice aL m.l.length cL] 34)
        have E3 := hide (heap_alloc_new w9 (.cells #[.slice none 0 0, .slice aL m.l.length cL] 34))
        have hz9 := HB9.out.size
        replace HO9 := hide (HO9.out.below bA)
        replace HB9 := hide (HB9.out.trans (bA.mono HB9.out.size))
        have hzB := HB.out.size
        replace HB := hide (HB.out.trans (HB9.out.mono HB.out.size))
        replace E2 := hide ((HB9.out.block _ (Array.getElem?_eq_some_iff.1 E2.out).1).trans E2.out)
        clear bA
        obtain ⟨g5, hg5⟩ : ∃ g, w9.heap.size = g := ⟨_, rfl⟩
        rw [hg5] at E3 HO9 hz9 ⊢
        clear hg5
        generalize w9.alloc (.cells #[.slice none 0 0, .slice aL m.l.length cL] 34) = W2 at *
        obtain ⟨r9, hr9⟩ : ∃ r, Value.slice aL m.l.length cL = r := ⟨_, rfl⟩
        have HR9 := hide hr9
        rw [hr9] at E3 HO9 ⊢
        clear hr9
        have BO : Hid (Bv W2 W2 g5 34 [obs [], .val r9] [.slice none 0 0, r9]) := hide ⟨E3.out, OwnDL.cons (m := W2.heap.size) (ownD_nil _ _ _ _ _) (OwnDL.val (ownDL_nil _ _ _)) (Array.getElem?_eq_some_iff.1 E3.out).1 (Nat.le_refl _), Below.refl _ _⟩
        go_wp2
        go_loopw [11, 12] (fun p i wr => ∃ (j : Nat) (b : Bool) (xs : List Ob) (va : Option Addr) (vc : Nat), j ≤ m.o.length ∧ p = .bool b ∧ i = .int .i64 (j : Int) ∧ Hid (mkI m.o ⟨q, c, F⟩ j b xs) ∧ Hid (Bv W2 wr g5 34 [obs xs, .val r9] [.slice va xs.length vc, r9])) (fun _ i _ => m.o.length - (intOf i).toNat)
        case atStart => exact ⟨0, false, [], none, 0, Nat.zero_le _, rfl, rfl, hide (mkI_start _ _), BO⟩
        case round =>
          obtain ⟨j, b0, xs, va, vc, hj, rfl, rfl, HI9, BOr⟩ := hrel
          clear BO
          have hxl := mkI_len HI9.out hj
          by_cases hlt : j < m.o.length
          · obtain ⟨a', cap', ea, hcap, _, hc⟩ := object_at HR.out
            cases ea
            obtain ⟨b, o, rfl, hbb, hcell⟩ := hc (by omega)
            obtain ⟨pv1, d0W, d1W, d2W, rW⟩ := hcell j hlt
            have HGy := hide (HGf.out j hlt)
            clear hcell hc
            obtain ⟨y, hy⟩ : ∃ y, m.o.getD j default = y := ⟨_, rfl⟩
            rw [hy] at d0W d1W rW HGy
            obtain ⟨fa, fc, fe, _⟩ := rW.shape
            subst fe
            have HRW := hide rW
            have HY := hide hy
            clear rW hy
            have hltI : (j : Int) < (m.o.length : Int) := by omega
            cases b0 with
            | true =>
              have HI2 := hide (mkI_old HI9.out hlt HY.out (.inl rfl))
              clear HI9
              have q1 := (box_of ((HB9.out.trans (BOr.out.bel.mono hz9)).block _ (by omega) |>.trans E1.out)).1 0 _ rfl
              go_upto_region 11 with fail
              clear q1
              have hgl := BOr.out.lt
              have HBr := hide (HB9.out.trans (BOr.out.bel.mono (by omega)))
              have E1r := hide ((HBr.out.block _ (by omega)).trans E1.out)
              have d0 := (HBr.out.cell (p := ⟨b, o + j * 3, none⟩) hbb).trans d0W
              have d1 := (HBr.out.cell (p := ⟨b, o + j * 3 + 1, none⟩) hbb).trans d1W
              have d2 := (HBr.out.cell (p := ⟨b, o + j * 3 + 2, none⟩) hbb).trans d2W
              have r1 := HRW.out.at HBr.out
              have HCL : Hid (∀ w', Below W.heap.size wr w' → w'.cell? ⟨w.heap.size + 1, 0, none⟩ = some (.slice (some ⟨b, o, none⟩) m.o.length c1) ∧ w'.cell? ⟨b, o + j * 3, none⟩ = some (.int .i64 y.i) ∧ w'.cell? ⟨b, o + j * 3 + 1, none⟩ = some (.int .i64 y.c) ∧ w'.cell? ⟨b, o + j * 3 + 2, none⟩ = some (.slice fa y.f.length fc)) := hide (fun w' hb => ⟨(box_of ((hb.block _ (by omega)).trans E1r.out)).1 0 _ rfl, (hb.cell (p := ⟨b, o + j * 3, none⟩) (by dsimp only; omega)).trans d0, (hb.cell (p := ⟨b, o + j * 3 + 1, none⟩) (by dsimp only; omega)).trans d1, (hb.cell (p := ⟨b, o + j * 3 + 2, none⟩) (by dsimp only; omega)).trans d2⟩)
              clear d0 d1 d2
              have HZ : Hid (Below W.heap.size wr wr) := hide (Below.refl _ _)
              replace HZ := hide HZ.out.drew
              refine wp_region_held_drew (S := fun w' => w'.cell? ⟨w.heap.size + 1, 0, none⟩ = some (.slice (some ⟨b, o, none⟩) m.o.length c1) ∧ w'.cell? ⟨b, o + j * 3, none⟩ = some (.int .i64 y.i) ∧ w'.cell? ⟨b, o + j * 3 + 1, none⟩ = some (.int .i64 y.c) ∧ w'.cell? ⟨b, o + j * 3 + 2, none⟩ = some (.slice fa y.f.length fc)) (by kernel_rfl) (HCL.out _ HZ.out) (fun hHeld => ?_)
              have HW := hide (Below.refl wr.heap.size wr).drew
              have hz0 := HW.out.size
              have BO := hide (BOr.out.call HW.out)
              have HOo := hide (BOr.out.own.below HW.out)
              generalize wr.drew = Z0 at *
              refine wpAnyH_take (i := 0) (v := ?_) rfl (by kernel_rfl) (by kernel_rfl) (by kernel_rfl) (fun _ _ _ h => h) (Or.inl ⟨by rfl, ?_⟩) (by assumption) ?_
              rotate_left
              · intro w' hSw
                try dsimp only at hSw
                go_simp; try rfl
              simp only [List.getElem_toArray, List.getElem_cons_zero, Act.put, List.setIfInBounds_toArray, List.set_cons_zero, List.set_cons_succ]
              refine wpAnyH_take (i := 2) (v := ?_) rfl (by kernel_rfl) (by kernel_rfl) (by kernel_rfl) (fun _ _ _ h => h) (Or.inl ⟨by rfl, ?_⟩) (by assumption) ?_
              rotate_left
              · intro w' hSw
                try dsimp only at hSw
                go_simp; try rfl
              simp only [List.getElem_toArray, List.getElem_cons_succ, List.getElem_cons_zero, Act.put, List.setIfInBounds_toArray, List.set_cons_zero, List.set_cons_succ]
              refine wpAnyH_take (i := 3) (v := ?_) rfl (by kernel_rfl) (by kernel_rfl) (by kernel_rfl) (fun _ _ _ h => h) (Or.inl ⟨by rfl, ?_⟩) (by assumption) ?_
              rotate_left
              · intro w' hSw
                try dsimp only at hSw
                go_simp; try rfl
              simp only [List.getElem_toArray, List.getElem_cons_succ, List.getElem_cons_zero, Act.put, List.setIfInBounds_toArray, List.set_cons_zero, List.set_cons_succ]
              refine wpAnyH_take (i := 4) (v := ?_) rfl (by kernel_rfl) (by kernel_rfl) (by kernel_rfl) (fun _ _ _ h => h) (Or.inl ⟨by rfl, ?_⟩) (by assumption) ?_
              rotate_left
              · intro w' hSw
                try dsimp only at hSw
                go_simp; try rfl
              simp only [List.getElem_toArray, List.getElem_cons_succ, List.getElem_cons_zero, Act.put, List.setIfInBounds_toArray, List.set_cons_zero, List.set_cons_succ]
              refine wpAnyH_take (i := 5) (v := ?_) rfl (by kernel_rfl) (by kernel_rfl) (by kernel_rfl) (fun _ _ _ h => h) (Or.inl ⟨by rfl, ?_⟩) (by assumption) ?_
              rotate_left
              · intro w' hSw
                try dsimp only at hSw
                go_simp; try rfl
              simp only [List.getElem_toArray, List.getElem_cons_succ, List.getElem_cons_zero, Act.put, List.setIfInBounds_toArray, List.set_cons_zero, List.set_cons_succ]
              refine wpAnyH_take (i := 6) (v := ?_) rfl (by kernel_rfl) (by kernel_rfl) (by kernel_rfl) (fun _ _ _ h => h) (Or.inl ⟨by rfl, ?_⟩) (by assumption) ?_
              rotate_left
              · intro w' hSw
                try dsimp only at hSw
                go_simp; try rfl
              simp only [List.getElem_toArray, List.getElem_cons_succ, List.getElem_cons_zero, Act.put, List.setIfInBounds_toArray, List.set_cons_zero, List.set_cons_succ]
              refine wpAnyH_ready (rs := [1, 7]) (by kernel_rfl) (by simp) (AllReadyH.cons rfl (fun K hK => ?_) (AllReadyH.cons rfl (fun K hK => ?_) AllReadyH.nil))
              · skip
                have e9 := (box_of BO.out.box).1 0 _ rfl
                refine step_runX (some 69) (by kernel_rfl) (by kernel_rfl) (v := .slice va xs.length vc) (w' := Z0) (by go_simp; try rfl) ?_
                clear e9
                refine hK.out _ _ (HCL.out _ HZ.out) (fun hHeld => ?_)
                clear hK K
                simp only [Act.put, List.setIfInBounds_toArray, List.set_cons_zero, List.set_cons_succ]
                refine wpAnyH_ready (rs := [7]) (by kernel_rfl) (by simp) (AllReadyH.cons rfl (fun K hK => ?_) AllReadyH.nil)
                refine step_callW (some 75) (by kernel_rfl) (by kernel_rfl) 22 _ _ rfl #[.agg #[.int .i64 y.i, .int .i64 y.c, .slice fa y.f.length fc]] (by kernel_rfl) (oneS _ y _ (r1.at HW.out) HGy.out.f.1) ?_
                rintro e Z1 ⟨v1, rfl, o9, b9⟩
                have hz1 := b9.size
                obtain ⟨pa, pc, pe, _⟩ := (obD_own o9).shape
                subst pe
                unfold obV
                replace HZ := hide (HZ.out.trans (b9.mono (by omega)))
                replace HW := hide (HW.out.trans (b9.mono HW.out.size))
                replace BO := hide (BO.out.call b9)
                replace HOo := hide (HOo.out.below b9)
                clear b9
                have HD := hide o9
                clear o9
                refine ⟨_, rfl, ?_⟩
                refine hK.out _ _ (HCL.out _ HZ.out) (fun hHeld => ?_)
                clear hK K
                simp only [Act.put, List.setIfInBounds_toArray, List.set_cons_zero, List.set_cons_succ]
                refine wpAnyH_ready (rs := [8]) (by kernel_rfl) (by simp) (AllReadyH.cons rfl (fun K hK => ?_) AllReadyH.nil)
                refine step_runX (some 76) (by kernel_rfl) (by kernel_rfl) (v := .slice (some ⟨Z1.heap.size, 0, none⟩) 1 1) (w' := Z1.alloc (.cells #[.int .i64 y.i, .int .i64 y.c, .slice pa y.f.length pc] 54)) (by go_simp; try rfl) ?_
                have b9 := (Below.refl Z1.heap.size Z1).alloc (Nat.le_refl _) (.cells #[.int .i64 y.i, .int .i64 y.c, .slice pa y.f.length pc] 54)
                have HBx := hide (Box.new Z1 #[.int .i64 y.i, .int .i64 y.c, .slice pa y.f.length pc] 54)
                have hz2 := b9.size
                replace HZ := hide (HZ.out.trans (b9.mono (by omega)))
                replace HW := hide (HW.out.trans (b9.mono HW.out.size))
                replace BO := hide (BO.out.call b9)
                replace HOo := hide (HOo.out.below b9)
                replace HD := hide ((HD.out.below b9).up b9.size)
                clear b9
                refine hK.out _ _ (HCL.out _ HZ.out) (fun hHeld => ?_)
                clear hK K
                simp only [Act.put, List.setIfInBounds_toArray, List.set_cons_zero, List.set_cons_succ]
                obtain ⟨gB, hgB⟩ : ∃ g, Z1.heap.size = g := ⟨_, rfl⟩
                rw [hgB] at HBx ⊢
                clear hgB
                generalize Z1.alloc (.cells #[.int .i64 y.i, .int .i64 y.c, .slice pa y.f.length pc] 54) = Z2 at *
                refine wpAnyH_ready (rs := [9]) (by kernel_rfl) (by simp) (AllReadyH.cons rfl (fun K hK => ?_) AllReadyH.nil)
                refine step_appL (by kernel_rfl) _ _ 31 rfl (g5 + 1) wr.heap.size Z0.heap.size 54 i1 (.agg #[.int .i64 0, .int .i64 0, .slice none 0 0]) 3 40 Tryz.underlying31 HJ.out.1 HJ.out.2.1 HJ.out.2.2.1 HJ.out.2.2.2 rfl (by decide) (.slice va xs.length vc) xs.length (xs.flatMap obD) ([]) ([.val r9]) ([]) ([r9]) (by kernel_rfl) HOo.out rfl gB 1 [.int .i64 y.i, .int .i64 y.c, .slice pa y.f.length pc] (obD y) (by kernel_rfl) HBx.out HD.out rfl (by simp [Value.oneCell']) (by omega) (by decide) (by omega) (by omega) (by omega) ?_
                intro g9 c9 w9 o9 gr9 hq9
                obtain ⟨hb9, bn9⟩ := Bv.app (v1 := []) (v2 := [r9]) BO.out 0 rfl o9 gr9 (fun q hq => (hq9 q hq).1)
                replace HZ := hide (HZ.out.grown gr9 (by omega) (fun q hq => by have := hq9 q hq; omega))
                have HB9 := hide hb9
                have BN := hide bn9
                have hz9 := gr9.size
                clear o9 gr9 hq9 hb9 bn9 BO HOo HBx HD HW
                refine hK.out _ _ (HCL.out _ HZ.out) (fun hHeld => ?_)
                clear hK K
                simp only [Act.put, List.setIfInBounds_toArray]
                refine wpAnyH_take (i := 10) (v := ?_) rfl (by kernel_rfl) (by kernel_rfl) (by kernel_rfl) (fun _ _ _ h => h) (Or.inl ⟨by rfl, ?_⟩) (by assumption) ?_
                rotate_left
                · intro w' hSw
                  try dsimp only at hSw
                  go_simp; try rfl
                simp only [List.getElem_toArray, List.getElem_cons_succ, List.getElem_cons_zero, Act.put, List.setIfInBounds_toArray, List.set_cons_zero, List.set_cons_succ]
                refine wpAnyH_ready (rs := [11]) (by kernel_rfl) (by simp) (AllReadyH.cons rfl (fun K hK => ?_) AllReadyH.nil)
                have k9 := (box_of HB9.out).1 0 _ rfl
                have z9 := (box_of HB9.out).2 0
                refine step_store1 (by kernel_rfl) (by kernel_rfl) 31 _ _ rfl (g5) 0 (.slice (some ⟨g9, 0, none⟩) (xs.length + 1) c9) (by kernel_rfl) (by kernel_rfl) rfl _ k9 z9 (by kernel_rfl) ?_
                replace HZ := hide (HZ.out.setCell (p := ⟨g5, 0, none⟩) (by dsimp only; omega) (.slice (some ⟨g9, 0, none⟩) (xs.length + 1) c9))
                clear k9 z9 HB9
                refine hK.out _ _ (HCL.out _ HZ.out) (fun hHeld => ?_)
                clear hK K
                try simp only [Act.put, List.setIfInBounds_toArray, List.set_cons_zero, List.set_cons_succ]
                generalize w9.setCell ⟨g5, 0, none⟩ (.slice (some ⟨g9, 0, none⟩) (xs.length + 1) c9) = Y at *
                refine wpAnyH_done (by kernel_rfl) ?_ _
                go_wp2
                refine ⟨⟨j + 1, _, xs ++ [y], some ⟨g9, 0, none⟩, c9, by omega, rfl, by go_num, HI2, hide ?_⟩, ?_⟩
                · have h := BN.out
                  rw [obs_snoc, List.length_append]
                  exact h
                · simp [intOf]; omega
              · skip
                refine step_callW (some 75) (by kernel_rfl) (by kernel_rfl) 22 _ _ rfl #[.agg #[.int .i64 y.i, .int .i64 y.c, .slice fa y.f.length fc]] (by kernel_rfl) (oneS _ y _ (r1.at HW.out) HGy.out.f.1) ?_
                rintro e Z1 ⟨v1, rfl, o9, b9⟩
                have hz1 := b9.size
                obtain ⟨pa, pc, pe, _⟩ := (obD_own o9).shape
                subst pe
                unfold obV
                replace HZ := hide (HZ.out.trans (b9.mono (by omega)))
                replace HW := hide (HW.out.trans (b9.mono HW.out.size))
                replace BO := hide (BO.out.call b9)
                replace HOo := hide (HOo.out.below b9)
                clear b9
                have HD := hide o9
                clear o9
                refine ⟨_, rfl, ?_⟩
                refine hK.out _ _ (HCL.out _ HZ.out) (fun hHeld => ?_)
                clear hK K
                simp only [Act.put, List.setIfInBounds_toArray, List.set_cons_zero, List.set_cons_succ]
                refine wpAnyH_ready (rs := [1, 8]) (by kernel_rfl) (by simp) (AllReadyH.cons rfl (fun K hK => ?_) (AllReadyH.cons rfl (fun K hK => ?_) AllReadyH.nil))
                · skip
                  have e9 := (box_of BO.out.box).1 0 _ rfl
                  refine step_runX (some 69) (by kernel_rfl) (by kernel_rfl) (v := .slice va xs.length vc) (w' := Z1) (by go_simp; try rfl) ?_
                  clear e9
                  refine hK.out _ _ (HCL.out _ HZ.out) (fun hHeld => ?_)
                  clear hK K
                  simp only [Act.put, List.setIfInBounds_toArray, List.set_cons_zero, List.set_cons_succ]
                  refine wpAnyH_ready (rs := [8]) (by kernel_rfl) (by simp) (AllReadyH.cons rfl (fun K hK => ?_) AllReadyH.nil)
                  refine step_runX (some 76) (by kernel_rfl) (by kernel_rfl) (v := .slice (some ⟨Z1.heap.size, 0, none⟩) 1 1) (w' := Z1.alloc (.cells #[.int .i64 y.i, .int .i64 y.c, .slice pa y.f.length pc] 54)) (by go_simp; try rfl) ?_
                  have b9 := (Below.refl Z1.heap.size Z1).alloc (Nat.le_refl _) (.cells #[.int .i64 y.i, .int .i64 y.c, .slice pa y.f.length pc] 54)
                  have HBx := hide (Box.new Z1 #[.int .i64 y.i, .int .i64 y.c, .slice pa y.f.length pc] 54)
                  have hz2 := b9.size
                  replace HZ := hide (HZ.out.trans (b9.mono (by omega)))
                  replace HW := hide (HW.out.trans (b9.mono HW.out.size))
                  replace BO := hide (BO.out.call b9)
                  replace HOo := hide (HOo.out.below b9)
                  replace HD := hide ((HD.out.below b9).up b9.size)
                  clear b9
                  refine hK.out _ _ (HCL.out _ HZ.out) (fun hHeld => ?_)
                  clear hK K
                  simp only [Act.put, List.setIfInBounds_toArray, List.set_cons_zero, List.set_cons_succ]
                  obtain ⟨gB, hgB⟩ : ∃ g, Z1.heap.size = g := ⟨_, rfl⟩
                  rw [hgB] at HBx ⊢
                  clear hgB
                  generalize Z1.alloc (.cells #[.int .i64 y.i, .int .i64 y.c, .slice pa y.f.length pc] 54) = Z2 at *
                  refine wpAnyH_ready (rs := [9]) (by kernel_rfl) (by simp) (AllReadyH.cons rfl (fun K hK => ?_) AllReadyH.nil)
                  refine step_appL (by kernel_rfl) _ _ 31 rfl (g5 + 1) wr.heap.size Z0.heap.size 54 i1 (.agg #[.int .i64 0, .int .i64 0, .slice none 0 0]) 3 40 Tryz.underlying31 HJ.out.1 HJ.out.2.1 HJ.out.2.2.1 HJ.out.2.2.2 rfl (by decide) (.slice va xs.length vc) xs.length (xs.flatMap obD) ([]) ([.val r9]) ([]) ([r9]) (by kernel_rfl) HOo.out rfl gB 1 [.int .i64 y.i, .int .i64 y.c, .slice pa y.f.length pc] (obD y) (by kernel_rfl) HBx.out HD.out rfl (by simp [Value.oneCell']) (by omega) (by decide) (by omega) (by omega) (by omega) ?_
                  intro g9 c9 w9 o9 gr9 hq9
                  obtain ⟨hb9, bn9⟩ := Bv.app (v1 := []) (v2 := [r9]) BO.out 0 rfl o9 gr9 (fun q hq => (hq9 q hq).1)
                  replace HZ := hide (HZ.out.grown gr9 (by omega) (fun q hq => by have := hq9 q hq; omega))
                  have HB9 := hide hb9
                  have BN := hide bn9
                  have hz9 := gr9.size
                  clear o9 gr9 hq9 hb9 bn9 BO HOo HBx HD HW
                  refine hK.out _ _ (HCL.out _ HZ.out) (fun hHeld => ?_)
                  clear hK K
                  simp only [Act.put, List.setIfInBounds_toArray]
                  refine wpAnyH_take (i := 10) (v := ?_) rfl (by kernel_rfl) (by kernel_rfl) (by kernel_rfl) (fun _ _ _ h => h) (Or.inl ⟨by rfl, ?_⟩) (by assumption) ?_
                  rotate_left
                  · intro w' hSw
                    try dsimp only at hSw
                    go_simp; try rfl
                  simp only [List.getElem_toArray, List.getElem_cons_succ, List.getElem_cons_zero, Act.put, List.setIfInBounds_toArray, List.set_cons_zero, List.set_cons_succ]
                  refine wpAnyH_ready (rs := [11]) (by kernel_rfl) (by simp) (AllReadyH.cons rfl (fun K hK => ?_) AllReadyH.nil)
                  have k9 := (box_of HB9.out).1 0 _ rfl
                  have z9 := (box_of HB9.out).2 0
                  refine step_store1 (by kernel_rfl) (by kernel_rfl) 31 _ _ rfl (g5) 0 (.slice (some ⟨g9, 0, none⟩) (xs.length + 1) c9) (by kernel_rfl) (by kernel_rfl) rfl _ k9 z9 (by kernel_rfl) ?_
                  replace HZ := hide (HZ.out.setCell (p := ⟨g5, 0, none⟩) (by dsimp only; omega) (.slice (some ⟨g9, 0, none⟩) (xs.length + 1) c9))
                  clear k9 z9 HB9
                  refine hK.out _ _ (HCL.out _ HZ.out) (fun hHeld => ?_)
                  clear hK K
                  try simp only [Act.put, List.setIfInBounds_toArray, List.set_cons_zero, List.set_cons_succ]
                  generalize w9.setCell ⟨g5, 0, none⟩ (.slice (some ⟨g9, 0, none⟩) (xs.length + 1) c9) = Y at *
                  refine wpAnyH_done (by kernel_rfl) ?_ _
                  go_wp2
                  refine ⟨⟨j + 1, _, xs ++ [y], some ⟨g9, 0, none⟩, c9, by omega, rfl, by go_num, HI2, hide ?_⟩, ?_⟩
                  · have h := BN.out
                    rw [obs_snoc, List.length_append]
                    exact h
                  · simp [intOf]; omega
                · skip
                  refine step_runX (some 76) (by kernel_rfl) (by kernel_rfl) (v := .slice (some ⟨Z1.heap.size, 0, none⟩) 1 1) (w' := Z1.alloc (.cells #[.int .i64 y.i, .int .i64 y.c, .slice pa y.f.length pc] 54)) (by go_simp; try rfl) ?_
                  have b9 := (Below.refl Z1.heap.size Z1).alloc (Nat.le_refl _) (.cells #[.int .i64 y.i, .int .i64 y.c, .slice pa y.f.length pc] 54)
                  have HBx := hide (Box.new Z1 #[.int .i64 y.i, .int .i64 y.c, .slice pa y.f.length pc] 54)
                  have hz2 := b9.size
                  replace HZ := hide (HZ.out.trans (b9.mono (by omega)))
                  replace HW := hide (HW.out.trans (b9.mono HW.out.size))
                  replace BO := hide (BO.out.call b9)
                  replace HOo := hide (HOo.out.below b9)
                  replace HD := hide ((HD.out.below b9).up b9.size)
                  clear b9
                  refine hK.out _ _ (HCL.out _ HZ.out) (fun hHeld => ?_)
                  clear hK K
                  simp only [Act.put, List.setIfInBounds_toArray, List.set_cons_zero, List.set_cons_succ]
                  obtain ⟨gB, hgB⟩ : ∃ g, Z1.heap.size = g := ⟨_, rfl⟩
                  rw [hgB] at HBx ⊢
                  clear hgB
                  generalize Z1.alloc (.cells #[.int .i64 y.i, .int .i64 y.c, .slice pa y.f.length pc] 54) = Z2 at *
                  refine wpAnyH_ready (rs := [1]) (by kernel_rfl) (by simp) (AllReadyH.cons rfl (fun K hK => ?_) AllReadyH.nil)
                  have e9 := (box_of BO.out.box).1 0 _ rfl
                  refine step_runX (some 69) (by kernel_rfl) (by kernel_rfl) (v := .slice va xs.length vc) (w' := Z2) (by go_simp; try rfl) ?_
                  clear e9
                  refine hK.out _ _ (HCL.out _ HZ.out) (fun hHeld => ?_)
                  clear hK K
                  simp only [Act.put, List.setIfInBounds_toArray, List.set_cons_zero, List.set_cons_succ]
                  refine wpAnyH_ready (rs := [9]) (by kernel_rfl) (by simp) (AllReadyH.cons rfl (fun K hK => ?_) AllReadyH.nil)
                  refine step_appL (by kernel_rfl) _ _ 31 rfl (g5 + 1) wr.heap.size Z0.heap.size 54 i1 (.agg #[.int .i64 0, .int .i64 0, .slice none 0 0]) 3 40 Tryz.underlying31 HJ.out.1 HJ.out.2.1 HJ.out.2.2.1 HJ.out.2.2.2 rfl (by decide) (.slice va xs.length vc) xs.length (xs.flatMap obD) ([]) ([.val r9]) ([]) ([r9]) (by kernel_rfl) HOo.out rfl gB 1 [.int .i64 y.i, .int .i64 y.c, .slice pa y.f.length pc] (obD y) (by kernel_rfl) HBx.out HD.out rfl (by simp [Value.oneCell']) (by omega) (by decide) (by omega) (by omega) (by omega) ?_
                  intro g9 c9 w9 o9 gr9 hq9
                  obtain ⟨hb9, bn9⟩ := Bv.app (v1 := []) (v2 := [r9]) BO.out 0 rfl o9 gr9 (fun q hq => (hq9 q hq).1)
                  replace HZ := hide (HZ.out.grown gr9 (by omega) (fun q hq => by have := hq9 q hq; omega))
                  have HB9 := hide hb9
                  have BN := hide bn9
                  have hz9 := gr9.size
                  clear o9 gr9 hq9 hb9 bn9 BO HOo HBx HD HW
                  refine hK.out _ _ (HCL.out _ HZ.out) (fun hHeld => ?_)
                  clear hK K
                  simp only [Act.put, List.setIfInBounds_toArray]
                  refine wpAnyH_take (i := 10) (v := ?_) rfl (by kernel_rfl) (by kernel_rfl) (by kernel_rfl) (fun _ _ _ h => h) (Or.inl ⟨by rfl, ?_⟩) (by assumption) ?_
                  rotate_left
                  · intro w' hSw
                    try dsimp only at hSw
                    go_simp; try rfl
                  simp only [List.getElem_toArray, List.getElem_cons_succ, List.getElem_cons_zero, Act.put, List.setIfInBounds_toArray, List.set_cons_zero, List.set_cons_succ]
                  refine wpAnyH_ready (rs := [11]) (by kernel_rfl) (by simp) (AllReadyH.cons rfl (fun K hK => ?_) AllReadyH.nil)
                  have k9 := (box_of HB9.out).1 0 _ rfl
                  have z9 := (box_of HB9.out).2 0
                  refine step_store1 (by kernel_rfl) (by kernel_rfl) 31 _ _ rfl (g5) 0 (.slice (some ⟨g9, 0, none⟩) (xs.length + 1) c9) (by kernel_rfl) (by kernel_rfl) rfl _ k9 z9 (by kernel_rfl) ?_
                  replace HZ := hide (HZ.out.setCell (p := ⟨g5, 0, none⟩) (by dsimp only; omega) (.slice (some ⟨g9, 0, none⟩) (xs.length + 1) c9))
                  clear k9 z9 HB9
                  refine hK.out _ _ (HCL.out _ HZ.out) (fun hHeld => ?_)
                  clear hK K
                  try simp only [Act.put, List.setIfInBounds_toArray, List.set_cons_zero, List.set_cons_succ]
                  generalize w9.setCell ⟨g5, 0, none⟩ (.slice (some ⟨g9, 0, none⟩) (xs.length + 1) c9) = Y at *
                  refine wpAnyH_done (by kernel_rfl) ?_ _
                  go_wp2
                  refine ⟨⟨j + 1, _, xs ++ [y], some ⟨g9, 0, none⟩, c9, by omega, rfl, by go_num, HI2, hide ?_⟩, ?_⟩
                  · have h := BN.out
                    rw [obs_snoc, List.length_append]
                    exact h
                  · simp [intOf]; omega
            | false =>
              by_cases hgt : q < y.i
              · have HI2 := hide (mkI_new HI9.out hlt HY.out hgt)
                clear HI9
                have hb1 := HB9.out.trans (BOr.out.bel.mono hz9)
                have E0r := hide ((hb1.block _ (by omega)).trans E0.out)
                have q1 := (box_of ((hb1.block _ (by omega)).trans E1.out)).1 0 _ rfl
                have d0 := (hb1.cell (p := ⟨b, o + j * 3, none⟩) hbb).trans d0W
                have HPw := hide (HPr.out.at hb1)
                have hgl := BOr.out.lt
                clear hb1
                go_upto_region 9 with fail
                clear q1 d0
                have HCL : Hid (∀ w', Below W.heap.size wr w' → w'.cell? ⟨w.heap.size, 0, none⟩ = some (.slice a0 x.k.length c0)) := hide (fun w' hb => (box_of ((hb.block _ (by omega)).trans E0r.out)).1 0 _ rfl)
                have HZ : Hid (Below W.heap.size wr wr) := hide (Below.refl _ _)
                replace HZ := hide HZ.out.drew
                refine wp_region_held_drew (S := fun w' => w'.cell? ⟨w.heap.size, 0, none⟩ = some (.slice a0 x.k.length c0)) (by kernel_rfl) (HCL.out _ HZ.out) (fun hHeld => ?_)
                have HW := hide (Below.refl wr.heap.size wr).drew
                have hz0 := HW.out.size
                have BO := hide (BOr.out.call HW.out)
                have HOo := hide (BOr.out.own.below HW.out)
                generalize wr.drew = Z0 at *
                refine wpAnyH_take (i := 0) (v := ?_) rfl (by kernel_rfl) (by kernel_rfl) (by kernel_rfl) (fun _ _ _ h => h) (Or.inl ⟨by rfl, ?_⟩) (by assumption) ?_
                rotate_left
                · intro w' hSw
                  try dsimp only at hSw
                  go_simp; try rfl
                simp only [List.getElem_toArray, List.getElem_cons_zero, Act.put, List.setIfInBounds_toArray, List.set_cons_zero, List.set_cons_succ]
                refine wpAnyH_take (i := 2) (v := ?_) rfl (by kernel_rfl) (by kernel_rfl) (by kernel_rfl) (fun _ _ _ h => h) (Or.inl ⟨by rfl, ?_⟩) (by assumption) ?_
                rotate_left
                · intro w' hSw
                  try dsimp only at hSw
                  go_simp; try rfl
                simp only [List.getElem_toArray, List.getElem_cons_succ, List.getElem_cons_zero, Act.put, List.setIfInBounds_toArray, List.set_cons_zero, List.set_cons_succ]
                refine wpAnyH_take (i := 3) (v := ?_) rfl (by kernel_rfl) (by kernel_rfl) (by kernel_rfl) (fun _ _ _ h => h) (Or.inl ⟨by rfl, ?_⟩) (by assumption) ?_
                rotate_left
                · intro w' hSw
                  try dsimp only at hSw
                  go_simp; try rfl
                simp only [List.getElem_toArray, List.getElem_cons_succ, List.getElem_cons_zero, Act.put, List.setIfInBounds_toArray, List.set_cons_zero, List.set_cons_succ]
                refine wpAnyH_take (i := 4) (v := ?_) rfl (by kernel_rfl) (by kernel_rfl) (by kernel_rfl) (fun _ _ _ h => h) (Or.inl ⟨by rfl, ?_⟩) (by assumption) ?_
                rotate_left
                · intro w' hSw
                  try dsimp only at hSw
                  go_simp; try rfl
                simp only [List.getElem_toArray, List.getElem_cons_succ, List.getElem_cons_zero, Act.put, List.setIfInBounds_toArray, List.set_cons_zero, List.set_cons_succ]
                refine wpAnyH_take (i := 5) (v := ?_) rfl (by kernel_rfl) (by kernel_rfl) (by kernel_rfl) (fun _ _ _ h => h) (Or.inl ⟨by rfl, ?_⟩) (by assumption) ?_
                rotate_left
                · intro w' hSw
                  try dsimp only at hSw
                  go_simp; try rfl
                simp only [List.getElem_toArray, List.getElem_cons_succ, List.getElem_cons_zero, Act.put, List.setIfInBounds_toArray, List.set_cons_zero, List.set_cons_succ]
                refine wpAnyH_ready (rs := [1, 6]) (by kernel_rfl) (by simp) (AllReadyH.cons rfl (fun K hK => ?_) (AllReadyH.cons rfl (fun K hK => ?_) AllReadyH.nil))
                · skip
                  have e9 := (box_of BO.out.box).1 0 _ rfl
                  refine step_runX (some 58) (by kernel_rfl) (by kernel_rfl) (v := .slice va xs.length vc) (w' := Z0) (by go_simp; try rfl) ?_
                  clear e9
                  refine hK.out _ _ (HCL.out _ HZ.out) (fun hHeld => ?_)
                  clear hK K
                  simp only [Act.put, List.setIfInBounds_toArray, List.set_cons_zero, List.set_cons_succ]
                  refine wpAnyH_ready (rs := [6]) (by kernel_rfl) (by simp) (AllReadyH.cons rfl (fun K hK => ?_) AllReadyH.nil)
                  refine step_callW (some 63) (by kernel_rfl) (by kernel_rfl) 21 _ _ rfl #[.agg #[.slice a0 x.k.length c0], .int .i64 c] (by kernel_rfl) (freshS _ x _ c (HPw.out.at HW.out) HK.out) ?_
                  rintro e Z1 ⟨v1, rfl, o9, b9⟩
                  have hz1 := b9.size
                  rw [HFr.out] at o9
                  obtain ⟨pa, pc, pe⟩ := o9.shape
                  subst pe
                  replace o9 : OwnDL Z1 Z0.heap.size Z1.heap.size (obD ⟨q, c, F⟩) [.int .i64 q, .int .i64 c, .slice pa F.length pc] := OwnDL.val (OwnDL.val (OwnDL.cons (m := Z1.heap.size) o9 (ownDL_nil _ Z1.heap.size _) (by omega) (Nat.le_refl _)))
                  replace HZ := hide (HZ.out.trans (b9.mono (by omega)))
                  replace HW := hide (HW.out.trans (b9.mono HW.out.size))
                  replace BO := hide (BO.out.call b9)
                  replace HOo := hide (HOo.out.below b9)
                  clear b9
                  have HD := hide o9
                  clear o9
                  refine ⟨_, rfl, ?_⟩
                  refine hK.out _ _ (HCL.out _ HZ.out) (fun hHeld => ?_)
                  clear hK K
                  simp only [Act.put, List.setIfInBounds_toArray, List.set_cons_zero, List.set_cons_succ]
                  refine wpAnyH_take (i := 7) (v := ?_) rfl (by kernel_rfl) (by kernel_rfl) (by kernel_rfl) (fun _ _ _ h => h) (Or.inl ⟨by rfl, ?_⟩) (by assumption) ?_
                  rotate_left
                  · intro w' hSw
                    try dsimp only at hSw
                    go_simp; try rfl
                  simp only [List.getElem_toArray, List.getElem_cons_succ, List.getElem_cons_zero, Act.put, List.setIfInBounds_toArray, List.set_cons_zero, List.set_cons_succ]
                  refine wpAnyH_ready (rs := [8]) (by kernel_rfl) (by simp) (AllReadyH.cons rfl (fun K hK => ?_) AllReadyH.nil)
                  refine step_runX (some 65) (by kernel_rfl) (by kernel_rfl) (v := .slice (some ⟨Z1.heap.size, 0, none⟩) 1 1) (w' := Z1.alloc (.cells #[.int .i64 q, .int .i64 c, .slice pa F.length pc] 54)) (by go_simp; try rfl) ?_
                  have b9 := (Below.refl Z1.heap.size Z1).alloc (Nat.le_refl _) (.cells #[.int .i64 q, .int .i64 c, .slice pa F.length pc] 54)
                  have HBx := hide (Box.new Z1 #[.int .i64 q, .int .i64 c, .slice pa F.length pc] 54)
                  have hz2 := b9.size
                  replace HZ := hide (HZ.out.trans (b9.mono (by omega)))
                  replace HW := hide (HW.out.trans (b9.mono HW.out.size))
                  replace BO := hide (BO.out.call b9)
                  replace HOo := hide (HOo.out.below b9)
                  replace HD := hide ((HD.out.below b9).up b9.size)
                  clear b9
                  refine hK.out _ _ (HCL.out _ HZ.out) (fun hHeld => ?_)
                  clear hK K
                  simp only [Act.put, List.setIfInBounds_toArray, List.set_cons_zero, List.set_cons_succ]
                  obtain ⟨gB, hgB⟩ : ∃ g, Z1.heap.size = g := ⟨_, rfl⟩
                  rw [hgB] at HBx ⊢
                  clear hgB
                  generalize Z1.alloc (.cells #[.int .i64 q, .int .i64 c, .slice pa F.length pc] 54) = Z2 at *
                  refine wpAnyH_ready (rs := [9]) (by kernel_rfl) (by simp) (AllReadyH.cons rfl (fun K hK => ?_) AllReadyH.nil)
                  refine step_appL (by kernel_rfl) _ _ 31 rfl (g5 + 1) wr.heap.size Z0.heap.size 54 i1 (.agg #[.int .i64 0, .int .i64 0, .slice none 0 0]) 3 40 Tryz.underlying31 HJ.out.1 HJ.out.2.1 HJ.out.2.2.1 HJ.out.2.2.2 rfl (by decide) (.slice va xs.length vc) xs.length (xs.flatMap obD) ([]) ([.val r9]) ([]) ([r9]) (by kernel_rfl) HOo.out rfl gB 1 [.int .i64 q, .int .i64 c, .slice pa F.length pc] (obD ⟨q, c, F⟩) (by kernel_rfl) HBx.out HD.out rfl (by simp [Value.oneCell']) (by omega) (by decide) (by omega) (by omega) (by omega) ?_
                  intro g9 c9 w9 o9 gr9 hq9
                  obtain ⟨hb9, bn9⟩ := Bv.app (v1 := []) (v2 := [r9]) BO.out 0 rfl o9 gr9 (fun q hq => (hq9 q hq).1)
                  replace HZ := hide (HZ.out.grown gr9 (by omega) (fun q hq => by have := hq9 q hq; omega))
                  have HB9 := hide hb9
                  have BN := hide bn9
                  have hz9 := gr9.size
                  clear o9 gr9 hq9 hb9 bn9 BO HOo HBx HD HW
                  refine hK.out _ _ (HCL.out _ HZ.out) (fun hHeld => ?_)
                  clear hK K
                  simp only [Act.put, List.setIfInBounds_toArray]
                  refine wpAnyH_take (i := 10) (v := ?_) rfl (by kernel_rfl) (by kernel_rfl) (by kernel_rfl) (fun _ _ _ h => h) (Or.inl ⟨by rfl, ?_⟩) (by assumption) ?_
                  rotate_left
                  · intro w' hSw
                    try dsimp only at hSw
                    go_simp; try rfl
                  simp only [List.getElem_toArray, List.getElem_cons_succ, List.getElem_cons_zero, Act.put, List.setIfInBounds_toArray, List.set_cons_zero, List.set_cons_succ]
                  refine wpAnyH_ready (rs := [11]) (by kernel_rfl) (by simp) (AllReadyH.cons rfl (fun K hK => ?_) AllReadyH.nil)
                  have k9 := (box_of HB9.out).1 0 _ rfl
                  have z9 := (box_of HB9.out).2 0
                  refine step_store1 (by kernel_rfl) (by kernel_rfl) 31 _ _ rfl (g5) 0 (.slice (some ⟨g9, 0, none⟩) (xs.length + 1) c9) (by kernel_rfl) (by kernel_rfl) rfl _ k9 z9 (by kernel_rfl) ?_
                  replace HZ := hide (HZ.out.setCell (p := ⟨g5, 0, none⟩) (by dsimp only; omega) (.slice (some ⟨g9, 0, none⟩) (xs.length + 1) c9))
                  clear k9 z9 HB9
                  refine hK.out _ _ (HCL.out _ HZ.out) (fun hHeld => ?_)
                  clear hK K
                  try simp only [Act.put, List.setIfInBounds_toArray, List.set_cons_zero, List.set_cons_succ]
                  generalize w9.setCell ⟨g5, 0, none⟩ (.slice (some ⟨g9, 0, none⟩) (xs.length + 1) c9) = Y at *
                  refine wpAnyH_done (by kernel_rfl) ?_ _
                  have BOr2 : Hid (Bv W2 Y g5 34 [obs (xs ++ [⟨q, c, F⟩]), .val r9] [.slice (some ⟨g9, 0, none⟩) (xs ++ [(⟨q, c, F⟩ : Ob)]).length c9, r9]) := hide (by
                    have h := BN.out
                    rw [obs_snoc, List.length_append]
                    exact h)
                  clear BN HZ HCL hHeld
                  have hxl2 : (xs ++ [(⟨q, c, F⟩ : Ob)]).length ≤ j + 2 := by rw [List.length_append]; simp only [List.length_cons, List.length_nil]; omega
                  rw [List.length_append] at BOr2
                  obtain ⟨xs2, hx2⟩ : ∃ z, xs ++ [(⟨q, c, F⟩ : Ob)] = z := ⟨_, rfl⟩
                  have hx3 : xs.length + [(⟨q, c, F⟩ : Ob)].length = xs2.length := by rw [← hx2, List.length_append]
                  have hx4 : xs.length + 1 = xs2.length := hx3
                  rw [hx2] at BOr2 HI2 hxl2
                  rw [hx3] at BOr2
                  rw [hx4]
                  clear hx2 hx3 hx4
                  obtain ⟨va2, hva2⟩ : ∃ z, (some ⟨g9, 0, none⟩ : Option Addr) = z := ⟨_, rfl⟩
                  obtain ⟨vc2, hvc2⟩ : ∃ z, c9 = z := ⟨_, rfl⟩
                  rw [hva2, hvc2] at BOr2
                  rw [hva2, hvc2]
                  clear hva2 hvc2
                  generalize Y = wr2 at *
                  have hgl := BOr2.out.lt
                  have HBr2 := hide (HB9.out.trans (BOr2.out.bel.mono (by omega)))
                  have E1r2 := hide ((HBr2.out.block _ (by omega)).trans E1.out)
                  have d0 := (HBr2.out.cell (p := ⟨b, o + j * 3, none⟩) hbb).trans d0W
                  have d1 := (HBr2.out.cell (p := ⟨b, o + j * 3 + 1, none⟩) hbb).trans d1W
                  have d2 := (HBr2.out.cell (p := ⟨b, o + j * 3 + 2, none⟩) hbb).trans d2W
                  have r1 := HRW.out.at HBr2.out
                  have HCL : Hid (∀ w', Below W.heap.size wr2 w' → w'.cell? ⟨w.heap.size + 1, 0, none⟩ = some (.slice (some ⟨b, o, none⟩) m.o.length c1) ∧ w'.cell? ⟨b, o + j * 3, none⟩ = some (.int .i64 y.i) ∧ w'.cell? ⟨b, o + j * 3 + 1, none⟩ = some (.int .i64 y.c) ∧ w'.cell? ⟨b, o + j * 3 + 2, none⟩ = some (.slice fa y.f.length fc)) := hide (fun w' hb => ⟨(box_of ((hb.block _ (by omega)).trans E1r2.out)).1 0 _ rfl, (hb.cell (p := ⟨b, o + j * 3, none⟩) (by dsimp only; omega)).trans d0, (hb.cell (p := ⟨b, o + j * 3 + 1, none⟩) (by dsimp only; omega)).trans d1, (hb.cell (p := ⟨b, o + j * 3 + 2, none⟩) (by dsimp only; omega)).trans d2⟩)
                  clear d0 d1 d2
                  go_upto_region 11 with fail
                  have HZ : Hid (Below W.heap.size wr2 wr2) := hide (Below.refl _ _)
                  replace HZ := hide HZ.out.drew
                  refine wp_region_held_drew (S := fun w' => w'.cell? ⟨w.heap.size + 1, 0, none⟩ = some (.slice (some ⟨b, o, none⟩) m.o.length c1) ∧ w'.cell? ⟨b, o + j * 3, none⟩ = some (.int .i64 y.i) ∧ w'.cell? ⟨b, o + j * 3 + 1, none⟩ = some (.int .i64 y.c) ∧ w'.cell? ⟨b, o + j * 3 + 2, none⟩ = some (.slice fa y.f.length fc)) (by kernel_rfl) (HCL.out _ HZ.out) (fun hHeld => ?_)
                  have HW := hide (Below.refl wr2.heap.size wr2).drew
                  have hz0 := HW.out.size
                  have BO := hide (BOr2.out.call HW.out)
                  have HOo := hide (BOr2.out.own.below HW.out)
                  generalize wr2.drew = Z0 at *
                  refine wpAnyH_take (i := 0) (v := ?_) rfl (by kernel_rfl) (by kernel_rfl) (by kernel_rfl) (fun _ _ _ h => h) (Or.inl ⟨by rfl, ?_⟩) (by assumption) ?_
                  rotate_left
                  · intro w' hSw
                    try dsimp only at hSw
                    go_simp; try rfl
                  simp only [List.getElem_toArray, List.getElem_cons_zero, Act.put, List.setIfInBounds_toArray, List.set_cons_zero, List.set_cons_succ]
                  refine wpAnyH_take (i := 2) (v := ?_) rfl (by kernel_rfl) (by kernel_rfl) (by kernel_rfl) (fun _ _ _ h => h) (Or.inl ⟨by rfl, ?_⟩) (by assumption) ?_
                  rotate_left
                  · intro w' hSw
                    try dsimp only at hSw
                    go_simp; try rfl
                  simp only [List.getElem_toArray, List.getElem_cons_succ, List.getElem_cons_zero, Act.put, List.setIfInBounds_toArray, List.set_cons_zero, List.set_cons_succ]
                  refine wpAnyH_take (i := 3) (v := ?_) rfl (by kernel_rfl) (by kernel_rfl) (by kernel_rfl) (fun _ _ _ h => h) (Or.inl ⟨by rfl, ?_⟩) (by assumption) ?_
                  rotate_left
                  · intro w' hSw
                    try dsimp only at hSw
                    go_simp; try rfl
                  simp only [List.getElem_toArray, List.getElem_cons_succ, List.getElem_cons_zero, Act.put, List.setIfInBounds_toArray, List.set_cons_zero, List.set_cons_succ]
                  refine wpAnyH_take (i := 4) (v := ?_) rfl (by kernel_rfl) (by kernel_rfl) (by kernel_rfl) (fun _ _ _ h => h) (Or.inl ⟨by rfl, ?_⟩) (by assumption) ?_
                  rotate_left
                  · intro w' hSw
                    try dsimp only at hSw
                    go_simp; try rfl
                  simp only [List.getElem_toArray, List.getElem_cons_succ, List.getElem_cons_zero, Act.put, List.setIfInBounds_toArray, List.set_cons_zero, List.set_cons_succ]
                  refine wpAnyH_take (i := 5) (v := ?_) rfl (by kernel_rfl) (by kernel_rfl) (by kernel_rfl) (fun _ _ _ h => h) (Or.inl ⟨by rfl, ?_⟩) (by assumption) ?_
                  rotate_left
                  · intro w' hSw
                    try dsimp only at hSw
                    go_simp; try rfl
                  simp only [List.getElem_toArray, List.getElem_cons_succ, List.getElem_cons_zero, Act.put, List.setIfInBounds_toArray, List.set_cons_zero, List.set_cons_succ]
                  refine wpAnyH_take (i := 6) (v := ?_) rfl (by kernel_rfl) (by kernel_rfl) (by kernel_rfl) (fun _ _ _ h => h) (Or.inl ⟨by rfl, ?_⟩) (by assumption) ?_
                  rotate_left
                  · intro w' hSw
                    try dsimp only at hSw
                    go_simp; try rfl
                  simp only [List.getElem_toArray, List.getElem_cons_succ, List.getElem_cons_zero, Act.put, List.setIfInBounds_toArray, List.set_cons_zero, List.set_cons_succ]
                  refine wpAnyH_ready (rs := [1, 7]) (by kernel_rfl) (by simp) (AllReadyH.cons rfl (fun K hK => ?_) (AllReadyH.cons rfl (fun K hK => ?_) AllReadyH.nil))
                  · skip
                    have e9 := (box_of BO.out.box).1 0 _ rfl
                    refine step_runX (some 69) (by kernel_rfl) (by kernel_rfl) (v := .slice va2 xs2.length vc2) (w' := Z0) (by go_simp; try rfl) ?_
                    clear e9
                    refine hK.out _ _ (HCL.out _ HZ.out) (fun hHeld => ?_)
                    clear hK K
                    simp only [Act.put, List.setIfInBounds_toArray, List.set_cons_zero, List.set_cons_succ]
                    refine wpAnyH_ready (rs := [7]) (by kernel_rfl) (by simp) (AllReadyH.cons rfl (fun K hK => ?_) AllReadyH.nil)
                    refine step_callW (some 75) (by kernel_rfl) (by kernel_rfl) 22 _ _ rfl #[.agg #[.int .i64 y.i, .int .i64 y.c, .slice fa y.f.length fc]] (by kernel_rfl) (oneS _ y _ (r1.at HW.out) HGy.out.f.1) ?_
                    rintro e Z1 ⟨v1, rfl, o9, b9⟩
                    have hz1 := b9.size
                    obtain ⟨pa, pc, pe, _⟩ := (obD_own o9).shape
                    subst pe
                    unfold obV
                    replace HZ := hide (HZ.out.trans (b9.mono (by omega)))
                    replace HW := hide (HW.out.trans (b9.mono HW.out.size))
                    replace BO := hide (BO.out.call b9)
                    replace HOo := hide (HOo.out.below b9)
                    clear b9
                    have HD := hide o9
                    clear o9
                    refine ⟨_, rfl, ?_⟩
                    refine hK.out _ _ (HCL.out _ HZ.out) (fun hHeld => ?_)
                    clear hK K
                    simp only [Act.put, List.setIfInBounds_toArray, List.set_cons_zero, List.set_cons_succ]
                    refine wpAnyH_ready (rs := [8]) (by kernel_rfl) (by simp) (AllReadyH.cons rfl (fun K hK => ?_) AllReadyH.nil)
                    refine step_runX (some 76) (by kernel_rfl) (by kernel_rfl) (v := .slice (some ⟨Z1.heap.size, 0, none⟩) 1 1) (w' := Z1.alloc (.cells #[.int .i64 y.i, .int .i64 y.c, .slice pa y.f.length pc] 54)) (by go_simp; try rfl) ?_
                    have b9 := (Below.refl Z1.heap.size Z1).alloc (Nat.le_refl _) (.cells #[.int .i64 y.i, .int .i64 y.c, .slice pa y.f.length pc] 54)
                    have HBx := hide (Box.new Z1 #[.int .i64 y.i, .int .i64 y.c, .slice pa y.f.length pc] 54)
                    have hz2 := b9.size
                    replace HZ := hide (HZ.out.trans (b9.mono (by omega)))
                    replace HW := hide (HW.out.trans (b9.mono HW.out.size))
                    replace BO := hide (BO.out.call b9)
                    replace HOo := hide (HOo.out.below b9)
                    replace HD := hide ((HD.out.below b9).up b9.size)
                    clear b9
                    refine hK.out _ _ (HCL.out _ HZ.out) (fun hHeld => ?_)
                    clear hK K
                    simp only [Act.put, List.setIfInBounds_toArray, List.set_cons_zero, List.set_cons_succ]
                    obtain ⟨gB, hgB⟩ : ∃ g, Z1.heap.size = g := ⟨_, rfl⟩
                    rw [hgB] at HBx ⊢
                    clear hgB
                    generalize Z1.alloc (.cells #[.int .i64 y.i, .int .i64 y.c, .slice pa y.f.length pc] 54) = Z2 at *
                    refine wpAnyH_ready (rs := [9]) (by kernel_rfl) (by simp) (AllReadyH.cons rfl (fun K hK => ?_) AllReadyH.nil)
                    refine step_appL (by kernel_rfl) _ _ 31 rfl (g5 + 1) wr2.heap.size Z0.heap.size 54 i1 (.agg #[.int .i64 0, .int .i64 0, .slice none 0 0]) 3 40 Tryz.underlying31 HJ.out.1 HJ.out.2.1 HJ.out.2.2.1 HJ.out.2.2.2 rfl (by decide) (.slice va2 xs2.length vc2) xs2.length (xs2.flatMap obD) ([]) ([.val r9]) ([]) ([r9]) (by kernel_rfl) HOo.out rfl gB 1 [.int .i64 y.i, .int .i64 y.c, .slice pa y.f.length pc] (obD y) (by kernel_rfl) HBx.out HD.out rfl (by simp [Value.oneCell']) (by omega) (by decide) (by omega) (by omega) (by omega) ?_
                    intro g9 c9 w9 o9 gr9 hq9
                    obtain ⟨hb9, bn9⟩ := Bv.app (v1 := []) (v2 := [r9]) BO.out 0 rfl o9 gr9 (fun q hq => (hq9 q hq).1)
                    replace HZ := hide (HZ.out.grown gr9 (by omega) (fun q hq => by have := hq9 q hq; omega))
                    have HB9 := hide hb9
                    have BN := hide bn9
                    have hz9 := gr9.size
                    clear o9 gr9 hq9 hb9 bn9 BO HOo HBx HD HW
                    refine hK.out _ _ (HCL.out _ HZ.out) (fun hHeld => ?_)
                    clear hK K
                    simp only [Act.put, List.setIfInBounds_toArray]
                    refine wpAnyH_take (i := 10) (v := ?_) rfl (by kernel_rfl) (by kernel_rfl) (by kernel_rfl) (fun _ _ _ h => h) (Or.inl ⟨by rfl, ?_⟩) (by assumption) ?_
                    rotate_left
                    · intro w' hSw
                      try dsimp only at hSw
                      go_simp; try rfl
                    simp only [List.getElem_toArray, List.getElem_cons_succ, List.getElem_cons_zero, Act.put, List.setIfInBounds_toArray, List.set_cons_zero, List.set_cons_succ]
                    refine wpAnyH_ready (rs := [11]) (by kernel_rfl) (by simp) (AllReadyH.cons rfl (fun K hK => ?_) AllReadyH.nil)
                    have k9 := (box_of HB9.out).1 0 _ rfl
                    have z9 := (box_of HB9.out).2 0
                    refine step_store1 (by kernel_rfl) (by kernel_rfl) 31 _ _ rfl (g5) 0 (.slice (some ⟨g9, 0, none⟩) (xs2.length + 1) c9) (by kernel_rfl) (by kernel_rfl) rfl _ k9 z9 (by kernel_rfl) ?_
                    replace HZ := hide (HZ.out.setCell (p := ⟨g5, 0, none⟩) (by dsimp only; omega) (.slice (some ⟨g9, 0, none⟩) (xs2.length + 1) c9))
                    clear k9 z9 HB9
                    refine hK.out _ _ (HCL.out _ HZ.out) (fun hHeld => ?_)
                    clear hK K
                    try simp only [Act.put, List.setIfInBounds_toArray, List.set_cons_zero, List.set_cons_succ]
                    generalize w9.setCell ⟨g5, 0, none⟩ (.slice (some ⟨g9, 0, none⟩) (xs2.length + 1) c9) = Y at *
                    refine wpAnyH_done (by kernel_rfl) ?_ _
                    go_wp2
                    refine ⟨⟨j + 1, _, xs2 ++ [y], some ⟨g9, 0, none⟩, c9, by omega, rfl, by go_num, HI2, hide ?_⟩, ?_⟩
                    · have h := BN.out
                      rw [obs_snoc, List.length_append]
                      exact h
                    · simp [intOf]; omega
                  · skip
                    refine step_callW (some 75) (by kernel_rfl) (by kernel_rfl) 22 _ _ rfl #[.agg #[.int .i64 y.i, .int .i64 y.c, .slice fa y.f.length fc]] (by kernel_rfl) (oneS _ y _ (r1.at HW.out) HGy.out.f.1) ?_
                    rintro e Z1 ⟨v1, rfl, o9, b9⟩
                    have hz1 := b9.size
                    obtain ⟨pa, pc, pe, _⟩ := (obD_own o9).shape
                    subst pe
                    unfold obV
                    replace HZ := hide (HZ.out.trans (b9.mono (by omega)))
                    replace HW := hide (HW.out.trans (b9.mono HW.out.size))
                    replace BO := hide (BO.out.call b9)
                    replace HOo := hide (HOo.out.below b9)
                    clear b9
                    have HD := hide o9
                    clear o9
                    refine ⟨_, rfl, ?_⟩
                    refine hK.out _ _ (HCL.out _ HZ.out) (fun hHeld => ?_)
                    clear hK K
                    simp only [Act.put, List.setIfInBounds_toArray, List.set_cons_zero, List.set_cons_succ]
                    refine wpAnyH_ready (rs := [1, 8]) (by kernel_rfl) (by simp) (AllReadyH.cons rfl (fun K hK => ?_) (AllReadyH.cons rfl (fun K hK => ?_) AllReadyH.nil))
                    · skip
                      have e9 := (box_of BO.out.box).1 0 _ rfl
                      refine step_runX (some 69) (by kernel_rfl) (by kernel_rfl) (v := .slice va2 xs2.length vc2) (w' := Z1) (by go_simp; try rfl) ?_
                      clear e9
                      refine hK.out _ _ (HCL.out _ HZ.out) (fun hHeld => ?_)
                      clear hK K
                      simp only [Act.put, List.setIfInBounds_toArray, List.set_cons_zero, List.set_cons_succ]
                      refine wpAnyH_ready (rs := [8]) (by kernel_rfl) (by simp) (AllReadyH.cons rfl (fun K hK => ?_) AllReadyH.nil)
                      refine step_runX (some 76) (by kernel_rfl) (by kernel_rfl) (v := .slice (some ⟨Z1.heap.size, 0, none⟩) 1 1) (w' := Z1.alloc (.cells #[.int .i64 y.i, .int .i64 y.c, .slice pa y.f.length pc] 54)) (by go_simp; try rfl) ?_
                      have b9 := (Below.refl Z1.heap.size Z1).alloc (Nat.le_refl _) (.cells #[.int .i64 y.i, .int .i64 y.c, .slice pa y.f.length pc] 54)
                      have HBx := hide (Box.new Z1 #[.int .i64 y.i, .int .i64 y.c, .slice pa y.f.length pc] 54)
                      have hz2 := b9.size
                      replace HZ := hide (HZ.out.trans (b9.mono (by omega)))
                      replace HW := hide (HW.out.trans (b9.mono HW.out.size))
                      replace BO := hide (BO.out.call b9)
                      replace HOo := hide (HOo.out.below b9)
                      replace HD := hide ((HD.out.below b9).up b9.size)
                      clear b9
                      refine hK.out _ _ (HCL.out _ HZ.out) (fun hHeld => ?_)
                      clear hK K
                      simp only [Act.put, List.setIfInBounds_toArray, List.set_cons_zero, List.set_cons_succ]
                      obtain ⟨gB, hgB⟩ : ∃ g, Z1.heap.size = g := ⟨_, rfl⟩
                      rw [hgB] at HBx ⊢
                      clear hgB
                      generalize Z1.alloc (.cells #[.int .i64 y.i, .int .i64 y.c, .slice pa y.f.length pc] 54) = Z2 at *
                      refine wpAnyH_ready (rs := [9]) (by kernel_rfl) (by simp) (AllReadyH.cons rfl (fun K hK => ?_) AllReadyH.nil)
                      refine step_appL (by kernel_rfl) _ _ 31 rfl (g5 + 1) wr2.heap.size Z0.heap.size 54 i1 (.agg #[.int .i64 0, .int .i64 0, .slice none 0 0]) 3 40 Tryz.underlying31 HJ.out.1 HJ.out.2.1 HJ.out.2.2.1 HJ.out.2.2.2 rfl (by decide) (.slice va2 xs2.length vc2) xs2.length (xs2.flatMap obD) ([]) ([.val r9]) ([]) ([r9]) (by kernel_rfl) HOo.out rfl gB 1 [.int .i64 y.i, .int .i64 y.c, .slice pa y.f.length pc] (obD y) (by kernel_rfl) HBx.out HD.out rfl (by simp [Value.oneCell']) (by omega) (by decide) (by omega) (by omega) (by omega) ?_
                      intro g9 c9 w9 o9 gr9 hq9
                      obtain ⟨hb9, bn9⟩ := Bv.app (v1 := []) (v2 := [r9]) BO.out 0 rfl o9 gr9 (fun q hq => (hq9 q hq).1)
                      replace HZ := hide (HZ.out.grown gr9 (by omega) (fun q hq => by have := hq9 q hq; omega))
                      have HB9 := hide hb9
                      have BN := hide bn9
                      have hz9 := gr9.size
                      clear o9 gr9 hq9 hb9 bn9 BO HOo HBx HD HW
                      refine hK.out _ _ (HCL.out _ HZ.out) (fun hHeld => ?_)
                      clear hK K
                      simp only [Act.put, List.setIfInBounds_toArray]
                      refine wpAnyH_take (i := 10) (v := ?_) rfl (by kernel_rfl) (by kernel_rfl) (by kernel_rfl) (fun _ _ _ h => h) (Or.inl ⟨by rfl, ?_⟩) (by assumption) ?_
                      rotate_left
                      · intro w' hSw
                        try dsimp only at hSw
                        go_simp; try rfl
                      simp only [List.getElem_toArray, List.getElem_cons_succ, List.getElem_cons_zero, Act.put, List.setIfInBounds_toArray, List.set_cons_zero, List.set_cons_succ]
                      refine wpAnyH_ready (rs := [11]) (by kernel_rfl) (by simp) (AllReadyH.cons rfl (fun K hK => ?_) AllReadyH.nil)
                      have k9 := (box_of HB9.out).1 0 _ rfl
                      have z9 := (box_of HB9.out).2 0
                      refine step_store1 (by kernel_rfl) (by kernel_rfl) 31 _ _ rfl (g5) 0 (.slice (some ⟨g9, 0, none⟩) (xs2.length + 1) c9) (by kernel_rfl) (by kernel_rfl) rfl _ k9 z9 (by kernel_rfl) ?_
                      replace HZ := hide (HZ.out.setCell (p := ⟨g5, 0, none⟩) (by dsimp only; omega) (.slice (some ⟨g9, 0, none⟩) (xs2.length + 1) c9))
                      clear k9 z9 HB9
                      refine hK.out _ _ (HCL.out _ HZ.out) (fun hHeld => ?_)
                      clear hK K
                      try simp only [Act.put, List.setIfInBounds_toArray, List.set_cons_zero, List.set_cons_succ]
                      generalize w9.setCell ⟨g5, 0, none⟩ (.slice (some ⟨g9, 0, none⟩) (xs2.length + 1) c9) = Y at *
                      refine wpAnyH_done (by kernel_rfl) ?_ _
                      go_wp2
                      refine ⟨⟨j + 1, _, xs2 ++ [y], some ⟨g9, 0, none⟩, c9, by omega, rfl, by go_num, HI2, hide ?_⟩, ?_⟩
                      · have h := BN.out
                        rw [obs_snoc, List.length_append]
                        exact h
                      · simp [intOf]; omega
                    · skip
                      refine step_runX (some 76) (by kernel_rfl) (by kernel_rfl) (v := .slice (some ⟨Z1.heap.size, 0, none⟩) 1 1) (w' := Z1.alloc (.cells #[.int .i64 y.i, .int .i64 y.c, .slice pa y.f.length pc] 54)) (by go_simp; try rfl) ?_
                      have b9 := (Below.refl Z1.heap.size Z1).alloc (Nat.le_refl _) (.cells #[.int .i64 y.i, .int .i64 y.c, .slice pa y.f.length pc] 54)
                      have HBx := hide (Box.new Z1 #[.int .i64 y.i, .int .i64 y.c, .slice pa y.f.length pc] 54)
                      have hz2 := b9.size
                      replace HZ := hide (HZ.out.trans (b9.mono (by omega)))
                      replace HW := hide (HW.out.trans (b9.mono HW.out.size))
                      replace BO := hide (BO.out.call b9)
                      replace HOo := hide (HOo.out.below b9)
                      replace HD := hide ((HD.out.below b9).up b9.size)
                      clear b9
                      refine hK.out _ _ (HCL.out _ HZ.out) (fun hHeld => ?_)
                      clear hK K
                      simp only [Act.put, List.setIfInBounds_toArray, List.set_cons_zero, List.set_cons_succ]
                      obtain ⟨gB, hgB⟩ : ∃ g, Z1.heap.size = g := ⟨_, rfl⟩
                      rw [hgB] at HBx ⊢
                      clear hgB
                      generalize Z1.alloc (.cells #[.int .i64 y.i, .int .i64 y.c, .slice pa y.f.length pc] 54) = Z2 at *
                      refine wpAnyH_ready (rs := [1]) (by kernel_rfl) (by simp) (AllReadyH.cons rfl (fun K hK => ?_) AllReadyH.nil)
                      have e9 := (box_of BO.out.box).1 0 _ rfl
                      refine step_runX (some 69) (by kernel_rfl) (by kernel_rfl) (v := .slice va2 xs2.length vc2) (w' := Z2) (by go_simp; try rfl) ?_
                      clear e9
                      refine hK.out _ _ (HCL.out _ HZ.out) (fun hHeld => ?_)
                      clear hK K
                      simp only [Act.put, List.setIfInBounds_toArray, List.set_cons_zero, List.set_cons_succ]
                      refine wpAnyH_ready (rs := [9]) (by kernel_rfl) (by simp) (AllReadyH.cons rfl (fun K hK => ?_) AllReadyH.nil)
                      refine step_appL (by kernel_rfl) _ _ 31 rfl (g5 + 1) wr2.heap.size Z0.heap.size 54 i1 (.agg #[.int .i64 0, .int .i64 0, .slice none 0 0]) 3 40 Tryz.underlying31 HJ.out.1 HJ.out.2.1 HJ.out.2.2.1 HJ.out.2.2.2 rfl (by decide) (.slice va2 xs2.length vc2) xs2.length (xs2.flatMap obD) ([]) ([.val r9]) ([]) ([r9]) (by kernel_rfl) HOo.out rfl gB 1 [.int .i64 y.i, .int .i64 y.c, .slice pa y.f.length pc] (obD y) (by kernel_rfl) HBx.out HD.out rfl (by simp [Value.oneCell']) (by omega) (by decide) (by omega) (by omega) (by omega) ?_
                      intro g9 c9 w9 o9 gr9 hq9
                      obtain ⟨hb9, bn9⟩ := Bv.app (v1 := []) (v2 := [r9]) BO.out 0 rfl o9 gr9 (fun q hq => (hq9 q hq).1)
                      replace HZ := hide (HZ.out.grown gr9 (by omega) (fun q hq => by have := hq9 q hq; omega))
                      have HB9 := hide hb9
                      have BN := hide bn9
                      have hz9 := gr9.size
                      clear o9 gr9 hq9 hb9 bn9 BO HOo HBx HD HW
                      refine hK.out _ _ (HCL.out _ HZ.out) (fun hHeld => ?_)
                      clear hK K
                      simp only [Act.put, List.setIfInBounds_toArray]
                      refine wpAnyH_take (i := 10) (v := ?_) rfl (by kernel_rfl) (by kernel_rfl) (by kernel_rfl) (fun _ _ _ h => h) (Or.inl ⟨by rfl, ?_⟩) (by assumption) ?_
                      rotate_left
                      · intro w' hSw
                        try dsimp only at hSw
                        go_simp; try rfl
                      simp only [List.getElem_toArray, List.getElem_cons_succ, List.getElem_cons_zero, Act.put, List.setIfInBounds_toArray, List.set_cons_zero, List.set_cons_succ]
                      refine wpAnyH_ready (rs := [11]) (by kernel_rfl) (by simp) (AllReadyH.cons rfl (fun K hK => ?_) AllReadyH.nil)
                      have k9 := (box_of HB9.out).1 0 _ rfl
                      have z9 := (box_of HB9.out).2 0
                      refine step_store1 (by kernel_rfl) (by kernel_rfl) 31 _ _ rfl (g5) 0 (.slice (some ⟨g9, 0, none⟩) (xs2.length + 1) c9) (by kernel_rfl) (by kernel_rfl) rfl _ k9 z9 (by kernel_rfl) ?_
                      replace HZ := hide (HZ.out.setCell (p := ⟨g5, 0, none⟩) (by dsimp only; omega) (.slice (some ⟨g9, 0, none⟩) (xs2.length + 1) c9))
                      clear k9 z9 HB9
                      refine hK.out _ _ (HCL.out _ HZ.out) (fun hHeld => ?_)
                      clear hK K
                      try simp only [Act.put, List.setIfInBounds_toArray, List.set_cons_zero, List.set_cons_succ]
                      generalize w9.setCell ⟨g5, 0, none⟩ (.slice (some ⟨g9, 0, none⟩) (xs2.length + 1) c9) = Y at *
                      refine wpAnyH_done (by kernel_rfl) ?_ _
                      go_wp2
                      refine ⟨⟨j + 1, _, xs2 ++ [y], some ⟨g9, 0, none⟩, c9, by omega, rfl, by go_num, HI2, hide ?_⟩, ?_⟩
                      · have h := BN.out
                        rw [obs_snoc, List.length_append]
                        exact h
                      · simp [intOf]; omega
                · skip
                  refine step_callW (some 63) (by kernel_rfl) (by kernel_rfl) 21 _ _ rfl #[.agg #[.slice a0 x.k.length c0], .int .i64 c] (by kernel_rfl) (freshS _ x _ c (HPw.out.at HW.out) HK.out) ?_
                  rintro e Z1 ⟨v1, rfl, o9, b9⟩
                  have hz1 := b9.size
                  rw [HFr.out] at o9
                  obtain ⟨pa, pc, pe⟩ := o9.shape
                  subst pe
                  replace o9 : OwnDL Z1 Z0.heap.size Z1.heap.size (obD ⟨q, c, F⟩) [.int .i64 q, .int .i64 c, .slice pa F.length pc] := OwnDL.val (OwnDL.val (OwnDL.cons (m := Z1.heap.size) o9 (ownDL_nil _ Z1.heap.size _) (by omega) (Nat.le_refl _)))
                  replace HZ := hide (HZ.out.trans (b9.mono (by omega)))
                  replace HW := hide (HW.out.trans (b9.mono HW.out.size))
                  replace BO := hide (BO.out.call b9)
                  replace HOo := hide (HOo.out.below b9)
                  clear b9
                  have HD := hide o9
                  clear o9
                  refine ⟨_, rfl, ?_⟩
                  refine hK.out _ _ (HCL.out _ HZ.out) (fun hHeld => ?_)
                  clear hK K
                  simp only [Act.put, List.setIfInBounds_toArray, List.set_cons_zero, List.set_cons_succ]
                  refine wpAnyH_take (i := 7) (v := ?_) rfl (by kernel_rfl) (by kernel_rfl) (by kernel_rfl) (fun _ _ _ h => h) (Or.inl ⟨by rfl, ?_⟩) (by assumption) ?_
                  rotate_left
                  · intro w' hSw
                    try dsimp only at hSw
                    go_simp; try rfl
                  simp only [List.getElem_toArray, List.getElem_cons_succ, List.getElem_cons_zero, Act.put, List.setIfInBounds_toArray, List.set_cons_zero, List.set_cons_succ]
                  refine wpAnyH_ready (rs := [1, 8]) (by kernel_rfl) (by simp) (AllReadyH.cons rfl (fun K hK => ?_) (AllReadyH.cons rfl (fun K hK => ?_) AllReadyH.nil))
                  · skip
                    have e9 := (box_of BO.out.box).1 0 _ rfl
                    refine step_runX (some 58) (by kernel_rfl) (by kernel_rfl) (v := .slice va xs.length vc) (w' := Z1) (by go_simp; try rfl) ?_
                    clear e9
                    refine hK.out _ _ (HCL.out _ HZ.out) (fun hHeld => ?_)
                    clear hK K
                    simp only [Act.put, List.setIfInBounds_toArray, List.set_cons_zero, List.set_cons_succ]
                    refine wpAnyH_ready (rs := [8]) (by kernel_rfl) (by simp) (AllReadyH.cons rfl (fun K hK => ?_) AllReadyH.nil)
                    refine step_runX (some 65) (by kernel_rfl) (by kernel_rfl) (v := .slice (some ⟨Z1.heap.size, 0, none⟩) 1 1) (w' := Z1.alloc (.cells #[.int .i64 q, .int .i64 c, .slice pa F.length pc] 54)) (by go_simp; try rfl) ?_
                    have b9 := (Below.refl Z1.heap.size Z1).alloc (Nat.le_refl _) (.cells #[.int .i64 q, .int .i64 c, .slice pa F.length pc] 54)
                    have HBx := hide (Box.new Z1 #[.int .i64 q, .int .i64 c, .slice pa F.length pc] 54)
                    have hz2 := b9.size
                    replace HZ := hide (HZ.out.trans (b9.mono (by omega)))
                    replace HW := hide (HW.out.trans (b9.mono HW.out.size))
                    replace BO := hide (BO.out.call b9)
                    replace HOo := hide (HOo.out.below b9)
                    replace HD := hide ((HD.out.below b9).up b9.size)
                    clear b9
                    refine hK.out _ _ (HCL.out _ HZ.out) (fun hHeld => ?_)
                    clear hK K
                    simp only [Act.put, List.setIfInBounds_toArray, List.set_cons_zero, List.set_cons_succ]
                    obtain ⟨gB, hgB⟩ : ∃ g, Z1.heap.size = g := ⟨_, rfl⟩
                    rw [hgB] at HBx ⊢
                    clear hgB
                    generalize Z1.alloc (.cells #[.int .i64 q, .int .i64 c, .slice pa F.length pc] 54) = Z2 at *
                    refine wpAnyH_ready (rs := [9]) (by kernel_rfl) (by simp) (AllReadyH.cons rfl (fun K hK => ?_) AllReadyH.nil)
                    refine step_appL (by kernel_rfl) _ _ 31 rfl (g5 + 1) wr.heap.size Z0.heap.size 54 i1 (.agg #[.int .i64 0, .int .i64 0, .slice none 0 0]) 3 40 Tryz.underlying31 HJ.out.1 HJ.out.2.1 HJ.out.2.2.1 HJ.out.2.2.2 rfl (by decide) (.slice va xs.length vc) xs.length (xs.flatMap obD) ([]) ([.val r9]) ([]) ([r9]) (by kernel_rfl) HOo.out rfl gB 1 [.int .i64 q, .int .i64 c, .slice pa F.length pc] (obD ⟨q, c, F⟩) (by kernel_rfl) HBx.out HD.out rfl (by simp [Value.oneCell']) (by omega) (by decide) (by omega) (by omega) (by omega) ?_
                    intro g9 c9 w9 o9 gr9 hq9
                    obtain ⟨hb9, bn9⟩ := Bv.app (v1 := []) (v2 := [r9]) BO.out 0 rfl o9 gr9 (fun q hq => (hq9 q hq).1)
                    replace HZ := hide (HZ.out.grown gr9 (by omega) (fun q hq => by have := hq9 q hq; omega))
                    have HB9 := hide hb9
                    have BN := hide bn9
                    have hz9 := gr9.size
                    clear o9 gr9 hq9 hb9 bn9 BO HOo HBx HD HW
                    refine hK.out _ _ (HCL.out _ HZ.out) (fun hHeld => ?_)
                    clear hK K
                    simp only [Act.put, List.setIfInBounds_toArray]
                    refine wpAnyH_take (i := 10) (v := ?_) rfl (by kernel_rfl) (by kernel_rfl) (by kernel_rfl) (fun _ _ _ h => h) (Or.inl ⟨by rfl, ?_⟩) (by assumption) ?_
                    rotate_left
                    · intro w' hSw
                      try dsimp only at hSw
                      go_simp; try rfl
                    simp only [List.getElem_toArray, List.getElem_cons_succ, List.getElem_cons_zero, Act.put, List.setIfInBounds_toArray, List.set_cons_zero, List.set_cons_succ]
                    refine wpAnyH_ready (rs := [11]) (by kernel_rfl) (by simp) (AllReadyH.cons rfl (fun K hK => ?_) AllReadyH.nil)
                    have k9 := (box_of HB9.out).1 0 _ rfl
                    have z9 := (box_of HB9.out).2 0
                    refine step_store1 (by kernel_rfl) (by kernel_rfl) 31 _ _ rfl (g5) 0 (.slice (some ⟨g9, 0, none⟩) (xs.length + 1) c9) (by kernel_rfl) (by kernel_rfl) rfl _ k9 z9 (by kernel_rfl) ?_
                    replace HZ := hide (HZ.out.setCell (p := ⟨g5, 0, none⟩) (by dsimp only; omega) (.slice (some ⟨g9, 0, none⟩) (xs.length + 1) c9))
                    clear k9 z9 HB9
                    refine hK.out _ _ (HCL.out _ HZ.out) (fun hHeld => ?_)
                    clear hK K
                    try simp only [Act.put, List.setIfInBounds_toArray, List.set_cons_zero, List.set_cons_succ]
                    generalize w9.setCell ⟨g5, 0, none⟩ (.slice (some ⟨g9, 0, none⟩) (xs.length + 1) c9) = Y at *
                    refine wpAnyH_done (by kernel_rfl) ?_ _
                    have BOr2 : Hid (Bv W2 Y g5 34 [obs (xs ++ [⟨q, c, F⟩]), .val r9] [.slice (some ⟨g9, 0, none⟩) (xs ++ [(⟨q, c, F⟩ : Ob)]).length c9, r9]) := hide (by
                      have h := BN.out
                      rw [obs_snoc, List.length_append]
                      exact h)
                    clear BN HZ HCL hHeld
                    have hxl2 : (xs ++ [(⟨q, c, F⟩ : Ob)]).length ≤ j + 2 := by rw [List.length_append]; simp only [List.length_cons, List.length_nil]; omega
                    rw [List.length_append] at BOr2
                    obtain ⟨xs2, hx2⟩ : ∃ z, xs ++ [(⟨q, c, F⟩ : Ob)] = z := ⟨_, rfl⟩
                    have hx3 : xs.length + [(⟨q, c, F⟩ : Ob)].length = xs2.length := by rw [← hx2, List.length_append]
                    have hx4 : xs.length + 1 = xs2.length := hx3
                    rw [hx2] at BOr2 HI2 hxl2
                    rw [hx3] at BOr2
                    rw [hx4]
                    clear hx2 hx3 hx4
                    obtain ⟨va2, hva2⟩ : ∃ z, (some ⟨g9, 0, none⟩ : Option Addr) = z := ⟨_, rfl⟩
                    obtain ⟨vc2, hvc2⟩ : ∃ z, c9 = z := ⟨_, rfl⟩
                    rw [hva2, hvc2] at BOr2
                    rw [hva2, hvc2]
                    clear hva2 hvc2
                    generalize Y = wr2 at *
                    have hgl := BOr2.out.lt
                    have HBr2 := hide (HB9.out.trans (BOr2.out.bel.mono (by omega)))
                    have E1r2 := hide ((HBr2.out.block _ (by omega)).trans E1.out)
                    have d0 := (HBr2.out.cell (p := ⟨b, o + j * 3, none⟩) hbb).trans d0W
                    have d1 := (HBr2.out.cell (p := ⟨b, o + j * 3 + 1, none⟩) hbb).trans d1W
                    have d2 := (HBr2.out.cell (p := ⟨b, o + j * 3 + 2, none⟩) hbb).trans d2W
                    have r1 := HRW.out.at HBr2.out
                    have HCL : Hid (∀ w', Below W.heap.size wr2 w' → w'.cell? ⟨w.heap.size + 1, 0, none⟩ = some (.slice (some ⟨b, o, none⟩) m.o.length c1) ∧ w'.cell? ⟨b, o + j * 3, none⟩ = some (.int .i64 y.i) ∧ w'.cell? ⟨b, o + j * 3 + 1, none⟩ = some (.int .i64 y.c) ∧ w'.cell? ⟨b, o + j * 3 + 2, none⟩ = some (.slice fa y.f.length fc)) := hide (fun w' hb => ⟨(box_of ((hb.block _ (by omega)).trans E1r2.out)).1 0 _ rfl, (hb.cell (p := ⟨b, o + j * 3, none⟩) (by dsimp only; omega)).trans d0, (hb.cell (p := ⟨b, o + j * 3 + 1, none⟩) (by dsimp only; omega)).trans d1, (hb.cell (p := ⟨b, o + j * 3 + 2, none⟩) (by dsimp only; omega)).trans d2⟩)
                    clear d0 d1 d2
                    go_upto_region 11 with fail
                    have HZ : Hid (Below W.heap.size wr2 wr2) := hide (Below.refl _ _)
                    replace HZ := hide HZ.out.drew
                    refine wp_region_held_drew (S := fun w' => w'.cell? ⟨w.heap.size + 1, 0, none⟩ = some (.slice (some ⟨b, o, none⟩) m.o.length c1) ∧ w'.cell? ⟨b, o + j * 3, none⟩ = some (.int .i64 y.i) ∧ w'.cell? ⟨b, o + j * 3 + 1, none⟩ = some (.int .i64 y.c) ∧ w'.cell? ⟨b, o + j * 3 + 2, none⟩ = some (.slice fa y.f.length fc)) (by kernel_rfl) (HCL.out _ HZ.out) (fun hHeld => ?_)
                    have HW := hide (Below.refl wr2.heap.size wr2).drew
                    have hz0 := HW.out.size
                    have BO := hide (BOr2.out.call HW.out)
                    have HOo := hide (BOr2.out.own.below HW.out)
                    generalize wr2.drew = Z0 at *
                    refine wpAnyH_take (i := 0) (v := ?_) rfl (by kernel_rfl) (by kernel_rfl) (by kernel_rfl) (fun _ _ _ h => h) (Or.inl ⟨by rfl, ?_⟩) (by assumption) ?_
                    rotate_left
                    · intro w' hSw
                      try dsimp only at hSw
                      go_simp; try rfl
                    simp only [List.getElem_toArray, List.getElem_cons_zero, Act.put, List.setIfInBounds_toArray, List.set_cons_zero, List.set_cons_succ]
                    refine wpAnyH_take (i := 2) (v := ?_) rfl (by kernel_rfl) (by kernel_rfl) (by kernel_rfl) (fun _ _ _ h => h) (Or.inl ⟨by rfl, ?_⟩) (by assumption) ?_
                    rotate_left
                    · intro w' hSw
                      try dsimp only at hSw
                      go_simp; try rfl
                    simp only [List.getElem_toArray, List.getElem_cons_succ, List.getElem_cons_zero, Act.put, List.setIfInBounds_toArray, List.set_cons_zero, List.set_cons_succ]
                    refine wpAnyH_take (i := 3) (v := ?_) rfl (by kernel_rfl) (by kernel_rfl) (by kernel_rfl) (fun _ _ _ h => h) (Or.inl ⟨by rfl, ?_⟩) (by assumption) ?_
                    rotate_left
                    · intro w' hSw
                      try dsimp only at hSw
                      go_simp; try rfl
                    simp only [List.getElem_toArray, List.getElem_cons_succ, List.getElem_cons_zero, Act.put, List.setIfInBounds_toArray, List.set_cons_zero, List.set_cons_succ]
                    refine wpAnyH_take (i := 4) (v := ?_) rfl (by kernel_rfl) (by kernel_rfl) (by kernel_rfl) (fun _ _ _ h => h) (Or.inl ⟨by rfl, ?_⟩) (by assumption) ?_
                    rotate_left
                    · intro w' hSw
                      try dsimp only at hSw
                      go_simp; try rfl
                    simp only [List.getElem_toArray, List.getElem_cons_succ, List.getElem_cons_zero, Act.put, List.setIfInBounds_toArray, List.set_cons_zero, List.set_cons_succ]
                    refine wpAnyH_take (i := 5) (v := ?_) rfl (by kernel_rfl) (by kernel_rfl) (by kernel_rfl) (fun _ _ _ h => h) (Or.inl ⟨by rfl, ?_⟩) (by assumption) ?_
                    rotate_left
                    · intro w' hSw
                      try dsimp only at hSw
                      go_simp; try rfl
                    simp only [List.getElem_toArray, List.getElem_cons_succ, List.getElem_cons_zero, Act.put, List.setIfInBounds_toArray, List.set_cons_zero, List.set_cons_succ]
                    refine wpAnyH_take (i := 6) (v := ?_) rfl (by kernel_rfl) (by kernel_rfl) (by kernel_rfl) (fun _ _ _ h => h) (Or.inl ⟨by rfl, ?_⟩) (by assumption) ?_
                    rotate_left
                    · intro w' hSw
                      try dsimp only at hSw
                      go_simp; try rfl
                    simp only [List.getElem_toArray, List.getElem_cons_succ, List.getElem_cons_zero, Act.put, List.setIfInBounds_toArray, List.set_cons_zero, List.set_cons_succ]
                    refine wpAnyH_ready (rs := [1, 7]) (by kernel_rfl) (by simp) (AllReadyH.cons rfl (fun K hK => ?_) (AllReadyH.cons rfl (fun K hK => ?_) AllReadyH.nil))
                    · skip
                      have e9 := (box_of BO.out.box).1 0 _ rfl
                      refine step_runX (some 69) (by kernel_rfl) (by kernel_rfl) (v := .slice va2 xs2.length vc2) (w' := Z0) (by go_simp; try rfl) ?_
                      clear e9
                      refine hK.out _ _ (HCL.out _ HZ.out) (fun hHeld => ?_)
                      clear hK K
                      simp only [Act.put, List.setIfInBounds_toArray, List.set_cons_zero, List.set_cons_succ]
                      refine wpAnyH_ready (rs := [7]) (by kernel_rfl) (by simp) (AllReadyH.cons rfl (fun K hK => ?_) AllReadyH.nil)
                      refine step_callW (some 75) (by kernel_rfl) (by kernel_rfl) 22 _ _ rfl #[.agg #[.int .i64 y.i, .int .i64 y.c, .slice fa y.f.length fc]] (by kernel_rfl) (oneS _ y _ (r1.at HW.out) HGy.out.f.1) ?_
                      rintro e Z1 ⟨v1, rfl, o9, b9⟩
                      have hz1 := b9.size
                      obtain ⟨pa, pc, pe, _⟩ := (obD_own o9).shape
                      subst pe
                      unfold obV
                      replace HZ := hide (HZ.out.trans (b9.mono (by omega)))
                      replace HW := hide (HW.out.trans (b9.mono HW.out.size))
                      replace BO := hide (BO.out.call b9)
                      replace HOo := hide (HOo.out.below b9)
                      clear b9
                      have HD := hide o9
                      clear o9
                      refine ⟨_, rfl, ?_⟩
                      refine hK.out _ _ (HCL.out _ HZ.out) (fun hHeld => ?_)
                      clear hK K
                      simp only [Act.put, List.setIfInBounds_toArray, List.set_cons_zero, List.set_cons_succ]
                      refine wpAnyH_ready (rs := [8]) (by kernel_rfl) (by simp) (AllReadyH.cons rfl (fun K hK => ?_) AllReadyH.nil)
                      refine step_runX (some 76) (by kernel_rfl) (by kernel_rfl) (v := .slice (some ⟨Z1.heap.size, 0, none⟩) 1 1) (w' := Z1.alloc (.cells #[.int .i64 y.i, .int .i64 y.c, .slice pa y.f.length pc] 54)) (by go_simp; try rfl) ?_
                      have b9 := (Below.refl Z1.heap.size Z1).alloc (Nat.le_refl _) (.cells #[.int .i64 y.i, .int .i64 y.c, .slice pa y.f.length pc] 54)
                      have HBx := hide (Box.new Z1 #[.int .i64 y.i, .int .i64 y.c, .slice pa y.f.length pc] 54)
                      have hz2 := b9.size
                      replace HZ := hide (HZ.out.trans (b9.mono (by omega)))
                      replace HW := hide (HW.out.trans (b9.mono HW.out.size))
                      replace BO := hide (BO.out.call b9)
                      replace HOo := hide (HOo.out.below b9)
                      replace HD := hide ((HD.out.below b9).up b9.size)
                      clear b9
                      refine hK.out _ _ (HCL.out _ HZ.out) (fun hHeld => ?_)
                      clear hK K
                      simp only [Act.put, List.setIfInBounds_toArray, List.set_cons_zero, List.set_cons_succ]
                      obtain ⟨gB, hgB⟩ : ∃ g, Z1.heap.size = g := ⟨_, rfl⟩
                      rw [hgB] at HBx ⊢
                      clear hgB
                      generalize Z1.alloc (.cells #[.int .i64 y.i, .int .i64 y.c, .slice pa y.f.length pc] 54) = Z2 at *
                      refine wpAnyH_ready (rs := [9]) (by kernel_rfl) (by simp) (AllReadyH.cons rfl (fun K hK => ?_) AllReadyH.nil)
                      refine step_appL (by kernel_rfl) _ _ 31 rfl (g5 + 1) wr2.heap.size Z0.heap.size 54 i1 (.agg #[.int .i64 0, .int .i64 0, .slice none 0 0]) 3 40 Tryz.underlying31 HJ.out.1 HJ.out.2.1 HJ.out.2.2.1 HJ.out.2.2.2 rfl (by decide) (.slice va2 xs2.length vc2) xs2.length (xs2.flatMap obD) ([]) ([.val r9]) ([]) ([r9]) (by kernel_rfl) HOo.out rfl gB 1 [.int .i64 y.i, .int .i64 y.c, .slice pa y.f.length pc] (obD y) (by kernel_rfl) HBx.out HD.out rfl (by simp [Value.oneCell']) (by omega) (by decide) (by omega) (by omega) (by omega) ?_
                      intro g9 c9 w9 o9 gr9 hq9
                      obtain ⟨hb9, bn9⟩ := Bv.app (v1 := []) (v2 := [r9]) BO.out 0 rfl o9 gr9 (fun q hq => (hq9 q hq).1)
                      replace HZ := hide (HZ.out.grown gr9 (by omega) (fun q hq => by have := hq9 q hq; omega))
                      have HB9 := hide hb9
                      have BN := hide bn9
                      have hz9 := gr9.size
                      clear o9 gr9 hq9 hb9 bn9 BO HOo HBx HD HW
                      refine hK.out _ _ (HCL.out _ HZ.out) (fun hHeld => ?_)
                      clear hK K
                      simp only [Act.put, List.setIfInBounds_toArray]
                      refine wpAnyH_take (i := 10) (v := ?_) rfl (by kernel_rfl) (by kernel_rfl) (by kernel_rfl) (fun _ _ _ h => h) (Or.inl ⟨by rfl, ?_⟩) (by assumption) ?_
                      rotate_left
                      · intro w' hSw
                        try dsimp only at hSw
                        go_simp; try rfl
                      simp only [List.getElem_toArray, List.getElem_cons_succ, List.getElem_cons_zero, Act.put, List.setIfInBounds_toArray, List.set_cons_zero, List.set_cons_succ]
                      refine wpAnyH_ready (rs := [11]) (by kernel_rfl) (by simp) (AllReadyH.cons rfl (fun K hK => ?_) AllReadyH.nil)
                      have k9 := (box_of HB9.out).1 0 _ rfl
                      have z9 := (box_of HB9.out).2 0
                      refine step_store1 (by kernel_rfl) (by kernel_rfl) 31 _ _ rfl (g5) 0 (.slice (some ⟨g9, 0, none⟩) (xs2.length + 1) c9) (by kernel_rfl) (by kernel_rfl) rfl _ k9 z9 (by kernel_rfl) ?_
                      replace HZ := hide (HZ.out.setCell (p := ⟨g5, 0, none⟩) (by dsimp only; omega) (.slice (some ⟨g9, 0, none⟩) (xs2.length + 1) c9))
                      clear k9 z9 HB9
                      refine hK.out _ _ (HCL.out _ HZ.out) (fun hHeld => ?_)
                      clear hK K
                      try simp only [Act.put, List.setIfInBounds_toArray, List.set_cons_zero, List.set_cons_succ]
                      generalize w9.setCell ⟨g5, 0, none⟩ (.slice (some ⟨g9, 0, none⟩) (xs2.length + 1) c9) = Y at *
                      refine wpAnyH_done (by kernel_rfl) ?_ _
                      go_wp2
                      refine ⟨⟨j + 1, _, xs2 ++ [y], some ⟨g9, 0, none⟩, c9, by omega, rfl, by go_num, HI2, hide ?_⟩, ?_⟩
                      · have h := BN.out
                        rw [obs_snoc, List.length_append]
                        exact h
                      · simp [intOf]; omega
                    · skip
                      refine step_callW (some 75) (by kernel_rfl) (by kernel_rfl) 22 _ _ rfl #[.agg #[.int .i64 y.i, .int .i64 y.c, .slice fa y.f.length fc]] (by kernel_rfl) (oneS _ y _ (r1.at HW.out) HGy.out.f.1) ?_
                      rintro e Z1 ⟨v1, rfl, o9, b9⟩
                      have hz1 := b9.size
                      obtain ⟨pa, pc, pe, _⟩ := (obD_own o9).shape
                      subst pe
                      unfold obV
                      replace HZ := hide (HZ.out.trans (b9.mono (by omega)))
                      replace HW := hide (HW.out.trans (b9.mono HW.out.size))
                      replace BO := hide (BO.out.call b9)
                      replace HOo := hide (HOo.out.below b9)
                      clear b9
                      have HD := hide o9
                      clear o9
                      refine ⟨_, rfl, ?_⟩
                      refine hK.out _ _ (HCL.out _ HZ.out) (fun hHeld => ?_)
                      clear hK K
                      simp only [Act.put, List.setIfInBounds_toArray, List.set_cons_zero, List.set_cons_succ]
                      refine wpAnyH_ready (rs := [1, 8]) (by kernel_rfl) (by simp) (AllReadyH.cons rfl (fun K hK => ?_) (AllReadyH.cons rfl (fun K hK => ?_) AllReadyH.nil))
                      · skip
                        have e9 := (box_of BO.out.box).1 0 _ rfl
                        refine step_runX (some 69) (by kernel_rfl) (by kernel_rfl) (v := .slice va2 xs2.length vc2) (w' := Z1) (by go_simp; try rfl) ?_
                        clear e9
                        refine hK.out _ _ (HCL.out _ HZ.out) (fun hHeld => ?_)
                        clear hK K
                        simp only [Act.put, List.setIfInBounds_toArray, List.set_cons_zero, List.set_cons_succ]
                        refine wpAnyH_ready (rs := [8]) (by kernel_rfl) (by simp) (AllReadyH.cons rfl (fun K hK => ?_) AllReadyH.nil)
                        refine step_runX (some 76) (by kernel_rfl) (by kernel_rfl) (v := .slice (some ⟨Z1.heap.size, 0, none⟩) 1 1) (w' := Z1.alloc (.cells #[.int .i64 y.i, .int .i64 y.c, .slice pa y.f.length pc] 54)) (by go_simp; try rfl) ?_
                        have b9 := (Below.refl Z1.heap.size Z1).alloc (Nat.le_refl _) (.cells #[.int .i64 y.i, .int .i64 y.c, .slice pa y.f.length pc] 54)
                        have HBx := hide (Box.new Z1 #[.int .i64 y.i, .int .i64 y.c, .slice pa y.f.length pc] 54)
                        have hz2 := b9.size
                        replace HZ := hide (HZ.out.trans (b9.mono (by omega)))
                        replace HW := hide (HW.out.trans (b9.mono HW.out.size))
                        replace BO := hide (BO.out.call b9)
                        replace HOo := hide (HOo.out.below b9)
                        replace HD := hide ((HD.out.below b9).up b9.size)
                        clear b9
                        refine hK.out _ _ (HCL.out _ HZ.out) (fun hHeld => ?_)
                        clear hK K
                        simp only [Act.put, List.setIfInBounds_toArray, List.set_cons_zero, List.set_cons_succ]
                        obtain ⟨gB, hgB⟩ : ∃ g, Z1.heap.size = g := ⟨_, rfl⟩
                        rw [hgB] at HBx ⊢
                        clear hgB
                        generalize Z1.alloc (.cells #[.int .i64 y.i, .int .i64 y.c, .slice pa y.f.length pc] 54) = Z2 at *
                        refine wpAnyH_ready (rs := [9]) (by kernel_rfl) (by simp) (AllReadyH.cons rfl (fun K hK => ?_) AllReadyH.nil)
                        refine step_appL (by kernel_rfl) _ _ 31 rfl (g5 + 1) wr2.heap.size Z0.heap.size 54 i1 (.agg #[.int .i64 0, .int .i64 0, .slice none 0 0]) 3 40 Tryz.underlying31 HJ.out.1 HJ.out.2.1 HJ.out.2.2.1 HJ.out.2.2.2 rfl (by decide) (.slice va2 xs2.length vc2) xs2.length (xs2.flatMap obD) ([]) ([.val r9]) ([]) ([r9]) (by kernel_rfl) HOo.out rfl gB 1 [.int .i64 y.i, .int .i64 y.c, .slice pa y.f.length pc] (obD y) (by kernel_rfl) HBx.out HD.out rfl (by simp [Value.oneCell']) (by omega) (by decide) (by omega) (by omega) (by omega) ?_
                        intro g9 c9 w9 o9 gr9 hq9
                        obtain ⟨hb9, bn9⟩ := Bv.app (v1 := []) (v2 := [r9]) BO.out 0 rfl o9 gr9 (fun q hq => (hq9 q hq).1)
                        replace HZ := hide (HZ.out.grown gr9 (by omega) (fun q hq => by have := hq9 q hq; omega))
                        have HB9 := hide hb9
                        have BN := hide bn9
                        have hz9 := gr9.size
                        clear o9 gr9 hq9 hb9 bn9 BO HOo HBx HD HW
                        refine hK.out _ _ (HCL.out _ HZ.out) (fun hHeld => ?_)
                        clear hK K
                        simp only [Act.put, List.setIfInBounds_toArray]
                        refine wpAnyH_take (i := 10) (v := ?_) rfl (by kernel_rfl) (by kernel_rfl) (by kernel_rfl) (fun _ _ _ h => h) (Or.inl ⟨by rfl, ?_⟩) (by assumption) ?_
                        rotate_left
                        · intro w' hSw
                          try dsimp only at hSw
                          go_simp; try rfl
                        simp only [List.getElem_toArray, List.getElem_cons_succ, List.getElem_cons_zero, Act.put, List.setIfInBounds_toArray, List.set_cons_zero, List.set_cons_succ]
                        refine wpAnyH_ready (rs := [11]) (by kernel_rfl) (by simp) (AllReadyH.cons rfl (fun K hK => ?_) AllReadyH.nil)
                        have k9 := (box_of HB9.out).1 0 _ rfl
                        have z9 := (box_of HB9.out).2 0
                        refine step_store1 (by kernel_rfl) (by kernel_rfl) 31 _ _ rfl (g5) 0 (.slice (some ⟨g9, 0, none⟩) (xs2.length + 1) c9) (by kernel_rfl) (by kernel_rfl) rfl _ k9 z9 (by kernel_rfl) ?_
                        replace HZ := hide (HZ.out.setCell (p := ⟨g5, 0, none⟩) (by dsimp only; omega) (.slice (some ⟨g9, 0, none⟩) (xs2.length + 1) c9))
                        clear k9 z9 HB9
                        refine hK.out _ _ (HCL.out _ HZ.out) (fun hHeld => ?_)
                        clear hK K
                        try simp only [Act.put, List.setIfInBounds_toArray, List.set_cons_zero, List.set_cons_succ]
                        generalize w9.setCell ⟨g5, 0, none⟩ (.slice (some ⟨g9, 0, none⟩) (xs2.length + 1) c9) = Y at *
                        refine wpAnyH_done (by kernel_rfl) ?_ _
                        go_wp2
                        refine ⟨⟨j + 1, _, xs2 ++ [y], some ⟨g9, 0, none⟩, c9, by omega, rfl, by go_num, HI2, hide ?_⟩, ?_⟩
                        · have h := BN.out
                          rw [obs_snoc, List.length_append]
                          exact h
                        · simp [intOf]; omega
                      · skip
                        refine step_runX (some 76) (by kernel_rfl) (by kernel_rfl) (v := .slice (some ⟨Z1.heap.size, 0, none⟩) 1 1) (w' := Z1.alloc (.cells #[.int .i64 y.i, .int .i64 y.c, .slice pa y.f.length pc] 54)) (by go_simp; try rfl) ?_
                        have b9 := (Below.refl Z1.heap.size Z1).alloc (Nat.le_refl _) (.cells #[.int .i64 y.i, .int .i64 y.c, .slice pa y.f.length pc] 54)
                        have HBx := hide (Box.new Z1 #[.int .i64 y.i, .int .i64 y.c, .slice pa y.f.length pc] 54)
                        have hz2 := b9.size
                        replace HZ := hide (HZ.out.trans (b9.mono (by omega)))
                        replace HW := hide (HW.out.trans (b9.mono HW.out.size))
                        replace BO := hide (BO.out.call b9)
                        replace HOo := hide (HOo.out.below b9)
                        replace HD := hide ((HD.out.below b9).up b9.size)
                        clear b9
                        refine hK.out _ _ (HCL.out _ HZ.out) (fun hHeld => ?_)
                        clear hK K
                        simp only [Act.put, List.setIfInBounds_toArray, List.set_cons_zero, List.set_cons_succ]
                        obtain ⟨gB, hgB⟩ : ∃ g, Z1.heap.size = g := ⟨_, rfl⟩
                        rw [hgB] at HBx ⊢
                        clear hgB
                        generalize Z1.alloc (.cells #[.int .i64 y.i, .int .i64 y.c, .slice pa y.f.length pc] 54) = Z2 at *
                        refine wpAnyH_ready (rs := [1]) (by kernel_rfl) (by simp) (AllReadyH.cons rfl (fun K hK => ?_) AllReadyH.nil)
                        have e9 := (box_of BO.out.box).1 0 _ rfl
                        refine step_runX (some 69) (by kernel_rfl) (by kernel_rfl) (v := .slice va2 xs2.length vc2) (w' := Z2) (by go_simp; try rfl) ?_
                        clear e9
                        refine hK.out _ _ (HCL.out _ HZ.out) (fun hHeld => ?_)
                        clear hK K
                        simp only [Act.put, List.setIfInBounds_toArray, List.set_cons_zero, List.set_cons_succ]
                        refine wpAnyH_ready (rs := [9]) (by kernel_rfl) (by simp) (AllReadyH.cons rfl (fun K hK => ?_) AllReadyH.nil)
                        refine step_appL (by kernel_rfl) _ _ 31 rfl (g5 + 1) wr2.heap.size Z0.heap.size 54 i1 (.agg #[.int .i64 0, .int .i64 0, .slice none 0 0]) 3 40 Tryz.underlying31 HJ.out.1 HJ.out.2.1 HJ.out.2.2.1 HJ.out.2.2.2 rfl (by decide) (.slice va2 xs2.length vc2) xs2.length (xs2.flatMap obD) ([]) ([.val r9]) ([]) ([r9]) (by kernel_rfl) HOo.out rfl gB 1 [.int .i64 y.i, .int .i64 y.c, .slice pa y.f.length pc] (obD y) (by kernel_rfl) HBx.out HD.out rfl (by simp [Value.oneCell']) (by omega) (by decide) (by omega) (by omega) (by omega) ?_
                        intro g9 c9 w9 o9 gr9 hq9
                        obtain ⟨hb9, bn9⟩ := Bv.app (v1 := []) (v2 := [r9]) BO.out 0 rfl o9 gr9 (fun q hq => (hq9 q hq).1)
                        replace HZ := hide (HZ.out.grown gr9 (by omega) (fun q hq => by have := hq9 q hq; omega))
                        have HB9 := hide hb9
                        have BN := hide bn9
                        have hz9 := gr9.size
                        clear o9 gr9 hq9 hb9 bn9 BO HOo HBx HD HW
                        refine hK.out _ _ (HCL.out _ HZ.out) (fun hHeld => ?_)
                        clear hK K
                        simp only [Act.put, List.setIfInBounds_toArray]
                        refine wpAnyH_take (i := 10) (v := ?_) rfl (by kernel_rfl) (by kernel_rfl) (by kernel_rfl) (fun _ _ _ h => h) (Or.inl ⟨by rfl, ?_⟩) (by assumption) ?_
                        rotate_left
                        · intro w' hSw
                          try dsimp only at hSw
                          go_simp; try rfl
                        simp only [List.getElem_toArray, List.getElem_cons_succ, List.getElem_cons_zero, Act.put, List.setIfInBounds_toArray, List.set_cons_zero, List.set_cons_succ]
                        refine wpAnyH_ready (rs := [11]) (by kernel_rfl) (by simp) (AllReadyH.cons rfl (fun K hK => ?_) AllReadyH.nil)
                        have k9 := (box_of HB9.out).1 0 _ rfl
                        have z9 := (box_of HB9.out).2 0
                        refine step_store1 (by kernel_rfl) (by kernel_rfl) 31 _ _ rfl (g5) 0 (.slice (some ⟨g9, 0, none⟩) (xs2.length + 1) c9) (by kernel_rfl) (by kernel_rfl) rfl _ k9 z9 (by kernel_rfl) ?_
                        replace HZ := hide (HZ.out.setCell (p := ⟨g5, 0, none⟩) (by dsimp only; omega) (.slice (some ⟨g9, 0, none⟩) (xs2.length + 1) c9))
                        clear k9 z9 HB9
                        refine hK.out _ _ (HCL.out _ HZ.out) (fun hHeld => ?_)
                        clear hK K
                        try simp only [Act.put, List.setIfInBounds_toArray, List.set_cons_zero, List.set_cons_succ]
                        generalize w9.setCell ⟨g5, 0, none⟩ (.slice (some ⟨g9, 0, none⟩) (xs2.length + 1) c9) = Y at *
                        refine wpAnyH_done (by kernel_rfl) ?_ _
                        go_wp2
                        refine ⟨⟨j + 1, _, xs2 ++ [y], some ⟨g9, 0, none⟩, c9, by omega, rfl, by go_num, HI2, hide ?_⟩, ?_⟩
                        · have h := BN.out
                          rw [obs_snoc, List.length_append]
                          exact h
                        · simp [intOf]; omega
                  · skip
                    refine step_runX (some 65) (by kernel_rfl) (by kernel_rfl) (v := .slice (some ⟨Z1.heap.size, 0, none⟩) 1 1) (w' := Z1.alloc (.cells #[.int .i64 q, .int .i64 c, .slice pa F.length pc] 54)) (by go_simp; try rfl) ?_
                    have b9 := (Below.refl Z1.heap.size Z1).alloc (Nat.le_refl _) (.cells #[.int .i64 q, .int .i64 c, .slice pa F.length pc] 54)
                    have HBx := hide (Box.new Z1 #[.int .i64 q, .int .i64 c, .slice pa F.length pc] 54)
                    have hz2 := b9.size
                    replace HZ := hide (HZ.out.trans (b9.mono (by omega)))
                    replace HW := hide (HW.out.trans (b9.mono HW.out.size))
                    replace BO := hide (BO.out.call b9)
                    replace HOo := hide (HOo.out.below b9)
                    replace HD := hide ((HD.out.below b9).up b9.size)
                    clear b9
                    refine hK.out _ _ (HCL.out _ HZ.out) (fun hHeld => ?_)
                    clear hK K
                    simp only [Act.put, List.setIfInBounds_toArray, List.set_cons_zero, List.set_cons_succ]
                    obtain ⟨gB, hgB⟩ : ∃ g, Z1.heap.size = g := ⟨_, rfl⟩
                    rw [hgB] at HBx ⊢
                    clear hgB
                    generalize Z1.alloc (.cells #[.int .i64 q, .int .i64 c, .slice pa F.length pc] 54) = Z2 at *
                    refine wpAnyH_ready (rs := [1]) (by kernel_rfl) (by simp) (AllReadyH.cons rfl (fun K hK => ?_) AllReadyH.nil)
                    have e9 := (box_of BO.out.box).1 0 _ rfl
                    refine step_runX (some 58) (by kernel_rfl) (by kernel_rfl) (v := .slice va xs.length vc) (w' := Z2) (by go_simp; try rfl) ?_
                    clear e9
                    refine hK.out _ _ (HCL.out _ HZ.out) (fun hHeld => ?_)
                    clear hK K
                    simp only [Act.put, List.setIfInBounds_toArray, List.set_cons_zero, List.set_cons_succ]
                    refine wpAnyH_ready (rs := [9]) (by kernel_rfl) (by simp) (AllReadyH.cons rfl (fun K hK => ?_) AllReadyH.nil)
                    refine step_appL (by kernel_rfl) _ _ 31 rfl (g5 + 1) wr.heap.size Z0.heap.size 54 i1 (.agg #[.int .i64 0, .int .i64 0, .slice none 0 0]) 3 40 Tryz.underlying31 HJ.out.1 HJ.out.2.1 HJ.out.2.2.1 HJ.out.2.2.2 rfl (by decide) (.slice va xs.length vc) xs.length (xs.flatMap obD) ([]) ([.val r9]) ([]) ([r9]) (by kernel_rfl) HOo.out rfl gB 1 [.int .i64 q, .int .i64 c, .slice pa F.length pc] (obD ⟨q, c, F⟩) (by kernel_rfl) HBx.out HD.out rfl (by simp [Value.oneCell']) (by omega) (by decide) (by omega) (by omega) (by omega) ?_
                    intro g9 c9 w9 o9 gr9 hq9
                    obtain ⟨hb9, bn9⟩ := Bv.app (v1 := []) (v2 := [r9]) BO.out 0 rfl o9 gr9 (fun q hq => (hq9 q hq).1)
                    replace HZ := hide (HZ.out.grown gr9 (by omega) (fun q hq => by have := hq9 q hq; omega))
                    have HB9 := hide hb9
                    have BN := hide bn9
                    have hz9 := gr9.size
                    clear o9 gr9 hq9 hb9 bn9 BO HOo HBx HD HW
                    refine hK.out _ _ (HCL.out _ HZ.out) (fun hHeld => ?_)
                    clear hK K
                    simp only [Act.put, List.setIfInBounds_toArray]
                    refine wpAnyH_take (i := 10) (v := ?_) rfl (by kernel_rfl) (by kernel_rfl) (by kernel_rfl) (fun _ _ _ h => h) (Or.inl ⟨by rfl, ?_⟩) (by assumption) ?_
                    rotate_left
                    · intro w' hSw
                      try dsimp only at hSw
                      go_simp; try rfl
                    simp only [List.getElem_toArray, List.getElem_cons_succ, List.getElem_cons_zero, Act.put, List.setIfInBounds_toArray, List.set_cons_zero, List.set_cons_succ]
                    refine wpAnyH_ready (rs := [11]) (by kernel_rfl) (by simp) (AllReadyH.cons rfl (fun K hK => ?_) AllReadyH.nil)
                    have k9 := (box_of HB9.out).1 0 _ rfl
                    have z9 := (box_of HB9.out).2 0
                    refine step_store1 (by kernel_rfl) (by kernel_rfl) 31 _ _ rfl (g5) 0 (.slice (some ⟨g9, 0, none⟩) (xs.length + 1) c9) (by kernel_rfl) (by kernel_rfl) rfl _ k9 z9 (by kernel_rfl) ?_
                    replace HZ := hide (HZ.out.setCell (p := ⟨g5, 0, none⟩) (by dsimp only; omega) (.slice (some ⟨g9, 0, none⟩) (xs.length + 1) c9))
                    clear k9 z9 HB9
                    refine hK.out _ _ (HCL.out _ HZ.out) (fun hHeld => ?_)
                    clear hK K
                    try simp only [Act.put, List.setIfInBounds_toArray, List.set_cons_zero, List.set_cons_succ]
                    generalize w9.setCell ⟨g5, 0, none⟩ (.slice (some ⟨g9, 0, none⟩) (xs.length + 1) c9) = Y at *
                    refine wpAnyH_done (by kernel_rfl) ?_ _
                    have BOr2 : Hid (Bv W2 Y g5 34 [obs (xs ++ [⟨q, c, F⟩]), .val r9] [.slice (some ⟨g9, 0, none⟩) (xs ++ [(⟨q, c, F⟩ : Ob)]).length c9, r9]) := hide (by
                      have h := BN.out
                      rw [obs_snoc, List.length_append]
                      exact h)
                    clear BN HZ HCL hHeld
                    have hxl2 : (xs ++ [(⟨q, c, F⟩ : Ob)]).length ≤ j + 2 := by rw [List.length_append]; simp only [List.length_cons, List.length_nil]; omega
                    rw [List.length_append] at BOr2
                    obtain ⟨xs2, hx2⟩ : ∃ z, xs ++ [(⟨q, c, F⟩ : Ob)] = z := ⟨_, rfl⟩
                    have hx3 : xs.length + [(⟨q, c, F⟩ : Ob)].length = xs2.length := by rw [← hx2, List.length_append]
                    have hx4 : xs.length + 1 = xs2.length := hx3
                    rw [hx2] at BOr2 HI2 hxl2
                    rw [hx3] at BOr2
                    rw [hx4]
                    clear hx2 hx3 hx4
                    obtain ⟨va2, hva2⟩ : ∃ z, (some ⟨g9, 0, none⟩ : Option Addr) = z := ⟨_, rfl⟩
                    obtain ⟨vc2, hvc2⟩ : ∃ z, c9 = z := ⟨_, rfl⟩
                    rw [hva2, hvc2] at BOr2
                    rw [hva2, hvc2]
                    clear hva2 hvc2
                    generalize Y = wr2 at *
                    have hgl := BOr2.out.lt
                    have HBr2 := hide (HB9.out.trans (BOr2.out.bel.mono (by omega)))
                    have E1r2 := hide ((HBr2.out.block _ (by omega)).trans E1.out)
                    have d0 := (HBr2.out.cell (p := ⟨b, o + j * 3, none⟩) hbb).trans d0W
                    have d1 := (HBr2.out.cell (p := ⟨b, o + j * 3 + 1, none⟩) hbb).trans d1W
                    have d2 := (HBr2.out.cell (p := ⟨b, o + j * 3 + 2, none⟩) hbb).trans d2W
                    have r1 := HRW.out.at HBr2.out
                    have HCL : Hid (∀ w', Below W.heap.size wr2 w' → w'.cell? ⟨w.heap.size + 1, 0, none⟩ = some (.slice (some ⟨b, o, none⟩) m.o.length c1) ∧ w'.cell? ⟨b, o + j * 3, none⟩ = some (.int .i64 y.i) ∧ w'.cell? ⟨b, o + j * 3 + 1, none⟩ = some (.int .i64 y.c) ∧ w'.cell? ⟨b, o + j * 3 + 2, none⟩ = some (.slice fa y.f.length fc)) := hide (fun w' hb => ⟨(box_of ((hb.block _ (by omega)).trans E1r2.out)).1 0 _ rfl, (hb.cell (p := ⟨b, o + j * 3, none⟩) (by dsimp only; omega)).trans d0, (hb.cell (p := ⟨b, o + j * 3 + 1, none⟩) (by dsimp only; omega)).trans d1, (hb.cell (p := ⟨b, o + j * 3 + 2, none⟩) (by dsimp only; omega)).trans d2⟩)
                    clear d0 d1 d2
                    go_upto_region 11 with fail
                    have HZ : Hid (Below W.heap.size wr2 wr2) := hide (Below.refl _ _)
                    replace HZ := hide HZ.out.drew
                    refine wp_region_held_drew (S := fun w' => w'.cell? ⟨w.heap.size + 1, 0, none⟩ = some (.slice (some ⟨b, o, none⟩) m.o.length c1) ∧ w'.cell? ⟨b, o + j * 3, none⟩ = some (.int .i64 y.i) ∧ w'.cell? ⟨b, o + j * 3 + 1, none⟩ = some (.int .i64 y.c) ∧ w'.cell? ⟨b, o + j * 3 + 2, none⟩ = some (.slice fa y.f.length fc)) (by kernel_rfl) (HCL.out _ HZ.out) (fun hHeld => ?_)
                    have HW := hide (Below.refl wr2.heap.size wr2).drew
                    have hz0 := HW.out.size
                    have BO := hide (BOr2.out.call HW.out)
                    have HOo := hide (BOr2.out.own.below HW.out)
                    generalize wr2.drew = Z0 at *
                    refine wpAnyH_take (i := 0) (v := ?_) rfl (by kernel_rfl) (by kernel_rfl) (by kernel_rfl) (fun _ _ _ h => h) (Or.inl ⟨by rfl, ?_⟩) (by assumption) ?_
                    rotate_left
                    · intro w' hSw
                      try dsimp only at hSw
                      go_simp; try rfl
                    simp only [List.getElem_toArray, List.getElem_cons_zero, Act.put, List.setIfInBounds_toArray, List.set_cons_zero, List.set_cons_succ]
                    refine wpAnyH_take (i := 2) (v := ?_) rfl (by kernel_rfl) (by kernel_rfl) (by kernel_rfl) (fun _ _ _ h => h) (Or.inl ⟨by rfl, ?_⟩) (by assumption) ?_
                    rotate_left
                    · intro w' hSw
                      try dsimp only at hSw
                      go_simp; try rfl
                    simp only [List.getElem_toArray, List.getElem_cons_succ, List.getElem_cons_zero, Act.put, List.setIfInBounds_toArray, List.set_cons_zero, List.set_cons_succ]
                    refine wpAnyH_take (i := 3) (v := ?_) rfl (by kernel_rfl) (by kernel_rfl) (by kernel_rfl) (fun _ _ _ h => h) (Or.inl ⟨by rfl, ?_⟩) (by assumption) ?_
                    rotate_left
                    · intro w' hSw
                      try dsimp only at hSw
                      go_simp; try rfl
                    simp only [List.getElem_toArray, List.getElem_cons_succ, List.getElem_cons_zero, Act.put, List.setIfInBounds_toArray, List.set_cons_zero, List.set_cons_succ]
                    refine wpAnyH_take (i := 4) (v := ?_) rfl (by kernel_rfl) (by kernel_rfl) (by kernel_rfl) (fun _ _ _ h => h) (Or.inl ⟨by rfl, ?_⟩) (by assumption) ?_
                    rotate_left
                    · intro w' hSw
                      try dsimp only at hSw
                      go_simp; try rfl
                    simp only [List.getElem_toArray, List.getElem_cons_succ, List.getElem_cons_zero, Act.put, List.setIfInBounds_toArray, List.set_cons_zero, List.set_cons_succ]
                    refine wpAnyH_take (i := 5) (v := ?_) rfl (by kernel_rfl) (by kernel_rfl) (by kernel_rfl) (fun _ _ _ h => h) (Or.inl ⟨by rfl, ?_⟩) (by assumption) ?_
                    rotate_left
                    · intro w' hSw
                      try dsimp only at hSw
                      go_simp; try rfl
                    simp only [List.getElem_toArray, List.getElem_cons_succ, List.getElem_cons_zero, Act.put, List.setIfInBounds_toArray, List.set_cons_zero, List.set_cons_succ]
                    refine wpAnyH_take (i := 6) (v := ?_) rfl (by kernel_rfl) (by kernel_rfl) (by kernel_rfl) (fun _ _ _ h => h) (Or.inl ⟨by rfl, ?_⟩) (by assumption) ?_
                    rotate_left
                    · intro w' hSw
                      try dsimp only at hSw
                      go_simp; try rfl
                    simp only [List.getElem_toArray, List.getElem_cons_succ, List.getElem_cons_zero, Act.put, List.setIfInBounds_toArray, List.set_cons_zero, List.set_cons_succ]
                    refine wpAnyH_ready (rs := [1, 7]) (by kernel_rfl) (by simp) (AllReadyH.cons rfl (fun K hK => ?_) (AllReadyH.cons rfl (fun K hK => ?_) AllReadyH.nil))
                    · skip
                      have e9 := (box_of BO.out.box).1 0 _ rfl
                      refine step_runX (some 69) (by kernel_rfl) (by kernel_rfl) (v := .slice va2 xs2.length vc2) (w' := Z0) (by go_simp; try rfl) ?_
                      clear e9
                      refine hK.out _ _ (HCL.out _ HZ.out) (fun hHeld => ?_)
                      clear hK K
                      simp only [Act.put, List.setIfInBounds_toArray, List.set_cons_zero, List.set_cons_succ]
                      refine wpAnyH_ready (rs := [7]) (by kernel_rfl) (by simp) (AllReadyH.cons rfl (fun K hK => ?_) AllReadyH.nil)
                      refine step_callW (some 75) (by kernel_rfl) (by kernel_rfl) 22 _ _ rfl #[.agg #[.int .i64 y.i, .int .i64 y.c, .slice fa y.f.length fc]] (by kernel_rfl) (oneS _ y _ (r1.at HW.out) HGy.out.f.1) ?_
                      rintro e Z1 ⟨v1, rfl, o9, b9⟩
                      have hz1 := b9.size
                      obtain ⟨pa, pc, pe, _⟩ := (obD_own o9).shape
                      subst pe
                      unfold obV
                      replace HZ := hide (HZ.out.trans (b9.mono (by omega)))
                      replace HW := hide (HW.out.trans (b9.mono HW.out.size))
                      replace BO := hide (BO.out.call b9)
                      replace HOo := hide (HOo.out.below b9)
                      clear b9
                      have HD := hide o9
                      clear o9
                      refine ⟨_, rfl, ?_⟩
                      refine hK.out _ _ (HCL.out _ HZ.out) (fun hHeld => ?_)
                      clear hK K
                      simp only [Act.put, List.setIfInBounds_toArray, List.set_cons_zero, List.set_cons_succ]
                      refine wpAnyH_ready (rs := [8]) (by kernel_rfl) (by simp) (AllReadyH.cons rfl (fun K hK => ?_) AllReadyH.nil)
                      refine step_runX (some 76) (by kernel_rfl) (by kernel_rfl) (v := .slice (some ⟨Z1.heap.size, 0, none⟩) 1 1) (w' := Z1.alloc (.cells #[.int .i64 y.i, .int .i64 y.c, .slice pa y.f.length pc] 54)) (by go_simp; try rfl) ?_
                      have b9 := (Below.refl Z1.heap.size Z1).alloc (Nat.le_refl _) (.cells #[.int .i64 y.i, .int .i64 y.c, .slice pa y.f.length pc] 54)
                      have HBx := hide (Box.new Z1 #[.int .i64 y.i, .int .i64 y.c, .slice pa y.f.length pc] 54)
                      have hz2 := b9.size
                      replace HZ := hide (HZ.out.trans (b9.mono (by omega)))
                      replace HW := hide (HW.out.trans (b9.mono HW.out.size))
                      replace BO := hide (BO.out.call b9)
                      replace HOo := hide (HOo.out.below b9)
                      replace HD := hide ((HD.out.below b9).up b9.size)
                      clear b9
                      refine hK.out _ _ (HCL.out _ HZ.out) (fun hHeld => ?_)
                      clear hK K
                      simp only [Act.put, List.setIfInBounds_toArray, List.set_cons_zero, List.set_cons_succ]
                      obtain ⟨gB, hgB⟩ : ∃ g, Z1.heap.size = g := ⟨_, rfl⟩
                      rw [hgB] at HBx ⊢
                      clear hgB
                      generalize Z1.alloc (.cells #[.int .i64 y.i, .int .i64 y.c, .slice pa y.f.length pc] 54) = Z2 at *
                      refine wpAnyH_ready (rs := [9]) (by kernel_rfl) (by simp) (AllReadyH.cons rfl (fun K hK => ?_) AllReadyH.nil)
                      refine step_appL (by kernel_rfl) _ _ 31 rfl (g5 + 1) wr2.heap.size Z0.heap.size 54 i1 (.agg #[.int .i64 0, .int .i64 0, .slice none 0 0]) 3 40 Tryz.underlying31 HJ.out.1 HJ.out.2.1 HJ.out.2.2.1 HJ.out.2.2.2 rfl (by decide) (.slice va2 xs2.length vc2) xs2.length (xs2.flatMap obD) ([]) ([.val r9]) ([]) ([r9]) (by kernel_rfl) HOo.out rfl gB 1 [.int .i64 y.i, .int .i64 y.c, .slice pa y.f.length pc] (obD y) (by kernel_rfl) HBx.out HD.out rfl (by simp [Value.oneCell']) (by omega) (by decide) (by omega) (by omega) (by omega) ?_
                      intro g9 c9 w9 o9 gr9 hq9
                      obtain ⟨hb9, bn9⟩ := Bv.app (v1 := []) (v2 := [r9]) BO.out 0 rfl o9 gr9 (fun q hq => (hq9 q hq).1)
                      replace HZ := hide (HZ.out.grown gr9 (by omega) (fun q hq => by have := hq9 q hq; omega))
                      have HB9 := hide hb9
                      have BN := hide bn9
                      have hz9 := gr9.size
                      clear o9 gr9 hq9 hb9 bn9 BO HOo HBx HD HW
                      refine hK.out _ _ (HCL.out _ HZ.out) (fun hHeld => ?_)
                      clear hK K
                      simp only [Act.put, List.setIfInBounds_toArray]
                      refine wpAnyH_take (i := 10) (v := ?_) rfl (by kernel_rfl) (by kernel_rfl) (by kernel_rfl) (fun _ _ _ h => h) (Or.inl ⟨by rfl, ?_⟩) (by assumption) ?_
                      rotate_left
                      · intro w' hSw
                        try dsimp only at hSw
                        go_simp; try rfl
                      simp only [List.getElem_toArray, List.getElem_cons_succ, List.getElem_cons_zero, Act.put, List.setIfInBounds_toArray, List.set_cons_zero, List.set_cons_succ]
                      refine wpAnyH_ready (rs := [11]) (by kernel_rfl) (by simp) (AllReadyH.cons rfl (fun K hK => ?_) AllReadyH.nil)
                      have k9 := (box_of HB9.out).1 0 _ rfl
                      have z9 := (box_of HB9.out).2 0
                      refine step_store1 (by kernel_rfl) (by kernel_rfl) 31 _ _ rfl (g5) 0 (.slice (some ⟨g9, 0, none⟩) (xs2.length + 1) c9) (by kernel_rfl) (by kernel_rfl) rfl _ k9 z9 (by kernel_rfl) ?_
                      replace HZ := hide (HZ.out.setCell (p := ⟨g5, 0, none⟩) (by dsimp only; omega) (.slice (some ⟨g9, 0, none⟩) (xs2.length + 1) c9))
                      clear k9 z9 HB9
                      refine hK.out _ _ (HCL.out _ HZ.out) (fun hHeld => ?_)
                      clear hK K
                      try simp only [Act.put, List.setIfInBounds_toArray, List.set_cons_zero, List.set_cons_succ]
                      generalize w9.setCell ⟨g5, 0, none⟩ (.slice (some ⟨g9, 0, none⟩) (xs2.length + 1) c9) = Y at *
                      refine wpAnyH_done (by kernel_rfl) ?_ _
                      go_wp2
                      refine ⟨⟨j + 1, _, xs2 ++ [y], some ⟨g9, 0, none⟩, c9, by omega, rfl, by go_num, HI2, hide ?_⟩, ?_⟩
                      · have h := BN.out
                        rw [obs_snoc, List.length_append]
                        exact h
                      · simp [intOf]; omega
                    · skip
                      refine step_callW (some 75) (by kernel_rfl) (by kernel_rfl) 22 _ _ rfl #[.agg #[.int .i64 y.i, .int .i64 y.c, .slice fa y.f.length fc]] (by kernel_rfl) (oneS _ y _ (r1.at HW.out) HGy.out.f.1) ?_
                      rintro e Z1 ⟨v1, rfl, o9, b9⟩
                      have hz1 := b9.size
                      obtain ⟨pa, pc, pe, _⟩ := (obD_own o9).shape
                      subst pe
                      unfold obV
                      replace HZ := hide (HZ.out.trans (b9.mono (by omega)))
                      replace HW := hide (HW.out.trans (b9.mono HW.out.size))
                      replace BO := hide (BO.out.call b9)
                      replace HOo := hide (HOo.out.below b9)
                      clear b9
                      have HD := hide o9
                      clear o9
                      refine ⟨_, rfl, ?_⟩
                      refine hK.out _ _ (HCL.out _ HZ.out) (fun hHeld => ?_)
                      clear hK K
                      simp only [Act.put, List.setIfInBounds_toArray, List.set_cons_zero, List.set_cons_succ]
                      refine wpAnyH_ready (rs := [1, 8]) (by kernel_rfl) (by simp) (AllReadyH.cons rfl (fun K hK => ?_) (AllReadyH.cons rfl (fun K hK => ?_) AllReadyH.nil))
                      · skip
                        have e9 := (box_of BO.out.box).1 0 _ rfl
                        refine step_runX (some 69) (by kernel_rfl) (by kernel_rfl) (v := .slice va2 xs2.length vc2) (w' := Z1) (by go_simp; try rfl) ?_
                        clear e9
                        refine hK.out _ _ (HCL.out _ HZ.out) (fun hHeld => ?_)
                        clear hK K
                        simp only [Act.put, List.setIfInBounds_toArray, List.set_cons_zero, List.set_cons_succ]
                        refine wpAnyH_ready (rs := [8]) (by kernel_rfl) (by simp) (AllReadyH.cons rfl (fun K hK => ?_) AllReadyH.nil)
                        refine step_runX (some 76) (by kernel_rfl) (by kernel_rfl) (v := .slice (some ⟨Z1.heap.size, 0, none⟩) 1 1) (w' := Z1.alloc (.cells #[.int .i64 y.i, .int .i64 y.c, .slice pa y.f.length pc] 54)) (by go_simp; try rfl) ?_
                        have b9 := (Below.refl Z1.heap.size Z1).alloc (Nat.le_refl _) (.cells #[.int .i64 y.i, .int .i64 y.c, .slice pa y.f.length pc] 54)
                        have HBx := hide (Box.new Z1 #[.int .i64 y.i, .int .i64 y.c, .slice pa y.f.length pc] 54)
                        have hz2 := b9.size
                        replace HZ := hide (HZ.out.trans (b9.mono (by omega)))
                        replace HW := hide (HW.out.trans (b9.mono HW.out.size))
                        replace BO := hide (BO.out.call b9)
                        replace HOo := hide (HOo.out.below b9)
                        replace HD := hide ((HD.out.below b9).up b9.size)
                        clear b9
                        refine hK.out _ _ (HCL.out _ HZ.out) (fun hHeld => ?_)
                        clear hK K
                        simp only [Act.put, List.setIfInBounds_toArray, List.set_cons_zero, List.set_cons_succ]
                        obtain ⟨gB, hgB⟩ : ∃ g, Z1.heap.size = g := ⟨_, rfl⟩
                        rw [hgB] at HBx ⊢
                        clear hgB
                        generalize Z1.alloc (.cells #[.int .i64 y.i, .int .i64 y.c, .slice pa y.f.length pc] 54) = Z2 at *
                        refine wpAnyH_ready (rs := [9]) (by kernel_rfl) (by simp) (AllReadyH.cons rfl (fun K hK => ?_) AllReadyH.nil)
                        refine step_appL (by kernel_rfl) _ _ 31 rfl (g5 + 1) wr2.heap.size Z0.heap.size 54 i1 (.agg #[.int .i64 0, .int .i64 0, .slice none 0 0]) 3 40 Tryz.underlying31 HJ.out.1 HJ.out.2.1 HJ.out.2.2.1 HJ.out.2.2.2 rfl (by decide) (.slice va2 xs2.length vc2) xs2.length (xs2.flatMap obD) ([]) ([.val r9]) ([]) ([r9]) (by kernel_rfl) HOo.out rfl gB 1 [.int .i64 y.i, .int .i64 y.c, .slice pa y.f.length pc] (obD y) (by kernel_rfl) HBx.out HD.out rfl (by simp [Value.oneCell']) (by omega) (by decide) (by omega) (by omega) (by omega) ?_
                        intro g9 c9 w9 o9 gr9 hq9
                        obtain ⟨hb9, bn9⟩ := Bv.app (v1 := []) (v2 := [r9]) BO.out 0 rfl o9 gr9 (fun q hq => (hq9 q hq).1)
                        replace HZ := hide (HZ.out.grown gr9 (by omega) (fun q hq => by have := hq9 q hq; omega))
                        have HB9 := hide hb9
                        have BN := hide bn9
                        have hz9 := gr9.size
                        clear o9 gr9 hq9 hb9 bn9 BO HOo HBx HD HW
                        refine hK.out _ _ (HCL.out _ HZ.out) (fun hHeld => ?_)
                        clear hK K
                        simp only [Act.put, List.setIfInBounds_toArray]
                        refine wpAnyH_take (i := 10) (v := ?_) rfl (by kernel_rfl) (by kernel_rfl) (by kernel_rfl) (fun _ _ _ h => h) (Or.inl ⟨by rfl, ?_⟩) (by assumption) ?_
                        rotate_left
                        · intro w' hSw
                          try dsimp only at hSw
                          go_simp; try rfl
                        simp only [List.getElem_toArray, List.getElem_cons_succ, List.getElem_cons_zero, Act.put, List.setIfInBounds_toArray, List.set_cons_zero, List.set_cons_succ]
                        refine wpAnyH_ready (rs := [11]) (by kernel_rfl) (by simp) (AllReadyH.cons rfl (fun K hK => ?_) AllReadyH.nil)
                        have k9 := (box_of HB9.out).1 0 _ rfl
                        have z9 := (box_of HB9.out).2 0
                        refine step_store1 (by kernel_rfl) (by kernel_rfl) 31 _ _ rfl (g5) 0 (.slice (some ⟨g9, 0, none⟩) (xs2.length + 1) c9) (by kernel_rfl) (by kernel_rfl) rfl _ k9 z9 (by kernel_rfl) ?_
                        replace HZ := hide (HZ.out.setCell (p := ⟨g5, 0, none⟩) (by dsimp only; omega) (.slice (some ⟨g9, 0, none⟩) (xs2.length + 1) c9))
                        clear k9 z9 HB9
                        refine hK.out _ _ (HCL.out _ HZ.out) (fun hHeld => ?_)
                        clear hK K
                        try simp only [Act.put, List.setIfInBounds_toArray, List.set_cons_zero, List.set_cons_succ]
                        generalize w9.setCell ⟨g5, 0, none⟩ (.slice (some ⟨g9, 0, none⟩) (xs2.length + 1) c9) = Y at *
                        refine wpAnyH_done (by kernel_rfl) ?_ _
                        go_wp2
                        refine ⟨⟨j + 1, _, xs2 ++ [y], some ⟨g9, 0, none⟩, c9, by omega, rfl, by go_num, HI2, hide ?_⟩, ?_⟩
                        · have h := BN.out
                          rw [obs_snoc, List.length_append]
                          exact h
                        · simp [intOf]; omega
                      · skip
                        refine step_runX (some 76) (by kernel_rfl) (by kernel_rfl) (v := .slice (some ⟨Z1.heap.size, 0, none⟩) 1 1) (w' := Z1.alloc (.cells #[.int .i64 y.i, .int .i64 y.c, .slice pa y.f.length pc] 54)) (by go_simp; try rfl) ?_
                        have b9 := (Below.refl Z1.heap.size Z1).alloc (Nat.le_refl _) (.cells #[.int .i64 y.i, .int .i64 y.c, .slice pa y.f.length pc] 54)
                        have HBx := hide (Box.new Z1 #[.int .i64 y.i, .int .i64 y.c, .slice pa y.f.length pc] 54)
                        have hz2 := b9.size
                        replace HZ := hide (HZ.out.trans (b9.mono (by omega)))
                        replace HW := hide (HW.out.trans (b9.mono HW.out.size))
                        replace BO := hide (BO.out.call b9)
                        replace HOo := hide (HOo.out.below b9)
                        replace HD := hide ((HD.out.below b9).up b9.size)
                        clear b9
                        refine hK.out _ _ (HCL.out _ HZ.out) (fun hHeld => ?_)
                        clear hK K
                        simp only [Act.put, List.setIfInBounds_toArray, List.set_cons_zero, List.set_cons_succ]
                        obtain ⟨gB, hgB⟩ : ∃ g, Z1.heap.size = g := ⟨_, rfl⟩
                        rw [hgB] at HBx ⊢
                        clear hgB
                        generalize Z1.alloc (.cells #[.int .i64 y.i, .int .i64 y.c, .slice pa y.f.length pc] 54) = Z2 at *
                        refine wpAnyH_ready (rs := [1]) (by kernel_rfl) (by simp) (AllReadyH.cons rfl (fun K hK => ?_) AllReadyH.nil)
                        have e9 := (box_of BO.out.box).1 0 _ rfl
                        refine step_runX (some 69) (by kernel_rfl) (by kernel_rfl) (v := .slice va2 xs2.length vc2) (w' := Z2) (by go_simp; try rfl) ?_
                        clear e9
                        refine hK.out _ _ (HCL.out _ HZ.out) (fun hHeld => ?_)
                        clear hK K
                        simp only [Act.put, List.setIfInBounds_toArray, List.set_cons_zero, List.set_cons_succ]
                        refine wpAnyH_ready (rs := [9]) (by kernel_rfl) (by simp) (AllReadyH.cons rfl (fun K hK => ?_) AllReadyH.nil)
                        refine step_appL (by kernel_rfl) _ _ 31 rfl (g5 + 1) wr2.heap.size Z0.heap.size 54 i1 (.agg #[.int .i64 0, .int .i64 0, .slice none 0 0]) 3 40 Tryz.underlying31 HJ.out.1 HJ.out.2.1 HJ.out.2.2.1 HJ.out.2.2.2 rfl (by decide) (.slice va2 xs2.length vc2) xs2.length (xs2.flatMap obD) ([]) ([.val r9]) ([]) ([r9]) (by kernel_rfl) HOo.out rfl gB 1 [.int .i64 y.i, .int .i64 y.c, .slice pa y.f.length pc] (obD y) (by kernel_rfl) HBx.out HD.out rfl (by simp [Value.oneCell']) (by omega) (by decide) (by omega) (by omega) (by omega) ?_
                        intro g9 c9 w9 o9 gr9 hq9
                        obtain ⟨hb9, bn9⟩ := Bv.app (v1 := []) (v2 := [r9]) BO.out 0 rfl o9 gr9 (fun q hq => (hq9 q hq).1)
                        replace HZ := hide (HZ.out.grown gr9 (by omega) (fun q hq => by have := hq9 q hq; omega))
                        have HB9 := hide hb9
                        have BN := hide bn9
                        have hz9 := gr9.size
                        clear o9 gr9 hq9 hb9 bn9 BO HOo HBx HD HW
                        refine hK.out _ _ (HCL.out _ HZ.out) (fun hHeld => ?_)
                        clear hK K
                        simp only [Act.put, List.setIfInBounds_toArray]
                        refine wpAnyH_take (i := 10) (v := ?_) rfl (by kernel_rfl) (by kernel_rfl) (by kernel_rfl) (fun _ _ _ h => h) (Or.inl ⟨by rfl, ?_⟩) (by assumption) ?_
                        rotate_left
                        · intro w' hSw
                          try dsimp only at hSw
                          go_simp; try rfl
                        simp only [List.getElem_toArray, List.getElem_cons_succ, List.getElem_cons_zero, Act.put, List.setIfInBounds_toArray, List.set_cons_zero, List.set_cons_succ]
                        refine wpAnyH_ready (rs := [11]) (by kernel_rfl) (by simp) (AllReadyH.cons rfl (fun K hK => ?_) AllReadyH.nil)
                        have k9 := (box_of HB9.out).1 0 _ rfl
                        have z9 := (box_of HB9.out).2 0
                        refine step_store1 (by kernel_rfl) (by kernel_rfl) 31 _ _ rfl (g5) 0 (.slice (some ⟨g9, 0, none⟩) (xs2.length + 1) c9) (by kernel_rfl) (by kernel_rfl) rfl _ k9 z9 (by kernel_rfl) ?_
                        replace HZ := hide (HZ.out.setCell (p := ⟨g5, 0, none⟩) (by dsimp only; omega) (.slice (some ⟨g9, 0, none⟩) (xs2.length + 1) c9))
                        clear k9 z9 HB9
                        refine hK.out _ _ (HCL.out _ HZ.out) (fun hHeld => ?_)
                        clear hK K
                        try simp only [Act.put, List.setIfInBounds_toArray, List.set_cons_zero, List.set_cons_succ]
                        generalize w9.setCell ⟨g5, 0, none⟩ (.slice (some ⟨g9, 0, none⟩) (xs2.length + 1) c9) = Y at *
                        refine wpAnyH_done (by kernel_rfl) ?_ _
                        go_wp2
                        refine ⟨⟨j + 1, _, xs2 ++ [y], some ⟨g9, 0, none⟩, c9, by omega, rfl, by go_num, HI2, hide ?_⟩, ?_⟩
                        · have h := BN.out
                          rw [obs_snoc, List.length_append]
                          exact h
                        · simp [intOf]; omega
              · have HI2 := hide (mkI_old (o := ⟨q, c, F⟩) HI9.out hlt HY.out (.inr hgt))
                clear HI9
                have hb1 := HB9.out.trans (BOr.out.bel.mono hz9)
                have q1 := (box_of ((hb1.block _ (by omega)).trans E1.out)).1 0 _ rfl
                have d0 := (hb1.cell (p := ⟨b, o + j * 3, none⟩) hbb).trans d0W
                clear hb1
                go_upto_region 11 with fail
                clear q1 d0
                have hgl := BOr.out.lt
                have HBr := hide (HB9.out.trans (BOr.out.bel.mono (by omega)))
                have E1r := hide ((HBr.out.block _ (by omega)).trans E1.out)
                have d0 := (HBr.out.cell (p := ⟨b, o + j * 3, none⟩) hbb).trans d0W
                have d1 := (HBr.out.cell (p := ⟨b, o + j * 3 + 1, none⟩) hbb).trans d1W
                have d2 := (HBr.out.cell (p := ⟨b, o + j * 3 + 2, none⟩) hbb).trans d2W
                have r1 := HRW.out.at HBr.out
                have HCL : Hid (∀ w', Below W.heap.size wr w' → w'.cell? ⟨w.heap.size + 1, 0, none⟩ = some (.slice (some ⟨b, o, none⟩) m.o.length c1) ∧ w'.cell? ⟨b, o + j * 3, none⟩ = some (.int .i64 y.i) ∧ w'.cell? ⟨b, o + j * 3 + 1, none⟩ = some (.int .i64 y.c) ∧ w'.cell? ⟨b, o + j * 3 + 2, none⟩ = some (.slice fa y.f.length fc)) := hide (fun w' hb => ⟨(box_of ((hb.block _ (by omega)).trans E1r.out)).1 0 _ rfl, (hb.cell (p := ⟨b, o + j * 3, none⟩) (by dsimp only; omega)).trans d0, (hb.cell (p := ⟨b, o + j * 3 + 1, none⟩) (by dsimp only; omega)).trans d1, (hb.cell (p := ⟨b, o + j * 3 + 2, none⟩) (by dsimp only; omega)).trans d2⟩)
                clear d0 d1 d2
                have HZ : Hid (Below W.heap.size wr wr) := hide (Below.refl _ _)
                replace HZ := hide HZ.out.drew
                refine wp_region_held_drew (S := fun w' => w'.cell? ⟨w.heap.size + 1, 0, none⟩ = some (.slice (some ⟨b, o, none⟩) m.o.length c1) ∧ w'.cell? ⟨b, o + j * 3, none⟩ = some (.int .i64 y.i) ∧ w'.cell? ⟨b, o + j * 3 + 1, none⟩ = some (.int .i64 y.c) ∧ w'.cell? ⟨b, o + j * 3 + 2, none⟩ = some (.slice fa y.f.length fc)) (by kernel_rfl) (HCL.out _ HZ.out) (fun hHeld => ?_)
                have HW := hide (Below.refl wr.heap.size wr).drew
                have hz0 := HW.out.size
                have BO := hide (BOr.out.call HW.out)
                have HOo := hide (BOr.out.own.below HW.out)
                generalize wr.drew = Z0 at *
                refine wpAnyH_take (i := 0) (v := ?_) rfl (by kernel_rfl) (by kernel_rfl) (by kernel_rfl) (fun _ _ _ h => h) (Or.inl ⟨by rfl, ?_⟩) (by assumption) ?_
                rotate_left
                · intro w' hSw
                  try dsimp only at hSw
                  go_simp; try rfl
                simp only [List.getElem_toArray, List.getElem_cons_zero, Act.put, List.setIfInBounds_toArray, List.set_cons_zero, List.set_cons_succ]
                refine wpAnyH_take (i := 2) (v := ?_) rfl (by kernel_rfl) (by kernel_rfl) (by kernel_rfl) (fun _ _ _ h => h) (Or.inl ⟨by rfl, ?_⟩) (by assumption) ?_
                rotate_left
                · intro w' hSw
                  try dsimp only at hSw
                  go_simp; try rfl
                simp only [List.getElem_toArray, List.getElem_cons_succ, List.getElem_cons_zero, Act.put, List.setIfInBounds_toArray, List.set_cons_zero, List.set_cons_succ]
                refine wpAnyH_take (i := 3) (v := ?_) rfl (by kernel_rfl) (by kernel_rfl) (by kernel_rfl) (fun _ _ _ h => h) (Or.inl ⟨by rfl, ?_⟩) (by assumption) ?_
                rotate_left
                · intro w' hSw
                  try dsimp only at hSw
                  go_simp; try rfl
                simp only [List.getElem_toArray, List.getElem_cons_succ, List.getElem_cons_zero, Act.put, List.setIfInBounds_toArray, List.set_cons_zero, List.set_cons_succ]
                refine wpAnyH_take (i := 4) (v := ?_) rfl (by kernel_rfl) (by kernel_rfl) (by kernel_rfl) (fun _ _ _ h => h) (Or.inl ⟨by rfl, ?_⟩) (by assumption) ?_
                rotate_left
                · intro w' hSw
                  try dsimp only at hSw
                  go_simp; try rfl
                simp only [List.getElem_toArray, List.getElem_cons_succ, List.getElem_cons_zero, Act.put, List.setIfInBounds_toArray, List.set_cons_zero, List.set_cons_succ]
                refine wpAnyH_take (i := 5) (v := ?_) rfl (by kernel_rfl) (by kernel_rfl) (by kernel_rfl) (fun _ _ _ h => h) (Or.inl ⟨by rfl, ?_⟩) (by assumption) ?_
                rotate_left
                · intro w' hSw
                  try dsimp only at hSw
                  go_simp; try rfl
                simp only [List.getElem_toArray, List.getElem_cons_succ, List.getElem_cons_zero, Act.put, List.setIfInBounds_toArray, List.set_cons_zero, List.set_cons_succ]
                refine wpAnyH_take (i := 6) (v := ?_) rfl (by kernel_rfl) (by kernel_rfl) (by kernel_rfl) (fun _ _ _ h => h) (Or.inl ⟨by rfl, ?_⟩) (by assumption) ?_
                rotate_left
                · intro w' hSw
                  try dsimp only at hSw
                  go_simp; try rfl
                simp only [List.getElem_toArray, List.getElem_cons_succ, List.getElem_cons_zero, Act.put, List.setIfInBounds_toArray, List.set_cons_zero, List.set_cons_succ]
                refine wpAnyH_ready (rs := [1, 7]) (by kernel_rfl) (by simp) (AllReadyH.cons rfl (fun K hK => ?_) (AllReadyH.cons rfl (fun K hK => ?_) AllReadyH.nil))
                · skip
                  have e9 := (box_of BO.out.box).1 0 _ rfl
                  refine step_runX (some 69) (by kernel_rfl) (by kernel_rfl) (v := .slice va xs.length vc) (w' := Z0) (by go_simp; try rfl) ?_
                  clear e9
                  refine hK.out _ _ (HCL.out _ HZ.out) (fun hHeld => ?_)
                  clear hK K
                  simp only [Act.put, List.setIfInBounds_toArray, List.set_cons_zero, List.set_cons_succ]
                  refine wpAnyH_ready (rs := [7]) (by kernel_rfl) (by simp) (AllReadyH.cons rfl (fun K hK => ?_) AllReadyH.nil)
                  refine step_callW (some 75) (by kernel_rfl) (by kernel_rfl) 22 _ _ rfl #[.agg #[.int .i64 y.i, .int .i64 y.c, .slice fa y.f.length fc]] (by kernel_rfl) (oneS _ y _ (r1.at HW.out) HGy.out.f.1) ?_
                  rintro e Z1 ⟨v1, rfl, o9, b9⟩
                  have hz1 := b9.size
                  obtain ⟨pa, pc, pe, _⟩ := (obD_own o9).shape
                  subst pe
                  unfold obV
                  replace HZ := hide (HZ.out.trans (b9.mono (by omega)))
                  replace HW := hide (HW.out.trans (b9.mono HW.out.size))
                  replace BO := hide (BO.out.call b9)
                  replace HOo := hide (HOo.out.below b9)
                  clear b9
                  have HD := hide o9
                  clear o9
                  refine ⟨_, rfl, ?_⟩
                  refine hK.out _ _ (HCL.out _ HZ.out) (fun hHeld => ?_)
                  clear hK K
                  simp only [Act.put, List.setIfInBounds_toArray, List.set_cons_zero, List.set_cons_succ]
                  refine wpAnyH_ready (rs := [8]) (by kernel_rfl) (by simp) (AllReadyH.cons rfl (fun K hK => ?_) AllReadyH.nil)
                  refine step_runX (some 76) (by kernel_rfl) (by kernel_rfl) (v := .slice (some ⟨Z1.heap.size, 0, none⟩) 1 1) (w' := Z1.alloc (.cells #[.int .i64 y.i, .int .i64 y.c, .slice pa y.f.length pc] 54)) (by go_simp; try rfl) ?_
                  have b9 := (Below.refl Z1.heap.size Z1).alloc (Nat.le_refl _) (.cells #[.int .i64 y.i, .int .i64 y.c, .slice pa y.f.length pc] 54)
                  have HBx := hide (Box.new Z1 #[.int .i64 y.i, .int .i64 y.c, .slice pa y.f.length pc] 54)
                  have hz2 := b9.size
                  replace HZ := hide (HZ.out.trans (b9.mono (by omega)))
                  replace HW := hide (HW.out.trans (b9.mono HW.out.size))
                  replace BO := hide (BO.out.call b9)
                  replace HOo := hide (HOo.out.below b9)
                  replace HD := hide ((HD.out.below b9).up b9.size)
                  clear b9
                  refine hK.out _ _ (HCL.out _ HZ.out) (fun hHeld => ?_)
                  clear hK K
                  simp only [Act.put, List.setIfInBounds_toArray, List.set_cons_zero, List.set_cons_succ]
                  obtain ⟨gB, hgB⟩ : ∃ g, Z1.heap.size = g := ⟨_, rfl⟩
                  rw [hgB] at HBx ⊢
                  clear hgB
                  generalize Z1.alloc (.cells #[.int .i64 y.i, .int .i64 y.c, .slice pa y.f.length pc] 54) = Z2 at *
                  refine wpAnyH_ready (rs := [9]) (by kernel_rfl) (by simp) (AllReadyH.cons rfl (fun K hK => ?_) AllReadyH.nil)
                  refine step_appL (by kernel_rfl) _ _ 31 rfl (g5 + 1) wr.heap.size Z0.heap.size 54 i1 (.agg #[.int .i64 0, .int .i64 0, .slice none 0 0]) 3 40 Tryz.underlying31 HJ.out.1 HJ.out.2.1 HJ.out.2.2.1 HJ.out.2.2.2 rfl (by decide) (.slice va xs.length vc) xs.length (xs.flatMap obD) ([]) ([.val r9]) ([]) ([r9]) (by kernel_rfl) HOo.out rfl gB 1 [.int .i64 y.i, .int .i64 y.c, .slice pa y.f.length pc] (obD y) (by kernel_rfl) HBx.out HD.out rfl (by simp [Value.oneCell']) (by omega) (by decide) (by omega) (by omega) (by omega) ?_
                  intro g9 c9 w9 o9 gr9 hq9
                  obtain ⟨hb9, bn9⟩ := Bv.app (v1 := []) (v2 := [r9]) BO.out 0 rfl o9 gr9 (fun q hq => (hq9 q hq).1)
                  replace HZ := hide (HZ.out.grown gr9 (by omega) (fun q hq => by have := hq9 q hq; omega))
                  have HB9 := hide hb9
                  have BN := hide bn9
                  have hz9 := gr9.size
                  clear o9 gr9 hq9 hb9 bn9 BO HOo HBx HD HW
                  refine hK.out _ _ (HCL.out _ HZ.out) (fun hHeld => ?_)
                  clear hK K
                  simp only [Act.put, List.setIfInBounds_toArray]
                  refine wpAnyH_take (i := 10) (v := ?_) rfl (by kernel_rfl) (by kernel_rfl) (by kernel_rfl) (fun _ _ _ h => h) (Or.inl ⟨by rfl, ?_⟩) (by assumption) ?_
                  rotate_left
                  · intro w' hSw
                    try dsimp only at hSw
                    go_simp; try rfl
                  simp only [List.getElem_toArray, List.getElem_cons_succ, List.getElem_cons_zero, Act.put, List.setIfInBounds_toArray, List.set_cons_zero, List.set_cons_succ]
                  refine wpAnyH_ready (rs := [11]) (by kernel_rfl) (by simp) (AllReadyH.cons rfl (fun K hK => ?_) AllReadyH.nil)
                  have k9 := (box_of HB9.out).1 0 _ rfl
                  have z9 := (box_of HB9.out).2 0
                  refine step_store1 (by kernel_rfl) (by kernel_rfl) 31 _ _ rfl (g5) 0 (.slice (some ⟨g9, 0, none⟩) (xs.length + 1) c9) (by kernel_rfl) (by kernel_rfl) rfl _ k9 z9 (by kernel_rfl) ?_
                  replace HZ := hide (HZ.out.setCell (p := ⟨g5, 0, none⟩) (by dsimp only; omega) (.slice (some ⟨g9, 0, none⟩) (xs.length + 1) c9))
                  clear k9 z9 HB9
                  refine hK.out _ _ (HCL.out _ HZ.out) (fun hHeld => ?_)
                  clear hK K
                  try simp only [Act.put, List.setIfInBounds_toArray, List.set_cons_zero, List.set_cons_succ]
                  generalize w9.setCell ⟨g5, 0, none⟩ (.slice (some ⟨g9, 0, none⟩) (xs.length + 1) c9) = Y at *
                  refine wpAnyH_done (by kernel_rfl) ?_ _
                  go_wp2
                  refine ⟨⟨j + 1, _, xs ++ [y], some ⟨g9, 0, none⟩, c9, by omega, rfl, by go_num, HI2, hide ?_⟩, ?_⟩
                  · have h := BN.out
                    rw [obs_snoc, List.length_append]
                    exact h
                  · simp [intOf]; omega
                · skip
                  refine step_callW (some 75) (by kernel_rfl) (by kernel_rfl) 22 _ _ rfl #[.agg #[.int .i64 y.i, .int .i64 y.c, .slice fa y.f.length fc]] (by kernel_rfl) (oneS _ y _ (r1.at HW.out) HGy.out.f.1) ?_
                  rintro e Z1 ⟨v1, rfl, o9, b9⟩
                  have hz1 := b9.size
                  obtain ⟨pa, pc, pe, _⟩ := (obD_own o9).shape
                  subst pe
                  unfold obV
                  replace HZ := hide (HZ.out.trans (b9.mono (by omega)))
                  replace HW := hide (HW.out.trans (b9.mono HW.out.size))
                  replace BO := hide (BO.out.call b9)
                  replace HOo := hide (HOo.out.below b9)
                  clear b9
                  have HD := hide o9
                  clear o9
                  refine ⟨_, rfl, ?_⟩
                  refine hK.out _ _ (HCL.out _ HZ.out) (fun hHeld => ?_)
                  clear hK K
                  simp only [Act.put, List.setIfInBounds_toArray, List.set_cons_zero, List.set_cons_succ]
                  refine wpAnyH_ready (rs := [1, 8]) (by kernel_rfl) (by simp) (AllReadyH.cons rfl (fun K hK => ?_) (AllReadyH.cons rfl (fun K hK => ?_) AllReadyH.nil))
                  · skip
                    have e9 := (box_of BO.out.box).1 0 _ rfl
                    refine step_runX (some 69) (by kernel_rfl) (by kernel_rfl) (v := .slice va xs.length vc) (w' := Z1) (by go_simp; try rfl) ?_
                    clear e9
                    refine hK.out _ _ (HCL.out _ HZ.out) (fun hHeld => ?_)
                    clear hK K
                    simp only [Act.put, List.setIfInBounds_toArray, List.set_cons_zero, List.set_cons_succ]
                    refine wpAnyH_ready (rs := [8]) (by kernel_rfl) (by simp) (AllReadyH.cons rfl (fun K hK => ?_) AllReadyH.nil)
                    refine step_runX (some 76) (by kernel_rfl) (by kernel_rfl) (v := .slice (some ⟨Z1.heap.size, 0, none⟩) 1 1) (w' := Z1.alloc (.cells #[.int .i64 y.i, .int .i64 y.c, .slice pa y.f.length pc] 54)) (by go_simp; try rfl) ?_
                    have b9 := (Below.refl Z1.heap.size Z1).alloc (Nat.le_refl _) (.cells #[.int .i64 y.i, .int .i64 y.c, .slice pa y.f.length pc] 54)
                    have HBx := hide (Box.new Z1 #[.int .i64 y.i, .int .i64 y.c, .slice pa y.f.length pc] 54)
                    have hz2 := b9.size
                    replace HZ := hide (HZ.out.trans (b9.mono (by omega)))
                    replace HW := hide (HW.out.trans (b9.mono HW.out.size))
                    replace BO := hide (BO.out.call b9)
                    replace HOo := hide (HOo.out.below b9)
                    replace HD := hide ((HD.out.below b9).up b9.size)
                    clear b9
                    refine hK.out _ _ (HCL.out _ HZ.out) (fun hHeld => ?_)
                    clear hK K
                    simp only [Act.put, List.setIfInBounds_toArray, List.set_cons_zero, List.set_cons_succ]
                    obtain ⟨gB, hgB⟩ : ∃ g, Z1.heap.size = g := ⟨_, rfl⟩
                    rw [hgB] at HBx ⊢
                    clear hgB
                    generalize Z1.alloc (.cells #[.int .i64 y.i, .int .i64 y.c, .slice pa y.f.length pc] 54) = Z2 at *
                    refine wpAnyH_ready (rs := [9]) (by kernel_rfl) (by simp) (AllReadyH.cons rfl (fun K hK => ?_) AllReadyH.nil)
                    refine step_appL (by kernel_rfl) _ _ 31 rfl (g5 + 1) wr.heap.size Z0.heap.size 54 i1 (.agg #[.int .i64 0, .int .i64 0, .slice none 0 0]) 3 40 Tryz.underlying31 HJ.out.1 HJ.out.2.1 HJ.out.2.2.1 HJ.out.2.2.2 rfl (by decide) (.slice va xs.length vc) xs.length (xs.flatMap obD) ([]) ([.val r9]) ([]) ([r9]) (by kernel_rfl) HOo.out rfl gB 1 [.int .i64 y.i, .int .i64 y.c, .slice pa y.f.length pc] (obD y) (by kernel_rfl) HBx.out HD.out rfl (by simp [Value.oneCell']) (by omega) (by decide) (by omega) (by omega) (by omega) ?_
                    intro g9 c9 w9 o9 gr9 hq9
                    obtain ⟨hb9, bn9⟩ := Bv.app (v1 := []) (v2 := [r9]) BO.out 0 rfl o9 gr9 (fun q hq => (hq9 q hq).1)
                    replace HZ := hide (HZ.out.grown gr9 (by omega) (fun q hq => by have := hq9 q hq; omega))
                    have HB9 := hide hb9
                    have BN := hide bn9
                    have hz9 := gr9.size
                    clear o9 gr9 hq9 hb9 bn9 BO HOo HBx HD HW
                    refine hK.out _ _ (HCL.out _ HZ.out) (fun hHeld => ?_)
                    clear hK K
                    simp only [Act.put, List.setIfInBounds_toArray]
                    refine wpAnyH_take (i := 10) (v := ?_) rfl (by kernel_rfl) (by kernel_rfl) (by kernel_rfl) (fun _ _ _ h => h) (Or.inl ⟨by rfl, ?_⟩) (by assumption) ?_
                    rotate_left
                    · intro w' hSw
                      try dsimp only at hSw
                      go_simp; try rfl
                    simp only [List.getElem_toArray, List.getElem_cons_succ, List.getElem_cons_zero, Act.put, List.setIfInBounds_toArray, List.set_cons_zero, List.set_cons_succ]
                    refine wpAnyH_ready (rs := [11]) (by kernel_rfl) (by simp) (AllReadyH.cons rfl (fun K hK => ?_) AllReadyH.nil)
                    have k9 := (box_of HB9.out).1 0 _ rfl
                    have z9 := (box_of HB9.out).2 0
                    refine step_store1 (by kernel_rfl) (by kernel_rfl) 31 _ _ rfl (g5) 0 (.slice (some ⟨g9, 0, none⟩) (xs.length + 1) c9) (by kernel_rfl) (by kernel_rfl) rfl _ k9 z9 (by kernel_rfl) ?_
                    replace HZ := hide (HZ.out.setCell (p := ⟨g5, 0, none⟩) (by dsimp only; omega) (.slice (some ⟨g9, 0, none⟩) (xs.length + 1) c9))
                    clear k9 z9 HB9
                    refine hK.out _ _ (HCL.out _ HZ.out) (fun hHeld => ?_)
                    clear hK K
                    try simp only [Act.put, List.setIfInBounds_toArray, List.set_cons_zero, List.set_cons_succ]
                    generalize w9.setCell ⟨g5, 0, none⟩ (.slice (some ⟨g9, 0, none⟩) (xs.length + 1) c9) = Y at *
                    refine wpAnyH_done (by kernel_rfl) ?_ _
                    go_wp2
                    refine ⟨⟨j + 1, _, xs ++ [y], some ⟨g9, 0, none⟩, c9, by omega, rfl, by go_num, HI2, hide ?_⟩, ?_⟩
                    · have h := BN.out
                      rw [obs_snoc, List.length_append]
                      exact h
                    · simp [intOf]; omega
                  · skip
                    refine step_runX (some 76) (by kernel_rfl) (by kernel_rfl) (v := .slice (some ⟨Z1.heap.size, 0, none⟩) 1 1) (w' := Z1.alloc (.cells #[.int .i64 y.i, .int .i64 y.c, .slice pa y.f.length pc] 54)) (by go_simp; try rfl) ?_
                    have b9 := (Below.refl Z1.heap.size Z1).alloc (Nat.le_refl _) (.cells #[.int .i64 y.i, .int .i64 y.c, .slice pa y.f.length pc] 54)
                    have HBx := hide (Box.new Z1 #[.int .i64 y.i, .int .i64 y.c, .slice pa y.f.length pc] 54)
                    have hz2 := b9.size
                    replace HZ := hide (HZ.out.trans (b9.mono (by omega)))
                    replace HW := hide (HW.out.trans (b9.mono HW.out.size))
                    replace BO := hide (BO.out.call b9)
                    replace HOo := hide (HOo.out.below b9)
                    replace HD := hide ((HD.out.below b9).up b9.size)
                    clear b9
                    refine hK.out _ _ (HCL.out _ HZ.out) (fun hHeld => ?_)
                    clear hK K
                    simp only [Act.put, List.setIfInBounds_toArray, List.set_cons_zero, List.set_cons_succ]
                    obtain ⟨gB, hgB⟩ : ∃ g, Z1.heap.size = g := ⟨_, rfl⟩
                    rw [hgB] at HBx ⊢
                    clear hgB
                    generalize Z1.alloc (.cells #[.int .i64 y.i, .int .i64 y.c, .slice pa y.f.length pc] 54) = Z2 at *
                    refine wpAnyH_ready (rs := [1]) (by kernel_rfl) (by simp) (AllReadyH.cons rfl (fun K hK => ?_) AllReadyH.nil)
                    have e9 := (box_of BO.out.box).1 0 _ rfl
                    refine step_runX (some 69) (by kernel_rfl) (by kernel_rfl) (v := .slice va xs.length vc) (w' := Z2) (by go_simp; try rfl) ?_
                    clear e9
                    refine hK.out _ _ (HCL.out _ HZ.out) (fun hHeld => ?_)
                    clear hK K
                    simp only [Act.put, List.setIfInBounds_toArray, List.set_cons_zero, List.set_cons_succ]
                    refine wpAnyH_ready (rs := [9]) (by kernel_rfl) (by simp) (AllReadyH.cons rfl (fun K hK => ?_) AllReadyH.nil)
                    refine step_appL (by kernel_rfl) _ _ 31 rfl (g5 + 1) wr.heap.size Z0.heap.size 54 i1 (.agg #[.int .i64 0, .int .i64 0, .slice none 0 0]) 3 40 Tryz.underlying31 HJ.out.1 HJ.out.2.1 HJ.out.2.2.1 HJ.out.2.2.2 rfl (by decide) (.slice va xs.length vc) xs.length (xs.flatMap obD) ([]) ([.val r9]) ([]) ([r9]) (by kernel_rfl) HOo.out rfl gB 1 [.int .i64 y.i, .int .i64 y.c, .slice pa y.f.length pc] (obD y) (by kernel_rfl) HBx.out HD.out rfl (by simp [Value.oneCell']) (by omega) (by decide) (by omega) (by omega) (by omega) ?_
                    intro g9 c9 w9 o9 gr9 hq9
                    obtain ⟨hb9, bn9⟩ := Bv.app (v1 := []) (v2 := [r9]) BO.out 0 rfl o9 gr9 (fun q hq => (hq9 q hq).1)
                    replace HZ := hide (HZ.out.grown gr9 (by omega) (fun q hq => by have := hq9 q hq; omega))
                    have HB9 := hide hb9
                    have BN := hide bn9
                    have hz9 := gr9.size
                    clear o9 gr9 hq9 hb9 bn9 BO HOo HBx HD HW
                    refine hK.out _ _ (HCL.out _ HZ.out) (fun hHeld => ?_)
                    clear hK K
                    simp only [Act.put, List.setIfInBounds_toArray]
                    refine wpAnyH_take (i := 10) (v := ?_) rfl (by kernel_rfl) (by kernel_rfl) (by kernel_rfl) (fun _ _ _ h => h) (Or.inl ⟨by rfl, ?_⟩) (by assumption) ?_
                    rotate_left
                    · intro w' hSw
                      try dsimp only at hSw
                      go_simp; try rfl
                    simp only [List.getElem_toArray, List.getElem_cons_succ, List.getElem_cons_zero, Act.put, List.setIfInBounds_toArray, List.set_cons_zero, List.set_cons_succ]
                    refine wpAnyH_ready (rs := [11]) (by kernel_rfl) (by simp) (AllReadyH.cons rfl (fun K hK => ?_) AllReadyH.nil)
                    have k9 := (box_of HB9.out).1 0 _ rfl
                    have z9 := (box_of HB9.out).2 0
                    refine step_store1 (by kernel_rfl) (by kernel_rfl) 31 _ _ rfl (g5) 0 (.slice (some ⟨g9, 0, none⟩) (xs.length + 1) c9) (by kernel_rfl) (by kernel_rfl) rfl _ k9 z9 (by kernel_rfl) ?_
                    replace HZ := hide (HZ.out.setCell (p := ⟨g5, 0, none⟩) (by dsimp only; omega) (.slice (some ⟨g9, 0, none⟩) (xs.length + 1) c9))
                    clear k9 z9 HB9
                    refine hK.out _ _ (HCL.out _ HZ.out) (fun hHeld => ?_)
                    clear hK K
                    try simp only [Act.put, List.setIfInBounds_toArray, List.set_cons_zero, List.set_cons_succ]
                    generalize w9.setCell ⟨g5, 0, none⟩ (.slice (some ⟨g9, 0, none⟩) (xs.length + 1) c9) = Y at *
                    refine wpAnyH_done (by kernel_rfl) ?_ _
                    go_wp2
                    refine ⟨⟨j + 1, _, xs ++ [y], some ⟨g9, 0, none⟩, c9, by omega, rfl, by go_num, HI2, hide ?_⟩, ?_⟩
                    · have h := BN.out
                      rw [obs_snoc, List.length_append]
                      exact h
                    · simp [intOf]; omega
          · have hje : j = m.o.length := by omega
            have hnI : ¬ ((j : Int) < (m.o.length : Int)) := by omega
            replace HI9 := hide (hje ▸ HI9.out)
            have hb1 := HB9.out.trans (BOr.out.bel.mono hz9)
            have E0r := hide ((hb1.block _ (by omega)).trans E0.out)
            have q1 := (box_of ((hb1.block _ (by omega)).trans E1.out)).1 0 _ rfl
            have HPw := hide (HPr.out.at hb1)
            have hgl := BOr.out.lt
            clear hb1
            cases b0 with
            | true =>
              have k0 := (box_of BOr.out.box).1 0 _ rfl
              have k1 := (box_of BOr.out.box).1 1 _ rfl
              have hbn := BOr.out.bel
              have E2z := hide ((hbn.block _ (by omega)).trans E2.out)
              have HBz := hide (HB.out.trans (hbn.mono (by omega)))
              have l0 := (box_of E2z.out).1 0 _ rfl
              have l1 := (box_of E2z.out).1 1 _ rfl
              have lz := (box_of E2z.out).2
              have hgz := (Array.getElem?_eq_some_iff.1 E2z.out).1
              have O1 := OwnDL.mid (c1 := []) (v1 := []) BOr.out.own rfl
              have O2 := hide (HO9.out.same (w' := wr) (fun q hq hq2 _ => hbn.block q (by omega)))
              have hyl := BOr.out.lt
              have O3 := hide O1
              clear O1 hbn
              have hr9 := HR9.out
              subst hr9
              go_wp2
              refine bodyPost_ret (v := .tuple #[.agg #[.slice va xs.length vc, .slice aL m.l.length cL], .bool true]) (results_ct Tryz.results6 _ _ _ rfl (loadMm (putN2 E2z.out _ _))) rfl ?_
              rw [HFv.out, HCv.out, mkI_endT HI9.out]
              refine ⟨_, _, rfl, ?_, (HBz.out.setCell (by dsimp only; omega) _).setCell (by dsimp only; omega) _⟩
              refine ((OwnDL.same (b := W.heap.size) (OwnDL.consR (O3.out.mono (Nat.le_succ g5)) (OwnDL.cons O2.out (ownDL_nil _ g5 g5) (by omega) (Nat.le_refl _)) (by omega) (by omega)) (fun q hq hq2 _ => ?_)).mono (by omega)).up (by simp only [World.size_setCell]; omega)
              rw [heap_setCell_other _ _ _ _ (by dsimp only; omega), heap_setCell_other _ _ _ _ (by dsimp only; omega)]
            | false =>
              go_upto_region 13 with fail
              clear q1
              have HCL : Hid (∀ w', Below W.heap.size wr w' → w'.cell? ⟨w.heap.size, 0, none⟩ = some (.slice a0 x.k.length c0)) := hide (fun w' hb => (box_of ((hb.block _ (by omega)).trans E0r.out)).1 0 _ rfl)
              have HZ : Hid (Below W.heap.size wr wr) := hide (Below.refl _ _)
              replace HZ := hide HZ.out.drew
              refine wp_region_held_drew (S := fun w' => w'.cell? ⟨w.heap.size, 0, none⟩ = some (.slice a0 x.k.length c0)) (by kernel_rfl) (HCL.out _ HZ.out) (fun hHeld => ?_)
              have HW := hide (Below.refl wr.heap.size wr).drew
              have hz0 := HW.out.size
              have BO := hide (BOr.out.call HW.out)
              have HOo := hide (BOr.out.own.below HW.out)
              generalize wr.drew = Z0 at *
              refine wpAnyH_take (i := 0) (v := ?_) rfl (by kernel_rfl) (by kernel_rfl) (by kernel_rfl) (fun _ _ _ h => h) (Or.inl ⟨by rfl, ?_⟩) (by assumption) ?_
              rotate_left
              · intro w' hSw
                try dsimp only at hSw
                go_simp; try rfl
              simp only [List.getElem_toArray, List.getElem_cons_zero, Act.put, List.setIfInBounds_toArray, List.set_cons_zero, List.set_cons_succ]
              refine wpAnyH_take (i := 2) (v := ?_) rfl (by kernel_rfl) (by kernel_rfl) (by kernel_rfl) (fun _ _ _ h => h) (Or.inl ⟨by rfl, ?_⟩) (by assumption) ?_
              rotate_left
              · intro w' hSw
                try dsimp only at hSw
                go_simp; try rfl
              simp only [List.getElem_toArray, List.getElem_cons_succ, List.getElem_cons_zero, Act.put, List.setIfInBounds_toArray, List.set_cons_zero, List.set_cons_succ]
              refine wpAnyH_take (i := 3) (v := ?_) rfl (by kernel_rfl) (by kernel_rfl) (by kernel_rfl) (fun _ _ _ h => h) (Or.inl ⟨by rfl, ?_⟩) (by assumption) ?_
              rotate_left
              · intro w' hSw
                try dsimp only at hSw
                go_simp; try rfl
              simp only [List.getElem_toArray, List.getElem_cons_succ, List.getElem_cons_zero, Act.put, List.setIfInBounds_toArray, List.set_cons_zero, List.set_cons_succ]
              refine wpAnyH_take (i := 4) (v := ?_) rfl (by kernel_rfl) (by kernel_rfl) (by kernel_rfl) (fun _ _ _ h => h) (Or.inl ⟨by rfl, ?_⟩) (by assumption) ?_
              rotate_left
              · intro w' hSw
                try dsimp only at hSw
                go_simp; try rfl
              simp only [List.getElem_toArray, List.getElem_cons_succ, List.getElem_cons_zero, Act.put, List.setIfInBounds_toArray, List.set_cons_zero, List.set_cons_succ]
              refine wpAnyH_take (i := 5) (v := ?_) rfl (by kernel_rfl) (by kernel_rfl) (by kernel_rfl) (fun _ _ _ h => h) (Or.inl ⟨by rfl, ?_⟩) (by assumption) ?_
              rotate_left
              · intro w' hSw
                try dsimp only at hSw
                go_simp; try rfl
              simp only [List.getElem_toArray, List.getElem_cons_succ, List.getElem_cons_zero, Act.put, List.setIfInBounds_toArray, List.set_cons_zero, List.set_cons_succ]
              refine wpAnyH_ready (rs := [1, 6]) (by kernel_rfl) (by simp) (AllReadyH.cons rfl (fun K hK => ?_) (AllReadyH.cons rfl (fun K hK => ?_) AllReadyH.nil))
              · skip
                have e9 := (box_of BO.out.box).1 0 _ rfl
                refine step_runX (some 82) (by kernel_rfl) (by kernel_rfl) (v := .slice va xs.length vc) (w' := Z0) (by go_simp; try rfl) ?_
                clear e9
                refine hK.out _ _ (HCL.out _ HZ.out) (fun hHeld => ?_)
                clear hK K
                simp only [Act.put, List.setIfInBounds_toArray, List.set_cons_zero, List.set_cons_succ]
                refine wpAnyH_ready (rs := [6]) (by kernel_rfl) (by simp) (AllReadyH.cons rfl (fun K hK => ?_) AllReadyH.nil)
                refine step_callW (some 87) (by kernel_rfl) (by kernel_rfl) 21 _ _ rfl #[.agg #[.slice a0 x.k.length c0], .int .i64 c] (by kernel_rfl) (freshS _ x _ c (HPw.out.at HW.out) HK.out) ?_
                rintro e Z1 ⟨v1, rfl, o9, b9⟩
                have hz1 := b9.size
                rw [HFr.out] at o9
                obtain ⟨pa, pc, pe⟩ := o9.shape
                subst pe
                replace o9 : OwnDL Z1 Z0.heap.size Z1.heap.size (obD ⟨q, c, F⟩) [.int .i64 q, .int .i64 c, .slice pa F.length pc] := OwnDL.val (OwnDL.val (OwnDL.cons (m := Z1.heap.size) o9 (ownDL_nil _ Z1.heap.size _) (by omega) (Nat.le_refl _)))
                replace HZ := hide (HZ.out.trans (b9.mono (by omega)))
                replace HW := hide (HW.out.trans (b9.mono HW.out.size))
                replace BO := hide (BO.out.call b9)
                replace HOo := hide (HOo.out.below b9)
                clear b9
                have HD := hide o9
                clear o9
                refine ⟨_, rfl, ?_⟩
                refine hK.out _ _ (HCL.out _ HZ.out) (fun hHeld => ?_)
                clear hK K
                simp only [Act.put, List.setIfInBounds_toArray, List.set_cons_zero, List.set_cons_succ]
                refine wpAnyH_take (i := 7) (v := ?_) rfl (by kernel_rfl) (by kernel_rfl) (by kernel_rfl) (fun _ _ _ h => h) (Or.inl ⟨by rfl, ?_⟩) (by assumption) ?_
                rotate_left
                · intro w' hSw
                  try dsimp only at hSw
                  go_simp; try rfl
                simp only [List.getElem_toArray, List.getElem_cons_succ, List.getElem_cons_zero, Act.put, List.setIfInBounds_toArray, List.set_cons_zero, List.set_cons_succ]
                refine wpAnyH_ready (rs := [8]) (by kernel_rfl) (by simp) (AllReadyH.cons rfl (fun K hK => ?_) AllReadyH.nil)
                refine step_runX (some 89) (by kernel_rfl) (by kernel_rfl) (v := .slice (some ⟨Z1.heap.size, 0, none⟩) 1 1) (w' := Z1.alloc (.cells #[.int .i64 q, .int .i64 c, .slice pa F.length pc] 54)) (by go_simp; try rfl) ?_
                have b9 := (Below.refl Z1.heap.size Z1).alloc (Nat.le_refl _) (.cells #[.int .i64 q, .int .i64 c, .slice pa F.length pc] 54)
                have HBx := hide (Box.new Z1 #[.int .i64 q, .int .i64 c, .slice pa F.length pc] 54)
                have hz2 := b9.size
                replace HZ := hide (HZ.out.trans (b9.mono (by omega)))
                replace HW := hide (HW.out.trans (b9.mono HW.out.size))
                replace BO := hide (BO.out.call b9)
                replace HOo := hide (HOo.out.below b9)
                replace HD := hide ((HD.out.below b9).up b9.size)
                clear b9
                refine hK.out _ _ (HCL.out _ HZ.out) (fun hHeld => ?_)
                clear hK K
                simp only [Act.put, List.setIfInBounds_toArray, List.set_cons_zero, List.set_cons_succ]
                obtain ⟨gB, hgB⟩ : ∃ g, Z1.heap.size = g := ⟨_, rfl⟩
                rw [hgB] at HBx ⊢
                clear hgB
                generalize Z1.alloc (.cells #[.int .i64 q, .int .i64 c, .slice pa F.length pc] 54) = Z2 at *
                refine wpAnyH_ready (rs := [9]) (by kernel_rfl) (by simp) (AllReadyH.cons rfl (fun K hK => ?_) AllReadyH.nil)
                refine step_appL (by kernel_rfl) _ _ 31 rfl (g5 + 1) wr.heap.size Z0.heap.size 54 i1 (.agg #[.int .i64 0, .int .i64 0, .slice none 0 0]) 3 40 Tryz.underlying31 HJ.out.1 HJ.out.2.1 HJ.out.2.2.1 HJ.out.2.2.2 rfl (by decide) (.slice va xs.length vc) xs.length (xs.flatMap obD) ([]) ([.val r9]) ([]) ([r9]) (by kernel_rfl) HOo.out rfl gB 1 [.int .i64 q, .int .i64 c, .slice pa F.length pc] (obD ⟨q, c, F⟩) (by kernel_rfl) HBx.out HD.out rfl (by simp [Value.oneCell']) (by omega) (by decide) (by omega) (by omega) (by omega) ?_
                intro g9 c9 w9 o9 gr9 hq9
                obtain ⟨hb9, bn9⟩ := Bv.app (v1 := []) (v2 := [r9]) BO.out 0 rfl o9 gr9 (fun q hq => (hq9 q hq).1)
                replace HZ := hide (HZ.out.grown gr9 (by omega) (fun q hq => by have := hq9 q hq; omega))
                have HB9 := hide hb9
                have BN := hide bn9
                have hz9 := gr9.size
                clear o9 gr9 hq9 hb9 bn9 BO HOo HBx HD HW
                refine hK.out _ _ (HCL.out _ HZ.out) (fun hHeld => ?_)
                clear hK K
                simp only [Act.put, List.setIfInBounds_toArray]
                refine wpAnyH_take (i := 10) (v := ?_) rfl (by kernel_rfl) (by kernel_rfl) (by kernel_rfl) (fun _ _ _ h => h) (Or.inl ⟨by rfl, ?_⟩) (by assumption) ?_
                rotate_left
                · intro w' hSw
                  try dsimp only at hSw
                  go_simp; try rfl
                simp only [List.getElem_toArray, List.getElem_cons_succ, List.getElem_cons_zero, Act.put, List.setIfInBounds_toArray, List.set_cons_zero, List.set_cons_succ]
                refine wpAnyH_ready (rs := [11]) (by kernel_rfl) (by simp) (AllReadyH.cons rfl (fun K hK => ?_) AllReadyH.nil)
                have k9 := (box_of HB9.out).1 0 _ rfl
                have z9 := (box_of HB9.out).2 0
                refine step_store1 (by kernel_rfl) (by kernel_rfl) 31 _ _ rfl (g5) 0 (.slice (some ⟨g9, 0, none⟩) (xs.length + 1) c9) (by kernel_rfl) (by kernel_rfl) rfl _ k9 z9 (by kernel_rfl) ?_
                replace HZ := hide (HZ.out.setCell (p := ⟨g5, 0, none⟩) (by dsimp only; omega) (.slice (some ⟨g9, 0, none⟩) (xs.length + 1) c9))
                clear k9 z9 HB9
                refine hK.out _ _ (HCL.out _ HZ.out) (fun hHeld => ?_)
                clear hK K
                try simp only [Act.put, List.setIfInBounds_toArray, List.set_cons_zero, List.set_cons_succ]
                generalize w9.setCell ⟨g5, 0, none⟩ (.slice (some ⟨g9, 0, none⟩) (xs.length + 1) c9) = Y at *
                refine wpAnyH_done (by kernel_rfl) ?_ _
                have BN2 : Hid (Bv W2 Y g5 34 [obs (xs ++ [⟨q, c, F⟩]), .val r9] [.slice (some ⟨g9, 0, none⟩) (xs ++ [(⟨q, c, F⟩ : Ob)]).length c9, r9]) := hide (by
                  have h := BN.out
                  rw [obs_snoc, List.length_append]
                  exact h)
                rw [List.length_append] at BN2
                clear BN HZ HCL hHeld
                have k0 := (box_of BN2.out.box).1 0 _ rfl
                have k1 := (box_of BN2.out.box).1 1 _ rfl
                have hbn := BN2.out.bel
                have E2z := hide ((hbn.block _ (by omega)).trans E2.out)
                have HBz := hide (HB.out.trans (hbn.mono (by omega)))
                have l0 := (box_of E2z.out).1 0 _ rfl
                have l1 := (box_of E2z.out).1 1 _ rfl
                have lz := (box_of E2z.out).2
                have hgz := (Array.getElem?_eq_some_iff.1 E2z.out).1
                have O1 := OwnDL.mid (c1 := []) (v1 := []) BN2.out.own rfl
                have O2 := hide (HO9.out.same (w' := Y) (fun q hq hq2 _ => hbn.block q (by omega)))
                have hyl := BN2.out.lt
                have O3 := hide O1
                clear O1 hbn
                have hr9 := HR9.out
                subst hr9
                go_wp2
                refine bodyPost_ret (v := .tuple #[.agg #[.slice (some ⟨g9, 0, none⟩) (xs.length + 1) c9, .slice aL m.l.length cL], .bool true]) (results_ct Tryz.results6 _ _ _ rfl (loadMm (putN2 E2z.out _ _))) rfl ?_
                rw [HFv.out, HCv.out, mkI_endF HI9.out]
                refine ⟨_, _, rfl, ?_, (HBz.out.setCell (by dsimp only; omega) _).setCell (by dsimp only; omega) _⟩
                refine ((OwnDL.same (b := W.heap.size) (OwnDL.consR (O3.out.mono (Nat.le_succ g5)) (OwnDL.cons O2.out (ownDL_nil _ g5 g5) (by omega) (Nat.le_refl _)) (by omega) (by omega)) (fun q hq hq2 _ => ?_)).mono (by omega)).up (by simp only [World.size_setCell]; omega)
                rw [heap_setCell_other _ _ _ _ (by dsimp only; omega), heap_setCell_other _ _ _ _ (by dsimp only; omega)]
              · skip
                refine step_callW (some 87) (by kernel_rfl) (by kernel_rfl) 21 _ _ rfl #[.agg #[.slice a0 x.k.length c0], .int .i64 c] (by kernel_rfl) (freshS _ x _ c (HPw.out.at HW.out) HK.out) ?_
                rintro e Z1 ⟨v1, rfl, o9, b9⟩
                have hz1 := b9.size
                rw [HFr.out] at o9
                obtain ⟨pa, pc, pe⟩ := o9.shape
                subst pe
                replace o9 : OwnDL Z1 Z0.heap.size Z1.heap.size (obD ⟨q, c, F⟩) [.int .i64 q, .int .i64 c, .slice pa F.length pc] := OwnDL.val (OwnDL.val (OwnDL.cons (m := Z1.heap.size) o9 (ownDL_nil _ Z1.heap.size _) (by omega) (Nat.le_refl _)))
                replace HZ := hide (HZ.out.trans (b9.mono (by omega)))
                replace HW := hide (HW.out.trans (b9.mono HW.out.size))
                replace BO := hide (BO.out.call b9)
                replace HOo := hide (HOo.out.below b9)
                clear b9
                have HD := hide o9
                clear o9
                refine ⟨_, rfl, ?_⟩
                refine hK.out _ _ (HCL.out _ HZ.out) (fun hHeld => ?_)
                clear hK K
                simp only [Act.put, List.setIfInBounds_toArray, List.set_cons_zero, List.set_cons_succ]
                refine wpAnyH_take (i := 7) (v := ?_) rfl (by kernel_rfl) (by kernel_rfl) (by kernel_rfl) (fun _ _ _ h => h) (Or.inl ⟨by rfl, ?_⟩) (by assumption) ?_
                rotate_left
                · intro w' hSw
                  try dsimp only at hSw
                  go_simp; try rfl
                simp only [List.getElem_toArray, List.getElem_cons_succ, List.getElem_cons_zero, Act.put, List.setIfInBounds_toArray, List.set_cons_zero, List.set_cons_succ]
                refine wpAnyH_ready (rs := [1, 8]) (by kernel_rfl) (by simp) (AllReadyH.cons rfl (fun K hK => ?_) (AllReadyH.cons rfl (fun K hK => ?_) AllReadyH.nil))
                · skip
                  have e9 := (box_of BO.out.box).1 0 _ rfl
                  refine step_runX (some 82) (by kernel_rfl) (by kernel_rfl) (v := .slice va xs.length vc) (w' := Z1) (by go_simp; try rfl) ?_
                  clear e9
                  refine hK.out _ _ (HCL.out _ HZ.out) (fun hHeld => ?_)
                  clear hK K
                  simp only [Act.put, List.setIfInBounds_toArray, List.set_cons_zero, List.set_cons_succ]
                  refine wpAnyH_ready (rs := [8]) (by kernel_rfl) (by simp) (AllReadyH.cons rfl (fun K hK => ?_) AllReadyH.nil)
                  refine step_runX (some 89) (by kernel_rfl) (by kernel_rfl) (v := .slice (some ⟨Z1.heap.size, 0, none⟩) 1 1) (w' := Z1.alloc (.cells #[.int .i64 q, .int .i64 c, .slice pa F.length pc] 54)) (by go_simp; try rfl) ?_
                  have b9 := (Below.refl Z1.heap.size Z1).alloc (Nat.le_refl _) (.cells #[.int .i64 q, .int .i64 c, .slice pa F.length pc] 54)
                  have HBx := hide (Box.new Z1 #[.int .i64 q, .int .i64 c, .slice pa F.length pc] 54)
                  have hz2 := b9.size
                  replace HZ := hide (HZ.out.trans (b9.mono (by omega)))
                  replace HW := hide (HW.out.trans (b9.mono HW.out.size))
                  replace BO := hide (BO.out.call b9)
                  replace HOo := hide (HOo.out.below b9)
                  replace HD := hide ((HD.out.below b9).up b9.size)
                  clear b9
                  refine hK.out _ _ (HCL.out _ HZ.out) (fun hHeld => ?_)
                  clear hK K
                  simp only [Act.put, List.setIfInBounds_toArray, List.set_cons_zero, List.set_cons_succ]
                  obtain ⟨gB, hgB⟩ : ∃ g, Z1.heap.size = g := ⟨_, rfl⟩
                  rw [hgB] at HBx ⊢
                  clear hgB
                  generalize Z1.alloc (.cells #[.int .i64 q, .int .i64 c, .slice pa F.length pc] 54) = Z2 at *
                  refine wpAnyH_ready (rs := [9]) (by kernel_rfl) (by simp) (AllReadyH.cons rfl (fun K hK => ?_) AllReadyH.nil)
                  refine step_appL (by kernel_rfl) _ _ 31 rfl (g5 + 1) wr.heap.size Z0.heap.size 54 i1 (.agg #[.int .i64 0, .int .i64 0, .slice none 0 0]) 3 40 Tryz.underlying31 HJ.out.1 HJ.out.2.1 HJ.out.2.2.1 HJ.out.2.2.2 rfl (by decide) (.slice va xs.length vc) xs.length (xs.flatMap obD) ([]) ([.val r9]) ([]) ([r9]) (by kernel_rfl) HOo.out rfl gB 1 [.int .i64 q, .int .i64 c, .slice pa F.length pc] (obD ⟨q, c, F⟩) (by kernel_rfl) HBx.out HD.out rfl (by simp [Value.oneCell']) (by omega) (by decide) (by omega) (by omega) (by omega) ?_
                  intro g9 c9 w9 o9 gr9 hq9
                  obtain ⟨hb9, bn9⟩ := Bv.app (v1 := []) (v2 := [r9]) BO.out 0 rfl o9 gr9 (fun q hq => (hq9 q hq).1)
                  replace HZ := hide (HZ.out.grown gr9 (by omega) (fun q hq => by have := hq9 q hq; omega))
                  have HB9 := hide hb9
                  have BN := hide bn9
                  have hz9 := gr9.size
                  clear o9 gr9 hq9 hb9 bn9 BO HOo HBx HD HW
                  refine hK.out _ _ (HCL.out _ HZ.out) (fun hHeld => ?_)
                  clear hK K
                  simp only [Act.put, List.setIfInBounds_toArray]
                  refine wpAnyH_take (i := 10) (v := ?_) rfl (by kernel_rfl) (by kernel_rfl) (by kernel_rfl) (fun _ _ _ h => h) (Or.inl ⟨by rfl, ?_⟩) (by assumption) ?_
                  rotate_left
                  · intro w' hSw
                    try dsimp only at hSw
                    go_simp; try rfl
                  simp only [List.getElem_toArray, List.getElem_cons_succ, List.getElem_cons_zero, Act.put, List.setIfInBounds_toArray, List.set_cons_zero, List.set_cons_succ]
                  refine wpAnyH_ready (rs := [11]) (by kernel_rfl) (by simp) (AllReadyH.cons rfl (fun K hK => ?_) AllReadyH.nil)
                  have k9 := (box_of HB9.out).1 0 _ rfl
                  have z9 := (box_of HB9.out).2 0
                  refine step_store1 (by kernel_rfl) (by kernel_rfl) 31 _ _ rfl (g5) 0 (.slice (some ⟨g9, 0, none⟩) (xs.length + 1) c9) (by kernel_rfl) (by kernel_rfl) rfl _ k9 z9 (by kernel_rfl) ?_
                  replace HZ := hide (HZ.out.setCell (p := ⟨g5, 0, none⟩) (by dsimp only; omega) (.slice (some ⟨g9, 0, none⟩) (xs.length + 1) c9))
                  clear k9 z9 HB9
                  refine hK.out _ _ (HCL.out _ HZ.out) (fun hHeld => ?_)
                  clear hK K
                  try simp only [Act.put, List.setIfInBounds_toArray, List.set_cons_zero, List.set_cons_succ]
                  generalize w9.setCell ⟨g5, 0, none⟩ (.slice (some ⟨g9, 0, none⟩) (xs.length + 1) c9) = Y at *
                  refine wpAnyH_done (by kernel_rfl) ?_ _
                  have BN2 : Hid (Bv W2 Y g5 34 [obs (xs ++ [⟨q, c, F⟩]), .val r9] [.slice (some ⟨g9, 0, none⟩) (xs ++ [(⟨q, c, F⟩ : Ob)]).length c9, r9]) := hide (by
                    have h := BN.out
                    rw [obs_snoc, List.length_append]
                    exact h)
                  rw [List.length_append] at BN2
                  clear BN HZ HCL hHeld
                  have k0 := (box_of BN2.out.box).1 0 _ rfl
                  have k1 := (box_of BN2.out.box).1 1 _ rfl
                  have hbn := BN2.out.bel
                  have E2z := hide ((hbn.block _ (by omega)).trans E2.out)
                  have HBz := hide (HB.out.trans (hbn.mono (by omega)))
                  have l0 := (box_of E2z.out).1 0 _ rfl
                  have l1 := (box_of E2z.out).1 1 _ rfl
                  have lz := (box_of E2z.out).2
                  have hgz := (Array.getElem?_eq_some_iff.1 E2z.out).1
                  have O1 := OwnDL.mid (c1 := []) (v1 := []) BN2.out.own rfl
                  have O2 := hide (HO9.out.same (w' := Y) (fun q hq hq2 _ => hbn.block q (by omega)))
                  have hyl := BN2.out.lt
                  have O3 := hide O1
                  clear O1 hbn
                  have hr9 := HR9.out
                  subst hr9
                  go_wp2
                  refine bodyPost_ret (v := .tuple #[.agg #[.slice (some ⟨g9, 0, none⟩) (xs.length + 1) c9, .slice aL m.l.length cL], .bool true]) (results_ct Tryz.results6 _ _ _ rfl (loadMm (putN2 E2z.out _ _))) rfl ?_
                  rw [HFv.out, HCv.out, mkI_endF HI9.out]
                  refine ⟨_, _, rfl, ?_, (HBz.out.setCell (by dsimp only; omega) _).setCell (by dsimp only; omega) _⟩
                  refine ((OwnDL.same (b := W.heap.size) (OwnDL.consR (O3.out.mono (Nat.le_succ g5)) (OwnDL.cons O2.out (ownDL_nil _ g5 g5) (by omega) (Nat.le_refl _)) (by omega) (by omega)) (fun q hq hq2 _ => ?_)).mono (by omega)).up (by simp only [World.size_setCell]; omega)
                  rw [heap_setCell_other _ _ _ _ (by dsimp only; omega), heap_setCell_other _ _ _ _ (by dsimp only; omega)]
                · skip
                  refine step_runX (some 89) (by kernel_rfl) (by kernel_rfl) (v := .slice (some ⟨Z1.heap.size, 0, none⟩) 1 1) (w' := Z1.alloc (.cells #[.int .i64 q, .int .i64 c, .slice pa F.length pc] 54)) (by go_simp; try rfl) ?_
                  have b9 := (Below.refl Z1.heap.size Z1).alloc (Nat.le_refl _) (.cells #[.int .i64 q, .int .i64 c, .slice pa F.length pc] 54)
                  have HBx := hide (Box.new Z1 #[.int .i64 q, .int .i64 c, .slice pa F.length pc] 54)
                  have hz2 := b9.size
                  replace HZ := hide (HZ.out.trans (b9.mono (by omega)))
                  replace HW := hide (HW.out.trans (b9.mono HW.out.size))
                  replace BO := hide (BO.out.call b9)
                  replace HOo := hide (HOo.out.below b9)
                  replace HD := hide ((HD.out.below b9).up b9.size)
                  clear b9
                  refine hK.out _ _ (HCL.out _ HZ.out) (fun hHeld => ?_)
                  clear hK K
                  simp only [Act.put, List.setIfInBounds_toArray, List.set_cons_zero, List.set_cons_succ]
                  obtain ⟨gB, hgB⟩ : ∃ g, Z1.heap.size = g := ⟨_, rfl⟩
                  rw [hgB] at HBx ⊢
                  clear hgB
                  generalize Z1.alloc (.cells #[.int .i64 q, .int .i64 c, .slice pa F.length pc] 54) = Z2 at *
                  refine wpAnyH_ready (rs := [1]) (by kernel_rfl) (by simp) (AllReadyH.cons rfl (fun K hK => ?_) AllReadyH.nil)
                  have e9 := (box_of BO.out.box).1 0 _ rfl
                  refine step_runX (some 82) (by kernel_rfl) (by kernel_rfl) (v := .slice va xs.length vc) (w' := Z2) (by go_simp; try rfl) ?_
                  clear e9
                  refine hK.out _ _ (HCL.out _ HZ.out) (fun hHeld => ?_)
                  clear hK K
                  simp only [Act.put, List.setIfInBounds_toArray, List.set_cons_zero, List.set_cons_succ]
                  refine wpAnyH_ready (rs := [9]) (by kernel_rfl) (by simp) (AllReadyH.cons rfl (fun K hK => ?_) AllReadyH.nil)
                  refine step_appL (by kernel_rfl) _ _ 31 rfl (g5 + 1) wr.heap.size Z0.heap.size 54 i1 (.agg #[.int .i64 0, .int .i64 0, .slice none 0 0]) 3 40 Tryz.underlying31 HJ.out.1 HJ.out.2.1 HJ.out.2.2.1 HJ.out.2.2.2 rfl (by decide) (.slice va xs.length vc) xs.length (xs.flatMap obD) ([]) ([.val r9]) ([]) ([r9]) (by kernel_rfl) HOo.out rfl gB 1 [.int .i64 q, .int .i64 c, .slice pa F.length pc] (obD ⟨q, c, F⟩) (by kernel_rfl) HBx.out HD.out rfl (by simp [Value.oneCell']) (by omega) (by decide) (by omega) (by omega) (by omega) ?_
                  intro g9 c9 w9 o9 gr9 hq9
                  obtain ⟨hb9, bn9⟩ := Bv.app (v1 := []) (v2 := [r9]) BO.out 0 rfl o9 gr9 (fun q hq => (hq9 q hq).1)
                  replace HZ := hide (HZ.out.grown gr9 (by omega) (fun q hq => by have := hq9 q hq; omega))
                  have HB9 := hide hb9
                  have BN := hide bn9
                  have hz9 := gr9.size
                  clear o9 gr9 hq9 hb9 bn9 BO HOo HBx HD HW
                  refine hK.out _ _ (HCL.out _ HZ.out) (fun hHeld => ?_)
                  clear hK K
                  simp only [Act.put, List.setIfInBounds_toArray]
                  refine wpAnyH_take (i := 10) (v := ?_) rfl (by kernel_rfl) (by kernel_rfl) (by kernel_rfl) (fun _ _ _ h => h) (Or.inl ⟨by rfl, ?_⟩) (by assumption) ?_
                  rotate_left
                  · intro w' hSw
                    try dsimp only at hSw
                    go_simp; try rfl
                  simp only [List.getElem_toArray, List.getElem_cons_succ, List.getElem_cons_zero, Act.put, List.setIfInBounds_toArray, List.set_cons_zero, List.set_cons_succ]
                  refine wpAnyH_ready (rs := [11]) (by kernel_rfl) (by simp) (AllReadyH.cons rfl (fun K hK => ?_) AllReadyH.nil)
                  have k9 := (box_of HB9.out).1 0 _ rfl
                  have z9 := (box_of HB9.out).2 0
                  refine step_store1 (by kernel_rfl) (by kernel_rfl) 31 _ _ rfl (g5) 0 (.slice (some ⟨g9, 0, none⟩) (xs.length + 1) c9) (by kernel_rfl) (by kernel_rfl) rfl _ k9 z9 (by kernel_rfl) ?_
                  replace HZ := hide (HZ.out.setCell (p := ⟨g5, 0, none⟩) (by dsimp only; omega) (.slice (some ⟨g9, 0, none⟩) (xs.length + 1) c9))
                  clear k9 z9 HB9
                  refine hK.out _ _ (HCL.out _ HZ.out) (fun hHeld => ?_)
                  clear hK K
                  try simp only [Act.put, List.setIfInBounds_toArray, List.set_cons_zero, List.set_cons_succ]
                  generalize w9.setCell ⟨g5, 0, none⟩ (.slice (some ⟨g9, 0, none⟩) (xs.length + 1) c9) = Y at *
                  refine wpAnyH_done (by kernel_rfl) ?_ _
                  have BN2 : Hid (Bv W2 Y g5 34 [obs (xs ++ [⟨q, c, F⟩]), .val r9] [.slice (some ⟨g9, 0, none⟩) (xs ++ [(⟨q, c, F⟩ : Ob)]).length c9, r9]) := hide (by
                    have h := BN.out
                    rw [obs_snoc, List.length_append]
                    exact h)
                  rw [List.length_append] at BN2
                  clear BN HZ HCL hHeld
                  have k0 := (box_of BN2.out.box).1 0 _ rfl
                  have k1 := (box_of BN2.out.box).1 1 _ rfl
                  have hbn := BN2.out.bel
                  have E2z := hide ((hbn.block _ (by omega)).trans E2.out)
                  have HBz := hide (HB.out.trans (hbn.mono (by omega)))
                  have l0 := (box_of E2z.out).1 0 _ rfl
                  have l1 := (box_of E2z.out).1 1 _ rfl
                  have lz := (box_of E2z.out).2
                  have hgz := (Array.getElem?_eq_some_iff.1 E2z.out).1
                  have O1 := OwnDL.mid (c1 := []) (v1 := []) BN2.out.own rfl
                  have O2 := hide (HO9.out.same (w' := Y) (fun q hq hq2 _ => hbn.block q (by omega)))
                  have hyl := BN2.out.lt
                  have O3 := hide O1
                  clear O1 hbn
                  have hr9 := HR9.out
                  subst hr9
                  go_wp2
                  refine bodyPost_ret (v := .tuple #[.agg #[.slice (some ⟨g9, 0, none⟩) (xs.length + 1) c9, .slice aL m.l.length cL], .bool true]) (results_ct Tryz.results6 _ _ _ rfl (loadMm (putN2 E2z.out _ _))) rfl ?_
                  rw [HFv.out, HCv.out, mkI_endF HI9.out]
                  refine ⟨_, _, rfl, ?_, (HBz.out.setCell (by dsimp only; omega) _).setCell (by dsimp only; omega) _⟩
                  refine ((OwnDL.same (b := W.heap.size) (OwnDL.consR (O3.out.mono (Nat.le_succ g5)) (OwnDL.cons O2.out (ownDL_nil _ g5 g5) (by omega) (Nat.le_refl _)) (by omega) (by omega)) (fun q hq hq2 _ => ?_)).mono (by omega)).up (by simp only [World.size_setCell]; omega)
                  rw [heap_setCell_other _ _ _ _ (by dsimp only; omega), heap_setCell_other _ _ _ _ (by dsimp only; omega)]
      · have k3' : 0 ≤ atM m q := by omega
        have hC : okM x m q c = false := by unfold okM; rw [k1, k2, decide_eq_false k3]; rfl
        have HF : Hid (makeX x m q c = m) := hide (by unfold makeX; rw [if_neg (by rw [hC]; simp)])
        have HC := hide hC
        clear hC k3
        generalize atM m q = K9 at *
        go_wp2_with fail
        refine (copyMmS _ m _ _ HR.out HL.out HGm.out).mono ?_
        rintro e Z1 ⟨v1, v2, rfl, o9, b9⟩
        obtain ⟨⟨pa, pc, pe⟩, ⟨qa, qc, qe⟩⟩ := (show (∃ a c, v1 = .slice a m.o.length c) ∧ (∃ a c, v2 = .slice a m.l.length c) from ⟨by obtain ⟨a, c, e, _⟩ := (mmD_own o9).1.shape; exact ⟨a, c, e⟩, by obtain ⟨a, c, e, _⟩ := (mmD_own o9).2.shape; exact ⟨a, c, e⟩⟩)
        subst pe qe
        have HO := hide o9
        replace E2 := hide ((b9.block _ (Array.getElem?_eq_some_iff.1 E2.out).1).trans E2.out)
        have hW2 := (Array.getElem?_eq_some_iff.1 E2.out).1
        have hzB := HB.out.size
        replace HB := hide (HB.out.trans (b9.mono HB.out.size))
        clear b9 o9 q0 q1 q2
        unfold mmV
        have l0 := (box_of E2.out).1 0 _ rfl
        have l1 := (box_of E2.out).1 1 _ rfl
        have lz := (box_of E2.out).2
        go_wp2
        refine bodyPost_ret (v := .tuple #[.agg #[.slice pa m.o.length pc, .slice qa m.l.length qc], .bool false]) (results_ct Tryz.results6 _ _ _ rfl (loadMm (putN2 E2.out _ _))) rfl ?_
        rw [HF.out, HC.out]
        refine ⟨_, _, rfl, ?_, (HB.out.setCell (by dsimp only; omega) _).setCell (by dsimp only; omega) _⟩
        refine ((OwnDL.same (b := W.heap.size) HO.out (fun q hq hq2 _ => ?_)).mono (by omega)).up (by simp only [World.size_setCell]; omega)
        rw [heap_setCell_other _ _ _ _ (by dsimp only; omega), heap_setCell_other _ _ _ _ (by dsimp only; omega)]
end Go.Proofs.YtelpdlhgjepgbaaGreat
