/-
  Copies at a node in the model: what is written.
-/
import Derived.Test.YtofnpgheppgcaaaCpF
import Derived.Test.YtofnpgheppgcaaaStepM
namespace Go.Proofs.Ytofnpgheppgcaaa
open Go.RowKit

theorem vlsetC : ∀ (xs : List Vl) (t : Nat) (v : Vl), t < xs.length → (((xs.flatMap vlD).set (t * 2) (.val (.bool v.r))).set (t * 2 + 1) (.val (.int .i64 v.n))) = (xs.set t v).flatMap vlD
  | [], t, _, h => by simp at h
  | x :: xs, 0, v, _ => by simp [vlD]
  | x :: xs, t + 1, v, h => by
    have ih := vlsetC xs t v (by simpa using h)
    have e : (t + 1) * 2 = t * 2 + 1 + 1 := by omega
    rw [List.set_cons_succ, List.flatMap_cons, List.flatMap_cons, ← ih, e]
    show (([.val (.bool x.r), .val (.int .i64 x.n)] ++ xs.flatMap vlD : List Dt).set _ _).set _ _ = _
    rfl
theorem vlgetC : ∀ (xs : List Vl) (t : Nat), t < xs.length → (xs.flatMap vlD)[t * 2]? = some (.val (.bool (xs.getD t default).r)) ∧ (xs.flatMap vlD)[t * 2 + 1]? = some (.val (.int .i64 (xs.getD t default).n))
  | [], t, h => by simp at h
  | x :: xs, 0, _ => ⟨rfl, rfl⟩
  | x :: xs, t + 1, h => by
    have ih := vlgetC xs t (by simpa using h)
    have e : (t + 1) * 2 = t * 2 + 1 + 1 := by omega
    rw [e, List.flatMap_cons, List.getD_cons_succ]
    exact ih
/-- Where a field's value lies in a row of copies of one's own, and the world behind its writing. -/
theorem cpyWriteOwn {w : World} {b hi g c j t : Nat} {xs : List Cpy} {y : Cpy} (h : OwnD w b hi (cpys xs) (.slice (some ⟨g, 0, none⟩) xs.length c)) (hlt : j < xs.length) (hy : xs.getD j default = y) (ht : t < y.f.length) (v : Vl) :
    ∃ gb fc, w.cell? ⟨g, j * 6 + 4, none⟩ = some (.slice (some ⟨gb, 0, none⟩) y.f.length fc) ∧ (w.cell? ⟨gb, t * 2, none⟩).isSome = true ∧ w.frozen? ⟨gb, t * 2, none⟩ = false ∧ (w.cell? ⟨gb, t * 2 + 1, none⟩).isSome = true ∧ w.frozen? ⟨gb, t * 2 + 1, none⟩ = false ∧ b ≤ gb ∧ gb < hi ∧ g ≠ gb ∧
      OwnD ((w.setCell ⟨gb, t * 2, none⟩ (.bool v.r)).setCell ⟨gb, t * 2 + 1, none⟩ (.int .i64 v.n)) b hi (cpys (xs.set j ⟨y.i, y.c, y.n, y.v, y.f.set t v, y.t⟩)) (.slice (some ⟨g, 0, none⟩) xs.length c) := by
  have hf := cpy_pre xs j (Nat.le_of_lt hlt)
  have h0 := h
  unfold cpys at h0
  rw [cpy_mid hlt hy] at h0
  obtain ⟨us, hl1, hl2, ho⟩ := OwnDL.flat (ownD_oneI h0)
  have hlen : j * 6 + 4 < us.length := by rw [hl1, List.length_append, hf]; simp [cpyD]
  obtain ⟨u1, st, u2, e, hl4⟩ : ∃ u1 x u2, us = u1 ++ x :: u2 ∧ u1.length = j * 6 + 4 := ⟨us.take (j * 6 + 4), us[j * 6 + 4], us.drop (j * 6 + 4 + 1), by rw [← List.drop_eq_getElem_cons hlen, List.take_append_drop], by rw [List.length_take]; omega⟩
  subst e
  obtain ⟨P, hP⟩ : ∃ P, (xs.take j).flatMap cpyD ++ [.val (.int .i64 y.i), .val (.int .i64 y.c), .val (.int .i64 y.n), .val (.bool y.v)] = P := ⟨_, rfl⟩
  have hPl : P.length = j * 6 + 4 := by rw [← hP, List.length_append, hf]; rfl
  obtain ⟨R, hR⟩ : ∃ R, vls y.t :: (xs.drop (j + 1)).flatMap cpyD = R := ⟨_, rfl⟩
  have eP : ∀ d : Dt, (xs.take j).flatMap cpyD ++ ([.val (.int .i64 y.i), .val (.int .i64 y.c), .val (.int .i64 y.n), .val (.bool y.v), d, vls y.t] ++ (xs.drop (j + 1)).flatMap cpyD) = P ++ d :: R := by
    intro d
    rw [← hP, ← hR]
    simp
  have eD : cpyD y = [.val (.int .i64 y.i), .val (.int .i64 y.c), .val (.int .i64 y.n), .val (.bool y.v), vls y.f, vls y.t] := rfl
  rw [eD, eP] at ho hl1
  have hlc : ((.slice (some ⟨g, 0, none⟩) xs.length c : Value) :: u1).length = ((.row 40 6 xs.length ((u1 ++ st :: u2).map .val) : Dt) :: P).length := by simp [hl4, hPl]
  have ho' : OwnDL w b hi ((.row 40 6 xs.length ((u1 ++ st :: u2).map .val) :: P) ++ vls y.f :: (R ++ [])) ((.slice (some ⟨g, 0, none⟩) xs.length c :: u1) ++ st :: (u2 ++ [])) := by simpa using ho
  obtain ⟨gb, fc, rfl⟩ := ownD_addr (OwnDL.mid ho' hlc) (by omega)
  have hcell := (OwnDL.cell (c1 := []) (v1 := []) ho rfl (i := j * 6 + 4) (z := .slice (some ⟨gb, 0, none⟩) y.f.length fc) (by rw [List.map_append, List.map_cons, List.getElem?_append_right (by simp [hl4])]; simp [hl4]) .nilFunc).1
  have hg0 := vlgetC y.f t ht
  have hb := (OwnDL.mid ho' hlc).blk gb rfl
  unfold vls at ho'
  obtain ⟨x1, x2, _, x4⟩ := OwnDL.cell ho' hlc hg0.1 (.bool v.r)
  obtain ⟨_, _, _, y4⟩ := OwnDL.cell x4 hlc (i := t * 2 + 1) (z := .int .i64 (y.f.getD t default).n) (by rw [List.getElem?_set_ne (by omega)]; exact hg0.2) (.int .i64 v.n)
  obtain ⟨z1, z2, _, _⟩ := OwnDL.cell ho' hlc hg0.2 .nilFunc
  refine ⟨gb, fc, hcell, by rw [x1]; rfl, x2, by rw [z1]; rfl, z2, hb.1, hb.2, OwnDL.rowsNe ho' (by simp [hl4, hPl]) rfl rfl, ?_⟩
  rw [vlsetC y.f t v ht] at y4
  have e2 : vls (y.f.set t v) = .row 48 2 y.f.length ((y.f.set t v).flatMap vlD) := by unfold vls; rw [List.length_set]
  unfold cpys
  rw [cpy_set _ hlt, List.length_set]
  have eE : cpyD ⟨y.i, y.c, y.n, y.v, y.f.set t v, y.t⟩ = [.val (.int .i64 y.i), .val (.int .i64 y.c), .val (.int .i64 y.n), .val (.bool y.v), vls (y.f.set t v), vls y.t] := rfl
  rw [eE, eP, e2]
  refine OwnDL.mid (c1 := []) (v1 := []) (OwnDL.unflat (us := u1 ++ .slice (some ⟨gb, 0, none⟩) y.f.length fc :: u2) (cs := P ++ .row 48 2 y.f.length ((y.f.set t v).flatMap vlD) :: R) (c2 := []) (v2 := []) (by simpa using y4) (by simp at hl1 ⊢; omega)) rfl
def cpP2 (w w' : World) (xs : List Cpy) (c : Bool) (e : Ending) : Prop := ∃ u, e = .returned (.tuple #[u, .bool c]) ∧ OwnD w' w.heap.size w'.heap.size (cpys xs) u ∧ Below w.heap.size w w'
set_option maxRecDepth 100000 in
set_option maxHeartbeats 8000000 in
theorem writeCS (w : World) (xs : List Cpy) (q p : Int) (x : Vl) (v : Value) (h : Reads w w.heap.size (cpys xs) v) (hg : cpysG xs) :
    Calls Try.prog 26 #[v, .int .i64 q, .int .i64 p, vlV x] w fun e w' => cpP2 w w' (writeC xs q p x) (hasC xs q p) e := by
  have HR := hide h
  have hm := hg.1
  have HG := hide hg
  obtain ⟨a1, c1, e1, _⟩ := h.shape
  subst e1
  clear h hg
  have HGf : Hid (∀ j, j < xs.length → CpyG (xs.getD j default)) := hide (fun j hj => getD_mem HG.out.2 j hj)
  have HV0 : Hid (hasC xs q p = false → writeC xs q p x = xs ∧ hasC xs q p = false) := hide (fun h => ⟨by unfold writeC; rw [if_neg (by rw [h]; simp)], h⟩)
  have HV1 : Hid (atC xs q < 0 → hasC xs q p = false) := hide (fun h => by unfold hasC foundC; rw [decide_eq_false (by omega)]; rfl)
  have HV2 : Hid (∀ j : Nat, atC xs q = (j : Int) → hasC xs q p = ((xs.getD j default).v && inB p 0 (((xs.getD j default).f.length : Int) - 1))) := hide (fun j hj => by unfold hasC foundC copyC; rw [decide_eq_true (by omega), if_pos (by omega), hj, Int.toNat_natCast]; rfl)
  have HV3 : Hid (∀ j : Nat, atC xs q = (j : Int) → hasC xs q p = true → writeC xs q p x = xs.set j (wrOne (xs.getD j default) p x) ∧ hasC xs q p = true) := hide (fun j hj h => ⟨by unfold writeC copyC; rw [if_pos h, if_pos (by omega), hj, Int.toNat_natCast], h⟩)
  have hat := atC_lt xs q
  obtain ⟨C, hC⟩ : ∃ C, hasC xs q p = C := ⟨_, rfl⟩
  obtain ⟨V, hV⟩ : ∃ V, writeC xs q p x = V := ⟨_, rfl⟩
  rw [hC, hV] at HV0
  rw [hC] at HV1
  simp only [hC, hV] at HV2 HV3
  rw [hC, hV]
  clear hC hV
  have bA := ((Below.refl w.heap.size w).alloc (Nat.le_refl _) (.cells #[.bool x.r, .int .i64 x.n] 48))
  have E0 := hide (heap_alloc_new w (.cells #[.bool x.r, .int .i64 x.n] 48))
  have HB := hide bA
  replace HR := hide (HR.out.at bA)
  clear bA
  unfold vlV
  go_enter Try.func26, Try.ntmps26
  go_wp2_with fail
  generalize (w.alloc (.cells #[.bool x.r, .int .i64 x.n] 48)) = W at *
  have hsW := (Array.getElem?_eq_some_iff.1 E0.out).1
  refine (copyCS _ xs _ HR.out HG.out).mono ?_
  rintro e Z1 ⟨r1, rfl, o9, b9⟩
  obtain ⟨ra, rc, re⟩ := o9.shape
  subst re
  have HO := hide o9
  replace HB := hide (HB.out.trans (b9.mono HB.out.size))
  replace HR := hide (HR.out.at b9)
  replace E0 := hide ((b9.block _ hsW).trans E0.out)
  have hz1 := b9.size
  clear o9 b9
  go_wp2_with fail
  refine (atCS _ xs _ q HR.out hm).mono ?_
  rintro e x1 ⟨rfl, hx1⟩
  rw [hx1]
  clear hx1 x1
  generalize atC xs q = K at *
  by_cases k0 : K < 0
  · have HF := hide (HV0.out (HV1.out k0))
    clear HV0 HV1 HV2 HV3 hat
    go_wp2
    go_ret2
    rw [HF.out.1, HF.out.2]
    exact ⟨_, rfl, HO.out.mono (by omega), HB.out⟩
  · obtain ⟨j, hj⟩ : ∃ j : Nat, K = (j : Int) := ⟨K.toNat, by omega⟩
    subst hj
    have hlt : j < xs.length := by omega
    have hltI : (j : Int) < (xs.length : Int) := by omega
    have HF := hide (HV2.out j rfl)
    have HW3 := hide (HV3.out j rfl)
    clear hat HV1 HV2 HV3
    obtain ⟨a', cap', ea, hcap, _, hc⟩ := copy_at HR.out
    cases ea
    obtain ⟨b, o, rfl, hbb, hcell⟩ := hc (by omega)
    obtain ⟨pv1, pv2, d0, d1, d2, d3, d4, d5, r1, r2⟩ := hcell j hlt
    have hfl := (HGf.out j hlt).f.1
    clear hcell hc d0 d1 d2 d5 r2
    obtain ⟨y, hy⟩ : ∃ y, xs.getD j default = y := ⟨_, rfl⟩
    rw [hy] at d3 r1 hfl HF HW3
    obtain ⟨fa, fc, fe, _⟩ := r1.shape
    subst fe
    have hw : IntKind.i64.wrap ((y.f.length : Int) - 1) = (y.f.length : Int) - 1 := by rw [IntKind.wrap_i64]; omega
    cases cv : y.v with
    | false =>
      rw [cv] at d3
      have HF0 := hide (HV0.out (by rw [HF.out, cv]; rfl))
      clear HV0 HW3 HF cv
      have HF := HF0
      go_wp2
      go_ret2
      rw [HF.out.1, HF.out.2]
      exact ⟨_, rfl, HO.out.mono (by omega), HB.out⟩
    | true =>
      rw [cv] at d3
      go_wp2_with fail
      refine (inSpec _ _ _ _).mono ?_
      rintro e w2 ⟨rfl, hw2⟩
      rw [hw2]
      clear hw2 w2
      cases ci : inB p 0 ((y.f.length : Int) - 1) with
      | false =>
        have HF0 := hide (HV0.out (by rw [HF.out, cv, ci]; rfl))
        clear HV0 HW3 HF cv
        have HF := HF0
        go_wp2
        go_ret2
        rw [HF.out.1, HF.out.2]
        exact ⟨_, rfl, HO.out.mono (by omega), HB.out⟩
      | true =>
        have HFX := hide (HW3.out (by rw [HF.out, cv, ci]; rfl))
        have hin := inB_yes ci
        obtain ⟨t, ht⟩ : ∃ t : Nat, p = (t : Int) := ⟨p.toNat, by omega⟩
        subst ht
        have htl : t < y.f.length := by omega
        have htI : (t : Int) < (y.f.length : Int) := by omega
        clear HV0 HW3 HF hin ci
        obtain ⟨g, cc, eg⟩ := ownD_addr (n := xs.length) HO.out (by omega)
        cases eg
        obtain ⟨a', cap', ea, _, _, hc⟩ := copy_at (HO.out.rd (Nat.le_refl _))
        cases ea
        obtain ⟨b', o', eb, hbb', hcell⟩ := hc (by omega)
        cases eb
        obtain ⟨qv1, qv2, _, _, _, _, z4, z5, s1, s2⟩ := hcell j hlt
        simp only [Nat.zero_add] at z4 z5
        rw [hy] at s1 s2
        obtain ⟨ga, gc, ge, _⟩ := s1.shape
        obtain ⟨ha, hc9, he, _⟩ := s2.shape
        subst ge he
        clear hcell hc
        cases ct : y.t with
        | nil =>
          rw [ct] at z5
          have HOq : Hid (OwnD Z1 W.heap.size Z1.heap.size (.row 40 6 xs.length (((xs.take j).flatMap cpyD ++ [.val (.int .i64 y.i), .val (.int .i64 y.c), .val (.int .i64 y.n), .val (.bool y.v), vls y.f]) ++ vls y.t :: (xs.drop (j + 1)).flatMap cpyD)) (.slice (some ⟨g, 0, none⟩) xs.length rc)) := hide (by
            have h := HO.out
            unfold cpys at h
            rw [cpy_mid hlt hy] at h
            simp only [cpyD, List.append_assoc, List.cons_append, List.nil_append] at h ⊢
            exact h)
          obtain ⟨i0, hi, hi0, hi1, hi2⟩ := info_parts Try.infoVl
          have HI := hide (And.intro hi (And.intro hi0 (And.intro hi1 hi2)))
          clear hi hi0 hi1 hi2
          have HZ1 := hide (ownD_zero Z1 48 2)
          have HX1 := hide ((Below.refl Z1.heap.size Z1).alloc (Nat.le_refl _) (.cells #[] 48))
          have hX1 := HX1.out.size
          have HL1 := hide (r1.at HX1.out)
          have qf := (World.cell?_of_block (HX1.out.block _ hbb)).trans d4
          go_upto_region 7 with (first
            | (at_builtin; refine appM rfl _ _ 38 rfl Z1.heap.size _ 48 i0 (.agg #[.bool false, .int .i64 0]) 2 16 Try.underlying38 HI.out.1 HI.out.2.1 HI.out.2.2.1 HI.out.2.2.2 rfl (by decide) _ 0 [] rfl HZ1.out _ rfl y.f.length 48 (y.f.flatMap vlD) HL1.out (flat_vl y.f) (by omega) (by decide) hX1 ?_; intro v1 w1 o1 g1 hb1; rw [Nat.zero_add, List.nil_append] at o1; obtain ⟨a7, c7, e7⟩ := o1.shape; subst e7; have HO1 := hide o1; have HB1 := hide (HX1.out.grown g1 hX1 (fun q hq => (hb1 q hq).1)); have hs1 := HB1.out.size; obtain ⟨x0, e0, f0, gb0, o4⟩ := OwnD.field (HOq.out.below HB1.out) HO1.out (Nat.le_refl _) hz1 hs1 (i := j * 6 + 5) (by rw [List.length_append, cpy_pre xs j (Nat.le_of_lt hlt)]; rfl); have HO4 := hide o4; clear o1 g1 hb1 o4)
            | fail)
          clear HZ1 HX1 HL1 qf e0 f0 d3 d4 r1 z4 z5 s1 s2
          replace E0 := hide ((heap_setCell_other w1 ⟨g, j * 6 + 5, none⟩ (w.heap.size) (.slice a7 y.f.length c7) (by dsimp only; omega)).trans ((HB1.out.block _ (Array.getElem?_eq_some_iff.1 E0.out).1).trans E0.out))
          replace HB := hide ((HB.out.trans (HB1.out.mono HB.out.size)).setCell (p := ⟨g, j * 6 + 5, none⟩) (by dsimp only; omega) (.slice a7 y.f.length c7))
          obtain ⟨ys, hys⟩ : ∃ ys, xs.set j ⟨y.i, y.c, y.n, y.v, y.f, y.f⟩ = ys := ⟨_, rfl⟩
          have hyl : ys.length = xs.length := by rw [← hys, List.length_set]
          have hyy : ys.getD j default = ⟨y.i, y.c, y.n, y.v, y.f, y.f⟩ := by rw [← hys, List.getD_eq_getElem?_getD, List.getElem?_set_self hlt]; rfl
          have hlty : j < ys.length := by omega
          replace HO : Hid (OwnD (w1.setCell ⟨g, j * 6 + 5, none⟩ (.slice a7 y.f.length c7)) W.heap.size (w1.setCell ⟨g, j * 6 + 5, none⟩ (.slice a7 y.f.length c7)).heap.size (cpys ys) (.slice (some ⟨g, 0, none⟩) ys.length rc)) := hide (by
            have h := HO4.out
            rw [hyl, ← hys]
            unfold cpys
            rw [cpy_set _ hlt, List.length_set]
            simp only [cpyD, List.append_assoc, List.cons_append, List.nil_append] at h ⊢
            exact h.up (by simp))
          have hz7 : Z1.heap.size ≤ (w1.setCell ⟨g, j * 6 + 5, none⟩ (.slice a7 y.f.length c7)).heap.size := by simp; omega
          clear HO4 HO1 HB1 HOq
          generalize (w1.setCell ⟨g, j * 6 + 5, none⟩ (.slice a7 y.f.length c7)) = Z2 at *
          have hyx : (xs.length : Int) = (ys.length : Int) := by rw [hyl]
          rw [← hyl]
          obtain ⟨gb, fc7, hcell, _, _, _, _, hb1, hb2, hgg, _⟩ := cpyWriteOwn HO.out hlty hyy (show t < (⟨y.i, y.c, y.n, y.v, y.f, y.f⟩ : Cpy).f.length from htl) x
          have HSs : Hid (Z2.cell? ⟨g, j * 6 + 4, none⟩ = some (.slice (some ⟨gb, 0, none⟩) y.f.length fc7) ∧ Z2.cell? ⟨w.heap.size, 0, none⟩ = some (.bool x.r) ∧ Z2.cell? ⟨w.heap.size, 1, none⟩ = some (.int .i64 x.n)) := hide ⟨hcell, (box_of E0.out).1 0 _ rfl, (box_of E0.out).1 1 _ rfl⟩
          refine wp_region_held_drew (S := fun w' => w'.cell? ⟨g, j * 6 + 4, none⟩ = some (.slice (some ⟨gb, 0, none⟩) y.f.length fc7) ∧ w'.cell? ⟨w.heap.size, 0, none⟩ = some (.bool x.r) ∧ w'.cell? ⟨w.heap.size, 1, none⟩ = some (.int .i64 x.n)) (by kernel_rfl) HSs.out (fun hHeld => ?_)
          have HDr := hide (Below.refl Z2.heap.size Z2).drew
          replace E0 := hide ((HDr.out.block _ (Array.getElem?_eq_some_iff.1 E0.out).1).trans E0.out)
          replace HB := hide (HB.out.trans (HDr.out.mono HB.out.size))
          replace HO := hide (HO.out.below HDr.out)
          have hz8 := HDr.out.size
          clear HDr hcell HSs
          generalize Z2.drew = Z0 at *
          refine wpAnyH_take (i := 0) (v := ?_) rfl (by kernel_rfl) (by kernel_rfl) (by kernel_rfl) (fun _ _ _ h => h) (Or.inl ⟨by rfl, ?_⟩) (by assumption) ?_
          rotate_left
          · intro w' hSw
            try dsimp only at hSw
            go_simp; try rfl
          simp only [List.getElem_toArray, List.getElem_cons_zero, Act.put, List.setIfInBounds_toArray, List.set_cons_zero, List.set_cons_succ]
          refine wpAnyH_take (i := 1) (v := ?_) rfl (by kernel_rfl) (by kernel_rfl) (by kernel_rfl) (fun _ _ _ h => h) (Or.inl ⟨by rfl, ?_⟩) (by assumption) ?_
          rotate_left
          · intro w' hSw
            try dsimp only at hSw
            go_simp; try rfl
          simp only [List.getElem_toArray, List.getElem_cons_succ, List.getElem_cons_zero, Act.put, List.setIfInBounds_toArray, List.set_cons_zero, List.set_cons_succ]
          refine wpAnyH_take (i := 2) (v := ?_) rfl (by kernel_rfl) (by kernel_rfl) (by kernel_rfl) (fun _ _ _ h => h) (Or.inl ⟨by rfl, ?_⟩) (by assumption) ?_
          rotate_left
          · intro w' hSw
            try dsimp only at hSw
            go_simp; try rfl
          simp only [List.getElem_toArray, List.getElem_cons_succ, List.getElem_cons_zero, Act.put, List.setIfInBounds_toArray, List.set_cons_zero, List.set_cons_succ]
          refine wpAnyH_take (i := 3) (v := ?_) rfl (by kernel_rfl) (by kernel_rfl) (by kernel_rfl) (fun _ _ _ h => h) (Or.inl ⟨by rfl, ?_⟩) (by assumption) ?_
          rotate_left
          · intro w' hSw
            try dsimp only at hSw
            go_simp; try rfl
          simp only [List.getElem_toArray, List.getElem_cons_succ, List.getElem_cons_zero, Act.put, List.setIfInBounds_toArray, List.set_cons_zero, List.set_cons_succ]
          refine wpAnyH_take (i := 4) (v := ?_) rfl (by kernel_rfl) (by kernel_rfl) (by kernel_rfl) (fun _ _ _ h => h) (Or.inl ⟨by rfl, ?_⟩) (by assumption) ?_
          rotate_left
          · intro w' hSw
            try dsimp only at hSw
            go_simp; try rfl
          simp only [List.getElem_toArray, List.getElem_cons_succ, List.getElem_cons_zero, Act.put, List.setIfInBounds_toArray, List.set_cons_zero, List.set_cons_succ]
          refine wpAnyH_take (i := 5) (v := ?_) rfl (by kernel_rfl) (by kernel_rfl) (by kernel_rfl) (fun _ _ _ h => h) (Or.inl ⟨by rfl, ?_⟩) (by assumption) ?_
          rotate_left
          · intro w' hSw
            try dsimp only at hSw
            go_simp; try rfl
          simp only [List.getElem_toArray, List.getElem_cons_succ, List.getElem_cons_zero, Act.put, List.setIfInBounds_toArray, List.set_cons_zero, List.set_cons_succ]
          refine wpAnyH_take (i := 6) (v := ?_) rfl (by kernel_rfl) (by kernel_rfl) (by kernel_rfl) (fun _ _ _ h => h) (Or.inl ⟨by rfl, ?_⟩) (by assumption) ?_
          rotate_left
          · intro w' hSw
            try dsimp only at hSw
            go_simp; try rfl
          simp only [List.getElem_toArray, List.getElem_cons_succ, List.getElem_cons_zero, Act.put, List.setIfInBounds_toArray, List.set_cons_zero, List.set_cons_succ]
          refine wpAnyH_take (i := 7) (v := ?_) rfl (by kernel_rfl) (by kernel_rfl) (by kernel_rfl) (fun _ _ _ h => h) (Or.inl ⟨by rfl, ?_⟩) (by assumption) ?_
          rotate_left
          · intro w' hSw
            try dsimp only at hSw
            go_simp; try rfl
          simp only [List.getElem_toArray, List.getElem_cons_succ, List.getElem_cons_zero, Act.put, List.setIfInBounds_toArray, List.set_cons_zero, List.set_cons_succ]
          obtain ⟨gb', fc', e2, x1, x2, x3, x4, x5, x6, _, HN⟩ := cpyWriteOwn HO.out hlty hyy (show t < (⟨y.i, y.c, y.n, y.v, y.f, y.f⟩ : Cpy).f.length from htl) x
          have e3 : some (Value.slice (some ⟨gb', 0, none⟩) y.f.length fc') = some (.slice (some ⟨gb, 0, none⟩) y.f.length fc7) := e2.symm.trans hHeld.1
          cases e3
          have HN2 := hide HN
          clear HN HO e2
          refine wpAnyH_ready (rs := [8]) (by kernel_rfl) (by simp) (AllReadyH.cons rfl (fun K hK => ?_) AllReadyH.nil)
          refine step_storeMid (by kernel_rfl) (by kernel_rfl) 48 _ _ rfl gb (t * 2) #[.bool x.r, .int .i64 x.n] (by kernel_rfl) (by kernel_rfl) (fun q hq => by
            have hq2 : q = 0 ∨ q = 1 := by simp at hq; omega
            rcases hq2 with rfl | rfl
            · exact ⟨x1, x2⟩
            · exact ⟨x3, x4⟩) (by kernel_rfl) (by simp [Value.oneCell']) ?_
          show K _ ((Z0.setCell ⟨gb, t * 2, none⟩ (.bool x.r)).setCell ⟨gb, t * 2 + 1, none⟩ (.int .i64 x.n))
          replace E0 := hide (((heap_setCell_other _ ⟨gb, t * 2 + 1, none⟩ (w.heap.size) (.int .i64 x.n) (by dsimp only; omega)).trans (heap_setCell_other Z0 ⟨gb, t * 2, none⟩ (w.heap.size) (.bool x.r) (by dsimp only; omega))).trans E0.out)
          replace HB := hide ((HB.out.setCell (p := ⟨gb, t * 2, none⟩) (by dsimp only; omega) (.bool x.r)).setCell (p := ⟨gb, t * 2 + 1, none⟩) (by dsimp only; omega) (.int .i64 x.n))
          have hz9 : Z0.heap.size ≤ (((Z0.setCell ⟨gb, t * 2, none⟩ (.bool x.r)).setCell ⟨gb, t * 2 + 1, none⟩ (.int .i64 x.n))).heap.size := by simp
          have hcg : (((Z0.setCell ⟨gb, t * 2, none⟩ (.bool x.r)).setCell ⟨gb, t * 2 + 1, none⟩ (.int .i64 x.n))).cell? ⟨g, j * 6 + 4, none⟩ = some (.slice (some ⟨gb, 0, none⟩) y.f.length fc7) := by
            exact (World.cell?_of_block (w := Z0) ((heap_setCell_other _ ⟨gb, t * 2 + 1, none⟩ g (.int .i64 x.n) (by dsimp only; omega)).trans (heap_setCell_other Z0 ⟨gb, t * 2, none⟩ g (.bool x.r) (by dsimp only; omega)))).trans hHeld.1
          refine hK.out _ _ ⟨hcg, (box_of E0.out).1 0 _ rfl, (box_of E0.out).1 1 _ rfl⟩ (fun hHeld => ?_)
          clear hK K
          try simp only [Act.put, List.setIfInBounds_toArray, List.set_cons_zero, List.set_cons_succ]
          clear hcg hHeld
          generalize ((Z0.setCell ⟨gb, t * 2, none⟩ (.bool x.r)).setCell ⟨gb, t * 2 + 1, none⟩ (.int .i64 x.n)) = Y at *
          refine wpAnyH_done (by kernel_rfl) ?_ _
          go_wp2
          go_ret2
          rw [HFX.out.1, HFX.out.2]
          refine ⟨_, rfl, ?_, HB.out⟩
          have h9 := HN2.out
          have eW : wrOne y (t : Int) x = ⟨y.i, y.c, y.n, y.v, y.f.set t x, y.f⟩ := by unfold wrOne; rw [if_pos ct, Int.toNat_natCast]
          rw [eW]
          have eS : ∀ z : Cpy, ys.set j z = xs.set j z := fun z => by rw [← hys, List.set_set]
          rw [eS] at h9
          have h9b := h9.mono (b' := w.heap.size) (by omega)
          rw [hyl] at h9b
          exact h9b.up (by omega)
        | cons y0 yt =>
          rw [ct] at z5
          have hne : ¬ ((((y0 :: yt).length : Nat) : Int) = 0) := by simp <;> omega
          go_upto_region 7 with fail
          obtain ⟨gb, fc7, hcell, _, _, _, _, hb1, hb2, hgg, _⟩ := cpyWriteOwn HO.out hlt hy htl x
          have HSs : Hid (Z1.cell? ⟨g, j * 6 + 4, none⟩ = some (.slice (some ⟨gb, 0, none⟩) y.f.length fc7) ∧ Z1.cell? ⟨w.heap.size, 0, none⟩ = some (.bool x.r) ∧ Z1.cell? ⟨w.heap.size, 1, none⟩ = some (.int .i64 x.n)) := hide ⟨hcell, (box_of E0.out).1 0 _ rfl, (box_of E0.out).1 1 _ rfl⟩
          refine wp_region_held_drew (S := fun w' => w'.cell? ⟨g, j * 6 + 4, none⟩ = some (.slice (some ⟨gb, 0, none⟩) y.f.length fc7) ∧ w'.cell? ⟨w.heap.size, 0, none⟩ = some (.bool x.r) ∧ w'.cell? ⟨w.heap.size, 1, none⟩ = some (.int .i64 x.n)) (by kernel_rfl) HSs.out (fun hHeld => ?_)
          have HDr := hide (Below.refl Z1.heap.size Z1).drew
          replace E0 := hide ((HDr.out.block _ (Array.getElem?_eq_some_iff.1 E0.out).1).trans E0.out)
          replace HB := hide (HB.out.trans (HDr.out.mono HB.out.size))
          replace HO := hide (HO.out.below HDr.out)
          have hz8 := HDr.out.size
          clear HDr hcell HSs
          generalize Z1.drew = Z0 at *
          refine wpAnyH_take (i := 0) (v := ?_) rfl (by kernel_rfl) (by kernel_rfl) (by kernel_rfl) (fun _ _ _ h => h) (Or.inl ⟨by rfl, ?_⟩) (by assumption) ?_
          rotate_left
          · intro w' hSw
            try dsimp only at hSw
            go_simp; try rfl
          simp only [List.getElem_toArray, List.getElem_cons_zero, Act.put, List.setIfInBounds_toArray, List.set_cons_zero, List.set_cons_succ]
          refine wpAnyH_take (i := 1) (v := ?_) rfl (by kernel_rfl) (by kernel_rfl) (by kernel_rfl) (fun _ _ _ h => h) (Or.inl ⟨by rfl, ?_⟩) (by assumption) ?_
          rotate_left
          · intro w' hSw
            try dsimp only at hSw
            go_simp; try rfl
          simp only [List.getElem_toArray, List.getElem_cons_succ, List.getElem_cons_zero, Act.put, List.setIfInBounds_toArray, List.set_cons_zero, List.set_cons_succ]
          refine wpAnyH_take (i := 2) (v := ?_) rfl (by kernel_rfl) (by kernel_rfl) (by kernel_rfl) (fun _ _ _ h => h) (Or.inl ⟨by rfl, ?_⟩) (by assumption) ?_
          rotate_left
          · intro w' hSw
            try dsimp only at hSw
            go_simp; try rfl
          simp only [List.getElem_toArray, List.getElem_cons_succ, List.getElem_cons_zero, Act.put, List.setIfInBounds_toArray, List.set_cons_zero, List.set_cons_succ]
          refine wpAnyH_take (i := 3) (v := ?_) rfl (by kernel_rfl) (by kernel_rfl) (by kernel_rfl) (fun _ _ _ h => h) (Or.inl ⟨by rfl, ?_⟩) (by assumption) ?_
          rotate_left
          · intro w' hSw
            try dsimp only at hSw
            go_simp; try rfl
          simp only [List.getElem_toArray, List.getElem_cons_succ, List.getElem_cons_zero, Act.put, List.setIfInBounds_toArray, List.set_cons_zero, List.set_cons_succ]
          refine wpAnyH_take (i := 4) (v := ?_) rfl (by kernel_rfl) (by kernel_rfl) (by kernel_rfl) (fun _ _ _ h => h) (Or.inl ⟨by rfl, ?_⟩) (by assumption) ?_
          rotate_left
          · intro w' hSw
            try dsimp only at hSw
            go_simp; try rfl
          simp only [List.getElem_toArray, List.getElem_cons_succ, List.getElem_cons_zero, Act.put, List.setIfInBounds_toArray, List.set_cons_zero, List.set_cons_succ]
          refine wpAnyH_take (i := 5) (v := ?_) rfl (by kernel_rfl) (by kernel_rfl) (by kernel_rfl) (fun _ _ _ h => h) (Or.inl ⟨by rfl, ?_⟩) (by assumption) ?_
          rotate_left
          · intro w' hSw
            try dsimp only at hSw
            go_simp; try rfl
          simp only [List.getElem_toArray, List.getElem_cons_succ, List.getElem_cons_zero, Act.put, List.setIfInBounds_toArray, List.set_cons_zero, List.set_cons_succ]
          refine wpAnyH_take (i := 6) (v := ?_) rfl (by kernel_rfl) (by kernel_rfl) (by kernel_rfl) (fun _ _ _ h => h) (Or.inl ⟨by rfl, ?_⟩) (by assumption) ?_
          rotate_left
          · intro w' hSw
            try dsimp only at hSw
            go_simp; try rfl
          simp only [List.getElem_toArray, List.getElem_cons_succ, List.getElem_cons_zero, Act.put, List.setIfInBounds_toArray, List.set_cons_zero, List.set_cons_succ]
          refine wpAnyH_take (i := 7) (v := ?_) rfl (by kernel_rfl) (by kernel_rfl) (by kernel_rfl) (fun _ _ _ h => h) (Or.inl ⟨by rfl, ?_⟩) (by assumption) ?_
          rotate_left
          · intro w' hSw
            try dsimp only at hSw
            go_simp; try rfl
          simp only [List.getElem_toArray, List.getElem_cons_succ, List.getElem_cons_zero, Act.put, List.setIfInBounds_toArray, List.set_cons_zero, List.set_cons_succ]
          obtain ⟨gb', fc', e2, x1, x2, x3, x4, x5, x6, _, HN⟩ := cpyWriteOwn HO.out hlt hy htl x
          have e3 : some (Value.slice (some ⟨gb', 0, none⟩) y.f.length fc') = some (.slice (some ⟨gb, 0, none⟩) y.f.length fc7) := e2.symm.trans hHeld.1
          cases e3
          have HN2 := hide HN
          clear HN HO e2
          refine wpAnyH_ready (rs := [8]) (by kernel_rfl) (by simp) (AllReadyH.cons rfl (fun K hK => ?_) AllReadyH.nil)
          refine step_storeMid (by kernel_rfl) (by kernel_rfl) 48 _ _ rfl gb (t * 2) #[.bool x.r, .int .i64 x.n] (by kernel_rfl) (by kernel_rfl) (fun q hq => by
            have hq2 : q = 0 ∨ q = 1 := by simp at hq; omega
            rcases hq2 with rfl | rfl
            · exact ⟨x1, x2⟩
            · exact ⟨x3, x4⟩) (by kernel_rfl) (by simp [Value.oneCell']) ?_
          show K _ ((Z0.setCell ⟨gb, t * 2, none⟩ (.bool x.r)).setCell ⟨gb, t * 2 + 1, none⟩ (.int .i64 x.n))
          replace E0 := hide (((heap_setCell_other _ ⟨gb, t * 2 + 1, none⟩ (w.heap.size) (.int .i64 x.n) (by dsimp only; omega)).trans (heap_setCell_other Z0 ⟨gb, t * 2, none⟩ (w.heap.size) (.bool x.r) (by dsimp only; omega))).trans E0.out)
          replace HB := hide ((HB.out.setCell (p := ⟨gb, t * 2, none⟩) (by dsimp only; omega) (.bool x.r)).setCell (p := ⟨gb, t * 2 + 1, none⟩) (by dsimp only; omega) (.int .i64 x.n))
          have hz9 : Z0.heap.size ≤ (((Z0.setCell ⟨gb, t * 2, none⟩ (.bool x.r)).setCell ⟨gb, t * 2 + 1, none⟩ (.int .i64 x.n))).heap.size := by simp
          have hcg : (((Z0.setCell ⟨gb, t * 2, none⟩ (.bool x.r)).setCell ⟨gb, t * 2 + 1, none⟩ (.int .i64 x.n))).cell? ⟨g, j * 6 + 4, none⟩ = some (.slice (some ⟨gb, 0, none⟩) y.f.length fc7) := by
            exact (World.cell?_of_block (w := Z0) ((heap_setCell_other _ ⟨gb, t * 2 + 1, none⟩ g (.int .i64 x.n) (by dsimp only; omega)).trans (heap_setCell_other Z0 ⟨gb, t * 2, none⟩ g (.bool x.r) (by dsimp only; omega)))).trans hHeld.1
          refine hK.out _ _ ⟨hcg, (box_of E0.out).1 0 _ rfl, (box_of E0.out).1 1 _ rfl⟩ (fun hHeld => ?_)
          clear hK K
          try simp only [Act.put, List.setIfInBounds_toArray, List.set_cons_zero, List.set_cons_succ]
          clear hcg hHeld
          generalize ((Z0.setCell ⟨gb, t * 2, none⟩ (.bool x.r)).setCell ⟨gb, t * 2 + 1, none⟩ (.int .i64 x.n)) = Y at *
          refine wpAnyH_done (by kernel_rfl) ?_ _
          go_wp2
          go_ret2
          rw [HFX.out.1, HFX.out.2]
          refine ⟨_, rfl, ?_, HB.out⟩
          have h9 := HN2.out
          have eW : wrOne y (t : Int) x = ⟨y.i, y.c, y.n, y.v, y.f.set t x, y.t⟩ := by unfold wrOne; rw [if_neg (by rw [ct]; simp), Int.toNat_natCast]
          rw [eW]
          exact (h9.mono (by omega)).up (by omega)
end Go.Proofs.Ytofnpgheppgcaaa
