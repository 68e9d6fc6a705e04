/-
  Copies at a node in the program: WriteCopy.
-/
import Derived.Test.YtofnpgheppgcaaaCpN
import Derived.Test.YtofnpgheppgcaaaCpW
namespace Go.Proofs.Ytofnpgheppgcaaa
open Go.RowKit

set_option maxRecDepth 100000 in
set_option maxHeartbeats 8000000 in
theorem writeCI (w : World) (xs : List Cpy) (q p : Int) (x : Vl) (v : Value) (h : Reads w w.heap.size (cpys xs) v) (hg : cpysG xs) :
    Calls Try.prog 28 #[v, .int .i64 q, .int .i64 p, vlV x] w fun e w' => cpP2 w w' (writeC xs q p x) (hasC xs q p) e := by
  have HR := hide h
  have hm := hg.1
  have HG := hide hg
  obtain ⟨a1, c1, e1, _⟩ := h.shape
  subst e1
  clear h hg
  have HGf : Hid (∀ j, j < xs.length → CpyG (xs.getD j default)) := hide (fun j hj => getD_mem HG.out.2 j hj)
  have HV0 : Hid (hasC xs q p = false → writeC xs q p x = xs ∧ hasC xs q p = false) := hide (fun h => ⟨by unfold writeC; rw [if_neg (by rw [h]; simp)], h⟩)
  have HV1 : Hid (atC xs q < 0 → hasC xs q p = false) := hide (fun h => by unfold hasC foundC; rw [decide_eq_false (by omega)]; rfl)
  have HV2 : Hid (∀ j : Nat, atC xs q = (j : Int) → hasC xs q p = ((xs.getD j default).v && inB p 0 (((xs.getD j default).f.length : Int) - 1))) := hide (fun j hj => by unfold hasC foundC copyC; rw [decide_eq_true (by omega), if_pos (by omega), hj, Int.toNat_natCast]; rfl)
  have HV3 : Hid (∀ j : Nat, atC xs q = (j : Int) → hasC xs q p = true → writeC xs q p x = xs.set j (wrOne (xs.getD j default) p x) ∧ hasC xs q p = true) := hide (fun j hj h => ⟨by unfold writeC copyC; rw [if_pos h, if_pos (by omega), hj, Int.toNat_natCast], h⟩)
  have hat := atC_lt xs q
  obtain ⟨C, hC⟩ : ∃ C, hasC xs q p = C := ⟨_, rfl⟩
  obtain ⟨V, hV⟩ : ∃ V, writeC xs q p x = V := ⟨_, rfl⟩
  rw [hC, hV] at HV0
  rw [hC] at HV1
  simp only [hC, hV] at HV2 HV3
  rw [hC, hV]
  clear hC hV
  have bA := ((Below.refl w.heap.size w).alloc (Nat.le_refl _) (.cells #[.bool x.r, .int .i64 x.n] 48))
  have E0 := hide (heap_alloc_new w (.cells #[.bool x.r, .int .i64 x.n] 48))
  have HB := hide bA
  replace HR := hide (HR.out.at bA)
  clear bA
  unfold vlV
  go_enter Try.func28, Try.ntmps28
  go_wp2_with fail
  generalize (w.alloc (.cells #[.bool x.r, .int .i64 x.n] 48)) = W at *
  have hsW := (Array.getElem?_eq_some_iff.1 E0.out).1
  refine (copyEachC _ xs _ HR.out HG.out).mono ?_
  rintro e Z1 ⟨r1, rfl, o9, b9⟩
  obtain ⟨ra, rc, re⟩ := o9.shape
  subst re
  have HO := hide o9
  replace HB := hide (HB.out.trans (b9.mono HB.out.size))
  replace HR := hide (HR.out.at b9)
  replace E0 := hide ((b9.block _ hsW).trans E0.out)
  have hz1 := b9.size
  clear o9 b9
  go_wp2_with fail
  refine (placeCI _ xs _ q (HO.out.rd (Nat.le_refl _)) hm).mono ?_
  rintro e Z2 ⟨rfl, b9⟩
  replace HO := hide ((HO.out.below b9).up b9.size)
  have hzz := b9.size
  replace HR := hide (HR.out.at b9)
  replace E0 := hide ((b9.block _ (Array.getElem?_eq_some_iff.1 E0.out).1).trans E0.out)
  replace HB := hide (HB.out.trans (b9.mono HB.out.size))
  replace hz1 := Nat.le_trans hz1 hzz
  clear b9
  generalize atC xs q = K at *
  by_cases k0 : K < 0
  · have HF := hide (HV0.out (HV1.out k0))
    clear HV0 HV1 HV2 HV3 hat
    go_wp2
    go_ret2
    rw [HF.out.1, HF.out.2]
    exact ⟨_, rfl, HO.out.mono (by omega), HB.out⟩
  · obtain ⟨j, hj⟩ : ∃ j : Nat, K = (j : Int) := ⟨K.toNat, by omega⟩
    subst hj
    have hlt : j < xs.length := by omega
    have hltI : (j : Int) < (xs.length : Int) := by omega
    have HF := hide (HV2.out j rfl)
    have HW3 := hide (HV3.out j rfl)
    clear hat HV1 HV2 HV3
    obtain ⟨g, cc, eg⟩ := ownD_addr (n := xs.length) HO.out (by omega)
    cases eg
    obtain ⟨a', cap', ea, _, _, hc⟩ := copy_at (HO.out.rd (Nat.le_refl _))
    cases ea
    obtain ⟨b', o', eb, hbb', hcell⟩ := hc (by omega)
    cases eb
    obtain ⟨qv1, qv2, d0, d1, d2, d3, d4, d5, s1, s2⟩ := hcell j hlt
    have HGy := hide (HGf.out j hlt)
    simp only [Nat.zero_add] at d0 d1 d2 d3 d4 d5
    clear hcell hc
    obtain ⟨y, hy⟩ : ∃ y, xs.getD j default = y := ⟨_, rfl⟩
    rw [hy] at d0 d1 d2 d3 s1 s2 HGy HF HW3
    obtain ⟨fa, fc, fe, _⟩ := s1.shape
    obtain ⟨ta, tc, te, _⟩ := s2.shape
    subst fe te
    have hfl := HGy.out.f.1
    go_wp2_with fail
    refine (showsI _ y fa fc _ p hfl).mono ?_
    rintro e Z4 ⟨rfl, b9⟩
    replace E0 := hide ((b9.block _ (Array.getElem?_eq_some_iff.1 E0.out).1).trans E0.out)
    replace HO := hide ((HO.out.below b9).up b9.size)
    have hz4 := b9.size
    replace HB := hide (HB.out.trans (b9.mono HB.out.size))
    clear d0 d1 d2 d3 d4 d5 s1 s2 b9 hbb'
    cases ci : (y.v && inB p 0 ((y.f.length : Int) - 1)) with
    | false =>
      have HF0 := hide (HV0.out (by rw [HF.out, ci]))
      clear HV0 HW3 HF
      have HF := HF0
      go_wp2
      go_ret2
      rw [HF.out.1, HF.out.2]
      exact ⟨_, rfl, HO.out.mono (by omega), HB.out⟩
    | true =>
      have HFX := hide (HW3.out (by rw [HF.out, ci]))
      have hin := inB_yes (by rw [Bool.and_eq_true] at ci; exact ci.2)
      obtain ⟨t, ht⟩ : ∃ t : Nat, p = (t : Int) := ⟨p.toNat, by omega⟩
      subst ht
      have htl : t < y.f.length := by omega
      clear HV0 HW3 HF hin
      go_upto_region 5 with fail
      have HCL : Hid (∀ w', Below Z4.heap.size Z4 w' → w'.cell? ⟨w.heap.size, 0, none⟩ = some (.bool x.r) ∧ w'.cell? ⟨w.heap.size, 1, none⟩ = some (.int .i64 x.n)) := hide (fun w' hb => ⟨(box_of ((hb.block _ (Array.getElem?_eq_some_iff.1 E0.out).1).trans E0.out)).1 0 _ rfl, (box_of ((hb.block _ (Array.getElem?_eq_some_iff.1 E0.out).1).trans E0.out)).1 1 _ rfl⟩)
      have HW := hide (Below.refl Z4.heap.size Z4).drew
      refine wp_region_held_drew (S := fun w' => w'.cell? ⟨w.heap.size, 0, none⟩ = some (.bool x.r) ∧ w'.cell? ⟨w.heap.size, 1, none⟩ = some (.int .i64 x.n)) (by kernel_rfl) (HCL.out _ HW.out) (fun hHeld => ?_)
      replace HO := hide (HO.out.below HW.out)
      have hz5 := HW.out.size
      replace E0 := hide ((HW.out.block _ (Array.getElem?_eq_some_iff.1 E0.out).1).trans E0.out)
      replace HB := hide (HB.out.trans (HW.out.mono HB.out.size))
      clear HW HCL
      generalize Z4.drew = Z5 at *
      refine wpAnyH_take (i := 0) (v := ?_) rfl (by kernel_rfl) (by kernel_rfl) (by kernel_rfl) (fun _ _ _ h => h) (Or.inl ⟨by rfl, ?_⟩) (by assumption) ?_
      rotate_left
      · intro w' hSw
        try dsimp only at hSw
        go_simp; try rfl
      simp only [List.getElem_toArray, List.getElem_cons_zero, Act.put, List.setIfInBounds_toArray, List.set_cons_zero, List.set_cons_succ]
      refine wpAnyH_take (i := 1) (v := ?_) rfl (by kernel_rfl) (by kernel_rfl) (by kernel_rfl) (fun _ _ _ h => h) (Or.inl ⟨by rfl, ?_⟩) (by assumption) ?_
      rotate_left
      · intro w' hSw
        try dsimp only at hSw
        go_simp; try rfl
      simp only [List.getElem_toArray, List.getElem_cons_succ, List.getElem_cons_zero, Act.put, List.setIfInBounds_toArray, List.set_cons_zero, List.set_cons_succ]
      refine wpAnyH_take (i := 2) (v := ?_) rfl (by kernel_rfl) (by kernel_rfl) (by kernel_rfl) (fun _ _ _ h => h) (Or.inl ⟨by rfl, ?_⟩) (by assumption) ?_
      rotate_left
      · intro w' hSw
        try dsimp only at hSw
        go_simp; try rfl
      simp only [List.getElem_toArray, List.getElem_cons_succ, List.getElem_cons_zero, Act.put, List.setIfInBounds_toArray, List.set_cons_zero, List.set_cons_succ]
      refine wpAnyH_take (i := 3) (v := ?_) rfl (by kernel_rfl) (by kernel_rfl) (by kernel_rfl) (fun _ _ _ h => h) (Or.inl ⟨by rfl, ?_⟩) (by assumption) ?_
      rotate_left
      · intro w' hSw
        try dsimp only at hSw
        go_simp; try rfl
      simp only [List.getElem_toArray, List.getElem_cons_succ, List.getElem_cons_zero, Act.put, List.setIfInBounds_toArray, List.set_cons_zero, List.set_cons_succ]
      refine wpAnyH_take (i := 4) (v := ?_) rfl (by kernel_rfl) (by kernel_rfl) (by kernel_rfl) (fun _ _ _ h => h) (Or.inl ⟨by rfl, ?_⟩) (by assumption) ?_
      rotate_left
      · intro w' hSw
        try dsimp only at hSw
        go_simp; try rfl
      simp only [List.getElem_toArray, List.getElem_cons_succ, List.getElem_cons_zero, Act.put, List.setIfInBounds_toArray, List.set_cons_zero, List.set_cons_succ]
      refine wpAnyH_ready (rs := [5]) (by kernel_rfl) (by simp) (AllReadyH.cons rfl (fun K hK => ?_) AllReadyH.nil)
      refine step_callW (some 34) (by kernel_rfl) (by kernel_rfl) 59 _ _ rfl #[.pointer (some ⟨g, j * 6, none⟩), .int .i64 (t : Int), .agg #[.bool x.r, .int .i64 x.n]] (by kernel_rfl) (writeOneI _ W.heap.size Z4.heap.size g rc j t xs y x HO.out (by omega) hz5 hlt hm hy HGy.out htl) ?_
      rintro e Z6 ⟨rfl, o9, b9⟩
      replace E0 := hide ((b9.block _ (by omega)).trans E0.out)
      have HO6 := hide o9
      replace HB := hide (HB.out.trans (b9.mono (by omega)))
      clear o9 b9 HO
      refine ⟨_, rfl, ?_⟩
      refine hK.out _ _ ⟨(box_of E0.out).1 0 _ rfl, (box_of E0.out).1 1 _ rfl⟩ (fun hHeld => ?_)
      clear hK K
      simp only [Act.put, List.setIfInBounds_toArray, List.set_cons_zero, List.set_cons_succ]
      refine wpAnyH_done (by kernel_rfl) ?_ _
      go_wp2
      go_ret2
      rw [HFX.out.1, HFX.out.2]
      refine ⟨_, rfl, ?_, HB.out⟩
      have h9 := HO6.out
      have h9b := h9.mono (b' := w.heap.size) (by omega)
      unfold cpys at h9b ⊢
      rw [List.length_set] at h9b ⊢
      exact h9b
end Go.Proofs.Ytofnpgheppgcaaa
