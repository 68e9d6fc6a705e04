/-
  Copies at a node in the program: what is shown, written, read.
-/
import Derived.Test.YtofnpgheppgcaaaJ30
import Derived.Test.YtofnpgheppgcaaaJ16
namespace Go.Proofs.Ytofnpgheppgcaaa
open Go.RowKit

set_option maxRecDepth 100000 in
set_option maxHeartbeats 8000000 in
theorem showsI (w : World) (x : Cpy) (fa : Option Addr) (fc : Nat) (u : Value) (p : Int) (hl : x.f.length ≤ 1048576) :
    Calls Try.prog 56 #[cpyV x (.slice fa x.f.length fc) u, .int .i64 p] w fun e w' => e = .returned (.bool (x.v && inB p 0 ((x.f.length : Int) - 1))) ∧ Below w.heap.size w w' := by
  unfold cpyV
  have hw : IntKind.i64.wrap ((x.f.length : Int) - 1) = (x.f.length : Int) - 1 := by rw [IntKind.wrap_i64]; omega
  obtain ⟨xi, xc, xn, xv, xf, xt⟩ := x
  dsimp only at hl hw ⊢
  cases xv with
  | false =>
    go_enter Try.func56, Try.ntmps56
    go_wp2
    go_ret
    exact ⟨rfl, (Below.refl _ _).alloc (Nat.le_refl _) _⟩
  | true =>
    go_enter Try.func56, Try.ntmps56
    go_wp2_with fail
    refine (inImpl _ _ _ _).mono ?_
    rintro e w2 ⟨rfl, hw2⟩
    rw [hw2]
    clear hw2 w2
    go_wp2
    go_ret
    exact ⟨rfl, (Below.refl _ _).alloc (Nat.le_refl _) _⟩
set_option maxRecDepth 100000 in
set_option maxHeartbeats 8000000 in
theorem writtenI (w : World) (x : Cpy) (u : Value) (ta : Option Addr) (tc : Nat) :
    Calls Try.prog 60 #[cpyV x u (.slice ta x.t.length tc)] w fun e w' => e = .returned (.bool (dirtB x)) ∧ Below w.heap.size w w' := by
  unfold cpyV dirtB
  by_cases h : 0 < x.t.length
  · have h' : (0 : Int) < (x.t.length : Int) := by omega
    rw [decide_eq_true h]
    go_enter Try.func60, Try.ntmps60
    go_wp2
    go_ret
    exact ⟨by simp <;> omega, (Below.refl _ _).alloc (Nat.le_refl _) _⟩
  · have h' : ¬ ((0 : Int) < (x.t.length : Int)) := by omega
    rw [decide_eq_false h]
    go_enter Try.func60, Try.ntmps60
    go_wp2
    go_ret
    exact ⟨by simp <;> omega, (Below.refl _ _).alloc (Nat.le_refl _) _⟩
set_option maxRecDepth 100000 in
set_option maxHeartbeats 8000000 in
theorem readCI (w : World) (xs : List Cpy) (v : Value) (q p : Int) (h : Reads w w.heap.size (cpys xs) v) (hg : cpysG xs) :
    Calls Try.prog 24 #[v, .int .i64 q, .int .i64 p] w fun e w' => e = .returned (.tuple #[vlV (readC xs q p), .bool (hasC xs q p)]) ∧ Below w.heap.size w w' := by
  have HR := hide h
  have hm := hg.1
  have HGf : Hid (∀ j, j < xs.length → CpyG (xs.getD j default)) := hide (fun j hj => getD_mem hg.2 j hj)
  obtain ⟨a1, c1, e1, _⟩ := h.shape
  subst e1
  clear h hg
  have HV0 : Hid (hasC xs q p = false → readC xs q p = ⟨false, 0⟩ ∧ hasC xs q p = false) := hide (fun h => ⟨by unfold readC; rw [if_neg (by rw [h]; simp)], h⟩)
  have HV1 : Hid (atC xs q < 0 → hasC xs q p = false) := hide (fun h => by unfold hasC foundC; rw [decide_eq_false (by omega)]; rfl)
  have HV2 : Hid (∀ j : Nat, atC xs q = (j : Int) → hasC xs q p = ((xs.getD j default).v && inB p 0 (((xs.getD j default).f.length : Int) - 1))) := hide (fun j hj => by unfold hasC foundC copyC; rw [decide_eq_true (by omega), if_pos (by omega), hj, Int.toNat_natCast, Bool.true_and])
  have HV3 : Hid (∀ j : Nat, atC xs q = (j : Int) → hasC xs q p = true → readC xs q p = (xs.getD j default).f.getD p.toNat default ∧ hasC xs q p = true) := hide (fun j hj h => ⟨by unfold readC copyC; rw [if_pos h, if_pos (by omega), hj, Int.toNat_natCast], h⟩)
  have hat := atC_lt xs q
  obtain ⟨C, hC⟩ : ∃ C, hasC xs q p = C := ⟨_, rfl⟩
  obtain ⟨V, hV⟩ : ∃ V, readC xs q p = V := ⟨_, rfl⟩
  rw [hC, hV] at HV0
  rw [hC] at HV1
  simp only [hC, hV] at HV2 HV3
  rw [hC, hV]
  clear hC hV
  have bA := ((Below.refl w.heap.size w).alloc (Nat.le_refl _) (.cells #[.bool false, .int .i64 0] 48))
  have G0 := heap_alloc_new w (.cells #[.bool false, .int .i64 0] 48)
  have E0 := hide (G0)
  have HB := hide bA
  replace HR := hide (HR.out.at bA)
  clear bA G0
  go_enter Try.func24, Try.ntmps24
  go_wp2_with fail
  generalize (w.alloc (.cells #[.bool false, .int .i64 0] 48)) = W at *
  refine (placeCI _ xs _ q HR.out hm).mono ?_
  rintro e x1 ⟨rfl, b9⟩
  replace E0 := hide ((b9.block _ (Array.getElem?_eq_some_iff.1 E0.out).1).trans E0.out)
  replace HR := hide (HR.out.at b9)
  replace HB := hide (HB.out.trans (b9.mono HB.out.size))
  clear b9
  generalize atC xs q = K at *
  have s0 := (box_of E0.out).1 0 _ rfl
  have s1 := (box_of E0.out).1 1 _ rfl
  have sz := (box_of E0.out).2
  by_cases k0 : K < 0
  · have HF := hide (HV0.out (HV1.out k0))
    clear HV0 HV1 HV2 HV3 hat
    go_wp2
    refine bodyPost_ret (v := .tuple #[.agg #[.bool false, .int .i64 0], .bool false]) (results_ct Try.results24 _ _ _ rfl (loadVl (putN2 E0.out _ _))) rfl ⟨by rw [HF.out.1, HF.out.2]; rfl, ?_⟩
    exact (HB.out.setCell (by simp <;> omega) _).setCell (by simp <;> omega) _
  · obtain ⟨j, hj⟩ : ∃ j : Nat, K = (j : Int) := ⟨K.toNat, by omega⟩
    subst hj
    have hlt : j < xs.length := by omega
    have hltI : (j : Int) < (xs.length : Int) := by omega
    have HF := hide (HV2.out j rfl)
    have HW3 := hide (HV3.out j rfl)
    clear hat HV1 HV2 HV3
    obtain ⟨a', cap', ea, hcap, _, hc⟩ := copy_at HR.out
    cases ea
    obtain ⟨b, o, rfl, hbb, hcell⟩ := hc (by omega)
    obtain ⟨pv1, pv2, d0, d1, d2, d3, d4, d5, r1, r2⟩ := hcell j hlt
    have hfl := (HGf.out j hlt).f.1
    clear hcell hc
    obtain ⟨y, hy⟩ : ∃ y, xs.getD j default = y := ⟨_, rfl⟩
    rw [hy] at d0 d1 d2 d3 r1 r2 hfl HF HW3
    clear hy
    obtain ⟨fa, fc, fe, _⟩ := r1.shape
    obtain ⟨ta, tc, te, _⟩ := r2.shape
    subst fe te
    go_wp2_with fail
    refine (showsI _ y fa fc _ p hfl).mono ?_
    rintro e w2 ⟨rfl, b9⟩
    replace E0 := hide ((b9.block _ (Array.getElem?_eq_some_iff.1 E0.out).1).trans E0.out)
    replace HB := hide (HB.out.trans (b9.mono HB.out.size))
    have k4 := (World.cell?_of_block (b9.block _ hbb)).trans d4
    have kr := r1.at b9
    clear d0 d1 d2 d3 d4 d5 r1 r2 s0 s1 sz
    have s0 := (box_of E0.out).1 0 _ rfl
    have s1 := (box_of E0.out).1 1 _ rfl
    have sz := (box_of E0.out).2
    cases ci : (y.v && inB p 0 ((y.f.length : Int) - 1)) with
    | false =>
      have HF0 := hide (HV0.out (by rw [HF.out, ci]))
      clear HV0 HW3 HF
      have HF := HF0
      go_wp2
      refine bodyPost_ret (v := .tuple #[.agg #[.bool false, .int .i64 0], .bool false]) (results_ct Try.results24 _ _ _ rfl (loadVl (putN2 E0.out _ _))) rfl ⟨by rw [HF.out.1, HF.out.2]; rfl, ?_⟩
      exact (HB.out.setCell (by simp <;> omega) _).setCell (by simp <;> omega) _
    | true =>
      obtain ⟨hv, hc'⟩ := HW3.out (by rw [HF.out, ci])
      have HF1 := hide hv
      have HF2 := hide hc'
      have hin := inB_yes (by rw [Bool.and_eq_true] at ci; exact ci.2)
      obtain ⟨t, ht⟩ : ∃ t : Nat, p = (t : Int) := ⟨p.toNat, by omega⟩
      subst ht
      have htl : t < y.f.length := by omega
      have htI : (t : Int) < (y.f.length : Int) := by omega
      obtain ⟨_, _, ea, _, _, hc2⟩ := val_at kr
      cases ea
      obtain ⟨b2, o2, rfl, hbb2, hcell2⟩ := hc2 (by omega)
      obtain ⟨f0, f1⟩ := hcell2 t htl
      rw [Int.toNat_natCast] at HF1
      generalize y.f.getD t default = z at *
      clear HV0 HW3 HF hv hc' hcell2 hc2 hin b9
      go_wp2
      refine bodyPost_ret (v := .tuple #[.agg #[.bool z.r, .int .i64 z.n], .bool true]) (results_ct Try.results24 _ _ _ rfl (loadVl (putN2 E0.out _ _))) rfl ⟨by rw [HF1.out, HF2.out]; rfl, ?_⟩
      exact (HB.out.setCell (by simp <;> omega) _).setCell (by simp <;> omega) _
end Go.Proofs.Ytofnpgheppgcaaa
