/-
  Copies at a node in the program: one copy; which were written.
-/
import Derived.Test.YtofnpgheppgcaaaCpC
import Derived.Test.YtofnpgheppgcaaaDeepL
namespace Go.Proofs.Ytofnpgheppgcaaa
open Go.RowKit

set_option maxRecDepth 100000 in
set_option maxHeartbeats 8000000 in
theorem copyOfI (w : World) (xs : List Cpy) (v : Value) (q : Int) (h : Reads w w.heap.size (cpys xs) v) (hg : cpysG xs) :
    Calls Try.prog 18 #[v, .int .i64 q] w fun e w' => cpyP2 w w' (copyC xs q) (foundC xs q) e := by
  have HR := hide h
  have hm := hg.1
  have HGf : Hid (∀ j, j < xs.length → CpyG (xs.getD j default)) := hide (fun j hj => getD_mem hg.2 j hj)
  obtain ⟨a1, c1, e1, _⟩ := h.shape
  subst e1
  clear h hg
  have HV1 : Hid (atC xs q < 0 → copyC xs q = noCpy ∧ foundC xs q = false) := hide (fun h => ⟨if_neg (by omega), decide_eq_false (by omega)⟩)
  have HV2 : Hid (∀ j : Nat, atC xs q = (j : Int) → copyC xs q = xs.getD j default ∧ foundC xs q = true) := hide (fun j hj => ⟨by unfold copyC; rw [if_pos (by omega), hj, Int.toNat_natCast], decide_eq_true (by omega)⟩)
  have hat := atC_lt xs q
  obtain ⟨C, hC⟩ : ∃ C, foundC xs q = C := ⟨_, rfl⟩
  obtain ⟨V, hV⟩ : ∃ V, copyC xs q = V := ⟨_, rfl⟩
  rw [hC, hV] at HV1
  rw [hC, hV]
  simp only [hC, hV] at HV2
  clear hC hV
  have bA := ((Below.refl w.heap.size w).alloc (Nat.le_refl _) (.cells #[.int .i64 0, .int .i64 0, .int .i64 0, .bool false, .slice none 0 0, .slice none 0 0] 40))
  have G0 := heap_alloc_new w (.cells #[.int .i64 0, .int .i64 0, .int .i64 0, .bool false, .slice none 0 0, .slice none 0 0] 40)
  have E0 := hide (G0)
  have HB := hide bA
  replace HR := hide (HR.out.at bA)
  clear bA G0
  go_enter Try.func18, Try.ntmps18
  go_wp2_with fail
  generalize (w.alloc (.cells #[.int .i64 0, .int .i64 0, .int .i64 0, .bool false, .slice none 0 0, .slice none 0 0] 40)) = W at *
  refine (placeCI _ xs _ q HR.out hm).mono ?_
  rintro e x1 ⟨rfl, b9⟩
  replace E0 := hide ((b9.block _ (Array.getElem?_eq_some_iff.1 E0.out).1).trans E0.out)
  replace HR := hide (HR.out.at b9)
  replace HB := hide (HB.out.trans (b9.mono HB.out.size))
  clear b9
  generalize atC xs q = K at *
  have hs1 := (Array.getElem?_eq_some_iff.1 E0.out).1
  have hsB := HB.out.size
  by_cases k0 : K < 0
  · have HF := hide (HV1.out k0)
    clear HV1 HV2 hat
    have s0 := (box_of E0.out).1 0 _ rfl
    have s1 := (box_of E0.out).1 1 _ rfl
    have s2 := (box_of E0.out).1 2 _ rfl
    have s3 := (box_of E0.out).1 3 _ rfl
    have s4 := (box_of E0.out).1 4 _ rfl
    have s5 := (box_of E0.out).1 5 _ rfl
    have sz := (box_of E0.out).2
    go_wp2
    refine bodyPost_ret (v := .tuple #[.agg #[.int .i64 0, .int .i64 0, .int .i64 0, .bool false, .slice none 0 0, .slice none 0 0], .bool false]) (results_ct Try.results18 _ _ _ rfl (loadCpy (putN6c E0.out _ _ _ _ _ _))) rfl ?_
    rw [HF.out.1, HF.out.2]
    exact ⟨_, _, rfl, OwnDL.val (OwnDL.val (OwnDL.val (OwnDL.val (OwnDL.cons (m := w.heap.size) (ownD_nil _ _ _ _ _) (OwnDL.cons (m := w.heap.size) (ownD_nil _ _ _ _ _) (ownDL_nil _ _ _) (Nat.le_refl _) (by simp only [World.size_setCell]; omega)) (Nat.le_refl _) (by simp only [World.size_setCell]; omega))))), (((((HB.out.setCell (by dsimp only; omega) _).setCell (by dsimp only; omega) _).setCell (by dsimp only; omega) _).setCell (by dsimp only; omega) _).setCell (by dsimp only; omega) _).setCell (by dsimp only; omega) _⟩
  · obtain ⟨j, hj⟩ : ∃ j : Nat, K = (j : Int) := ⟨K.toNat, by omega⟩
    subst hj
    have hlt : j < xs.length := by omega
    have hltI : (j : Int) < (xs.length : Int) := by omega
    have HF := hide (HV2.out j rfl)
    clear hat HV1 HV2
    obtain ⟨a', cap', ea, hcap, _, hc⟩ := copy_at HR.out
    cases ea
    obtain ⟨b, o, rfl, hbb, hcell⟩ := hc (by omega)
    obtain ⟨pv1, pv2, d0, d1, d2, d3, d4, d5, r1, r2⟩ := hcell j hlt
    have HGy := hide (HGf.out j hlt)
    clear hcell hc
    obtain ⟨y, hy⟩ : ∃ y, xs.getD j default = y := ⟨_, rfl⟩
    rw [hy] at d0 d1 d2 d3 r1 r2 HGy HF
    clear hy
    obtain ⟨fa, fc, fe, _⟩ := r1.shape
    obtain ⟨ta, tc, te, _⟩ := r2.shape
    subst fe te
    go_wp2_with fail
    refine (copyCpI _ y _ _ r1 r2 HGy.out.f.1 HGy.out.t.1).mono ?_
    rintro e w2 ⟨v1, v2, rfl, o9, b9⟩
    have hz2 := b9.size
    obtain ⟨pa, pc, pe, _⟩ := (cpyD_own o9).1.shape
    obtain ⟨qa, qc, qe, _⟩ := (cpyD_own o9).2.shape
    subst pe qe
    have HO := hide o9
    clear o9 d0 d1 d2 d3 d4 d5 r1 r2
    replace E0 := hide ((b9.block _ hs1).trans E0.out)
    replace HB := hide (HB.out.trans (b9.mono HB.out.size))
    clear b9
    unfold cpyV
    have s0 := (box_of E0.out).1 0 _ rfl
    have s1 := (box_of E0.out).1 1 _ rfl
    have s2 := (box_of E0.out).1 2 _ rfl
    have s3 := (box_of E0.out).1 3 _ rfl
    have s4 := (box_of E0.out).1 4 _ rfl
    have s5 := (box_of E0.out).1 5 _ rfl
    have sz := (box_of E0.out).2
    go_wp2
    refine bodyPost_ret (v := .tuple #[.agg #[.int .i64 y.i, .int .i64 y.c, .int .i64 y.n, .bool y.v, .slice pa y.f.length pc, .slice qa y.t.length qc], .bool true]) (results_ct Try.results18 _ _ _ rfl (loadCpy (putN6c E0.out _ _ _ _ _ _))) rfl ?_
    rw [HF.out.1, HF.out.2]
    refine ⟨_, _, rfl, ?_, (((((HB.out.setCell (by dsimp only; omega) _).setCell (by dsimp only; omega) _).setCell (by dsimp only; omega) _).setCell (by dsimp only; omega) _).setCell (by dsimp only; omega) _).setCell (by dsimp only; omega) _⟩
    refine ((HO.out.same (fun q hq _ _ => ?_)).mono (by omega)).up (by simp only [World.size_setCell]; omega)
    rw [heap_setCell_other _ _ _ _ (by dsimp only; omega), heap_setCell_other _ _ _ _ (by dsimp only; omega), heap_setCell_other _ _ _ _ (by dsimp only; omega), heap_setCell_other _ _ _ _ (by dsimp only; omega), heap_setCell_other _ _ _ _ (by dsimp only; omega), heap_setCell_other _ _ _ _ (by dsimp only; omega)]
set_option maxRecDepth 100000 in
set_option maxHeartbeats 8000000 in
theorem dirtyI (w : World) (xs : List Cpy) (v : Value) (h : Reads w w.heap.size (cpys xs) v) (hg : cpysG xs) :
    Calls Try.prog 31 #[v] w fun e w' => rowP w w' (ints (dirtyC xs)) e := by
  have HR := hide h
  have hm := hg.1
  have HGf : Hid (∀ j, j < xs.length → CpyG (xs.getD j default)) := hide (fun j hj => getD_mem hg.2 j hj)
  obtain ⟨a1, c1, e1, _⟩ := h.shape
  subst e1
  clear h hg
  clear HGf
  have hdl := dirty_len
  obtain ⟨i0, hi, hz0, hz1, hz2⟩ := info_parts Try.infoNi
  have HI := hide (And.intro hi (And.intro hz0 (And.intro hz1 hz2)))
  clear hi hz0 hz1 hz2
  go_enter Try.func31, Try.ntmps31
  go_wp2
  go_loopw [3, 8] (fun r i wr => ∃ (j : Nat) (ys : List Int), j ≤ xs.length ∧ Hid (ys = dirtyC (xs.take j)) ∧ i = .int .i64 (j : Int) ∧ ∃ (va : Option Addr) (vc : Nat), r = .slice va ys.length vc ∧ Hid (OwnD wr w.heap.size wr.heap.size (ints ys) (.slice va ys.length vc)) ∧ Hid (Below w.heap.size w wr)) (fun _ i _ => xs.length - (intOf i).toNat)
  case atStart => exact ⟨0, [], Nat.zero_le _, hide (by simp [dirtyC]), rfl, none, 0, rfl, hide (ownD_nil _ _ _ _ _), hide (Below.refl _ _)⟩
  case round =>
    obtain ⟨j, ys, hj, HYS, rfl, va, vc, rfl, HOr, HBr⟩ := hrel
    have hyl : ys.length ≤ 1048576 := by
      have h1 := hdl (xs.take j)
      rw [← HYS.out, List.length_take] at h1
      omega
    by_cases hlt : j < xs.length
    · obtain ⟨a', cap', ea, hcap, _, hc⟩ := copy_at (HR.out.at HBr.out)
      cases ea
      obtain ⟨b, o, rfl, hbb, hcell⟩ := hc (by omega)
      obtain ⟨pv1, pv2, d0, d1, d2, d3, d4, d5, r1, r2⟩ := hcell j hlt
      clear hcell hc
      obtain ⟨y, hy⟩ : ∃ y, xs.getD j default = y := ⟨_, rfl⟩
      have HY := hide hy
      rw [hy] at d0 d1 d2 d3 r1 r2
      clear hy
      obtain ⟨fa, fc, fe, _⟩ := r1.shape
      obtain ⟨ta, tc, te, _⟩ := r2.shape
      subst fe te
      have hltI : (j : Int) < (xs.length : Int) := by omega
      clear r1 r2
      go_upto_region 5 with fail
      clear d0 d1 d2 d3 d4 d5
      have bA := (Below.refl wr.heap.size wr).alloc (Nat.le_refl _) (.cells #[.int .i64 y.i, .int .i64 y.c, .int .i64 y.n, .bool y.v, .slice fa y.f.length fc, .slice ta y.t.length tc] 40)
      have EF := hide (heap_alloc_new wr (.cells #[.int .i64 y.i, .int .i64 y.c, .int .i64 y.n, .bool y.v, .slice fa y.f.length fc, .slice ta y.t.length tc] 40))
      have HBw := hide bA
      clear bA hbb
      obtain ⟨gf, hgf⟩ : ∃ g, wr.heap.size = g := ⟨_, rfl⟩
      have HGF := hide hgf
      rw [hgf] at EF ⊢
      clear hgf
      generalize wr.alloc (.cells #[.int .i64 y.i, .int .i64 y.c, .int .i64 y.n, .bool y.v, .slice fa y.f.length fc, .slice ta y.t.length tc] 40) = W2 at *
      have f0 := (box_of EF.out).1 0 _ rfl
      have f1 := (box_of EF.out).1 1 _ rfl
      have f2 := (box_of EF.out).1 2 _ rfl
      have f3 := (box_of EF.out).1 3 _ rfl
      have f4 := (box_of EF.out).1 4 _ rfl
      have f5 := (box_of EF.out).1 5 _ rfl
      go_wp2_with fail
      refine (writtenI _ y _ ta tc).mono ?_
      rintro e W3 ⟨rfl, b9⟩
      have hz0 := HBw.out.size
      have hz1 := b9.size
      replace HBw := hide (HBw.out.trans (b9.mono HBw.out.size))
      replace EF := hide ((b9.block _ (Array.getElem?_eq_some_iff.1 EF.out).1).trans EF.out)
      clear b9 f0 f1 f2 f3 f4 f5
      cases k : dirtB y with
      | true =>
        have HYS2 : Hid (ys ++ [y.i] = dirtyC (xs.take (j + 1))) := hide (by rw [dirty_yes hlt HY.out k, ← HYS.out])
        clear HYS
        have f0 := (box_of EF.out).1 0 _ rfl
        have HXa := hide ((Below.refl W3.heap.size W3).alloc (Nat.le_refl _) (.cells #[.int .i64 y.i] 3))
        have hsX := HXa.out.size
        have HXb := hide (HBw.out.trans (HXa.out.mono HBw.out.size))
        have hown := hide (OwnDL.cons (HOr.out.below HXb.out) (ownDL_nil _ wr.heap.size wr.heap.size) HBr.out.size (Nat.le_refl _))
        have hbx := hide (box_of (heap_alloc_new W3 (.cells #[.int .i64 y.i] 3))).1
        have hw0 := HBr.out.size
        have HBx := hide (HBr.out.trans (HXb.out.mono hw0))
        go_wp2_with (first
          | (at_builtin; refine appL rfl _ _ 58 rfl w.heap.size wr.heap.size W3.heap.size 3 i0 (.int .i64 0) 1 8 Try.underlying58 HI.out.1 HI.out.2.1 HI.out.2.2.1 HI.out.2.2.2 rfl (by decide) (.slice va ys.length vc) ys.length (ys.flatMap niD) [] [] [] [] rfl hown.out rfl _ _ [.int .i64 y.i] (niD y.i) rfl hbx.out (ownDL_vals _ _ _ [.int .i64 y.i]) rfl (by simp [Value.oneCell']) (by omega) (by decide) (by omega) (by omega) (by omega) ?_; intro g9 vc9 w9 o9 gr9 hq9; have HB9 := hide (HBx.out.grown gr9 HBx.out.size (fun q hq => (hq9 q hq).1)); have HO9 := hide (OwnDL.mid (c1 := []) (v1 := []) o9 rfl); clear o9 gr9 hq9)
          | fail)
        refine ⟨⟨j + 1, ys ++ [y.i], by omega, HYS2, by go_num, some ⟨g9, 0, none⟩, vc9, ?_, hide ?_, HB9⟩, ?_⟩
        · rw [List.length_append]; rfl
        · rw [ints_snoc, List.length_append]
          exact HO9.out
        · simp [intOf]; omega
      | false =>
        have HYS2 : Hid (ys = dirtyC (xs.take (j + 1))) := hide (by rw [dirty_no hlt HY.out k, ← HYS.out])
        clear HYS
        have hw0 := HBr.out.size
        go_wp2
        exact ⟨⟨j + 1, ys, by omega, HYS2, by go_num, va, vc, rfl, hide ((HOr.out.below HBw.out).up (by omega)), hide (HBr.out.trans (HBw.out.mono hw0))⟩, by simp [intOf]; omega⟩
    · have hje : j = xs.length := by omega
      have HXE : Hid (ys = dirtyC xs) := hide (by rw [HYS.out, hje, List.take_length])
      have hnI : ¬ ((j : Int) < (xs.length : Int)) := by omega
      clear hje
      go_wp2
      go_ret
      refine ⟨_, rfl, ?_, HBr.out⟩
      rw [← HXE.out]
      exact HOr.out
end Go.Proofs.Ytofnpgheppgcaaa
