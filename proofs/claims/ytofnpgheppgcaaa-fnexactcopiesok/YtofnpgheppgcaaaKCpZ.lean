/-
  Copies at a node in the program: what is right of them.
-/
import Derived.Test.YtofnpgheppgcaaaKCpX
import Derived.Test.YtofnpgheppgcaaaJ31
import Derived.Test.YtofnpgheppgcaaaJ18
namespace Go.Proofs.Ytofnpgheppgcaaa
open Go.RowKit

set_option maxRecDepth 100000 in
set_option maxHeartbeats 4000000 in
theorem numberC (w : World) (y : Cpy) (fa ta : Option Addr) (fc tc : Nat) :
    Calls Try.prog 46 #[.agg #[.int .i64 y.i, .int .i64 y.c, .int .i64 y.n, .bool y.v, .slice fa y.f.length fc, .slice ta y.t.length tc]] w fun e w' => e = .returned (.int .i64 y.i) ∧ Below w.heap.size w w' := by
  go_enter Try.func46, Try.ntmps46
  go_wp2
  go_ret
  exact ⟨rfl, (Below.refl _ _).alloc (Nat.le_refl _) _⟩
set_option maxRecDepth 100000 in
set_option maxHeartbeats 8000000 in
theorem ascC (w : World) (xs : List Cpy) (u : Value) (h : Reads w w.heap.size (cpys xs) u) (hm : xs.length ≤ 1048576) :
    Calls Try.prog 45 #[u, .func (.func 46) #[] #[]] w fun e w' => e = .returned (.bool (ascB (xs.map (·.i)) 1)) ∧ Below w.heap.size w w' := by
  have HR := hide h
  obtain ⟨a1, c1, e1, _⟩ := h.shape
  subst e1
  clear h
  obtain ⟨V, hV⟩ : ∃ V, ascB (xs.map (·.i)) 1 = V := ⟨_, rfl⟩
  have HV0 : Hid (ascB ((xs.drop 0).map (·.i)) 1 = V) := hide (by rw [List.drop_zero]; exact hV)
  rw [hV]
  clear hV
  go_enter Try.func45, Try.ntmps45
  go_wp2
  go_loopw [5, 10] (fun r i wr => ∃ (j : Nat) (L : Int), j ≤ xs.length ∧ i = .int .i64 (j : Int) ∧ r = .int .i64 L ∧ 1 ≤ L ∧ L ≤ 1000001 ∧ Hid (ascB ((xs.drop j).map (·.i)) L = V) ∧ Hid (Below w.heap.size w wr)) (fun _ i _ => xs.length - (intOf i).toNat)
  case atStart => exact ⟨0, 1, Nat.zero_le _, rfl, rfl, by omega, by omega, HV0, hide (Below.refl _ _)⟩
  case round =>
    obtain ⟨j, L, hj, rfl, rfl, hL1, hL2, HA, HBr⟩ := hrel
    by_cases hlt : j < xs.length
    · obtain ⟨a', cap', ea, hcap, _, hc⟩ := copy_at (HR.out.at HBr.out)
      cases ea
      obtain ⟨b, o, rfl, hbb, hcell⟩ := hc (by omega)
      obtain ⟨pv1, pv2, d0, d1, d2, d3, d4, d5, r1, r2⟩ := hcell j hlt
      have HA2 := hide (by have h := HA.out; rw [drop_getD hlt] at h; exact h)
      clear hcell hc HA
      obtain ⟨y, hy⟩ : ∃ y, xs.getD j default = y := ⟨_, rfl⟩
      rw [hy] at d0 d1 d2 d3 r1 r2 HA2
      clear hy
      obtain ⟨fa, fc, fe, _⟩ := r1.shape
      obtain ⟨ta, tc, te, _⟩ := r2.shape
      subst fe te
      clear r1 r2
      go_upto_region 5 with fail
      clear d0 d1 d2 d3 d4 d5
      have bA := (Below.refl wr.heap.size wr).alloc (Nat.le_refl _) (.cells #[.int .i64 y.i, .int .i64 y.c, .int .i64 y.n, .bool y.v, .slice fa y.f.length fc, .slice ta y.t.length tc] 40)
      have EF := hide (heap_alloc_new wr (.cells #[.int .i64 y.i, .int .i64 y.c, .int .i64 y.n, .bool y.v, .slice fa y.f.length fc, .slice ta y.t.length tc] 40))
      have HBw := hide bA
      clear bA hbb
      have hw0 := HBr.out.size
      obtain ⟨gf, hgf⟩ : ∃ g, wr.heap.size = g := ⟨_, rfl⟩
      rw [hgf] at EF ⊢
      clear hgf
      generalize wr.alloc (.cells #[.int .i64 y.i, .int .i64 y.c, .int .i64 y.n, .bool y.v, .slice fa y.f.length fc, .slice ta y.t.length tc] 40) = W2 at *
      have f0 := (box_of EF.out).1 0 _ rfl
      have f1 := (box_of EF.out).1 1 _ rfl
      have f2 := (box_of EF.out).1 2 _ rfl
      have f3 := (box_of EF.out).1 3 _ rfl
      have f4 := (box_of EF.out).1 4 _ rfl
      have f5 := (box_of EF.out).1 5 _ rfl
      go_wp2_with fail
      refine (numberC _ y fa ta fc tc).mono ?_
      rintro e W3 ⟨rfl, b9⟩
      replace EF := hide ((b9.block _ (Array.getElem?_eq_some_iff.1 EF.out).1).trans EF.out)
      replace HBw := hide (HBw.out.trans (b9.mono HBw.out.size))
      clear b9 f0 f1 f2 f3 f4 f5
      go_wp2_with fail
      refine (inImpl _ _ _ _).mono ?_
      rintro e x2 ⟨rfl, hx2⟩
      rw [hx2]
      clear hx2 x2
      cases ci : inB y.i L 1000000 with
      | false =>
        have HF : Hid (V = false) := hide (by have h := HA2.out; rw [List.map_cons] at h; unfold ascB at h; rw [ci] at h; exact h.symm)
        clear HA2
        go_wp2
        go_ret
        exact ⟨by rw [HF.out]; rfl, HBr.out.trans (HBw.out.mono hw0)⟩
      | true =>
        have hin := inB_yes ci
        have HF : Hid (ascB ((xs.drop (j + 1)).map (·.i)) (y.i + 1) = V) := hide (by have h := HA2.out; rw [List.map_cons] at h; unfold ascB at h; rw [ci] at h; exact h)
        clear HA2 ci
        have f0 := (box_of EF.out).1 0 _ rfl
        have f1 := (box_of EF.out).1 1 _ rfl
        have f2 := (box_of EF.out).1 2 _ rfl
        have f3 := (box_of EF.out).1 3 _ rfl
        have f4 := (box_of EF.out).1 4 _ rfl
        have f5 := (box_of EF.out).1 5 _ rfl
        go_wp2_with fail
        refine (numberC _ y fa ta fc tc).mono ?_
        rintro e W4 ⟨rfl, b9⟩
        replace HBw := hide (HBw.out.trans (b9.mono HBw.out.size))
        clear b9 f0 f1 f2 f3 f4 f5
        have hw : IntKind.i64.wrap (y.i + 1) = y.i + 1 := by rw [IntKind.wrap_i64]; omega
        go_wp2
        exact ⟨⟨j + 1, y.i + 1, by omega, by go_num, by rfl, by omega, by omega, HF, hide (HBr.out.trans (HBw.out.mono hw0))⟩, by simp [intOf]; omega⟩
    · have he : j = xs.length := by omega
      have HF : Hid (V = true) := hide (by have h := HA.out; rw [he, List.drop_length] at h; exact h.symm)
      go_wp2
      go_ret
      exact ⟨by rw [HF.out]; rfl, HBr.out⟩
set_option maxRecDepth 100000 in
set_option maxHeartbeats 8000000 in
theorem copyRightI (w : World) (x : Pg) (u : Value) (y : Cpy) (v1 v2 : Value) (h : Reads w w.heap.size (kins x.k) u) (h1 : Reads w w.heap.size (vls y.f) v1) (h2 : Reads w w.heap.size (vls y.t) v2) (hg : kinsG x.k) :
    Calls Try.prog 44 #[pgV x u, cpyV y v1 v2] w fun e w' => e = .returned (.bool (cpRt x.k y)) ∧ Below w.heap.size w w' := by
  have HR := hide h
  have P1 := hide h1
  have P2 := hide h2
  have hm := hg.1
  have HG := hide hg
  obtain ⟨a1, c1, e1, _⟩ := h.shape
  obtain ⟨fa, fc, e2, _⟩ := h1.shape
  obtain ⟨ta, tc, e3, _⟩ := h2.shape
  subst e1 e2 e3
  clear h h1 h2 hg
  have EX : cpRt x.k y = (inB y.n 0 16777215 && ((inB y.c 0 ((x.k.length : Int) - 1) && fitsT (x.k.getD y.c.toNat default).f y.f) && (!dirtB y || (inB y.c 0 ((x.k.length : Int) - 1) && fitsT (x.k.getD y.c.toNat default).f y.t)))) := by unfold cpRt; rw [fldB_eq, fldB_eq]
  generalize cpRt x.k y = V at *
  have bA := (((Below.refl w.heap.size w).alloc (Nat.le_refl _) (.cells #[.slice a1 x.k.length c1] 31)).alloc (by simp) (.cells #[.int .i64 y.i, .int .i64 y.c, .int .i64 y.n, .bool y.v, .slice fa y.f.length fc, .slice ta y.t.length tc] 40))
  have G0 := heap_alloc_new w (.cells #[.slice a1 x.k.length c1] 31)
  have G1 := heap_alloc_new (w.alloc (.cells #[.slice a1 x.k.length c1] 31)) (.cells #[.int .i64 y.i, .int .i64 y.c, .int .i64 y.n, .bool y.v, .slice fa y.f.length fc, .slice ta y.t.length tc] 40)
  simp only [World.size_alloc] at G1
  have E0 := hide ((Below.heap_alloc _ (.cells #[.int .i64 y.i, .int .i64 y.c, .int .i64 y.n, .bool y.v, .slice fa y.f.length fc, .slice ta y.t.length tc] 40) _ (by simp)).trans (G0))
  have E1 := hide (G1)
  have HB := hide bA
  replace HR := hide (HR.out.at bA)
  replace P1 := hide (P1.out.at bA)
  replace P2 := hide (P2.out.at bA)
  clear bA G0 G1
  unfold pgV cpyV
  go_enter Try.func44, Try.ntmps44
  go_upto_region 1 with fail
  generalize ((w.alloc (.cells #[.slice a1 x.k.length c1] 31)).alloc (.cells #[.int .i64 y.i, .int .i64 y.c, .int .i64 y.n, .bool y.v, .slice fa y.f.length fc, .slice ta y.t.length tc] 40)) = W at *
  have q0 := (box_of E0.out).1 0 _ rfl
  have f0 := (box_of E1.out).1 0 _ rfl
  have f1 := (box_of E1.out).1 1 _ rfl
  have f2 := (box_of E1.out).1 2 _ rfl
  have f3 := (box_of E1.out).1 3 _ rfl
  have f4 := (box_of E1.out).1 4 _ rfl
  have f5 := (box_of E1.out).1 5 _ rfl
  go_wp2_with fail
  refine (hasImpl _ x a1 x.k.length c1 y.c hm).mono ?_
  rintro e W1 ⟨rfl, b9⟩
  replace E0 := hide ((b9.block _ (Array.getElem?_eq_some_iff.1 E0.out).1).trans E0.out)
  replace E1 := hide ((b9.block _ (Array.getElem?_eq_some_iff.1 E1.out).1).trans E1.out)
  replace HR := hide (HR.out.at b9)
  replace P1 := hide (P1.out.at b9)
  replace P2 := hide (P2.out.at b9)
  replace HB := hide (HB.out.trans (b9.mono HB.out.size))
  clear b9 q0 f0 f1 f2 f3 f4 f5
  have q0 := (box_of E0.out).1 0 _ rfl
  have f0 := (box_of E1.out).1 0 _ rfl
  have f1 := (box_of E1.out).1 1 _ rfl
  have f2 := (box_of E1.out).1 2 _ rfl
  have f3 := (box_of E1.out).1 3 _ rfl
  have f4 := (box_of E1.out).1 4 _ rfl
  have f5 := (box_of E1.out).1 5 _ rfl
  cases k1 : inB y.c 0 ((x.k.length : Int) - 1) with
  | false =>
    have HF : Hid (V = false) := hide (EX.trans (by simp [k1]))
    clear EX
    go_wp2
    go_ret
    exact ⟨by rw [HF.out]; rfl, HB.out⟩
  | true =>
    go_wp2_with fail
    refine (inImpl _ _ _ _).mono ?_
    rintro e w2 ⟨rfl, hw2⟩
    rw [hw2]
    clear hw2 w2
    cases k2 : inB y.n 0 16777215 with
    | false =>
      have HF : Hid (V = false) := hide (EX.trans (by simp [k2]))
      clear EX
      go_wp2
      go_ret
      exact ⟨by rw [HF.out]; rfl, HB.out⟩
    | true =>
      have hin := inB_yes k1
      obtain ⟨j, hj⟩ : ∃ j : Nat, y.c = (j : Int) := ⟨y.c.toNat, by omega⟩
      have hlt : j < x.k.length := by omega
      have hltI : (j : Int) < (x.k.length : Int) := by omega
      rw [k1, k2, hj, Int.toNat_natCast] at EX
      simp only [Bool.true_and] at EX
      rw [hj] at E1 f1
      obtain ⟨a', cap', ea, hcap, _, hc⟩ := kind_at HR.out
      cases ea
      obtain ⟨b, o, rfl, hbb, hcell⟩ := hc (by omega)
      obtain ⟨pv1, pv2, pv3, d0, d1, d2, d3, d4, r1, r2, r3⟩ := hcell j hlt
      have hfl := (getD_mem HG.out.2 j hlt).f.1
      clear hcell hc
      obtain ⟨K, hK⟩ : ∃ K, x.k.getD j default = K := ⟨_, rfl⟩
      rw [hK] at d0 d1 r1 r2 r3 hfl EX
      clear hK
      obtain ⟨pa, pc, pe, _⟩ := r1.shape
      obtain ⟨ga, gc, ge, _⟩ := r2.shape
      obtain ⟨ma, mc, me, _⟩ := r3.shape
      subst pe ge me
      have PF := hide r2
      clear r1 r2 r3
      go_upto_region 4 with fail
      clear d0 d1 d2 d3 d4 q0 f0 f1 f2 f3 f4 f5
      have b9 := (Below.refl W1.heap.size W1).alloc (Nat.le_refl _) (.cells #[.string K.n, .int .i64 K.s, .slice pa K.p.length pc, .slice ga K.f.length gc, .slice ma K.m.length mc] 98)
      have EK := hide (heap_alloc_new W1 (.cells #[.string K.n, .int .i64 K.s, .slice pa K.p.length pc, .slice ga K.f.length gc, .slice ma K.m.length mc] 98))
      replace E0 := hide ((b9.block _ (Array.getElem?_eq_some_iff.1 E0.out).1).trans E0.out)
      replace E1 := hide ((b9.block _ (Array.getElem?_eq_some_iff.1 E1.out).1).trans E1.out)
      replace HR := hide (HR.out.at b9)
      replace P1 := hide (P1.out.at b9)
      replace P2 := hide (P2.out.at b9)
      replace PF := hide (PF.out.at b9)
      replace HB := hide (HB.out.trans (b9.mono HB.out.size))
      clear b9 
      obtain ⟨gk, hgk⟩ : ∃ g, W1.heap.size = g := ⟨_, rfl⟩
      rw [hgk] at EK ⊢
      clear hgk
      generalize W1.alloc (.cells #[.string K.n, .int .i64 K.s, .slice pa K.p.length pc, .slice ga K.f.length gc, .slice ma K.m.length mc] 98) = W2 at *
      have f0 := (box_of E1.out).1 0 _ rfl
      have f1 := (box_of E1.out).1 1 _ rfl
      have f2 := (box_of E1.out).1 2 _ rfl
      have f3 := (box_of E1.out).1 3 _ rfl
      have f4 := (box_of E1.out).1 4 _ rfl
      have f5 := (box_of E1.out).1 5 _ rfl
      have m0 := (box_of EK.out).1 0 _ rfl
      have m1 := (box_of EK.out).1 1 _ rfl
      have m2 := (box_of EK.out).1 2 _ rfl
      have m3 := (box_of EK.out).1 3 _ rfl
      have m4 := (box_of EK.out).1 4 _ rfl
      go_wp2_with fail
      refine (fieldsTakeI _ K pa ga ma pc gc mc y.f fa fc PF.out P1.out hfl).mono ?_
      rintro e W3 ⟨rfl, b9⟩
      replace E0 := hide ((b9.block _ (Array.getElem?_eq_some_iff.1 E0.out).1).trans E0.out)
      replace E1 := hide ((b9.block _ (Array.getElem?_eq_some_iff.1 E1.out).1).trans E1.out)
      replace EK := hide ((b9.block _ (Array.getElem?_eq_some_iff.1 EK.out).1).trans EK.out)
      replace HR := hide (HR.out.at b9)
      replace P1 := hide (P1.out.at b9)
      replace P2 := hide (P2.out.at b9)
      replace PF := hide (PF.out.at b9)
      replace HB := hide (HB.out.trans (b9.mono HB.out.size))
      clear b9 f0 f1 f2 f3 f4 f5 m0 m1 m2 m3 m4
      have f0 := (box_of E1.out).1 0 _ rfl
      have f1 := (box_of E1.out).1 1 _ rfl
      have f2 := (box_of E1.out).1 2 _ rfl
      have f3 := (box_of E1.out).1 3 _ rfl
      have f4 := (box_of E1.out).1 4 _ rfl
      have f5 := (box_of E1.out).1 5 _ rfl
      cases k3 : fitsT K.f y.f with
      | false =>
        have HF : Hid (V = false) := hide (EX.trans (by simp [k3]))
        clear EX
        go_wp2
        go_ret
        exact ⟨by rw [HF.out]; rfl, HB.out⟩
      | true =>
        go_wp2_with fail
        refine (writtenI _ ⟨y.i, (j : Int), y.n, y.v, y.f, y.t⟩ _ ta tc).mono ?_
        rintro e W4 ⟨rfl, b9⟩
        rw [show dirtB ⟨y.i, (j : Int), y.n, y.v, y.f, y.t⟩ = dirtB y from rfl]
        replace E0 := hide ((b9.block _ (Array.getElem?_eq_some_iff.1 E0.out).1).trans E0.out)
        replace E1 := hide ((b9.block _ (Array.getElem?_eq_some_iff.1 E1.out).1).trans E1.out)
        replace EK := hide ((b9.block _ (Array.getElem?_eq_some_iff.1 EK.out).1).trans EK.out)
        replace HR := hide (HR.out.at b9)
        replace P1 := hide (P1.out.at b9)
        replace P2 := hide (P2.out.at b9)
        replace PF := hide (PF.out.at b9)
        replace HB := hide (HB.out.trans (b9.mono HB.out.size))
        clear b9 f0 f1 f2 f3 f4 f5
        have f0 := (box_of E1.out).1 0 _ rfl
        have f1 := (box_of E1.out).1 1 _ rfl
        have f2 := (box_of E1.out).1 2 _ rfl
        have f3 := (box_of E1.out).1 3 _ rfl
        have f4 := (box_of E1.out).1 4 _ rfl
        have f5 := (box_of E1.out).1 5 _ rfl
        have m0 := (box_of EK.out).1 0 _ rfl
        have m1 := (box_of EK.out).1 1 _ rfl
        have m2 := (box_of EK.out).1 2 _ rfl
        have m3 := (box_of EK.out).1 3 _ rfl
        have m4 := (box_of EK.out).1 4 _ rfl
        cases k4 : dirtB y with
        | false =>
          have HF : Hid (V = true) := hide (EX.trans (by simp [k3, k4]))
          clear EX
          go_wp2
          go_ret
          exact ⟨by rw [HF.out]; rfl, HB.out⟩
        | true =>
          go_wp2_with fail
          refine (fieldsTakeI _ K pa ga ma pc gc mc y.t ta tc PF.out P2.out hfl).mono ?_
          rintro e W5 ⟨rfl, b9⟩
          replace E0 := hide ((b9.block _ (Array.getElem?_eq_some_iff.1 E0.out).1).trans E0.out)
          replace E1 := hide ((b9.block _ (Array.getElem?_eq_some_iff.1 E1.out).1).trans E1.out)
          replace EK := hide ((b9.block _ (Array.getElem?_eq_some_iff.1 EK.out).1).trans EK.out)
          replace HR := hide (HR.out.at b9)
          replace P1 := hide (P1.out.at b9)
          replace P2 := hide (P2.out.at b9)
          replace PF := hide (PF.out.at b9)
          replace HB := hide (HB.out.trans (b9.mono HB.out.size))
          clear b9 f0 f1 f2 f3 f4 f5
          cases k5 : fitsT K.f y.t with
          | false =>
            have HF : Hid (V = false) := hide (EX.trans (by simp [k3, k4, k5]))
            clear EX
            go_wp2
            go_ret
            exact ⟨by rw [HF.out]; rfl, HB.out⟩
          | true =>
            have HF : Hid (V = true) := hide (EX.trans (by simp [k3, k4, k5]))
            clear EX
            go_wp2
            go_ret
            exact ⟨by rw [HF.out]; rfl, HB.out⟩
end Go.Proofs.Ytofnpgheppgcaaa
