/-
  One memory in the program: a field, what is read, found and written.
-/
import Derived.Test.YthlaihkpffddcaaRngP
import Derived.Test.YthlaihkpffddcaaCpyM
import Derived.Test.YthlaihkpffddcaaMemG
namespace Go.Proofs.Ythlaihkpffddcaa
open Go.RowKit

theorem ObsAt.at {w w' : World} {u : Value} {xs : List Ob} {uf : Nat → Option Addr × Nat} (h : ObsAt w.heap.size w u xs uf) (hb : Below w.heap.size w w') : ObsAt w'.heap.size w' u xs uf := by
  obtain ⟨a, cap, e, h2⟩ := h.below hb
  refine ⟨a, cap, e, fun hp => ?_⟩
  obtain ⟨b, o, e2, hlt, hc⟩ := h2 hp
  exact ⟨b, o, e2, Nat.lt_of_lt_of_le hlt hb.size, hc⟩
theorem fuV_ok {w : World} {n : Nat} {m : Mm} {q : Int} {uf : Nat → Option Addr × Nat} (hR : ∀ j, j < m.o.length → Reads w n (vls (m.o.getD j default).f) (.slice (uf j).1 (m.o.getD j default).f.length (uf j).2)) :
    ∃ fa fc, fuV m q uf = .slice fa (findX m q).f.length fc ∧ Reads w n (vls (findX m q).f) (.slice fa (findX m q).f.length fc) := by
  unfold fuV findX
  split
  · rename_i h
    exact ⟨_, _, rfl, hR _ (at_lt h)⟩
  · refine ⟨none, 0, rfl, ?_⟩
    unfold vls Reads
    exact ⟨[], ⟨rfl, none, 0, rfl, Nat.zero_le _, fun _ => rfl, fun h => absurd h (by decide)⟩, by unfold ReadsL; rfl⟩
theorem hasF_found {m : Mm} {q at' : Int} : hasF m q at' = (foundB m q && inB at' 0 (((findX m q).f.length : Int) - 1)) := by
  unfold hasF foundB findX fieldsM
  by_cases h : 0 ≤ atM m q
  · rw [if_pos h]
  · rw [decide_eq_false h]; rfl
def fldP (w w' : World) (m : Mm) (q at' : Int) (uf : Nat → Option Addr × Nat) (e : Ending) : Prop := Below w.heap.size w w' ∧ (hasF m q at' = false → e = .returned (.tuple #[.pointer none, .bool false])) ∧ (hasF m q at' = true → ∃ gb go fc, fuV m q uf = .slice (some ⟨gb, go, none⟩) (findX m q).f.length fc ∧ e = .returned (.tuple #[.pointer (some ⟨gb, go + at'.toNat * 2, none⟩), .bool true]))
set_option maxRecDepth 100000 in
set_option maxHeartbeats 8000000 in
theorem fieldI (w : World) (m : Mm) (u1 u2 : Value) (q at' : Int) (uf : Nat → Option Addr × Nat) (hO : ObsAt w.heap.size w u1 m.o uf) (hR : ∀ j, j < m.o.length → Reads w w.heap.size (vls (m.o.getD j default).f) (.slice (uf j).1 (m.o.getD j default).f.length (uf j).2)) (h2 : Reads w w.heap.size (lks m.l) u2) (hg : obsG m.o) :
    Calls Try.prog 61 #[mmV m u1 u2, .int .i64 q, .int .i64 at'] w fun e w' => fldP w w' m q at' uf e := by
  have HO := hide hO
  have HL := hide h2
  have hm := hg.1
  obtain ⟨fa, fc, hfu, hr⟩ := fuV_ok (q := q) hR
  have hfl := (findX_ok (q := q) hg).f.1
  unfold fldP
  obtain ⟨C, hC⟩ : ∃ C, hasF m q at' = C := ⟨_, rfl⟩
  obtain ⟨X, hX⟩ : ∃ X, findX m q = X := ⟨_, rfl⟩
  obtain ⟨B, hB'⟩ : ∃ B, foundB m q = B := ⟨_, rfl⟩
  have HCF : Hid (C = (B && inB at' 0 ((X.f.length : Int) - 1))) := hide (by rw [← hC, ← hX, ← hB', hasF_found])
  rw [hX] at hfu hr hfl
  rw [hC, hX, hfu]
  have HFU := hide hfu
  have HRF := hide hr
  have HX := hide hX
  have HBB := hide hB'
  obtain ⟨a1, c1, e1, _⟩ := hO
  obtain ⟨a2, c2, e2, _⟩ := h2.shape
  subst e1 e2
  clear h2 hg hR hr hfu hC hX hB'
  have bA := ((Below.refl w.heap.size w).alloc (Nat.le_refl _) (.cells #[.slice a1 m.o.length c1, .slice a2 m.l.length c2] 39))
  have G0 := heap_alloc_new w (.cells #[.slice a1 m.o.length c1, .slice a2 m.l.length c2] 39)
  have E0 := hide (G0)
  have HB := hide bA
  replace HO := hide (HO.out.at bA)
  replace HL := hide (HL.out.at bA)
  replace HRF := hide (HRF.out.at bA)
  clear bA G0
  unfold mmV
  go_enter Try.func61, Try.ntmps61
  go_wp2_with fail
  generalize (w.alloc (.cells #[.slice a1 m.o.length c1, .slice a2 m.l.length c2] 39)) = W at *
  refine (objectI _ m _ _ q uf HO.out HL.out hm).mono ?_
  rintro e w1 ⟨rfl, b1⟩
  replace HRF := hide (HRF.out.at b1)
  replace HB := hide (HB.out.trans (b1.mono HB.out.size))
  clear b1 HO HL
  rw [HX.out, HBB.out, HFU.out]
  have hsB := HB.out.size
  clear HFU HX HBB
  unfold obV
  cases B with
  | false =>
    go_wp2
    go_ret2
    exact ⟨HB.out.alloc hsB _, fun _ => rfl, fun h => by have h2 := HCF.out; rw [h] at h2; cases h2⟩
  | true =>
    have hw : IntKind.i64.wrap ((X.f.length : Int) - 1) = (X.f.length : Int) - 1 := by rw [IntKind.wrap_i64]; omega
    go_wp2_with fail
    refine (inImpl _ _ _ _).mono ?_
    rintro e x2 ⟨rfl, hx2⟩
    rw [hx2]
    clear hx2 x2
    cases ci : inB at' 0 ((X.f.length : Int) - 1) with
    | false =>
      go_wp2
      go_ret2
      exact ⟨HB.out.alloc hsB _, fun _ => rfl, fun h => by have h2 := HCF.out; rw [h, ci] at h2; cases h2⟩
    | true =>
      have hin := inB_yes ci
      obtain ⟨t, ht⟩ : ∃ t : Nat, at' = (t : Int) := ⟨at'.toNat, by omega⟩
      subst ht
      have htl : t < X.f.length := by omega
      have htI : (t : Int) < (X.f.length : Int) := by omega
      obtain ⟨_, _, ea, _, _, hc2⟩ := val_at HRF.out
      cases ea
      obtain ⟨b2, o2, rfl, hbb2, hcell2⟩ := hc2 (by omega)
      obtain ⟨f0, f1⟩ := hcell2 t htl
      have HCT : Hid (C = true) := hide (by rw [HCF.out, ci]; rfl)
      clear hcell2 hc2 hin ci HCF
      go_wp2
      go_ret2
      exact ⟨HB.out.alloc hsB _, fun h => (by rw [HCT.out] at h; cases h), fun _ => ⟨b2, o2, fc, rfl, by rw [Int.toNat_natCast]; rfl⟩⟩
set_option maxRecDepth 100000 in
set_option maxHeartbeats 8000000 in
theorem readI (w : World) (m : Mm) (u1 u2 : Value) (q at' : Int) (h1 : Reads w w.heap.size (obs m.o) u1) (h2 : Reads w w.heap.size (lks m.l) u2) (hg : obsG m.o) :
    Calls Try.prog 29 #[mmV m u1 u2, .int .i64 q, .int .i64 at'] w fun e w' => e = .returned (.tuple #[vlV (readV m q at'), .bool (hasF m q at')]) ∧ Below w.heap.size w w' := by
  obtain ⟨uf, hO, hR⟩ := ObsAt.of h1
  have HO := hide hO
  have HRR := hide hR
  have HL := hide h2
  have HG := hide hg
  obtain ⟨a1, c1, e1, _⟩ := h1.shape
  obtain ⟨a2, c2, e2, _⟩ := h2.shape
  subst e1 e2
  clear h1 h2 hO hR
  have bA := (((Below.refl w.heap.size w).alloc (Nat.le_refl _) (.cells #[.slice a1 m.o.length c1, .slice a2 m.l.length c2] 39)).alloc (by simp) (.cells #[.bool false, .int .i64 0] 59))
  have G0 := heap_alloc_new w (.cells #[.slice a1 m.o.length c1, .slice a2 m.l.length c2] 39)
  have G1 := heap_alloc_new (w.alloc (.cells #[.slice a1 m.o.length c1, .slice a2 m.l.length c2] 39)) (.cells #[.bool false, .int .i64 0] 59)
  simp only [World.size_alloc] at G1
  have E0 := hide ((Below.heap_alloc _ (.cells #[.bool false, .int .i64 0] 59) _ (by simp)).trans (G0))
  have E1 := hide (G1)
  have HB := hide bA
  replace HO := hide (HO.out.at bA)
  replace HRR := hide (fun j hj => (HRR.out j hj).at bA)
  replace HL := hide (HL.out.at bA)
  clear bA G0 G1
  unfold mmV
  go_enter Try.func29, Try.ntmps29
  go_wp2_with fail
  generalize ((w.alloc (.cells #[.slice a1 m.o.length c1, .slice a2 m.l.length c2] 39)).alloc (.cells #[.bool false, .int .i64 0] 59)) = W at *
  refine (fieldI _ m _ _ q at' uf HO.out HRR.out HL.out HG.out).mono ?_
  rintro e w1 ⟨b1, hno, hyes⟩
  obtain ⟨fa, fc, hfu, hr⟩ := fuV_ok (q := q) HRR.out
  have HRF := hide (hr.at b1)
  replace E1 := hide ((b1.block _ (Array.getElem?_eq_some_iff.1 E1.out).1).trans E1.out)
  replace HB := hide (HB.out.trans (b1.mono HB.out.size))
  clear b1 HO HL HRR hr
  have s0 := (box_of E1.out).1 0 _ rfl
  have s1 := (box_of E1.out).1 1 _ rfl
  have sz := (box_of E1.out).2
  have hfv : hasF m q at' = true → readV m q at' = (findX m q).f.getD at'.toNat default ∧ inB at' 0 (((findX m q).f.length : Int) - 1) = true := fun h => by
    have h2 := h
    rw [hasF_found] at h2
    simp only [Bool.and_eq_true] at h2
    refine ⟨?_, h2.2⟩
    unfold readV
    rw [if_pos h]
    unfold findX fieldsM
    unfold foundB at h2
    rw [if_pos (of_decide_eq_true h2.1)]
  have hfn : hasF m q at' = false → readV m q at' = ⟨false, 0⟩ := fun h => by unfold readV; rw [if_neg (by rw [h]; simp)]
  cases hC : hasF m q at' with
  | false =>
    obtain rfl := hno hC
    have HF := hide (hfn hC)
    have HC := hide hC
    clear hno hyes hfn hfv hC
    go_wp2
    refine bodyPost_ret (v := .tuple #[.agg #[.bool false, .int .i64 0], .bool false]) (results_ct Try.results29 _ _ _ rfl (loadVl (putN2 E1.out _ _))) rfl ⟨by rw [HF.out, HC.out]; rfl, ?_⟩
    exact (HB.out.setCell (by simp <;> omega) _).setCell (by simp <;> omega) _
  | true =>
    obtain ⟨gb, go, fc', hfu', rfl⟩ := hyes hC
    obtain ⟨hv, ci⟩ := hfv hC
    have HF := hide hv
    have HC := hide hC
    rw [hfu'] at hfu
    cases hfu
    have hin := inB_yes ci
    obtain ⟨t, ht⟩ : ∃ t : Nat, at' = (t : Int) := ⟨at'.toNat, by omega⟩
    subst ht
    have htl : t < (findX m q).f.length := by omega
    obtain ⟨_, _, ea, _, _, hc2⟩ := val_at HRF.out
    cases ea
    obtain ⟨b2, o2, e9, hbb2, hcell2⟩ := hc2 (by omega)
    cases e9
    obtain ⟨f0, f1⟩ := hcell2 t htl
    rw [Int.toNat_natCast] at HF
    rw [Int.toNat_natCast]
    generalize (findX m q).f.getD t default = z at *
    clear hcell2 hc2 hin ci hno hyes hfn hfv hC hv hfu' htl HRF
    go_wp2
    refine bodyPost_ret (v := .tuple #[.agg #[.bool z.r, .int .i64 z.n], .bool true]) (results_ct Try.results29 _ _ _ rfl (loadVl (putN2 E1.out _ _))) rfl ⟨by rw [HF.out, HC.out]; rfl, ?_⟩
    exact (HB.out.setCell (by simp <;> omega) _).setCell (by simp <;> omega) _
set_option maxRecDepth 100000 in
set_option maxHeartbeats 8000000 in
theorem findI (w : World) (m : Mm) (u1 u2 : Value) (q : Int) (h1 : Reads w w.heap.size (obs m.o) u1) (h2 : Reads w w.heap.size (lks m.l) u2) (hg : obsG m.o) :
    Calls Try.prog 23 #[mmV m u1 u2, .int .i64 q] w fun e w' => obP2 w w' (findX m q) (foundB m q) e := by
  obtain ⟨uf, hO, hR⟩ := ObsAt.of h1
  have HO := hide hO
  have HRR := hide hR
  have HL := hide h2
  have HG := hide hg
  have hm := hg.1
  have hfl := (findX_ok (q := q) hg).f.1
  obtain ⟨a1, c1, e1, _⟩ := h1.shape
  obtain ⟨a2, c2, e2, _⟩ := h2.shape
  subst e1 e2
  clear h1 h2 hO hR
  have bA := (((Below.refl w.heap.size w).alloc (Nat.le_refl _) (.cells #[.slice a1 m.o.length c1, .slice a2 m.l.length c2] 39)).alloc (by simp) (.cells #[.int .i64 0, .int .i64 0, .slice none 0 0] 51))
  have G0 := heap_alloc_new w (.cells #[.slice a1 m.o.length c1, .slice a2 m.l.length c2] 39)
  have G1 := heap_alloc_new (w.alloc (.cells #[.slice a1 m.o.length c1, .slice a2 m.l.length c2] 39)) (.cells #[.int .i64 0, .int .i64 0, .slice none 0 0] 51)
  simp only [World.size_alloc] at G1
  have E0 := hide ((Below.heap_alloc _ (.cells #[.int .i64 0, .int .i64 0, .slice none 0 0] 51) _ (by simp)).trans (G0))
  have E1 := hide (G1)
  have HB := hide bA
  replace HO := hide (HO.out.at bA)
  replace HRR := hide (fun j hj => (HRR.out j hj).at bA)
  replace HL := hide (HL.out.at bA)
  clear bA G0 G1
  unfold mmV
  go_enter Try.func23, Try.ntmps23
  go_wp2_with fail
  generalize ((w.alloc (.cells #[.slice a1 m.o.length c1, .slice a2 m.l.length c2] 39)).alloc (.cells #[.int .i64 0, .int .i64 0, .slice none 0 0] 51)) = W at *
  refine (objectI _ m _ _ q uf HO.out HL.out hm).mono ?_
  rintro e w1 ⟨rfl, b1⟩
  obtain ⟨fa, fc, hfu, hr⟩ := fuV_ok (q := q) HRR.out
  have HRF := hide (hr.at b1)
  replace E1 := hide ((b1.block _ (Array.getElem?_eq_some_iff.1 E1.out).1).trans E1.out)
  replace HB := hide (HB.out.trans (b1.mono HB.out.size))
  clear b1 HO HL HRR hr HG
  rw [hfu]
  clear hfu
  obtain ⟨y, hy⟩ : ∃ y, findX m q = y := ⟨_, rfl⟩
  obtain ⟨C, hC⟩ : ∃ C, foundB m q = C := ⟨_, rfl⟩
  rw [hy] at HRF hfl
  rw [hy, hC]
  have HY := hide hy
  have HCC := hide hC
  clear hy hC
  unfold obV
  go_upto_region 2 with fail
  have bA := (Below.refl w1.heap.size w1).alloc (Nat.le_refl _) (.cells #[.int .i64 y.i, .int .i64 y.c, .slice fa y.f.length fc] 51)
  have EO := hide (heap_alloc_new w1 (.cells #[.int .i64 y.i, .int .i64 y.c, .slice fa y.f.length fc] 51))
  replace E1 := hide ((bA.block _ (Array.getElem?_eq_some_iff.1 E1.out).1).trans E1.out)
  replace HRF := hide (HRF.out.at bA)
  replace HB := hide (HB.out.trans (bA.mono HB.out.size))
  clear bA
  obtain ⟨g5, hg5⟩ : ∃ g, w1.heap.size = g := ⟨_, rfl⟩
  rw [hg5] at EO ⊢
  clear hg5
  generalize w1.alloc (.cells #[.int .i64 y.i, .int .i64 y.c, .slice fa y.f.length fc] 51) = W2 at *
  have q0 := (box_of EO.out).1 0 _ rfl
  have q1 := (box_of EO.out).1 1 _ rfl
  have q2 := (box_of EO.out).1 2 _ rfl
  go_wp2_with fail
  refine (copyObI _ y _ HRF.out (by omega)).mono ?_
  rintro e w2 ⟨v1, rfl, o9, b9⟩
  have hz2 := b9.size
  obtain ⟨pa, pc, pe, _⟩ := (obD_own o9).shape
  subst pe
  have HOw := hide o9
  have hzB0 := HB.out.size
  have hsE := (Array.getElem?_eq_some_iff.1 E1.out).1
  clear o9 q0 q1 q2
  replace E1 := hide ((b9.block _ hsE).trans E1.out)
  replace HB := hide (HB.out.trans (b9.mono HB.out.size))
  have hzB := HB.out.size
  clear b9
  unfold obV
  have s0 := (box_of E1.out).1 0 _ rfl
  have s1 := (box_of E1.out).1 1 _ rfl
  have s2 := (box_of E1.out).1 2 _ rfl
  have sz := (box_of E1.out).2
  go_wp2
  refine bodyPost_ret (v := .tuple #[.agg #[.int .i64 y.i, .int .i64 y.c, .slice pa y.f.length pc], .bool C]) (results_ct Try.results23 _ _ _ rfl (loadOb (putN3 E1.out _ _ _))) rfl ?_
  rw [HY.out, HCC.out]
  refine ⟨_, rfl, ?_, ((HB.out.setCell (by dsimp only; omega) _).setCell (by dsimp only; omega) _).setCell (by dsimp only; omega) _⟩
  refine ((HOw.out.same (fun q hq _ _ => ?_)).mono (by omega)).up (by simp only [World.size_setCell]; omega)
  rw [heap_setCell_other _ _ _ _ (by dsimp only; omega), heap_setCell_other _ _ _ _ (by dsimp only; omega), heap_setCell_other _ _ _ _ (by dsimp only; omega)]
set_option maxRecDepth 100000 in
set_option maxHeartbeats 8000000 in
theorem writeI (w : World) (m : Mm) (u1 u2 : Value) (q at' : Int) (v : Vl) (h1 : Reads w w.heap.size (obs m.o) u1) (h2 : Reads w w.heap.size (lks m.l) u2) (hg : MmG m) :
    Calls Try.prog 33 #[mmV m u1 u2, .int .i64 q, .int .i64 at', vlV v] w fun e w' => mmP2 w w' (writeX m q at' v) (hasF m q at') e := by
  have HR := hide h1
  have HL := hide h2
  have HGm := hide hg
  have hml := hg.l.1
  obtain ⟨a1, c1, e1, _⟩ := h1.shape
  obtain ⟨a2, c2, e2, _⟩ := h2.shape
  subst e1 e2
  clear h1 h2 hg
  have bA := ((((Below.refl w.heap.size w).alloc (Nat.le_refl _) (.cells #[.slice a1 m.o.length c1, .slice a2 m.l.length c2] 39)).alloc (by simp) (.cells #[.bool v.r, .int .i64 v.n] 59)).alloc (by simp <;> omega) (.cells #[.slice none 0 0, .slice none 0 0] 39))
  have G0 := heap_alloc_new w (.cells #[.slice a1 m.o.length c1, .slice a2 m.l.length c2] 39)
  have G1 := heap_alloc_new (w.alloc (.cells #[.slice a1 m.o.length c1, .slice a2 m.l.length c2] 39)) (.cells #[.bool v.r, .int .i64 v.n] 59)
  have G2 := heap_alloc_new ((w.alloc (.cells #[.slice a1 m.o.length c1, .slice a2 m.l.length c2] 39)).alloc (.cells #[.bool v.r, .int .i64 v.n] 59)) (.cells #[.slice none 0 0, .slice none 0 0] 39)
  simp only [World.size_alloc] at G1 G2
  have E0 := hide ((Below.heap_alloc _ (.cells #[.slice none 0 0, .slice none 0 0] 39) _ (by simp <;> omega)).trans ((Below.heap_alloc _ (.cells #[.bool v.r, .int .i64 v.n] 59) _ (by simp)).trans (G0)))
  have E1 := hide ((Below.heap_alloc _ (.cells #[.slice none 0 0, .slice none 0 0] 39) _ (by simp)).trans (G1))
  have E2 := hide (G2)
  have HB := hide bA
  replace HR := hide (HR.out.at bA)
  replace HL := hide (HL.out.at bA)
  clear bA G0 G1 G2
  unfold mmV vlV
  go_enter Try.func33, Try.ntmps33
  go_upto_region 1 with fail
  generalize (((w.alloc (.cells #[.slice a1 m.o.length c1, .slice a2 m.l.length c2] 39)).alloc (.cells #[.bool v.r, .int .i64 v.n] 59)).alloc (.cells #[.slice none 0 0, .slice none 0 0] 39)) = W at *
  have hW2 := (Array.getElem?_eq_some_iff.1 E2.out).1
  have q0 := (box_of E0.out).1 0 _ rfl
  have q1 := (box_of E0.out).1 1 _ rfl
  go_wp2_with fail
  refine (copyMmI _ m _ _ HR.out HL.out HGm.out).mono ?_
  rintro e Z1 ⟨v1, v2, rfl, o9, b9⟩
  obtain ⟨⟨pa, pc, pe⟩, ⟨qa, qc, qe⟩⟩ := (show (∃ a c, v1 = .slice a m.o.length c) ∧ (∃ a c, v2 = .slice a m.l.length c) from ⟨by obtain ⟨a, c, e, _⟩ := (mmD_own o9).1.shape; exact ⟨a, c, e⟩, by obtain ⟨a, c, e, _⟩ := (mmD_own o9).2.shape; exact ⟨a, c, e⟩⟩)
  subst pe qe
  have HO := hide o9
  have hz1 := b9.size
  replace E0 := hide ((b9.block _ (Array.getElem?_eq_some_iff.1 E0.out).1).trans E0.out)
  replace E1 := hide ((b9.block _ (Array.getElem?_eq_some_iff.1 E1.out).1).trans E1.out)
  replace E2 := hide ((b9.block _ (Array.getElem?_eq_some_iff.1 E2.out).1).trans E2.out)
  replace HB := hide (HB.out.trans (b9.mono HB.out.size))
  clear b9
  clear o9 q0 q1 HR HL
  unfold mmV
  go_upto_region 2 with fail
  have bA := (Below.refl Z1.heap.size Z1).alloc (Nat.le_refl _) (.cells #[.slice pa m.o.length pc, .slice qa m.l.length qc] 39)
  have EO := hide (heap_alloc_new Z1 (.cells #[.slice pa m.o.length pc, .slice qa m.l.length qc] 39))
  replace HO := hide (HO.out.below bA)
  have hz2 := bA.size
  replace E0 := hide ((bA.block _ (Array.getElem?_eq_some_iff.1 E0.out).1).trans E0.out)
  replace E1 := hide ((bA.block _ (Array.getElem?_eq_some_iff.1 E1.out).1).trans E1.out)
  replace E2 := hide ((bA.block _ (Array.getElem?_eq_some_iff.1 E2.out).1).trans E2.out)
  replace HB := hide (HB.out.trans (bA.mono HB.out.size))
  clear bA
  obtain ⟨g5, hg5⟩ : ∃ g, Z1.heap.size = g := ⟨_, rfl⟩
  rw [hg5] at EO HO hz1 hz2 ⊢
  clear hg5
  generalize Z1.alloc (.cells #[.slice pa m.o.length pc, .slice qa m.l.length qc] 39) = Z2 at *
  have hs5a := (Array.getElem?_eq_some_iff.1 EO.out).1
  obtain ⟨hRo, hRl⟩ := mmD_own (HO.out.up (show g5 ≤ Z2.heap.size by omega))
  obtain ⟨uf, hO2, hR2⟩ := ObsAt.of hRo
  have HO2 := hide hO2
  have HR2 := hide hR2
  have HL2 := hide hRl
  clear hO2 hR2 hRo hRl
  have q0 := (box_of EO.out).1 0 _ rfl
  have q1 := (box_of EO.out).1 1 _ rfl
  go_wp2_with fail
  refine (fieldI _ m _ _ q at' uf HO2.out HR2.out HL2.out HGm.out.o).mono ?_
  rintro e w2 ⟨b1, hno, hyes⟩
  have hz3 := b1.size
  replace HO := hide (HO.out.below b1)
  replace HO2 := hide (HO2.out.at b1)
  replace EO := hide ((b1.block _ (Array.getElem?_eq_some_iff.1 EO.out).1).trans EO.out)
  replace E0 := hide ((b1.block _ (Array.getElem?_eq_some_iff.1 E0.out).1).trans E0.out)
  replace E1 := hide ((b1.block _ (Array.getElem?_eq_some_iff.1 E1.out).1).trans E1.out)
  replace E2 := hide ((b1.block _ (Array.getElem?_eq_some_iff.1 E2.out).1).trans E2.out)
  replace HB := hide (HB.out.trans (b1.mono HB.out.size))
  clear b1
  clear q0 q1 HR2 HL2
  have hs2 := (Array.getElem?_eq_some_iff.1 E2.out).1
  have hs5 := (Array.getElem?_eq_some_iff.1 EO.out).1
  have hsB := HB.out.size
  cases hC : hasF m q at' with
  | false =>
    obtain rfl := hno hC
    have HF : Hid (writeX m q at' v = m) := hide (by unfold writeX; rw [if_neg (by rw [hC]; simp)])
    have HC := hide hC
    clear hno hyes hC HO2
    have k0 := (box_of EO.out).1 0 _ rfl
    have k1 := (box_of EO.out).1 1 _ rfl
    have l0 := (box_of E2.out).1 0 _ rfl
    have l1 := (box_of E2.out).1 1 _ rfl
    have lz := (box_of E2.out).2
    go_wp2
    refine bodyPost_ret (v := .tuple #[.agg #[.slice pa m.o.length pc, .slice qa m.l.length qc], .bool false]) (results_ct Try.results33 _ _ _ rfl (loadMm (putN2 E2.out _ _))) rfl ?_
    rw [HF.out, HC.out]
    refine ⟨_, _, rfl, ?_, (HB.out.setCell (by dsimp only; omega) _).setCell (by dsimp only; omega) _⟩
    refine ((OwnDL.same (b := W.heap.size) (hi := g5) HO.out (fun q hq hq2 _ => ?_)).mono (by omega)).up (by simp only [World.size_setCell]; omega)
    rw [heap_setCell_other _ _ _ _ (by dsimp only; omega), heap_setCell_other _ _ _ _ (by dsimp only; omega)]
  | true =>
    obtain ⟨gb0, go0, fc0, hfu, rfl⟩ := hyes hC
    have hC2 := hC
    rw [hasF_found] at hC2
    simp only [Bool.and_eq_true] at hC2
    obtain ⟨hfb, ci⟩ := hC2
    have hK : 0 ≤ atM m q := of_decide_eq_true hfb
    have hlt := at_lt hK
    obtain ⟨j, hj⟩ : ∃ j, (atM m q).toNat = j := ⟨_, rfl⟩
    have hX : findX m q = m.o.getD j default := by unfold findX; rw [if_pos hK, hj]
    have hin := inB_yes ci
    obtain ⟨t, ht⟩ : ∃ t : Nat, at' = (t : Int) := ⟨at'.toNat, by omega⟩
    subst ht
    rw [hX] at hin
    rw [hj] at hlt
    obtain ⟨y, hy⟩ : ∃ y, m.o.getD j default = y := ⟨_, rfl⟩
    have hWx : writeX m q t v = ⟨m.o.set j ⟨y.i, y.c, y.f.set t v⟩, m.l⟩ := by unfold writeX fieldsM; rw [if_pos hC, hj, hy, Int.toNat_natCast]
    have hfu2 : Value.slice (uf j).1 y.f.length (uf j).2 = .slice (some ⟨gb0, go0, none⟩) (findX m q).f.length fc0 := by rw [← hfu]; unfold fuV; rw [if_pos hK, hj, hy]
    obtain ⟨ys, zs, hsp, hyl, hset⟩ := split_at' hlt
    rw [hy] at hsp hin
    rw [hset] at hWx
    have HF := hide hWx
    have HC := hide hC
    have htl : t < y.f.length := by omega
    have HOx := HO.out
    unfold mmD at HOx
    rw [hsp] at HOx
    replace HO := hide HOx
    clear HOx
    have hml2 : (ys ++ y :: zs).length = m.o.length := by rw [← hsp]
    obtain ⟨g, pc', gb, fc, e1, hcell, x1, x2, x3, x4, hb1, hb2, hgg, HN⟩ := writeOwn HO.out htl v
    rw [hml2] at e1
    cases e1
    rw [hyl] at hcell
    obtain ⟨_, _, e5, h5⟩ := HO2.out
    cases e5
    obtain ⟨_, _, e6, _, h6⟩ := h5 (by omega)
    cases e6
    obtain ⟨_, _, d2⟩ := h6 j hlt
    rw [Nat.zero_add, hy, hfu2] at d2
    have e7 := hcell.symm.trans d2
    obtain ⟨rfl, rfl⟩ : gb = gb0 ∧ 0 = go0 := by simp at e7; exact ⟨e7.1.1, by omega⟩
    obtain ⟨z1, hz1'⟩ := Option.isSome_iff_exists.1 x1
    obtain ⟨z2, hz2'⟩ := Option.isSome_iff_exists.1 x3
    rw [Int.toNat_natCast, Nat.zero_add]
    have HN2 := hide HN
    have v0 := (box_of E1.out).1 0 _ rfl
    have v1 := (box_of E1.out).1 1 _ rfl
    clear HN HO hno hyes hfu hC hfb ci hK hX hj hy hWx hfu2 hset HO2 h5 h6 d2 e7 hcell x1 x3 hin hsp
    go_upto_region 5 with fail
    replace EO := hide (((heap_setCell_other _ ⟨gb, t * 2 + 1, none⟩ (g5) (.int .i64 v.n) (by dsimp only; omega)).trans (heap_setCell_other w2 ⟨gb, t * 2, none⟩ (g5) (.bool v.r) (by dsimp only; omega))).trans EO.out)
    replace E2 := hide (((heap_setCell_other _ ⟨gb, t * 2 + 1, none⟩ (w.heap.size + 1 + 1) (.int .i64 v.n) (by dsimp only; omega)).trans (heap_setCell_other w2 ⟨gb, t * 2, none⟩ (w.heap.size + 1 + 1) (.bool v.r) (by dsimp only; omega))).trans E2.out)
    replace HB := hide ((HB.out.setCell (p := ⟨gb, t * 2, none⟩) (by dsimp only; omega) (.bool v.r)).setCell (p := ⟨gb, t * 2 + 1, none⟩) (by dsimp only; omega) (.int .i64 v.n))
    have hz4 : w2.heap.size ≤ ((w2.setCell ⟨gb, t * 2, none⟩ (.bool v.r)).setCell ⟨gb, t * 2 + 1, none⟩ (.int .i64 v.n)).heap.size := by simp
    clear v0 v1 hz1' hz2' x2 x4
    generalize ((w2.setCell ⟨gb, t * 2, none⟩ (.bool v.r)).setCell ⟨gb, t * 2 + 1, none⟩ (.int .i64 v.n)) = Y at *
    have HN3 : Hid (OwnDL Y W.heap.size g5 (mmD ⟨ys ++ ⟨y.i, y.c, y.f.set t v⟩ :: zs, m.l⟩) [.slice (some ⟨g, 0, none⟩) m.o.length pc, .slice qa m.l.length qc]) := hide (by
      have h := HN2.out
      rw [hml2] at h
      exact h)
    have k0 := (box_of EO.out).1 0 _ rfl
    have k1 := (box_of EO.out).1 1 _ rfl
    have l0 := (box_of E2.out).1 0 _ rfl
    have l1 := (box_of E2.out).1 1 _ rfl
    have lz := (box_of E2.out).2
    go_wp2
    refine bodyPost_ret (v := .tuple #[.agg #[.slice (some ⟨g, 0, none⟩) m.o.length pc, .slice qa m.l.length qc], .bool true]) (results_ct Try.results33 _ _ _ rfl (loadMm (putN2 E2.out _ _))) rfl ?_
    rw [HF.out, HC.out]
    refine ⟨_, _, rfl, ?_, (HB.out.setCell (by dsimp only; omega) _).setCell (by dsimp only; omega) _⟩
    refine ((OwnDL.same (b := W.heap.size) (hi := g5) HN3.out (fun q hq hq2 _ => ?_)).mono (by omega)).up (by simp only [World.size_setCell]; omega)
    rw [heap_setCell_other _ _ _ _ (by dsimp only; omega), heap_setCell_other _ _ _ _ (by dsimp only; omega)]
end Go.Proofs.Ythlaihkpffddcaa
