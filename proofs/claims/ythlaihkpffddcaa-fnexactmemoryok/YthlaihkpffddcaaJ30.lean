/-
  Joined: MemW, MemG.
-/
import Derived.Test.YthlaihkpffddcaaJ27
import Derived.Test.YthlaihkpffddcaaJ29
import Derived.Test.YthlaihkpffddcaaJ22
/-
  One memory in the model: what is written.
-/
namespace Go.Proofs.Ythlaihkpffddcaa
open Go.RowKit

def writeX (m : Mm) (q at' : Int) (v : Vl) : Mm := if hasF m q at' = true then ⟨m.o.set (atM m q).toNat ⟨(m.o.getD (atM m q).toNat default).i, (m.o.getD (atM m q).toNat default).c, (fieldsM m q).set at'.toNat v⟩, m.l⟩ else m
def mmP2 (w w' : World) (x : Mm) (c : Bool) (e : Ending) : Prop := ∃ u1 u2, e = .returned (.tuple #[mmV x u1 u2, .bool c]) ∧ OwnDL w' w.heap.size w'.heap.size (mmD x) [u1, u2] ∧ Below w.heap.size w w'
theorem split_at' {xs : List Ob} {j : Nat} (h : j < xs.length) : ∃ ys zs, xs = ys ++ xs.getD j default :: zs ∧ ys.length = j ∧ ∀ z, xs.set j z = ys ++ z :: zs := by
  refine ⟨xs.take j, xs.drop (j + 1), ?_, by rw [List.length_take]; omega, fun z => ?_⟩
  · rw [List.getD_eq_getElem?_getD, List.getElem?_eq_getElem h, Option.getD_some, ← List.drop_eq_getElem_cons h, List.take_append_drop]
  · rw [List.set_eq_take_append_cons_drop, if_pos h]
set_option maxRecDepth 100000 in
set_option maxHeartbeats 8000000 in
theorem writeS (w : World) (m : Mm) (u1 u2 : Value) (q at' : Int) (v : Vl) (h1 : Reads w w.heap.size (obs m.o) u1) (h2 : Reads w w.heap.size (lks m.l) u2) (hg : MmG m) :
    Calls Try.prog 31 #[mmV m u1 u2, .int .i64 q, .int .i64 at', vlV v] w fun e w' => mmP2 w w' (writeX m q at' v) (hasF m q at') e := by
  have HR := hide h1
  have HL := hide h2
  have hm := hg.o.1
  have HGm := hide hg
  have HGf : Hid (∀ j, j < m.o.length → (m.o.getD j default).f.length ≤ 1048576) := hide (fun j hj => (getD_mem hg.o.2 j hj).f.1)
  obtain ⟨a1, c1, e1, _⟩ := h1.shape
  obtain ⟨a2, c2, e2, _⟩ := h2.shape
  subst e1 e2
  clear h1 h2 hg
  have HV1 : Hid (atM m q < 0 → hasF m q at' = false) := hide (fun h => by unfold hasF; rw [decide_eq_false (by omega)]; rfl)
  have HV2 : Hid (∀ j : Nat, atM m q = (j : Int) → hasF m q at' = inB at' 0 (((m.o.getD j default).f.length : Int) - 1)) := hide (fun j hj => by unfold hasF fieldsM; rw [hj, Int.toNat_natCast]; simp)
  have HV3 : Hid (hasF m q at' = false → writeX m q at' v = m) := hide (fun h => by unfold writeX; rw [if_neg (by rw [h]; simp)])
  have HV4 : Hid (∀ j : Nat, atM m q = (j : Int) → hasF m q at' = true → ∀ y, m.o.getD j default = y → writeX m q at' v = ⟨m.o.set j ⟨y.i, y.c, y.f.set at'.toNat v⟩, m.l⟩) := hide (fun j hj h y hy => by unfold writeX fieldsM; rw [if_pos h, hj, Int.toNat_natCast, hy])
  have hat := obAt_lt (q := q) (xs := m.o) (n := 0)
  replace hat : atM m q = -1 ∨ (((0 : Nat) : Int) ≤ atM m q ∧ atM m q < ((0 + m.o.length : Nat) : Int)) := hat
  obtain ⟨C, hC⟩ : ∃ C, hasF m q at' = C := ⟨_, rfl⟩
  obtain ⟨V, hV⟩ : ∃ V, writeX m q at' v = V := ⟨_, rfl⟩
  rw [hC] at HV1 HV3
  simp only [hC] at HV2 HV4
  rw [hV] at HV3
  simp only [hV] at HV4
  rw [hC, hV]
  clear hC hV
  have bA := ((((Below.refl w.heap.size w).alloc (Nat.le_refl _) (.cells #[.slice a1 m.o.length c1, .slice a2 m.l.length c2] 39)).alloc (by simp) (.cells #[.bool v.r, .int .i64 v.n] 59)).alloc (by simp <;> omega) (.cells #[.slice none 0 0, .slice none 0 0] 39))
  have G0 := heap_alloc_new w (.cells #[.slice a1 m.o.length c1, .slice a2 m.l.length c2] 39)
  have G1 := heap_alloc_new (w.alloc (.cells #[.slice a1 m.o.length c1, .slice a2 m.l.length c2] 39)) (.cells #[.bool v.r, .int .i64 v.n] 59)
  have G2 := heap_alloc_new ((w.alloc (.cells #[.slice a1 m.o.length c1, .slice a2 m.l.length c2] 39)).alloc (.cells #[.bool v.r, .int .i64 v.n] 59)) (.cells #[.slice none 0 0, .slice none 0 0] 39)
  simp only [World.size_alloc] at G1 G2
  have E0 := hide ((Below.heap_alloc _ (.cells #[.slice none 0 0, .slice none 0 0] 39) _ (by simp <;> omega)).trans ((Below.heap_alloc _ (.cells #[.bool v.r, .int .i64 v.n] 59) _ (by simp)).trans (G0)))
  have E1 := hide ((Below.heap_alloc _ (.cells #[.slice none 0 0, .slice none 0 0] 39) _ (by simp)).trans (G1))
  have E2 := hide (G2)
  have HB := hide bA
  replace HR := hide (HR.out.at bA)
  replace HL := hide (HL.out.at bA)
  clear bA G0 G1 G2
  unfold mmV vlV
  go_enter Try.func31, Try.ntmps31
  go_upto_region 1 with fail
  generalize (((w.alloc (.cells #[.slice a1 m.o.length c1, .slice a2 m.l.length c2] 39)).alloc (.cells #[.bool v.r, .int .i64 v.n] 59)).alloc (.cells #[.slice none 0 0, .slice none 0 0] 39)) = W at *
  have hW2 := (Array.getElem?_eq_some_iff.1 E2.out).1
  have q0 := (box_of E0.out).1 0 _ rfl
  have q1 := (box_of E0.out).1 1 _ rfl
  go_wp2_with fail
  refine (copyMmS _ m _ _ HR.out HL.out HGm.out).mono ?_
  rintro e Z1 ⟨v1, v2, rfl, o9, b9⟩
  obtain ⟨⟨pa, pc, pe⟩, ⟨qa, qc, qe⟩⟩ := (show (∃ a c, v1 = .slice a m.o.length c) ∧ (∃ a c, v2 = .slice a m.l.length c) from ⟨by obtain ⟨a, c, e, _⟩ := (mmD_own o9).1.shape; exact ⟨a, c, e⟩, by obtain ⟨a, c, e, _⟩ := (mmD_own o9).2.shape; exact ⟨a, c, e⟩⟩)
  subst pe qe
  have HO := hide o9
  have hz1 := b9.size
  replace E0 := hide ((b9.block _ (Array.getElem?_eq_some_iff.1 E0.out).1).trans E0.out)
  replace E1 := hide ((b9.block _ (Array.getElem?_eq_some_iff.1 E1.out).1).trans E1.out)
  replace E2 := hide ((b9.block _ (Array.getElem?_eq_some_iff.1 E2.out).1).trans E2.out)
  replace HR := hide (HR.out.at b9)
  replace HL := hide (HL.out.at b9)
  replace HB := hide (HB.out.trans (b9.mono HB.out.size))
  clear b9
  clear o9 q0 q1
  unfold mmV
  go_upto_region 2 with fail
  have bA := (Below.refl Z1.heap.size Z1).alloc (Nat.le_refl _) (.cells #[.slice pa m.o.length pc, .slice qa m.l.length qc] 39)
  have EO := hide (heap_alloc_new Z1 (.cells #[.slice pa m.o.length pc, .slice qa m.l.length qc] 39))
  replace HO := hide (HO.out.below bA)
  have hz2 := bA.size
  replace E0 := hide ((bA.block _ (Array.getElem?_eq_some_iff.1 E0.out).1).trans E0.out)
  replace E1 := hide ((bA.block _ (Array.getElem?_eq_some_iff.1 E1.out).1).trans E1.out)
  replace E2 := hide ((bA.block _ (Array.getElem?_eq_some_iff.1 E2.out).1).trans E2.out)
  replace HR := hide (HR.out.at bA)
  replace HL := hide (HL.out.at bA)
  replace HB := hide (HB.out.trans (bA.mono HB.out.size))
  clear bA
  obtain ⟨g5, hg5⟩ : ∃ g, Z1.heap.size = g := ⟨_, rfl⟩
  rw [hg5] at EO HO hz1 hz2 ⊢
  clear hg5
  generalize Z1.alloc (.cells #[.slice pa m.o.length pc, .slice qa m.l.length qc] 39) = Z2 at *
  have q0 := (box_of E0.out).1 0 _ rfl
  have q1 := (box_of E0.out).1 1 _ rfl
  go_wp2_with fail
  refine (atS _ m _ _ q HR.out HL.out hm).mono ?_
  rintro e w2 ⟨rfl, b1⟩
  have hz3 := b1.size
  replace HO := hide (HO.out.below b1)
  replace E0 := hide ((b1.block _ (Array.getElem?_eq_some_iff.1 E0.out).1).trans E0.out)
  replace E1 := hide ((b1.block _ (Array.getElem?_eq_some_iff.1 E1.out).1).trans E1.out)
  replace E2 := hide ((b1.block _ (Array.getElem?_eq_some_iff.1 E2.out).1).trans E2.out)
  replace EO := hide ((b1.block _ (Array.getElem?_eq_some_iff.1 EO.out).1).trans EO.out)
  replace HR := hide (HR.out.at b1)
  replace HL := hide (HL.out.at b1)
  replace HB := hide (HB.out.trans (b1.mono HB.out.size))
  clear b1
  clear q0 q1
  generalize atM m q = K at *
  have hs2 := (Array.getElem?_eq_some_iff.1 E2.out).1
  have hs5 := (Array.getElem?_eq_some_iff.1 EO.out).1
  have hsB := HB.out.size
  by_cases k0 : K < 0
  · have hC := HV1.out k0
    have HF := hide (HV3.out hC)
    have HC := hide hC
    clear HV1 HV2 HV3 HV4 hat hC
    have k0 := (box_of EO.out).1 0 _ rfl
    have k1 := (box_of EO.out).1 1 _ rfl
    have l0 := (box_of E2.out).1 0 _ rfl
    have l1 := (box_of E2.out).1 1 _ rfl
    have lz := (box_of E2.out).2
    go_wp2
    refine bodyPost_ret (v := .tuple #[.agg #[.slice pa m.o.length pc, .slice qa m.l.length qc], .bool false]) (results_ct Try.results31 _ _ _ rfl (loadMm (putN2 E2.out _ _))) rfl ?_
    rw [HF.out, HC.out]
    refine ⟨_, _, rfl, ?_, (HB.out.setCell (by dsimp only; omega) _).setCell (by dsimp only; omega) _⟩
    refine ((OwnDL.same (b := W.heap.size) (hi := g5) HO.out (fun q hq hq2 _ => ?_)).mono (by omega)).up (by simp only [World.size_setCell]; omega)
    rw [heap_setCell_other _ _ _ _ (by dsimp only; omega), heap_setCell_other _ _ _ _ (by dsimp only; omega)]
  · obtain ⟨j, hj⟩ : ∃ j : Nat, K = (j : Int) := ⟨K.toNat, by omega⟩
    subst hj
    have hlt : j < m.o.length := by omega
    have hltI : (j : Int) < (m.o.length : Int) := by omega
    have HC0 := hide (HV2.out j rfl)
    have HW3 := hide (HV4.out j rfl)
    clear hat HV1 HV2 HV4
    obtain ⟨a', cap', ea, hcap, _, hc⟩ := object_at HR.out
    cases ea
    obtain ⟨b, o, rfl, hbb, hcell⟩ := hc (by omega)
    obtain ⟨pv1, d0, d1, d2, r1⟩ := hcell j hlt
    have hfl := HGf.out j hlt
    clear hcell hc d0 d1
    obtain ⟨y, hy⟩ : ∃ y, m.o.getD j default = y := ⟨_, rfl⟩
    have HSP := hide (split_at' hlt)
    rw [hy] at r1 hfl HC0 HSP
    have HW4 := hide (fun h => HW3.out h y hy)
    clear hy HW3
    obtain ⟨fa, fc0, fe, _⟩ := r1.shape
    subst fe
    clear r1
    have q0 := (box_of E0.out).1 0 _ rfl
    have hw : IntKind.i64.wrap ((y.f.length : Int) - 1) = (y.f.length : Int) - 1 := by rw [IntKind.wrap_i64]; omega
    go_wp2_with fail
    refine (inSpec _ _ _ _).mono ?_
    rintro e x2 ⟨rfl, hx2⟩
    rw [hx2]
    clear hx2 x2 q0 d2
    cases ci : inB at' 0 ((y.f.length : Int) - 1) with
    | false =>
      have hC := HC0.out.trans ci
      have HF := hide (HV3.out hC)
      have HC := hide hC
      clear HV3 HW4 HC0 hC
      have k0 := (box_of EO.out).1 0 _ rfl
      have k1 := (box_of EO.out).1 1 _ rfl
      have l0 := (box_of E2.out).1 0 _ rfl
      have l1 := (box_of E2.out).1 1 _ rfl
      have lz := (box_of E2.out).2
      go_wp2
      refine bodyPost_ret (v := .tuple #[.agg #[.slice pa m.o.length pc, .slice qa m.l.length qc], .bool false]) (results_ct Try.results31 _ _ _ rfl (loadMm (putN2 E2.out _ _))) rfl ?_
      rw [HF.out, HC.out]
      refine ⟨_, _, rfl, ?_, (HB.out.setCell (by dsimp only; omega) _).setCell (by dsimp only; omega) _⟩
      refine ((OwnDL.same (b := W.heap.size) (hi := g5) HO.out (fun q hq hq2 _ => ?_)).mono (by omega)).up (by simp only [World.size_setCell]; omega)
      rw [heap_setCell_other _ _ _ _ (by dsimp only; omega), heap_setCell_other _ _ _ _ (by dsimp only; omega)]
    | true =>
      have hC := HC0.out.trans ci
      have HF := hide (HW4.out hC)
      have HC := hide hC
      have hin := inB_yes ci
      obtain ⟨t, ht⟩ : ∃ t : Nat, at' = (t : Int) := ⟨at'.toNat, by omega⟩
      subst ht
      have htl : t < y.f.length := by omega
      have htI : (t : Int) < (y.f.length : Int) := by omega
      rw [Int.toNat_natCast] at HF
      clear HV3 HW4 HC0 hC hin ci
      obtain ⟨ys, zs, hsp, hyl, hset⟩ := HSP.out
      rw [hset] at HF
      have HSE := hide hsp
      clear HSP hset
      have HOx := HO.out
      unfold mmD at HOx
      rw [hsp] at HOx
      replace HO := hide HOx
      clear HOx
      have hml : (ys ++ y :: zs).length = m.o.length := by rw [← hsp]
      clear hsp
      obtain ⟨g, pc', gb, fc, e1, hcell, _, _, _, _, hb1, hb2, hgg, _⟩ := writeOwn HO.out htl v
      rw [hml] at e1
      cases e1
      rw [hyl] at hcell
      go_upto_region 5 with fail
      have EO0 := EO
      have HSs : Hid (w2.cell? ⟨g5, 0, none⟩ = some (.slice (some ⟨g, 0, none⟩) m.o.length pc) ∧ w2.cell? ⟨g, j * 3 + 2, none⟩ = some (.slice (some ⟨gb, 0, none⟩) y.f.length fc) ∧ w2.cell? ⟨w.heap.size + 1, 0, none⟩ = some (.bool v.r) ∧ w2.cell? ⟨w.heap.size + 1, 1, none⟩ = some (.int .i64 v.n)) := hide ⟨(box_of EO.out).1 0 _ rfl, hcell, (box_of E1.out).1 0 _ rfl, (box_of E1.out).1 1 _ rfl⟩
      refine wp_region_held_drew (S := fun w' => w'.cell? ⟨g5, 0, none⟩ = some (.slice (some ⟨g, 0, none⟩) m.o.length pc) ∧ w'.cell? ⟨g, j * 3 + 2, none⟩ = some (.slice (some ⟨gb, 0, none⟩) y.f.length fc) ∧ w'.cell? ⟨w.heap.size + 1, 0, none⟩ = some (.bool v.r) ∧ w'.cell? ⟨w.heap.size + 1, 1, none⟩ = some (.int .i64 v.n)) (by kernel_rfl) HSs.out (fun hHeld => ?_)
      have HDr := hide (Below.refl w2.heap.size w2).drew
      replace EO := hide ((HDr.out.block _ (Array.getElem?_eq_some_iff.1 EO.out).1).trans EO.out)
      replace E1 := hide ((HDr.out.block _ (Array.getElem?_eq_some_iff.1 E1.out).1).trans E1.out)
      replace E2 := hide ((HDr.out.block _ (Array.getElem?_eq_some_iff.1 E2.out).1).trans E2.out)
      replace HB := hide (HB.out.trans (HDr.out.mono HB.out.size))
      replace HO := hide (HO.out.below HDr.out)
      have hz3 := HDr.out.size
      clear HDr hcell HSs EO0
      generalize w2.drew = Z0 at *
      refine wpAnyH_take (i := 0) (v := ?_) rfl (by kernel_rfl) (by kernel_rfl) (by kernel_rfl) (fun _ _ _ h => h) (Or.inl ⟨by rfl, ?_⟩) (by assumption) ?_
      rotate_left
      · intro w' hSw
        try dsimp only at hSw
        go_simp; try rfl
      simp only [List.getElem_toArray, List.getElem_cons_zero, Act.put, List.setIfInBounds_toArray, List.set_cons_zero, List.set_cons_succ]
      refine wpAnyH_take (i := 1) (v := ?_) rfl (by kernel_rfl) (by kernel_rfl) (by kernel_rfl) (fun _ _ _ h => h) (Or.inl ⟨by rfl, ?_⟩) (by assumption) ?_
      rotate_left
      · intro w' hSw
        try dsimp only at hSw
        go_simp; try rfl
      simp only [List.getElem_toArray, List.getElem_cons_succ, List.getElem_cons_zero, Act.put, List.setIfInBounds_toArray, List.set_cons_zero, List.set_cons_succ]
      refine wpAnyH_take (i := 2) (v := ?_) rfl (by kernel_rfl) (by kernel_rfl) (by kernel_rfl) (fun _ _ _ h => h) (Or.inl ⟨by rfl, ?_⟩) (by assumption) ?_
      rotate_left
      · intro w' hSw
        try dsimp only at hSw
        go_simp; try rfl
      simp only [List.getElem_toArray, List.getElem_cons_succ, List.getElem_cons_zero, Act.put, List.setIfInBounds_toArray, List.set_cons_zero, List.set_cons_succ]
      refine wpAnyH_take (i := 3) (v := ?_) rfl (by kernel_rfl) (by kernel_rfl) (by kernel_rfl) (fun _ _ _ h => h) (Or.inl ⟨by rfl, ?_⟩) (by assumption) ?_
      rotate_left
      · intro w' hSw
        try dsimp only at hSw
        go_simp; try rfl
      simp only [List.getElem_toArray, List.getElem_cons_succ, List.getElem_cons_zero, Act.put, List.setIfInBounds_toArray, List.set_cons_zero, List.set_cons_succ]
      refine wpAnyH_take (i := 4) (v := ?_) rfl (by kernel_rfl) (by kernel_rfl) (by kernel_rfl) (fun _ _ _ h => h) (Or.inl ⟨by rfl, ?_⟩) (by assumption) ?_
      rotate_left
      · intro w' hSw
        try dsimp only at hSw
        go_simp; try rfl
      simp only [List.getElem_toArray, List.getElem_cons_succ, List.getElem_cons_zero, Act.put, List.setIfInBounds_toArray, List.set_cons_zero, List.set_cons_succ]
      refine wpAnyH_take (i := 5) (v := ?_) rfl (by kernel_rfl) (by kernel_rfl) (by kernel_rfl) (fun _ _ _ h => h) (Or.inl ⟨by rfl, ?_⟩) (by assumption) ?_
      rotate_left
      · intro w' hSw
        try dsimp only at hSw
        go_simp; try rfl
      simp only [List.getElem_toArray, List.getElem_cons_succ, List.getElem_cons_zero, Act.put, List.setIfInBounds_toArray, List.set_cons_zero, List.set_cons_succ]
      refine wpAnyH_take (i := 6) (v := ?_) rfl (by kernel_rfl) (by kernel_rfl) (by kernel_rfl) (fun _ _ _ h => h) (Or.inl ⟨by rfl, ?_⟩) (by assumption) ?_
      rotate_left
      · intro w' hSw
        try dsimp only at hSw
        go_simp; try rfl
      simp only [List.getElem_toArray, List.getElem_cons_succ, List.getElem_cons_zero, Act.put, List.setIfInBounds_toArray, List.set_cons_zero, List.set_cons_succ]
      refine wpAnyH_take (i := 7) (v := ?_) rfl (by kernel_rfl) (by kernel_rfl) (by kernel_rfl) (fun _ _ _ h => h) (Or.inl ⟨by rfl, ?_⟩) (by assumption) ?_
      rotate_left
      · intro w' hSw
        try dsimp only at hSw
        go_simp; try rfl
      simp only [List.getElem_toArray, List.getElem_cons_succ, List.getElem_cons_zero, Act.put, List.setIfInBounds_toArray, List.set_cons_zero, List.set_cons_succ]
      refine wpAnyH_take (i := 8) (v := ?_) rfl (by kernel_rfl) (by kernel_rfl) (by kernel_rfl) (fun _ _ _ h => h) (Or.inl ⟨by rfl, ?_⟩) (by assumption) ?_
      rotate_left
      · intro w' hSw
        try dsimp only at hSw
        go_simp; try rfl
      simp only [List.getElem_toArray, List.getElem_cons_succ, List.getElem_cons_zero, Act.put, List.setIfInBounds_toArray, List.set_cons_zero, List.set_cons_succ]
      obtain ⟨g', c', gb', fc', e1, e2, x1, x2, x3, x4, x5, x6, _, HN⟩ := writeOwn HO.out htl v
      rw [hml] at e1
      cases e1
      rw [hyl] at e2
      have e3 := e2.symm.trans hHeld.2.1
      cases e3
      have HN2 := hide HN
      clear HN HO e2
      refine wpAnyH_ready (rs := [9]) (by kernel_rfl) (by simp) (AllReadyH.cons rfl (fun K hK => ?_) AllReadyH.nil)
      refine step_storeMid (by kernel_rfl) (by kernel_rfl) 59 _ _ rfl gb (t * 2) #[.bool v.r, .int .i64 v.n] (by kernel_rfl) (by kernel_rfl) (fun q hq => by
        have hq2 : q = 0 ∨ q = 1 := by simp at hq; omega
        rcases hq2 with rfl | rfl
        · exact ⟨x1, x2⟩
        · exact ⟨x3, x4⟩) (by kernel_rfl) (by simp [Value.oneCell']) ?_
      show K _ ((Z0.setCell ⟨gb, t * 2, none⟩ (.bool v.r)).setCell ⟨gb, t * 2 + 1, none⟩ (.int .i64 v.n))
      have hgm := (Array.getElem?_eq_some_iff.1 E2.out).1
      replace EO := hide (((heap_setCell_other _ ⟨gb, t * 2 + 1, none⟩ (g5) (.int .i64 v.n) (by dsimp only; omega)).trans (heap_setCell_other Z0 ⟨gb, t * 2, none⟩ (g5) (.bool v.r) (by dsimp only; omega))).trans EO.out)
      replace E1 := hide (((heap_setCell_other _ ⟨gb, t * 2 + 1, none⟩ (w.heap.size + 1) (.int .i64 v.n) (by dsimp only; omega)).trans (heap_setCell_other Z0 ⟨gb, t * 2, none⟩ (w.heap.size + 1) (.bool v.r) (by dsimp only; omega))).trans E1.out)
      replace E2 := hide (((heap_setCell_other _ ⟨gb, t * 2 + 1, none⟩ (w.heap.size + 1 + 1) (.int .i64 v.n) (by dsimp only; omega)).trans (heap_setCell_other Z0 ⟨gb, t * 2, none⟩ (w.heap.size + 1 + 1) (.bool v.r) (by dsimp only; omega))).trans E2.out)
      replace HB := hide ((HB.out.setCell (p := ⟨gb, t * 2, none⟩) (by dsimp only; omega) (.bool v.r)).setCell (p := ⟨gb, t * 2 + 1, none⟩) (by dsimp only; omega) (.int .i64 v.n))
      have hz4 : Z0.heap.size ≤ ((Z0.setCell ⟨gb, t * 2, none⟩ (.bool v.r)).setCell ⟨gb, t * 2 + 1, none⟩ (.int .i64 v.n)).heap.size := by simp
      have hcg : (((Z0.setCell ⟨gb, t * 2, none⟩ (.bool v.r)).setCell ⟨gb, t * 2 + 1, none⟩ (.int .i64 v.n))).cell? ⟨g, j * 3 + 2, none⟩ = some (.slice (some ⟨gb, 0, none⟩) y.f.length fc) := by
        exact (World.cell?_of_block (w := Z0) ((heap_setCell_other _ ⟨gb, t * 2 + 1, none⟩ g (.int .i64 v.n) (by dsimp only; omega)).trans (heap_setCell_other Z0 ⟨gb, t * 2, none⟩ g (.bool v.r) (by dsimp only; omega)))).trans hHeld.2.1
      refine hK.out _ _ ⟨(box_of EO.out).1 0 _ rfl, hcg, (box_of E1.out).1 0 _ rfl, (box_of E1.out).1 1 _ rfl⟩ (fun hHeld => ?_)
      clear hK K
      try simp only [Act.put, List.setIfInBounds_toArray, List.set_cons_zero, List.set_cons_succ]
      clear hcg hHeld
      generalize ((Z0.setCell ⟨gb, t * 2, none⟩ (.bool v.r)).setCell ⟨gb, t * 2 + 1, none⟩ (.int .i64 v.n)) = Y at *
      refine wpAnyH_done (by kernel_rfl) ?_ _
      have HN3 : Hid (OwnDL Y W.heap.size g5 (mmD ⟨ys ++ ⟨y.i, y.c, y.f.set t v⟩ :: zs, m.l⟩) [.slice (some ⟨g, 0, none⟩) m.o.length pc, .slice qa m.l.length qc]) := hide (by
        have h := HN2.out
        rw [hml] at h
        exact h)
      have k0 := (box_of EO.out).1 0 _ rfl
      have k1 := (box_of EO.out).1 1 _ rfl
      have l0 := (box_of E2.out).1 0 _ rfl
      have l1 := (box_of E2.out).1 1 _ rfl
      have lz := (box_of E2.out).2
      go_wp2
      refine bodyPost_ret (v := .tuple #[.agg #[.slice (some ⟨g, 0, none⟩) m.o.length pc, .slice qa m.l.length qc], .bool true]) (results_ct Try.results31 _ _ _ rfl (loadMm (putN2 E2.out _ _))) rfl ?_
      rw [HF.out, HC.out]
      refine ⟨_, _, rfl, ?_, (HB.out.setCell (by dsimp only; omega) _).setCell (by dsimp only; omega) _⟩
      refine ((OwnDL.same (b := W.heap.size) (hi := g5) HN3.out (fun q hq hq2 _ => ?_)).mono (by omega)).up (by simp only [World.size_setCell]; omega)
      rw [heap_setCell_other _ _ _ _ (by dsimp only; omega), heap_setCell_other _ _ _ _ (by dsimp only; omega)]
end Go.Proofs.Ythlaihkpffddcaa
/-
  What is fresh, found and written is good.
-/
namespace Go.Proofs.Ythlaihkpffddcaa
open Go.RowKit

theorem freshX_ok {ks : List Kd} {c : Int} (hg : kinsG ks) : vlsG (freshX ks c) := by
  unfold freshX
  split
  · rename_i h
    have hin := inB_yes h
    have hk := getD_mem hg.2 c.toNat (by omega)
    refine ⟨by rw [List.length_map]; exact hk.f.1, fun y hy => ?_⟩
    obtain ⟨d, _, rfl⟩ := List.mem_map.1 hy
    exact ⟨by unfold frv; dsimp only; omega⟩
  · exact ⟨Nat.zero_le _, fun y hy => by simp at hy⟩
theorem at_lt {m : Mm} {q : Int} (h : 0 ≤ atM m q) : (atM m q).toNat < m.o.length := by
  have hat := obAt_lt (q := q) (xs := m.o) (n := 0)
  replace hat : atM m q = -1 ∨ (((0 : Nat) : Int) ≤ atM m q ∧ atM m q < ((0 + m.o.length : Nat) : Int)) := hat
  omega
theorem findX_ok {m : Mm} {q : Int} (hg : obsG m.o) : ObG (findX m q) := by
  unfold findX
  split
  · rename_i h
    exact getD_mem hg.2 _ (at_lt h)
  · exact ⟨by decide, by decide, ⟨Nat.zero_le _, fun y hy => by simp at hy⟩⟩
theorem findX_w (m : Mm) (q : Int) : obW (findX m q) ≤ mmW m := by
  unfold findX
  split
  · rename_i h
    have hl := at_lt h
    have := tot_mem obW (xs := m.o) (x := m.o.getD (atM m q).toNat default) (by rw [List.getD_eq_getElem?_getD, List.getElem?_eq_getElem hl]; exact List.getElem_mem hl)
    unfold mmW obsW
    omega
  · exact Nat.zero_le _
theorem hasF_at {m : Mm} {q at' : Int} (h : hasF m q at' = true) : 0 ≤ atM m q := by
  unfold hasF at h
  rw [Bool.and_eq_true] at h
  exact of_decide_eq_true h.1
theorem tot_set {α : Type} [Inhabited α] (f : α → Nat) : ∀ (xs : List α) (j : Nat) (y : α), j < xs.length → f y = f (xs.getD j default) → tot f (xs.set j y) = tot f xs
  | [], j, _, h, _ => by simp at h
  | x :: xs, 0, y, _, h => by
    rw [List.getD_cons_zero] at h
    simp [tot, h]
  | x :: xs, j + 1, y, hl, h => by
    rw [List.getD_cons_succ] at h
    have ih := tot_set f xs j y (by simpa using hl) h
    simp only [tot, List.set_cons_succ, List.map_cons, List.sum_cons] at ih ⊢
    omega
theorem set_all {α : Type} {P : α → Prop} {xs : List α} {j : Nat} {y : α} (h : ∀ x ∈ xs, P x) (hy : P y) : ∀ x ∈ xs.set j y, P x := fun x hx => by
  rcases List.mem_or_eq_of_mem_set hx with h1 | h1
  · exact h x h1
  · rw [h1]; exact hy
theorem writeX_ok {m : Mm} {q at' : Int} {v : Vl} (hg : MmG m) (hv : VlG v) : MmG (writeX m q at' v) := by
  unfold writeX
  split
  · rename_i h
    have hl := at_lt (hasF_at h)
    have hk := getD_mem hg.o.2 _ hl
    refine ⟨⟨by rw [List.length_set]; exact hg.o.1, set_all hg.o.2 ⟨hk.i, hk.c, ⟨?_, set_all hk.f.2 hv⟩⟩⟩, hg.l⟩
    show ((fieldsM m q).set at'.toNat v).length ≤ 1048576
    rw [List.length_set]
    exact hk.f.1
  · exact hg
theorem writeX_w (m : Mm) (q at' : Int) (v : Vl) : mmW (writeX m q at' v) = mmW m := by
  unfold writeX
  split
  · rename_i h
    have hl := at_lt (hasF_at h)
    unfold mmW obsW
    dsimp only
    rw [List.length_set, tot_set obW m.o _ _ hl]
    unfold obW vlsW fieldsM
    dsimp only
    rw [List.length_set]
  · rfl
end Go.Proofs.Ythlaihkpffddcaa
