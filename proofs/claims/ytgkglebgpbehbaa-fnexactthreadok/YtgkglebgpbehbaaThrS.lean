/-
  Threads in the model: what is right.
-/
import Derived.Test.YtgkglebgpbehbaaThrM
import Derived.Test.YtgkglebgpbehbaaStepX
import Derived.Deep.RegionHeld
namespace Go.Proofs.Ytgkglebgpbehbaa
open Go.RowKit

set_option maxRecDepth 100000 in
set_option maxHeartbeats 4000000 in
theorem valsS (w : World) (xs : List Vl) (u : Value) (h : Reads w w.heap.size (vls xs) u) (hm : xs.length ≤ 1048576) :
    Calls Try.prog 38 #[u] w fun e w' => e = .returned (.bool (xs.all vlB)) ∧ Below w.heap.size w w' := by
  have HR := hide h
  obtain ⟨a1, c1, e1, _⟩ := h.shape
  subst e1
  clear h
  have HY : Hid (∀ j, j < xs.length → vlB (xs.getD j default) = false → xs.all vlB = false) := hide (fun j h1 h2 => allNo h1 h2)
  have HN : Hid ((∀ j, j < xs.length → vlB (xs.getD j default) = true) → xs.all vlB = true) := hide (fun h => allYes h)
  generalize xs.all vlB = V at *
  go_enter Try.func38, Try.ntmps38
  go_wp2
  go_loopw [3] (fun i wr => ∃ j : Nat, j ≤ xs.length ∧ i = .int .i64 (j : Int) ∧ Hid (Below w.heap.size w wr) ∧ Hid (∀ i, i < j → vlB (xs.getD i default) = true)) (fun i _ => xs.length - (intOf i).toNat)
  case atStart => exact ⟨0, Nat.zero_le _, rfl, hide (Below.refl _ _), hide (fun i hi => by omega)⟩
  case round =>
    obtain ⟨j, hj, rfl, HB, HQ⟩ := hrel
    by_cases hlt : j < xs.length
    · obtain ⟨a', cap', ea, hcap, _, hc⟩ := val_at (HR.out.at HB.out)
      cases ea
      obtain ⟨b, o, rfl, hbb, hcell⟩ := hc (by omega)
      obtain ⟨d0, d1⟩ := hcell j hlt
      clear hcell hc
      obtain ⟨y, hy⟩ : ∃ y, xs.getD j default = y := ⟨_, rfl⟩
      rw [hy] at d0 d1
      have HX := hide hy
      clear hy
      go_wp2_with fail
      refine (valSpec y.r y.n _).mono ?_
      rintro e w1 ⟨rfl, b1⟩
      replace HB := hide (HB.out.trans (b1.mono HB.out.size))
      clear b1
      cases k : vOk y.r y.n with
      | false =>
        have HF : Hid (V = false) := hide (HY.out j hlt (by rw [HX.out]; exact k))
        go_wp2
        go_ret
        exact ⟨by rw [HF.out]; rfl, HB.out⟩
      | true =>
        have HQ2 : Hid (∀ i, i < j + 1 → vlB (xs.getD i default) = true) := hide (fun i hi => by
          rcases Nat.lt_succ_iff_lt_or_eq.1 hi with h | rfl
          · exact HQ.out i h
          · rw [HX.out]; exact k)
        go_wp2
        exact ⟨⟨j + 1, by omega, by go_num, HB, HQ2⟩, by simp [intOf]; omega⟩
    · obtain rfl : j = xs.length := by omega
      have HF : Hid (V = true) := hide (HN.out HQ.out)
      go_wp2
      go_ret
      exact ⟨by rw [HF.out]; rfl, HB.out⟩
set_option maxRecDepth 100000 in
set_option maxHeartbeats 4000000 in
theorem methodS (w : World) (x : Pg) (u : Value) (k m : Int) (h : Reads w w.heap.size (kins x.k) u) (hg : kinsG x.k) :
    Calls Try.prog 37 #[pgV x u, .int .i64 k, .int .i64 m] w fun e w' => e = .returned (.bool (mthB x.k k m)) ∧ Below w.heap.size w w' := by
  have HR := hide h
  have hm := hg.1
  have HGm : Hid (∀ j, j < x.k.length → (x.k.getD j default).m.length ≤ 1048576) := hide (fun j hj => (getD_mem hg.2 j hj).m.1)
  obtain ⟨a1, c1, e1, _⟩ := h.shape
  subst e1
  clear h hg
  have HV0 : Hid (inB k 0 ((x.k.length : Int) - 1) = false → mthB x.k k m = false) := hide (fun h => by unfold mthB; rw [h]; rfl)
  have HV1 : Hid (∀ j : Nat, k = (j : Int) → inB k 0 ((x.k.length : Int) - 1) = true → mthB x.k k m = inB m 0 (((x.k.getD j default).m.length : Int) - 1)) := hide (fun j hj h => by unfold mthB; rw [h, hj]; rfl)
  generalize mthB x.k k m = V at *
  have bA := ((Below.refl w.heap.size w).alloc (Nat.le_refl _) (.cells #[.slice a1 x.k.length c1] 33))
  have G0 := heap_alloc_new w (.cells #[.slice a1 x.k.length c1] 33)
  have E0 := hide (G0)
  have HB := hide bA
  replace HR := hide (HR.out.at bA)
  clear bA G0
  have hw : IntKind.i64.wrap ((x.k.length : Int) - 1) = (x.k.length : Int) - 1 := by rw [IntKind.wrap_i64]; omega
  unfold pgV
  go_enter Try.func37, Try.ntmps37
  go_upto_region 1 with fail
  generalize (w.alloc (.cells #[.slice a1 x.k.length c1] 33)) = W at *
  have q0 := (box_of E0.out).1 0 _ rfl
  go_wp2_with fail
  refine (inSpec _ _ _ _).mono ?_
  rintro e w2 ⟨rfl, hw2⟩
  rw [hw2]
  clear hw2 w2
  cases ci : inB k 0 ((x.k.length : Int) - 1) with
  | false =>
    have HF := hide (HV0.out ci)
    clear HV0 HV1
    go_wp2
    go_ret
    exact ⟨by rw [HF.out]; rfl, HB.out⟩
  | true =>
    have hin := inB_yes ci
    obtain ⟨j, hj⟩ : ∃ j : Nat, k = (j : Int) := ⟨k.toNat, by omega⟩
    have HW := hide (HV1.out j hj ci)
    subst hj
    have hlt : j < x.k.length := by omega
    have hltI : (j : Int) < (x.k.length : Int) := by omega
    clear HV0 HV1 ci hin
    obtain ⟨a', cap', ea, hcap, _, hc⟩ := kind_at HR.out
    cases ea
    obtain ⟨b, o, rfl, hbb, hcell⟩ := hc (by omega)
    obtain ⟨pv1, pv2, pv3, d0, d1, d2, d3, d4, r1, r2, r3⟩ := hcell j hlt
    have hfl := HGm.out j hlt
    clear hcell hc d0 d1 d2 d3 r1 r2
    obtain ⟨y, hy⟩ : ∃ y, (x.k.getD j default).m = y := ⟨_, rfl⟩
    rw [hy] at r3 hfl HW
    clear hy
    obtain ⟨fa, fc, fe, _⟩ := r3.shape
    subst fe
    have hw' : IntKind.i64.wrap ((y.length : Int) - 1) = (y.length : Int) - 1 := by rw [IntKind.wrap_i64]; omega
    go_wp2_with fail
    refine (inSpec _ _ _ _).mono ?_
    rintro e w2 ⟨rfl, hw2⟩
    rw [hw2]
    clear hw2 w2
    rw [← HW.out]
    go_wp2
    go_ret
    exact ⟨rfl, HB.out⟩
set_option maxRecDepth 100000 in
set_option maxHeartbeats 8000000 in
theorem frameS (w : World) (x : Pg) (u : Value) (f : Fr) (v1 v2 : Value) (h : Reads w w.heap.size (kins x.k) u) (h1 : Reads w w.heap.size (vls f.l) v1) (h2 : Reads w w.heap.size (vls f.s) v2) (hg : kinsG x.k) (hl : f.l.length ≤ 1048576) (hs : f.s.length ≤ 1048576) :
    Calls Try.prog 20 #[pgV x u, frV f v1 v2] w fun e w' => e = .returned (.bool (frB x.k f)) ∧ Below w.heap.size w w' := by
  obtain ⟨k, m, p, l, s⟩ := f
  dsimp only at h1 h2 hl hs
  have HR := hide h
  have R1 := hide h1
  have R2 := hide h2
  have hm := hg.1
  have HG := hide hg
  obtain ⟨a1, c1, e1, _⟩ := h.shape
  obtain ⟨a2, c2, e2, _⟩ := h1.shape
  obtain ⟨a3, c3, e3, _⟩ := h2.shape
  subst e1 e2 e3
  clear h h1 h2 hg
  have HV0 : Hid (mthB x.k k m = false → frB x.k ⟨k, m, p, l, s⟩ = false) := hide (fun h => by unfold frB; rw [h]; rfl)
  have HV1 : Hid (mthB x.k k m = true → ∀ y, (x.k.getD k.toNat default).m.getD m.toNat default = y → frB x.k ⟨k, m, p, l, s⟩ = (decide (y.o = k) && (inB p 0 ((y.is.length : Int) - 1) && (decide ((l.length : Int) = y.l) && (decide (s.length ≤ 6) && (l.all vlB && s.all vlB)))))) := hide (fun h y hy => by unfold frB; rw [h, hy]; rfl)
  have HVM : Hid (mthB x.k k m = true → 0 ≤ k ∧ k < (x.k.length : Int) ∧ 0 ≤ m ∧ m < ((x.k.getD k.toNat default).m.length : Int)) := hide (fun h => by
    unfold mthB at h
    rw [Bool.and_eq_true] at h
    have h1 := inB_yes h.1
    have h2 := inB_yes h.2
    omega)
  generalize frB x.k ⟨k, m, p, l, s⟩ = V at *
  have bA := (((Below.refl w.heap.size w).alloc (Nat.le_refl _) (.cells #[.slice a1 x.k.length c1] 33)).alloc (by simp) (.cells #[.int .i64 k, .int .i64 m, .int .i64 p, .slice a2 l.length c2, .slice a3 s.length c3] 54))
  have G0 := heap_alloc_new w (.cells #[.slice a1 x.k.length c1] 33)
  have G1 := heap_alloc_new (w.alloc (.cells #[.slice a1 x.k.length c1] 33)) (.cells #[.int .i64 k, .int .i64 m, .int .i64 p, .slice a2 l.length c2, .slice a3 s.length c3] 54)
  simp only [World.size_alloc] at G1
  have E0 := hide ((Below.heap_alloc _ (.cells #[.int .i64 k, .int .i64 m, .int .i64 p, .slice a2 l.length c2, .slice a3 s.length c3] 54) _ (by simp)).trans (G0))
  have E1 := hide (G1)
  have HB := hide bA
  replace HR := hide (HR.out.at bA)
  replace R1 := hide (R1.out.at bA)
  replace R2 := hide (R2.out.at bA)
  clear bA G0 G1
  unfold pgV frV
  dsimp only
  go_enter Try.func20, Try.ntmps20
  go_upto_region 1 with fail
  generalize ((w.alloc (.cells #[.slice a1 x.k.length c1] 33)).alloc (.cells #[.int .i64 k, .int .i64 m, .int .i64 p, .slice a2 l.length c2, .slice a3 s.length c3] 54)) = W at *
  have q0 := (box_of E0.out).1 0 _ rfl
  have s0 := (box_of E1.out).1 0 _ rfl
  have s1 := (box_of E1.out).1 1 _ rfl
  go_wp2_with fail
  refine (methodS _ x _ k m HR.out HG.out).mono ?_
  rintro e w1 ⟨rfl, b1⟩
  replace E0 := hide ((b1.block _ (Array.getElem?_eq_some_iff.1 E0.out).1).trans E0.out)
  replace E1 := hide ((b1.block _ (Array.getElem?_eq_some_iff.1 E1.out).1).trans E1.out)
  replace HR := hide (HR.out.at b1)
  replace R1 := hide (R1.out.at b1)
  replace R2 := hide (R2.out.at b1)
  replace HB := hide (HB.out.trans (b1.mono HB.out.size))
  clear b1
  clear q0 s0 s1
  cases cm : mthB x.k k m with
  | false =>
    have HF := hide (HV0.out cm)
    clear HV0 HV1 HVM
    go_wp2
    go_ret
    exact ⟨by rw [HF.out]; rfl, HB.out⟩
  | true =>
    obtain ⟨k0, k1, m0, m1⟩ := HVM.out cm
    have HW := hide (HV1.out cm)
    clear HV0 HV1 HVM cm
    obtain ⟨j, hj⟩ : ∃ j : Nat, k = (j : Int) := ⟨k.toNat, by omega⟩
    subst hj
    obtain ⟨i, hi⟩ : ∃ i : Nat, m = (i : Int) := ⟨m.toNat, by omega⟩
    subst hi
    rw [Int.toNat_natCast] at m1 HW
    rw [Int.toNat_natCast] at HW
    have hlt : j < x.k.length := by omega
    have hltI : (j : Int) < (x.k.length : Int) := by omega
    obtain ⟨a', cap', ea, hcap, _, hc⟩ := kind_at HR.out
    cases ea
    obtain ⟨b, o, rfl, hbb, hcell⟩ := hc (by omega)
    obtain ⟨pv1, pv2, pv3, d0, d1, d2, d3, d4, r1, r2, r3⟩ := hcell j hlt
    have HGm := hide (getD_mem HG.out.2 j hlt).m
    clear hcell hc d0 d1 d2 d3 r1 r2 k0 k1 m0 HR
    obtain ⟨mm, hmm⟩ : ∃ mm, (x.k.getD j default).m = mm := ⟨_, rfl⟩
    rw [hmm] at r3 HW HGm m1
    clear hmm
    have hml := HGm.out.1
    have hil : i < mm.length := by omega
    have hilI : (i : Int) < (mm.length : Int) := by omega
    obtain ⟨ma, mc, me, hmc, _, hc⟩ := code_at r3
    subst me
    obtain ⟨b2, o2, rfl, hbb2, hcell⟩ := hc (by omega)
    obtain ⟨pw1, pw2, g0, g1, g2, g3, g4, g5, t1, t2⟩ := hcell i hil
    have hyi := (getD_mem HGm.out.2 i hil).is.1
    have HX := hide (HW.out _ rfl)
    clear hcell hc r3 HW HGm m1
    obtain ⟨y, hy⟩ : ∃ y, mm.getD i default = y := ⟨_, rfl⟩
    rw [hy] at g0 g1 g3 g4 t1 t2 HX hyi
    clear hy
    obtain ⟨fa1, fc1, fe1, _⟩ := t1.shape
    obtain ⟨fa2, fc2, fe2, _⟩ := t2.shape
    subst fe1 fe2
    clear t1 t2
    generalize w1 = W at *
    go_upto_region 3 with fail
    have HCL : Hid (∀ w', Below W.heap.size W w' → w'.cell? ⟨w.heap.size, 0, none⟩ = some (.slice (some ⟨b, o, none⟩) x.k.length c1) ∧ w'.cell? ⟨w.heap.size + 1, 0, none⟩ = some (.int .i64 (j : Int)) ∧ w'.cell? ⟨w.heap.size + 1, 1, none⟩ = some (.int .i64 (i : Int)) ∧ w'.cell? ⟨b, o + j * 5 + 4, none⟩ = some (.slice (some ⟨b2, o2, none⟩) mm.length mc) ∧ w'.cell? ⟨b2, o2 + i * 6, none⟩ = some (.string y.n) ∧ w'.cell? ⟨b2, o2 + i * 6 + 1, none⟩ = some (.int .i64 y.o) ∧ w'.cell? ⟨b2, o2 + i * 6 + 2, none⟩ = some (.slice fa1 y.ps.length fc1) ∧ w'.cell? ⟨b2, o2 + i * 6 + 3, none⟩ = some (.string y.r) ∧ w'.cell? ⟨b2, o2 + i * 6 + 4, none⟩ = some (.int .i64 y.l) ∧ w'.cell? ⟨b2, o2 + i * 6 + 5, none⟩ = some (.slice fa2 y.is.length fc2)) := hide (fun w' hb => ⟨(box_of ((hb.block _ (Array.getElem?_eq_some_iff.1 E0.out).1).trans E0.out)).1 0 _ rfl, (box_of ((hb.block _ (Array.getElem?_eq_some_iff.1 E1.out).1).trans E1.out)).1 0 _ rfl, (box_of ((hb.block _ (Array.getElem?_eq_some_iff.1 E1.out).1).trans E1.out)).1 1 _ rfl, (hb.cell (p := ⟨b, o + j * 5 + 4, none⟩) hbb).trans d4, (hb.cell (p := ⟨b2, o2 + i * 6, none⟩) hbb2).trans g0, (hb.cell (p := ⟨b2, o2 + i * 6 + 1, none⟩) hbb2).trans g1, (hb.cell (p := ⟨b2, o2 + i * 6 + 2, none⟩) hbb2).trans g2, (hb.cell (p := ⟨b2, o2 + i * 6 + 3, none⟩) hbb2).trans g3, (hb.cell (p := ⟨b2, o2 + i * 6 + 4, none⟩) hbb2).trans g4, (hb.cell (p := ⟨b2, o2 + i * 6 + 5, none⟩) hbb2).trans g5⟩)
    have HD := hide (Below.refl W.heap.size W).drew
    clear d4 g0 g1 g2 g3 g4 g5 hbb hbb2
    refine wp_region_held_drew (S := fun w' => w'.cell? ⟨w.heap.size, 0, none⟩ = some (.slice (some ⟨b, o, none⟩) x.k.length c1) ∧ w'.cell? ⟨w.heap.size + 1, 0, none⟩ = some (.int .i64 (j : Int)) ∧ w'.cell? ⟨w.heap.size + 1, 1, none⟩ = some (.int .i64 (i : Int)) ∧ w'.cell? ⟨b, o + j * 5 + 4, none⟩ = some (.slice (some ⟨b2, o2, none⟩) mm.length mc) ∧ w'.cell? ⟨b2, o2 + i * 6, none⟩ = some (.string y.n) ∧ w'.cell? ⟨b2, o2 + i * 6 + 1, none⟩ = some (.int .i64 y.o) ∧ w'.cell? ⟨b2, o2 + i * 6 + 2, none⟩ = some (.slice fa1 y.ps.length fc1) ∧ w'.cell? ⟨b2, o2 + i * 6 + 3, none⟩ = some (.string y.r) ∧ w'.cell? ⟨b2, o2 + i * 6 + 4, none⟩ = some (.int .i64 y.l) ∧ w'.cell? ⟨b2, o2 + i * 6 + 5, none⟩ = some (.slice fa2 y.is.length fc2)) (by kernel_rfl) (HCL.out _ HD.out) (fun hHeld => ?_)
    generalize W.drew = Z0 at *
    refine wpAnyH_take (i := 0) (v := ?_) rfl (by kernel_rfl) (by kernel_rfl) (by kernel_rfl) (fun _ _ _ h => h) (Or.inl ⟨by rfl, ?_⟩) (by assumption) ?_
    rotate_left
    · intro w' hSw
      try dsimp only at hSw
      go_simp; try rfl
    simp only [List.getElem_toArray, List.getElem_cons_zero, Act.put, List.setIfInBounds_toArray, List.set_cons_zero, List.set_cons_succ]
    refine wpAnyH_take (i := 1) (v := ?_) rfl (by kernel_rfl) (by kernel_rfl) (by kernel_rfl) (fun _ _ _ h => h) (Or.inl ⟨by rfl, ?_⟩) (by assumption) ?_
    rotate_left
    · intro w' hSw
      try dsimp only at hSw
      go_simp; try rfl
    simp only [List.getElem_toArray, List.getElem_cons_succ, List.getElem_cons_zero, Act.put, List.setIfInBounds_toArray, List.set_cons_zero, List.set_cons_succ]
    refine wpAnyH_take (i := 2) (v := ?_) rfl (by kernel_rfl) (by kernel_rfl) (by kernel_rfl) (fun _ _ _ h => h) (Or.inl ⟨by rfl, ?_⟩) (by assumption) ?_
    rotate_left
    · intro w' hSw
      try dsimp only at hSw
      go_simp; try rfl
    simp only [List.getElem_toArray, List.getElem_cons_succ, List.getElem_cons_zero, Act.put, List.setIfInBounds_toArray, List.set_cons_zero, List.set_cons_succ]
    refine wpAnyH_take (i := 3) (v := ?_) rfl (by kernel_rfl) (by kernel_rfl) (by kernel_rfl) (fun _ _ _ h => h) (Or.inl ⟨by rfl, ?_⟩) (by assumption) ?_
    rotate_left
    · intro w' hSw
      try dsimp only at hSw
      go_simp; try rfl
    simp only [List.getElem_toArray, List.getElem_cons_succ, List.getElem_cons_zero, Act.put, List.setIfInBounds_toArray, List.set_cons_zero, List.set_cons_succ]
    refine wpAnyH_take (i := 4) (v := ?_) rfl (by kernel_rfl) (by kernel_rfl) (by kernel_rfl) (fun _ _ _ h => h) (Or.inl ⟨by rfl, ?_⟩) (by assumption) ?_
    rotate_left
    · intro w' hSw
      try dsimp only at hSw
      go_simp; try rfl
    simp only [List.getElem_toArray, List.getElem_cons_succ, List.getElem_cons_zero, Act.put, List.setIfInBounds_toArray, List.set_cons_zero, List.set_cons_succ]
    refine wpAnyH_take (i := 5) (v := ?_) rfl (by kernel_rfl) (by kernel_rfl) (by kernel_rfl) (fun _ _ _ h => h) (Or.inl ⟨by rfl, ?_⟩) (by assumption) ?_
    rotate_left
    · intro w' hSw
      try dsimp only at hSw
      go_simp; try rfl
    simp only [List.getElem_toArray, List.getElem_cons_succ, List.getElem_cons_zero, Act.put, List.setIfInBounds_toArray, List.set_cons_zero, List.set_cons_succ]
    refine wpAnyH_take (i := 6) (v := ?_) rfl (by kernel_rfl) (by kernel_rfl) (by kernel_rfl) (fun _ _ _ h => h) (Or.inl ⟨by rfl, ?_⟩) (by assumption) ?_
    rotate_left
    · intro w' hSw
      try dsimp only at hSw
      go_simp; try rfl
    simp only [List.getElem_toArray, List.getElem_cons_succ, List.getElem_cons_zero, Act.put, List.setIfInBounds_toArray, List.set_cons_zero, List.set_cons_succ]
    refine wpAnyH_take (i := 7) (v := ?_) rfl (by kernel_rfl) (by kernel_rfl) (by kernel_rfl) (fun _ _ _ h => h) (Or.inl ⟨by rfl, ?_⟩) (by assumption) ?_
    rotate_left
    · intro w' hSw
      try dsimp only at hSw
      go_simp; try rfl
    simp only [List.getElem_toArray, List.getElem_cons_succ, List.getElem_cons_zero, Act.put, List.setIfInBounds_toArray, List.set_cons_zero, List.set_cons_succ]
    refine wpAnyH_take (i := 8) (v := ?_) rfl (by kernel_rfl) (by kernel_rfl) (by kernel_rfl) (fun _ _ _ h => h) (Or.inl ⟨by rfl, ?_⟩) (by assumption) ?_
    rotate_left
    · intro w' hSw
      try dsimp only at hSw
      go_simp; try rfl
    simp only [List.getElem_toArray, List.getElem_cons_succ, List.getElem_cons_zero, Act.put, List.setIfInBounds_toArray, List.set_cons_zero, List.set_cons_succ]
    refine wpAnyH_take (i := 9) (v := ?_) rfl (by kernel_rfl) (by kernel_rfl) (by kernel_rfl) (fun _ _ _ h => h) (Or.inl ⟨by rfl, ?_⟩) (by assumption) ?_
    rotate_left
    · intro w' hSw
      try dsimp only at hSw
      go_simp; try rfl
    simp only [List.getElem_toArray, List.getElem_cons_succ, List.getElem_cons_zero, Act.put, List.setIfInBounds_toArray, List.set_cons_zero, List.set_cons_succ]
    refine wpAnyH_take (i := 10) (v := ?_) rfl (by kernel_rfl) (by kernel_rfl) (by kernel_rfl) (fun _ _ _ h => h) (Or.inl ⟨by rfl, ?_⟩) (by assumption) ?_
    rotate_left
    · intro w' hSw
      try dsimp only at hSw
      go_simp; try rfl
    simp only [List.getElem_toArray, List.getElem_cons_succ, List.getElem_cons_zero, Act.put, List.setIfInBounds_toArray, List.set_cons_zero, List.set_cons_succ]
    refine wpAnyH_ready (rs := [11]) (by kernel_rfl) (by simp) (AllReadyH.cons rfl (fun K hK => ?_) AllReadyH.nil)
    refine step_runX (some 5) (by kernel_rfl) (by kernel_rfl) (v := .pointer (some ⟨Z0.heap.size, 0, none⟩)) (w' := Z0.alloc (.cells #[.string ⟨#[]⟩, .int .i64 0, .slice none 0 0, .string ⟨#[]⟩, .int .i64 0, .slice none 0 0] 79)) (by go_simp; try rfl) ?_
    have HN := hide (HD.out.alloc HD.out.size (.cells #[.string ⟨#[]⟩, .int .i64 0, .slice none 0 0, .string ⟨#[]⟩, .int .i64 0, .slice none 0 0] 79))
    have GA : Hid ((Z0.alloc (.cells #[.string ⟨#[]⟩, .int .i64 0, .slice none 0 0, .string ⟨#[]⟩, .int .i64 0, .slice none 0 0] 79)).heap[Z0.heap.size]? = some (.cells #[.string ⟨#[]⟩, .int .i64 0, .slice none 0 0, .string ⟨#[]⟩, .int .i64 0, .slice none 0 0] 79 (0, 0))) := hide (heap_alloc_new Z0 (.cells #[.string ⟨#[]⟩, .int .i64 0, .slice none 0 0, .string ⟨#[]⟩, .int .i64 0, .slice none 0 0] 79))
    have ka := HD.out.size
    refine hK.out _ _ (HCL.out _ HN.out) (fun hHeld => ?_)
    clear hK K
    simp only [Act.put, List.setIfInBounds_toArray, List.set_cons_zero, List.set_cons_succ]
    obtain ⟨g9, hg9⟩ : ∃ g, Z0.heap.size = g := ⟨_, rfl⟩
    rw [hg9] at GA ka ⊢
    generalize Z0.alloc (.cells #[.string ⟨#[]⟩, .int .i64 0, .slice none 0 0, .string ⟨#[]⟩, .int .i64 0, .slice none 0 0] 79) = Z1 at *
    clear hg9 HD
    refine wpAnyH_ready (rs := [12]) (by kernel_rfl) (by simp) (AllReadyH.cons rfl (fun K hK => ?_) AllReadyH.nil)
    refine step_storeX (by kernel_rfl) (by kernel_rfl) 79 _ _ rfl g9 #[.string y.n, .int .i64 y.o, .slice fa1 y.ps.length fc1, .string y.r, .int .i64 y.l, .slice fa2 y.is.length fc2] (by kernel_rfl) (by kernel_rfl) _ _ GA.out (by kernel_rfl) (by rfl) (by simp [Value.oneCell']) ?_
    have HM := hide (below_setRow HN.out ka #[.string y.n, .int .i64 y.o, .slice fa1 y.ps.length fc1, .string y.r, .int .i64 y.l, .slice fa2 y.is.length fc2])
    have GB := hide (setRow_heap Z1 g9 _ #[.string y.n, .int .i64 y.o, .slice fa1 y.ps.length fc1, .string y.r, .int .i64 y.l, .slice fa2 y.is.length fc2] _ _ GA.out)
    refine hK.out _ _ (HCL.out _ HM.out) (fun hHeld => ?_)
    clear hK K
    try simp only [Act.put, List.setIfInBounds_toArray, List.set_cons_zero, List.set_cons_succ]
    clear HN GA
    generalize Z1.setRow g9 #[.string y.n, .int .i64 y.o, .slice fa1 y.ps.length fc1, .string y.r, .int .i64 y.l, .slice fa2 y.is.length fc2] = Z2 at *
    refine wpAnyH_done (by kernel_rfl) ?_ _
    have bz := HM.out
    clear HM HCL hHeld
    replace E0 := hide ((bz.block _ (Array.getElem?_eq_some_iff.1 E0.out).1).trans E0.out)
    replace E1 := hide ((bz.block _ (Array.getElem?_eq_some_iff.1 E1.out).1).trans E1.out)
    replace R1 := hide (R1.out.at bz)
    replace R2 := hide (R2.out.at bz)
    replace HB := hide (HB.out.trans (bz.mono HB.out.size))
    clear bz
    go_upto_region 4 with fail
    have hw' : IntKind.i64.wrap ((y.is.length : Int) - 1) = (y.is.length : Int) - 1 := by rw [IntKind.wrap_i64]; omega
    have f1 := (box_of GB.out).1 1 _ rfl
    have f4 := (box_of GB.out).1 4 _ rfl
    have f5 := (box_of GB.out).1 5 _ rfl
    have s0 := (box_of E1.out).1 0 _ rfl
    have s2 := (box_of E1.out).1 2 _ rfl
    have s3 := (box_of E1.out).1 3 _ rfl
    have s4 := (box_of E1.out).1 4 _ rfl
    have EX := HX.out
    clear HX
    have NO : ∀ b : Bool, V = b → b = false → Hid (V = false) := fun b h1 h2 => hide (h1.trans h2)
    by_cases c1 : y.o = (j : Int)
    · have k1 : (y.o == (j : Int)) = true := by simpa using c1
      rw [decide_eq_true c1, Bool.true_and] at EX
      replace EX := hide EX
      clear c1
      go_wp2_with fail
      refine (inSpec _ _ _ _).mono ?_
      rintro e w2 ⟨rfl, hw2⟩
      rw [hw2]
      clear hw2 w2
      cases c2 : inB p 0 ((y.is.length : Int) - 1) with
      | false =>
        have HF := NO _ EX.out (by rw [c2]; rfl)
        clear EX NO
        go_wp2
        go_ret
        exact ⟨by rw [HF.out]; rfl, HB.out⟩
      | true =>
        replace EX := EX.out
        rw [c2, Bool.true_and] at EX
        by_cases c3 : (l.length : Int) = y.l
        · have k3 : ((l.length : Int) == y.l) = true := by simpa using c3
          rw [decide_eq_true c3, Bool.true_and] at EX
          by_cases c4 : s.length ≤ 6
          · have k4 : (s.length : Int) ≤ 6 := by omega
            rw [decide_eq_true c4, Bool.true_and] at EX
            replace EX := hide EX
            clear c3 c4
            go_wp2_with fail
            refine (valsS _ l _ R1.out hl).mono ?_
            rintro e w2 ⟨rfl, b2⟩
            replace E1 := hide ((b2.block _ (Array.getElem?_eq_some_iff.1 E1.out).1).trans E1.out)
            replace R2 := hide (R2.out.at b2)
            replace HB := hide (HB.out.trans (b2.mono HB.out.size))
            clear b2
            clear s0 s2 s3 s4 f1 f4 f5
            have s4 := (box_of E1.out).1 4 _ rfl
            cases c5 : l.all vlB with
            | false =>
              have HF := NO _ EX.out (by rw [c5]; rfl)
              clear EX NO
              go_wp2
              go_ret
              exact ⟨by rw [HF.out]; rfl, HB.out⟩
            | true =>
              replace EX := EX.out
              rw [c5, Bool.true_and] at EX
              replace EX := hide EX
              clear NO
              go_wp2_with fail
              refine (valsS _ s _ R2.out hs).mono ?_
              rintro e w3 ⟨rfl, b2⟩
              replace HB := hide (HB.out.trans (b2.mono HB.out.size))
              clear b2
              rw [← EX.out]
              clear EX
              go_wp2
              go_ret
              exact ⟨rfl, HB.out⟩
          · have k4 : ¬ (s.length : Int) ≤ 6 := by omega
            have HF := NO _ EX (by rw [decide_eq_false c4]; rfl)
            clear EX NO c3 c4
            go_wp2
            go_ret
            exact ⟨by rw [HF.out]; rfl, HB.out⟩
        · have k3 : ((l.length : Int) == y.l) = false := by simpa using c3
          have HF := NO _ EX (by rw [decide_eq_false c3]; rfl)
          clear EX NO c3
          go_wp2
          go_ret
          exact ⟨by rw [HF.out]; rfl, HB.out⟩
    · have k1 : (y.o == (j : Int)) = false := by simpa using c1
      have HF := NO _ EX (by rw [decide_eq_false c1]; rfl)
      clear EX NO c1
      go_wp2
      go_ret
      exact ⟨by rw [HF.out]; rfl, HB.out⟩
end Go.Proofs.Ytgkglebgpbehbaa
