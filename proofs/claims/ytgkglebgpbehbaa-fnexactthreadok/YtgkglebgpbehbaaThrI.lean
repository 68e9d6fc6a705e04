/-
  Threads in the program: whether a frame is one of a method that there is.
-/
import Derived.Test.YtgkglebgpbehbaaThrM
import Derived.Test.YtgkglebgpbehbaaStepX
import Derived.Test.YtgkglebgpbehbaaBldV
import Derived.Test.YtgkglebgpbehbaaPrgG
import Derived.Deep.RegionHeld
namespace Go.Proofs.Ytgkglebgpbehbaa
open Go.RowKit

def frF (ks : List Kd) (f : Fr) : Bool :=
  mthB ks f.k f.m && (decide (((ks.getD f.k.toNat default).m.getD f.m.toNat default).o = f.k) && (inB f.p 0 ((((ks.getD f.k.toNat default).m.getD f.m.toNat default).is.length : Int) - 1) &&
    (decide ((f.l.length : Int) = ((ks.getD f.k.toNat default).m.getD f.m.toNat default).l) && decide (f.s.length ≤ 6))))
theorem frB_eq (ks : List Kd) (f : Fr) : frB ks f = (frF ks f && (f.l ++ f.s).all vlB) := by
  unfold frB frF
  rw [List.all_append]
  simp only [Bool.and_assoc]
set_option maxRecDepth 100000 in
set_option maxHeartbeats 8000000 in
theorem fitsFrI (w : World) (x : Pg) (u : Value) (f : Fr) (v1 v2 : Value) (h : Reads w w.heap.size (kins x.k) u) (h1 : Reads w w.heap.size (vls f.l) v1) (h2 : Reads w w.heap.size (vls f.s) v2) (hg : kinsG x.k) (hl : f.l.length ≤ 1048576) (hs : f.s.length ≤ 1048576) :
    Calls Try.prog 41 #[pgV x u, frV f v1 v2] w fun e w' => e = .returned (.bool (frF x.k f)) ∧ Below w.heap.size w w' := by
  obtain ⟨k, m, p, l, s⟩ := f
  dsimp only at h1 h2 hl hs
  have HR := hide h
  have hm := hg.1
  have HG := hide hg
  obtain ⟨a1, c1, e1, _⟩ := h.shape
  obtain ⟨a2, c2, e2, _⟩ := h1.shape
  obtain ⟨a3, c3, e3, _⟩ := h2.shape
  subst e1 e2 e3
  clear h h1 h2 hg
  have HV0 : Hid (inB k 0 ((x.k.length : Int) - 1) = false → frF x.k ⟨k, m, p, l, s⟩ = false) := hide (fun h => by unfold frF mthB; rw [h]; rfl)
  have HV2 : Hid (∀ j : Nat, k = (j : Int) → inB m 0 (((x.k.getD j default).m.length : Int) - 1) = false → frF x.k ⟨k, m, p, l, s⟩ = false) := hide (fun j hj h => by unfold frF mthB; dsimp only; rw [hj, Int.toNat_natCast, h, Bool.and_false, Bool.false_and])
  have HV1 : Hid (mthB x.k k m = true → ∀ y, (x.k.getD k.toNat default).m.getD m.toNat default = y → frF x.k ⟨k, m, p, l, s⟩ = (decide (y.o = k) && (inB p 0 ((y.is.length : Int) - 1) && (decide ((l.length : Int) = y.l) && decide (s.length ≤ 6))))) := hide (fun h y hy => by unfold frF; rw [h, hy]; rfl)
  have HVM : Hid (∀ j : Nat, k = (j : Int) → inB k 0 ((x.k.length : Int) - 1) = true → inB m 0 (((x.k.getD j default).m.length : Int) - 1) = true → mthB x.k k m = true) := hide (fun j hj h h' => by
    unfold mthB
    rw [h, hj, Int.toNat_natCast, h']
    rfl)
  generalize frF x.k ⟨k, m, p, l, s⟩ = V at *
  have bA := (((Below.refl w.heap.size w).alloc (Nat.le_refl _) (.cells #[.slice a1 x.k.length c1] 33)).alloc (by simp) (.cells #[.int .i64 k, .int .i64 m, .int .i64 p, .slice a2 l.length c2, .slice a3 s.length c3] 54))
  have G0 := heap_alloc_new w (.cells #[.slice a1 x.k.length c1] 33)
  have G1 := heap_alloc_new (w.alloc (.cells #[.slice a1 x.k.length c1] 33)) (.cells #[.int .i64 k, .int .i64 m, .int .i64 p, .slice a2 l.length c2, .slice a3 s.length c3] 54)
  simp only [World.size_alloc] at G1
  have E0 := hide ((Below.heap_alloc _ (.cells #[.int .i64 k, .int .i64 m, .int .i64 p, .slice a2 l.length c2, .slice a3 s.length c3] 54) _ (by simp)).trans (G0))
  have E1 := hide (G1)
  have HB := hide bA
  replace HR := hide (HR.out.at bA)
  clear bA G0 G1
  unfold pgV frV
  dsimp only
  go_enter Try.func41, Try.ntmps41
  go_upto_region 1 with fail
  generalize ((w.alloc (.cells #[.slice a1 x.k.length c1] 33)).alloc (.cells #[.int .i64 k, .int .i64 m, .int .i64 p, .slice a2 l.length c2, .slice a3 s.length c3] 54)) = W at *
  cases ci : inB k 0 ((x.k.length : Int) - 1) with
  | false =>
    have HF := hide (HV0.out ci)
    clear HV0 HV1 HV2 HVM
    have hasC := fun w => hasImpl w x a1 x.k.length c1 k hm
    simp only [ci] at hasC
    have HCL : Hid (∀ w', Below W.heap.size W w' → w'.cell? ⟨w.heap.size, 0, none⟩ = some (.slice a1 x.k.length c1) ∧ w'.cell? ⟨w.heap.size + 1, 0, none⟩ = some (.int .i64 k)) := hide (fun w' hb => ⟨(box_of ((hb.block _ (Array.getElem?_eq_some_iff.1 E0.out).1).trans E0.out)).1 0 _ rfl, (box_of ((hb.block _ (Array.getElem?_eq_some_iff.1 E1.out).1).trans E1.out)).1 0 _ rfl⟩)
    have HW := hide (Below.refl W.heap.size W).drew
    refine wp_region_held_drew (S := fun w' => w'.cell? ⟨w.heap.size, 0, none⟩ = some (.slice a1 x.k.length c1) ∧ w'.cell? ⟨w.heap.size + 1, 0, none⟩ = some (.int .i64 k)) (by kernel_rfl) (HCL.out _ HW.out) (fun hHeld => ?_)
    generalize W.drew = Z0 at *
    refine wpAnyH_take (i := 0) (v := ?_) rfl (by kernel_rfl) (by kernel_rfl) (by kernel_rfl) (fun _ _ _ h => h) (Or.inl ⟨by rfl, ?_⟩) (by assumption) ?_
    rotate_left
    · intro w' hSw
      try dsimp only at hSw
      go_simp; try rfl
    simp only [List.getElem_toArray, List.getElem_cons_zero, Act.put, List.setIfInBounds_toArray, List.set_cons_zero, List.set_cons_succ]
    refine wpAnyH_take (i := 1) (v := ?_) rfl (by kernel_rfl) (by kernel_rfl) (by kernel_rfl) (fun _ _ _ h => h) (Or.inl ⟨by rfl, ?_⟩) (by assumption) ?_
    rotate_left
    · intro w' hSw
      try dsimp only at hSw
      go_simp; try rfl
    simp only [List.getElem_toArray, List.getElem_cons_succ, List.getElem_cons_zero, Act.put, List.setIfInBounds_toArray, List.set_cons_zero, List.set_cons_succ]
    refine wpAnyH_take (i := 2) (v := ?_) rfl (by kernel_rfl) (by kernel_rfl) (by kernel_rfl) (fun _ _ _ h => h) (Or.inl ⟨by rfl, ?_⟩) (by assumption) ?_
    rotate_left
    · intro w' hSw
      try dsimp only at hSw
      go_simp; try rfl
    simp only [List.getElem_toArray, List.getElem_cons_succ, List.getElem_cons_zero, Act.put, List.setIfInBounds_toArray, List.set_cons_zero, List.set_cons_succ]
    refine wpAnyH_ready (rs := [3]) (by kernel_rfl) (by simp) (AllReadyH.cons rfl (fun K hK => ?_) AllReadyH.nil)
    refine step_callW (some 9) (by kernel_rfl) (by kernel_rfl) 59 _ _ rfl #[.agg #[.slice a1 x.k.length c1], .int .i64 k] (by kernel_rfl) (hasC _) ?_
    rintro e Z1 ⟨rfl, b9⟩
    replace HW := hide (HW.out.trans (b9.mono HW.out.size))
    clear b9
    refine ⟨_, rfl, ?_⟩
    refine hK.out _ _ (HCL.out _ HW.out) (fun hHeld => ?_)
    clear hK K
    simp only [Act.put, List.setIfInBounds_toArray, List.set_cons_zero, List.set_cons_succ]
    refine wpAnyH_take (i := 4) (v := ?_) rfl (by kernel_rfl) (by kernel_rfl) (by kernel_rfl) (fun _ _ _ h => h) (Or.inl ⟨by rfl, ?_⟩) (by assumption) ?_
    rotate_left
    · intro w' hSw
      try dsimp only at hSw
      go_simp; try rfl
    simp only [List.getElem_toArray, List.getElem_cons_succ, List.getElem_cons_zero, Act.put, List.setIfInBounds_toArray, List.set_cons_zero, List.set_cons_succ]
    refine wpAnyH_take (i := 5) (v := ?_) rfl (by kernel_rfl) (by kernel_rfl) (by kernel_rfl) (fun _ _ _ h => h) (Or.inl ⟨by rfl, ?_⟩) (by assumption) ?_
    rotate_left
    · intro w' hSw
      try dsimp only at hSw
      go_simp; try rfl
    simp only [List.getElem_toArray, List.getElem_cons_succ, List.getElem_cons_zero, Act.put, List.setIfInBounds_toArray, List.set_cons_zero, List.set_cons_succ]
    refine wpAnyH_take (i := 6) (v := undef) rfl (by kernel_rfl) (by kernel_rfl) (by kernel_rfl) (fun _ _ _ h => h) (Or.inr ⟨by rfl, rfl⟩) (by assumption) ?_
    simp only [List.getElem_toArray, List.getElem_cons_succ, List.getElem_cons_zero, Act.put, List.setIfInBounds_toArray, List.set_cons_zero, List.set_cons_succ]
    refine wpAnyH_take (i := 7) (v := undef) rfl (by kernel_rfl) (by kernel_rfl) (by kernel_rfl) (fun _ _ _ h => h) (Or.inr ⟨by rfl, rfl⟩) (by assumption) ?_
    simp only [List.getElem_toArray, List.getElem_cons_succ, List.getElem_cons_zero, Act.put, List.setIfInBounds_toArray, List.set_cons_zero, List.set_cons_succ]
    refine wpAnyH_take (i := 8) (v := undef) rfl (by kernel_rfl) (by kernel_rfl) (by kernel_rfl) (fun _ _ _ h => h) (Or.inr ⟨by rfl, rfl⟩) (by assumption) ?_
    simp only [List.getElem_toArray, List.getElem_cons_succ, List.getElem_cons_zero, Act.put, List.setIfInBounds_toArray, List.set_cons_zero, List.set_cons_succ]
    refine wpAnyH_take (i := 9) (v := undef) rfl (by kernel_rfl) (by kernel_rfl) (by kernel_rfl) (fun _ _ _ h => h) (Or.inr ⟨by rfl, rfl⟩) (by assumption) ?_
    simp only [List.getElem_toArray, List.getElem_cons_succ, List.getElem_cons_zero, Act.put, List.setIfInBounds_toArray, List.set_cons_zero, List.set_cons_succ]
    refine wpAnyH_take (i := 10) (v := undef) rfl (by kernel_rfl) (by kernel_rfl) (by kernel_rfl) (fun _ _ _ h => h) (Or.inr ⟨by rfl, rfl⟩) (by assumption) ?_
    simp only [List.getElem_toArray, List.getElem_cons_succ, List.getElem_cons_zero, Act.put, List.setIfInBounds_toArray, List.set_cons_zero, List.set_cons_succ]
    refine wpAnyH_take (i := 11) (v := undef) rfl (by kernel_rfl) (by kernel_rfl) (by kernel_rfl) (fun _ _ _ h => h) (Or.inr ⟨by rfl, rfl⟩) (by assumption) ?_
    simp only [List.getElem_toArray, List.getElem_cons_succ, List.getElem_cons_zero, Act.put, List.setIfInBounds_toArray, List.set_cons_zero, List.set_cons_succ]
    refine wpAnyH_take (i := 12) (v := undef) rfl (by kernel_rfl) (by kernel_rfl) (by kernel_rfl) (fun _ _ _ h => h) (Or.inr ⟨by rfl, rfl⟩) (by assumption) ?_
    simp only [List.getElem_toArray, List.getElem_cons_succ, List.getElem_cons_zero, Act.put, List.setIfInBounds_toArray, List.set_cons_zero, List.set_cons_succ]
    refine wpAnyH_take (i := 13) (v := undef) rfl (by kernel_rfl) (by kernel_rfl) (by kernel_rfl) (fun _ _ _ h => h) (Or.inr ⟨by rfl, rfl⟩) (by assumption) ?_
    simp only [List.getElem_toArray, List.getElem_cons_succ, List.getElem_cons_zero, Act.put, List.setIfInBounds_toArray, List.set_cons_zero, List.set_cons_succ]
    refine wpAnyH_take (i := 14) (v := undef) rfl (by kernel_rfl) (by kernel_rfl) (by kernel_rfl) (fun _ _ _ h => h) (Or.inr ⟨by rfl, rfl⟩) (by assumption) ?_
    simp only [List.getElem_toArray, List.getElem_cons_succ, List.getElem_cons_zero, Act.put, List.setIfInBounds_toArray, List.set_cons_zero, List.set_cons_succ]
    refine wpAnyH_take (i := 15) (v := undef) rfl (by kernel_rfl) (by kernel_rfl) (by kernel_rfl) (fun _ _ _ h => h) (Or.inr ⟨by rfl, rfl⟩) (by assumption) ?_
    simp only [List.getElem_toArray, List.getElem_cons_succ, List.getElem_cons_zero, Act.put, List.setIfInBounds_toArray, List.set_cons_zero, List.set_cons_succ]
    refine wpAnyH_take (i := 16) (v := undef) rfl (by kernel_rfl) (by kernel_rfl) (by kernel_rfl) (fun _ _ _ h => h) (Or.inr ⟨by rfl, rfl⟩) (by assumption) ?_
    simp only [List.getElem_toArray, List.getElem_cons_succ, List.getElem_cons_zero, Act.put, List.setIfInBounds_toArray, List.set_cons_zero, List.set_cons_succ]
    refine wpAnyH_take (i := 17) (v := undef) rfl (by kernel_rfl) (by kernel_rfl) (by kernel_rfl) (fun _ _ _ h => h) (Or.inr ⟨by rfl, rfl⟩) (by assumption) ?_
    simp only [List.getElem_toArray, List.getElem_cons_succ, List.getElem_cons_zero, Act.put, List.setIfInBounds_toArray, List.set_cons_zero, List.set_cons_succ]
    refine wpAnyH_take (i := 18) (v := undef) rfl (by kernel_rfl) (by kernel_rfl) (by kernel_rfl) (fun _ _ _ h => h) (Or.inr ⟨by rfl, rfl⟩) (by assumption) ?_
    simp only [List.getElem_toArray, List.getElem_cons_succ, List.getElem_cons_zero, Act.put, List.setIfInBounds_toArray, List.set_cons_zero, List.set_cons_succ]
    refine wpAnyH_take (i := 19) (v := ?_) rfl (by kernel_rfl) (by kernel_rfl) (by kernel_rfl) (fun _ _ _ h => h) (Or.inl ⟨by rfl, ?_⟩) (by assumption) ?_
    rotate_left
    · intro w' hSw
      try dsimp only at hSw
      go_simp; try rfl
    simp only [List.getElem_toArray, List.getElem_cons_succ, List.getElem_cons_zero, Act.put, List.setIfInBounds_toArray, List.set_cons_zero, List.set_cons_succ]
    refine wpAnyH_done (by kernel_rfl) ?_ _
    have HX := hide (HB.out.trans (HW.out.mono HB.out.size))
    go_wp2
    go_ret
    exact ⟨by rw [HF.out]; rfl, HX.out⟩
  | true =>
    have hin := inB_yes ci
    obtain ⟨j, hj⟩ : ∃ j : Nat, k = (j : Int) := ⟨k.toNat, by omega⟩
    subst hj
    replace HV2 := hide (HV2.out j rfl)
    replace HVM := hide (HVM.out j rfl ci)
    rw [Int.toNat_natCast] at HV1
    have hlt : j < x.k.length := by omega
    have hltI : (j : Int) < (x.k.length : Int) := by omega
    clear HV0 hin
    obtain ⟨a', cap', ea, hcap, _, hc⟩ := kind_at HR.out
    cases ea
    obtain ⟨b, o, rfl, hbb, hcell⟩ := hc (by omega)
    obtain ⟨pv1, pv2, pv3, d0, d1, d2, d3, d4, r1, r2, r3⟩ := hcell j hlt
    have HGm := hide (getD_mem HG.out.2 j hlt).m
    clear hcell hc d0 d1 d2 d3 r1 r2
    obtain ⟨mm, hmm⟩ : ∃ mm, (x.k.getD j default).m = mm := ⟨_, rfl⟩
    rw [hmm] at r3 HV1 HV2 HVM HGm
    clear hmm
    have hml := HGm.out.1
    obtain ⟨ma, mc, me, _⟩ := r3.shape
    subst me
    have hwm : IntKind.i64.wrap ((mm.length : Int) - 1) = (mm.length : Int) - 1 := by rw [IntKind.wrap_i64]; omega
    have hasC := fun w => hasImpl w x (some ⟨b, o, none⟩) x.k.length c1 (j : Int) hm
    simp only [ci] at hasC
    have HCL : Hid (∀ w', Below W.heap.size W w' → w'.cell? ⟨w.heap.size, 0, none⟩ = some (.slice (some ⟨b, o, none⟩) x.k.length c1) ∧ w'.cell? ⟨w.heap.size + 1, 0, none⟩ = some (.int .i64 (j : Int)) ∧ w'.cell? ⟨w.heap.size + 1, 1, none⟩ = some (.int .i64 m) ∧ w'.cell? ⟨b, o + j * 5 + 4, none⟩ = some (.slice ma mm.length mc)) := hide (fun w' hb => ⟨(box_of ((hb.block _ (Array.getElem?_eq_some_iff.1 E0.out).1).trans E0.out)).1 0 _ rfl, (box_of ((hb.block _ (Array.getElem?_eq_some_iff.1 E1.out).1).trans E1.out)).1 0 _ rfl, (box_of ((hb.block _ (Array.getElem?_eq_some_iff.1 E1.out).1).trans E1.out)).1 1 _ rfl, (hb.cell (p := ⟨b, o + j * 5 + 4, none⟩) hbb).trans d4⟩)
    have HW := hide (Below.refl W.heap.size W).drew
    refine wp_region_held_drew (S := fun w' => w'.cell? ⟨w.heap.size, 0, none⟩ = some (.slice (some ⟨b, o, none⟩) x.k.length c1) ∧ w'.cell? ⟨w.heap.size + 1, 0, none⟩ = some (.int .i64 (j : Int)) ∧ w'.cell? ⟨w.heap.size + 1, 1, none⟩ = some (.int .i64 m) ∧ w'.cell? ⟨b, o + j * 5 + 4, none⟩ = some (.slice ma mm.length mc)) (by kernel_rfl) (HCL.out _ HW.out) (fun hHeld => ?_)
    generalize W.drew = Z0 at *
    refine wpAnyH_take (i := 0) (v := ?_) rfl (by kernel_rfl) (by kernel_rfl) (by kernel_rfl) (fun _ _ _ h => h) (Or.inl ⟨by rfl, ?_⟩) (by assumption) ?_
    rotate_left
    · intro w' hSw
      try dsimp only at hSw
      go_simp; try rfl
    simp only [List.getElem_toArray, List.getElem_cons_zero, Act.put, List.setIfInBounds_toArray, List.set_cons_zero, List.set_cons_succ]
    refine wpAnyH_take (i := 1) (v := ?_) rfl (by kernel_rfl) (by kernel_rfl) (by kernel_rfl) (fun _ _ _ h => h) (Or.inl ⟨by rfl, ?_⟩) (by assumption) ?_
    rotate_left
    · intro w' hSw
      try dsimp only at hSw
      go_simp; try rfl
    simp only [List.getElem_toArray, List.getElem_cons_succ, List.getElem_cons_zero, Act.put, List.setIfInBounds_toArray, List.set_cons_zero, List.set_cons_succ]
    refine wpAnyH_take (i := 2) (v := ?_) rfl (by kernel_rfl) (by kernel_rfl) (by kernel_rfl) (fun _ _ _ h => h) (Or.inl ⟨by rfl, ?_⟩) (by assumption) ?_
    rotate_left
    · intro w' hSw
      try dsimp only at hSw
      go_simp; try rfl
    simp only [List.getElem_toArray, List.getElem_cons_succ, List.getElem_cons_zero, Act.put, List.setIfInBounds_toArray, List.set_cons_zero, List.set_cons_succ]
    refine wpAnyH_ready (rs := [3]) (by kernel_rfl) (by simp) (AllReadyH.cons rfl (fun K hK => ?_) AllReadyH.nil)
    refine step_callW (some 9) (by kernel_rfl) (by kernel_rfl) 59 _ _ rfl #[.agg #[.slice (some ⟨b, o, none⟩) x.k.length c1], .int .i64 (j : Int)] (by kernel_rfl) (hasC _) ?_
    rintro e Z1 ⟨rfl, b9⟩
    replace HW := hide (HW.out.trans (b9.mono HW.out.size))
    clear b9
    refine ⟨_, rfl, ?_⟩
    refine hK.out _ _ (HCL.out _ HW.out) (fun hHeld => ?_)
    clear hK K
    simp only [Act.put, List.setIfInBounds_toArray, List.set_cons_zero, List.set_cons_succ]
    refine wpAnyH_take (i := 4) (v := ?_) rfl (by kernel_rfl) (by kernel_rfl) (by kernel_rfl) (fun _ _ _ h => h) (Or.inl ⟨by rfl, ?_⟩) (by assumption) ?_
    rotate_left
    · intro w' hSw
      try dsimp only at hSw
      go_simp; try rfl
    simp only [List.getElem_toArray, List.getElem_cons_succ, List.getElem_cons_zero, Act.put, List.setIfInBounds_toArray, List.set_cons_zero, List.set_cons_succ]
    refine wpAnyH_take (i := 5) (v := ?_) rfl (by kernel_rfl) (by kernel_rfl) (by kernel_rfl) (fun _ _ _ h => h) (Or.inl ⟨by rfl, ?_⟩) (by assumption) ?_
    rotate_left
    · intro w' hSw
      try dsimp only at hSw
      go_simp; try rfl
    simp only [List.getElem_toArray, List.getElem_cons_succ, List.getElem_cons_zero, Act.put, List.setIfInBounds_toArray, List.set_cons_zero, List.set_cons_succ]
    refine wpAnyH_take (i := 6) (v := ?_) rfl (by kernel_rfl) (by kernel_rfl) (by kernel_rfl) (fun _ _ _ h => h) (Or.inl ⟨by rfl, ?_⟩) (by assumption) ?_
    rotate_left
    · intro w' hSw
      try dsimp only at hSw
      go_simp; try rfl
    simp only [List.getElem_toArray, List.getElem_cons_succ, List.getElem_cons_zero, Act.put, List.setIfInBounds_toArray, List.set_cons_zero, List.set_cons_succ]
    refine wpAnyH_take (i := 7) (v := ?_) rfl (by kernel_rfl) (by kernel_rfl) (by kernel_rfl) (fun _ _ _ h => h) (Or.inl ⟨by rfl, ?_⟩) (by assumption) ?_
    rotate_left
    · intro w' hSw
      try dsimp only at hSw
      go_simp; try rfl
    simp only [List.getElem_toArray, List.getElem_cons_succ, List.getElem_cons_zero, Act.put, List.setIfInBounds_toArray, List.set_cons_zero, List.set_cons_succ]
    refine wpAnyH_take (i := 8) (v := ?_) rfl (by kernel_rfl) (by kernel_rfl) (by kernel_rfl) (fun _ _ _ h => h) (Or.inl ⟨by rfl, ?_⟩) (by assumption) ?_
    rotate_left
    · intro w' hSw
      try dsimp only at hSw
      go_simp; try rfl
    simp only [List.getElem_toArray, List.getElem_cons_succ, List.getElem_cons_zero, Act.put, List.setIfInBounds_toArray, List.set_cons_zero, List.set_cons_succ]
    refine wpAnyH_take (i := 9) (v := ?_) rfl (by kernel_rfl) (by kernel_rfl) (by kernel_rfl) (fun _ _ _ h => h) (Or.inl ⟨by rfl, ?_⟩) (by assumption) ?_
    rotate_left
    · intro w' hSw
      try dsimp only at hSw
      go_simp; try rfl
    simp only [List.getElem_toArray, List.getElem_cons_succ, List.getElem_cons_zero, Act.put, List.setIfInBounds_toArray, List.set_cons_zero, List.set_cons_succ]
    refine wpAnyH_take (i := 10) (v := ?_) rfl (by kernel_rfl) (by kernel_rfl) (by kernel_rfl) (fun _ _ _ h => h) (Or.inl ⟨by rfl, ?_⟩) (by assumption) ?_
    rotate_left
    · intro w' hSw
      try dsimp only at hSw
      go_simp; try rfl
    simp only [List.getElem_toArray, List.getElem_cons_succ, List.getElem_cons_zero, Act.put, List.setIfInBounds_toArray, List.set_cons_zero, List.set_cons_succ]
    refine wpAnyH_take (i := 11) (v := ?_) rfl (by kernel_rfl) (by kernel_rfl) (by kernel_rfl) (fun _ _ _ h => h) (Or.inl ⟨by rfl, ?_⟩) (by assumption) ?_
    rotate_left
    · intro w' hSw
      try dsimp only at hSw
      go_simp; try rfl
    simp only [List.getElem_toArray, List.getElem_cons_succ, List.getElem_cons_zero, Act.put, List.setIfInBounds_toArray, List.set_cons_zero, List.set_cons_succ]
    refine wpAnyH_take (i := 12) (v := ?_) rfl (by kernel_rfl) (by kernel_rfl) (by kernel_rfl) (fun _ _ _ h => h) (Or.inl ⟨by rfl, ?_⟩) (by assumption) ?_
    rotate_left
    · intro w' hSw
      try dsimp only at hSw
      go_simp; try rfl
    simp only [List.getElem_toArray, List.getElem_cons_succ, List.getElem_cons_zero, Act.put, List.setIfInBounds_toArray, List.set_cons_zero, List.set_cons_succ]
    refine wpAnyH_take (i := 13) (v := ?_) rfl (by kernel_rfl) (by kernel_rfl) (by kernel_rfl) (fun _ _ _ h => h) (Or.inl ⟨by rfl, ?_⟩) (by assumption) ?_
    rotate_left
    · intro w' hSw
      try dsimp only at hSw
      go_simp; try rfl
    simp only [List.getElem_toArray, List.getElem_cons_succ, List.getElem_cons_zero, Act.put, List.setIfInBounds_toArray, List.set_cons_zero, List.set_cons_succ]
    refine wpAnyH_take (i := 14) (v := ?_) rfl (by kernel_rfl) (by kernel_rfl) (by kernel_rfl) (fun _ _ _ h => h) (Or.inl ⟨by rfl, ?_⟩) (by assumption) ?_
    rotate_left
    · intro w' hSw
      try dsimp only at hSw
      go_simp; try rfl
    simp only [List.getElem_toArray, List.getElem_cons_succ, List.getElem_cons_zero, Act.put, List.setIfInBounds_toArray, List.set_cons_zero, List.set_cons_succ]
    refine wpAnyH_take (i := 15) (v := ?_) rfl (by kernel_rfl) (by kernel_rfl) (by kernel_rfl) (fun _ _ _ h => h) (Or.inl ⟨by rfl, ?_⟩) (by assumption) ?_
    rotate_left
    · intro w' hSw
      try dsimp only at hSw
      go_simp; try rfl
    simp only [List.getElem_toArray, List.getElem_cons_succ, List.getElem_cons_zero, Act.put, List.setIfInBounds_toArray, List.set_cons_zero, List.set_cons_succ]
    refine wpAnyH_take (i := 16) (v := ?_) rfl (by kernel_rfl) (by kernel_rfl) (by kernel_rfl) (fun _ _ _ h => h) (Or.inl ⟨by rfl, ?_⟩) (by assumption) ?_
    rotate_left
    · intro w' hSw
      try dsimp only at hSw
      go_simp; try rfl
    simp only [List.getElem_toArray, List.getElem_cons_succ, List.getElem_cons_zero, Act.put, List.setIfInBounds_toArray, List.set_cons_zero, List.set_cons_succ]
    refine wpAnyH_ready (rs := [17]) (by kernel_rfl) (by simp) (AllReadyH.cons rfl (fun K hK => ?_) AllReadyH.nil)
    refine step_callW (some 23) (by kernel_rfl) (by kernel_rfl) 24 _ _ rfl #[.int .i64 m, .int .i64 0, .int .i64 ((mm.length : Int) - 1)] (by kernel_rfl) (calls_same (inImpl _ _ _ _)) ?_
    rintro e Z2 ⟨rfl, b9⟩
    replace HW := hide (HW.out.trans (b9.mono HW.out.size))
    clear b9
    refine ⟨_, rfl, ?_⟩
    refine hK.out _ _ (HCL.out _ HW.out) (fun hHeld => ?_)
    clear hK K
    simp only [Act.put, List.setIfInBounds_toArray, List.set_cons_zero, List.set_cons_succ]
    refine wpAnyH_take (i := 18) (v := ?_) rfl (by kernel_rfl) (by kernel_rfl) (by kernel_rfl) (fun _ _ _ h => h) (Or.inl ⟨by rfl, ?_⟩) (by assumption) ?_
    rotate_left
    · intro w' hSw
      try dsimp only at hSw
      go_simp; try rfl
    simp only [List.getElem_toArray, List.getElem_cons_succ, List.getElem_cons_zero, Act.put, List.setIfInBounds_toArray, List.set_cons_zero, List.set_cons_succ]
    refine wpAnyH_take (i := 19) (v := ?_) rfl (by kernel_rfl) (by kernel_rfl) (by kernel_rfl) (fun _ _ _ h => h) (Or.inl ⟨by rfl, ?_⟩) (by assumption) ?_
    rotate_left
    · intro w' hSw
      try dsimp only at hSw
      go_simp; try rfl
    simp only [List.getElem_toArray, List.getElem_cons_succ, List.getElem_cons_zero, Act.put, List.setIfInBounds_toArray, List.set_cons_zero, List.set_cons_succ]
    refine wpAnyH_done (by kernel_rfl) ?_ _
    replace d4 := (HW.out.cell (p := ⟨b, o + j * 5 + 4, none⟩) hbb).trans d4
    replace r3 := r3.at HW.out
    replace hbb := Nat.lt_of_lt_of_le hbb HW.out.size
    have b1 := HW.out
    clear HW HCL hHeld
    replace E0 := hide ((b1.block _ (Array.getElem?_eq_some_iff.1 E0.out).1).trans E0.out)
    replace E1 := hide ((b1.block _ (Array.getElem?_eq_some_iff.1 E1.out).1).trans E1.out)
    replace HB := hide (HB.out.trans (b1.mono HB.out.size))
    clear b1
    clear hwm
    generalize Z2 = W at *
    cases c2 : inB m 0 ((mm.length : Int) - 1) with
    | false =>
      have HF := hide (HV2.out c2)
      clear HV1 HV2 HVM
      go_wp2
      go_ret
      exact ⟨by rw [HF.out]; rfl, HB.out⟩
    | true =>
      have HW1 := hide (HV1.out (HVM.out c2))
      have hin := inB_yes c2
      obtain ⟨i, hi⟩ : ∃ i : Nat, m = (i : Int) := ⟨m.toNat, by omega⟩
      subst hi
      rw [Int.toNat_natCast] at HW1
      have hil : i < mm.length := by omega
      have hilI : (i : Int) < (mm.length : Int) := by omega
      clear HV1 HV2 HVM c2 hin ci
      obtain ⟨ma', mc', me, hmc, _, hc⟩ := code_at r3
      cases me
      obtain ⟨b2, o2, rfl, hbb2, hcell⟩ := hc (by omega)
      obtain ⟨pw1, pw2, g0, g1, g2, g3, g4, g5, t1, t2⟩ := hcell i hil
      have hyi := (getD_mem HGm.out.2 i hil).is.1
      have HX := hide (HW1.out _ rfl)
      clear hcell hc r3 HW1 HGm
      obtain ⟨y, hy⟩ : ∃ y, mm.getD i default = y := ⟨_, rfl⟩
      rw [hy] at g0 g1 g3 g4 t1 t2 HX hyi
      clear hy
      obtain ⟨fa1, fc1, fe1, _⟩ := t1.shape
      obtain ⟨fa2, fc2, fe2, _⟩ := t2.shape
      subst fe1 fe2
      clear t1 t2
      go_upto_region 3 with fail
      have HCL : Hid (∀ w', Below W.heap.size W w' → w'.cell? ⟨w.heap.size, 0, none⟩ = some (.slice (some ⟨b, o, none⟩) x.k.length c1) ∧ w'.cell? ⟨w.heap.size + 1, 0, none⟩ = some (.int .i64 (j : Int)) ∧ w'.cell? ⟨w.heap.size + 1, 1, none⟩ = some (.int .i64 (i : Int)) ∧ w'.cell? ⟨b, o + j * 5 + 4, none⟩ = some (.slice (some ⟨b2, o2, none⟩) mm.length mc) ∧ w'.cell? ⟨b2, o2 + i * 6, none⟩ = some (.string y.n) ∧ w'.cell? ⟨b2, o2 + i * 6 + 1, none⟩ = some (.int .i64 y.o) ∧ w'.cell? ⟨b2, o2 + i * 6 + 2, none⟩ = some (.slice fa1 y.ps.length fc1) ∧ w'.cell? ⟨b2, o2 + i * 6 + 3, none⟩ = some (.string y.r) ∧ w'.cell? ⟨b2, o2 + i * 6 + 4, none⟩ = some (.int .i64 y.l) ∧ w'.cell? ⟨b2, o2 + i * 6 + 5, none⟩ = some (.slice fa2 y.is.length fc2)) := hide (fun w' hb => ⟨(box_of ((hb.block _ (Array.getElem?_eq_some_iff.1 E0.out).1).trans E0.out)).1 0 _ rfl, (box_of ((hb.block _ (Array.getElem?_eq_some_iff.1 E1.out).1).trans E1.out)).1 0 _ rfl, (box_of ((hb.block _ (Array.getElem?_eq_some_iff.1 E1.out).1).trans E1.out)).1 1 _ rfl, (hb.cell (p := ⟨b, o + j * 5 + 4, none⟩) hbb).trans d4, (hb.cell (p := ⟨b2, o2 + i * 6, none⟩) hbb2).trans g0, (hb.cell (p := ⟨b2, o2 + i * 6 + 1, none⟩) hbb2).trans g1, (hb.cell (p := ⟨b2, o2 + i * 6 + 2, none⟩) hbb2).trans g2, (hb.cell (p := ⟨b2, o2 + i * 6 + 3, none⟩) hbb2).trans g3, (hb.cell (p := ⟨b2, o2 + i * 6 + 4, none⟩) hbb2).trans g4, (hb.cell (p := ⟨b2, o2 + i * 6 + 5, none⟩) hbb2).trans g5⟩)
      have HD := hide (Below.refl W.heap.size W).drew
      refine wp_region_held_drew (S := fun w' => w'.cell? ⟨w.heap.size, 0, none⟩ = some (.slice (some ⟨b, o, none⟩) x.k.length c1) ∧ w'.cell? ⟨w.heap.size + 1, 0, none⟩ = some (.int .i64 (j : Int)) ∧ w'.cell? ⟨w.heap.size + 1, 1, none⟩ = some (.int .i64 (i : Int)) ∧ w'.cell? ⟨b, o + j * 5 + 4, none⟩ = some (.slice (some ⟨b2, o2, none⟩) mm.length mc) ∧ w'.cell? ⟨b2, o2 + i * 6, none⟩ = some (.string y.n) ∧ w'.cell? ⟨b2, o2 + i * 6 + 1, none⟩ = some (.int .i64 y.o) ∧ w'.cell? ⟨b2, o2 + i * 6 + 2, none⟩ = some (.slice fa1 y.ps.length fc1) ∧ w'.cell? ⟨b2, o2 + i * 6 + 3, none⟩ = some (.string y.r) ∧ w'.cell? ⟨b2, o2 + i * 6 + 4, none⟩ = some (.int .i64 y.l) ∧ w'.cell? ⟨b2, o2 + i * 6 + 5, none⟩ = some (.slice fa2 y.is.length fc2)) (by kernel_rfl) (HCL.out _ HD.out) (fun hHeld => ?_)
      generalize W.drew = Z0 at *
      refine wpAnyH_take (i := 0) (v := ?_) rfl (by kernel_rfl) (by kernel_rfl) (by kernel_rfl) (fun _ _ _ h => h) (Or.inl ⟨by rfl, ?_⟩) (by assumption) ?_
      rotate_left
      · intro w' hSw
        try dsimp only at hSw
        go_simp; try rfl
      simp only [List.getElem_toArray, List.getElem_cons_zero, Act.put, List.setIfInBounds_toArray, List.set_cons_zero, List.set_cons_succ]
      refine wpAnyH_take (i := 1) (v := ?_) rfl (by kernel_rfl) (by kernel_rfl) (by kernel_rfl) (fun _ _ _ h => h) (Or.inl ⟨by rfl, ?_⟩) (by assumption) ?_
      rotate_left
      · intro w' hSw
        try dsimp only at hSw
        go_simp; try rfl
      simp only [List.getElem_toArray, List.getElem_cons_succ, List.getElem_cons_zero, Act.put, List.setIfInBounds_toArray, List.set_cons_zero, List.set_cons_succ]
      refine wpAnyH_take (i := 2) (v := ?_) rfl (by kernel_rfl) (by kernel_rfl) (by kernel_rfl) (fun _ _ _ h => h) (Or.inl ⟨by rfl, ?_⟩) (by assumption) ?_
      rotate_left
      · intro w' hSw
        try dsimp only at hSw
        go_simp; try rfl
      simp only [List.getElem_toArray, List.getElem_cons_succ, List.getElem_cons_zero, Act.put, List.setIfInBounds_toArray, List.set_cons_zero, List.set_cons_succ]
      refine wpAnyH_take (i := 3) (v := ?_) rfl (by kernel_rfl) (by kernel_rfl) (by kernel_rfl) (fun _ _ _ h => h) (Or.inl ⟨by rfl, ?_⟩) (by assumption) ?_
      rotate_left
      · intro w' hSw
        try dsimp only at hSw
        go_simp; try rfl
      simp only [List.getElem_toArray, List.getElem_cons_succ, List.getElem_cons_zero, Act.put, List.setIfInBounds_toArray, List.set_cons_zero, List.set_cons_succ]
      refine wpAnyH_take (i := 4) (v := ?_) rfl (by kernel_rfl) (by kernel_rfl) (by kernel_rfl) (fun _ _ _ h => h) (Or.inl ⟨by rfl, ?_⟩) (by assumption) ?_
      rotate_left
      · intro w' hSw
        try dsimp only at hSw
        go_simp; try rfl
      simp only [List.getElem_toArray, List.getElem_cons_succ, List.getElem_cons_zero, Act.put, List.setIfInBounds_toArray, List.set_cons_zero, List.set_cons_succ]
      refine wpAnyH_take (i := 5) (v := ?_) rfl (by kernel_rfl) (by kernel_rfl) (by kernel_rfl) (fun _ _ _ h => h) (Or.inl ⟨by rfl, ?_⟩) (by assumption) ?_
      rotate_left
      · intro w' hSw
        try dsimp only at hSw
        go_simp; try rfl
      simp only [List.getElem_toArray, List.getElem_cons_succ, List.getElem_cons_zero, Act.put, List.setIfInBounds_toArray, List.set_cons_zero, List.set_cons_succ]
      refine wpAnyH_take (i := 6) (v := ?_) rfl (by kernel_rfl) (by kernel_rfl) (by kernel_rfl) (fun _ _ _ h => h) (Or.inl ⟨by rfl, ?_⟩) (by assumption) ?_
      rotate_left
      · intro w' hSw
        try dsimp only at hSw
        go_simp; try rfl
      simp only [List.getElem_toArray, List.getElem_cons_succ, List.getElem_cons_zero, Act.put, List.setIfInBounds_toArray, List.set_cons_zero, List.set_cons_succ]
      refine wpAnyH_take (i := 7) (v := ?_) rfl (by kernel_rfl) (by kernel_rfl) (by kernel_rfl) (fun _ _ _ h => h) (Or.inl ⟨by rfl, ?_⟩) (by assumption) ?_
      rotate_left
      · intro w' hSw
        try dsimp only at hSw
        go_simp; try rfl
      simp only [List.getElem_toArray, List.getElem_cons_succ, List.getElem_cons_zero, Act.put, List.setIfInBounds_toArray, List.set_cons_zero, List.set_cons_succ]
      refine wpAnyH_take (i := 8) (v := ?_) rfl (by kernel_rfl) (by kernel_rfl) (by kernel_rfl) (fun _ _ _ h => h) (Or.inl ⟨by rfl, ?_⟩) (by assumption) ?_
      rotate_left
      · intro w' hSw
        try dsimp only at hSw
        go_simp; try rfl
      simp only [List.getElem_toArray, List.getElem_cons_succ, List.getElem_cons_zero, Act.put, List.setIfInBounds_toArray, List.set_cons_zero, List.set_cons_succ]
      refine wpAnyH_take (i := 9) (v := ?_) rfl (by kernel_rfl) (by kernel_rfl) (by kernel_rfl) (fun _ _ _ h => h) (Or.inl ⟨by rfl, ?_⟩) (by assumption) ?_
      rotate_left
      · intro w' hSw
        try dsimp only at hSw
        go_simp; try rfl
      simp only [List.getElem_toArray, List.getElem_cons_succ, List.getElem_cons_zero, Act.put, List.setIfInBounds_toArray, List.set_cons_zero, List.set_cons_succ]
      refine wpAnyH_take (i := 10) (v := ?_) rfl (by kernel_rfl) (by kernel_rfl) (by kernel_rfl) (fun _ _ _ h => h) (Or.inl ⟨by rfl, ?_⟩) (by assumption) ?_
      rotate_left
      · intro w' hSw
        try dsimp only at hSw
        go_simp; try rfl
      simp only [List.getElem_toArray, List.getElem_cons_succ, List.getElem_cons_zero, Act.put, List.setIfInBounds_toArray, List.set_cons_zero, List.set_cons_succ]
      refine wpAnyH_ready (rs := [11]) (by kernel_rfl) (by simp) (AllReadyH.cons rfl (fun K hK => ?_) AllReadyH.nil)
      refine step_runX (some 5) (by kernel_rfl) (by kernel_rfl) (v := .pointer (some ⟨Z0.heap.size, 0, none⟩)) (w' := Z0.alloc (.cells #[.string ⟨#[]⟩, .int .i64 0, .slice none 0 0, .string ⟨#[]⟩, .int .i64 0, .slice none 0 0] 79)) (by go_simp; try rfl) ?_
      have HN := hide (HD.out.alloc HD.out.size (.cells #[.string ⟨#[]⟩, .int .i64 0, .slice none 0 0, .string ⟨#[]⟩, .int .i64 0, .slice none 0 0] 79))
      have GA : Hid ((Z0.alloc (.cells #[.string ⟨#[]⟩, .int .i64 0, .slice none 0 0, .string ⟨#[]⟩, .int .i64 0, .slice none 0 0] 79)).heap[Z0.heap.size]? = some (.cells #[.string ⟨#[]⟩, .int .i64 0, .slice none 0 0, .string ⟨#[]⟩, .int .i64 0, .slice none 0 0] 79 (0, 0))) := hide (heap_alloc_new Z0 (.cells #[.string ⟨#[]⟩, .int .i64 0, .slice none 0 0, .string ⟨#[]⟩, .int .i64 0, .slice none 0 0] 79))
      have ka := HD.out.size
      refine hK.out _ _ (HCL.out _ HN.out) (fun hHeld => ?_)
      clear hK K
      simp only [Act.put, List.setIfInBounds_toArray, List.set_cons_zero, List.set_cons_succ]
      obtain ⟨g9, hg9⟩ : ∃ g, Z0.heap.size = g := ⟨_, rfl⟩
      rw [hg9] at GA ka ⊢
      generalize Z0.alloc (.cells #[.string ⟨#[]⟩, .int .i64 0, .slice none 0 0, .string ⟨#[]⟩, .int .i64 0, .slice none 0 0] 79) = Z1 at *
      clear hg9 HD
      refine wpAnyH_ready (rs := [12]) (by kernel_rfl) (by simp) (AllReadyH.cons rfl (fun K hK => ?_) AllReadyH.nil)
      refine step_storeX (by kernel_rfl) (by kernel_rfl) 79 _ _ rfl g9 #[.string y.n, .int .i64 y.o, .slice fa1 y.ps.length fc1, .string y.r, .int .i64 y.l, .slice fa2 y.is.length fc2] (by kernel_rfl) (by kernel_rfl) _ _ GA.out (by kernel_rfl) (by rfl) (by simp [Value.oneCell']) ?_
      have HM := hide (below_setRow HN.out ka #[.string y.n, .int .i64 y.o, .slice fa1 y.ps.length fc1, .string y.r, .int .i64 y.l, .slice fa2 y.is.length fc2])
      have GB := hide (setRow_heap Z1 g9 _ #[.string y.n, .int .i64 y.o, .slice fa1 y.ps.length fc1, .string y.r, .int .i64 y.l, .slice fa2 y.is.length fc2] _ _ GA.out)
      refine hK.out _ _ (HCL.out _ HM.out) (fun hHeld => ?_)
      clear hK K
      try simp only [Act.put, List.setIfInBounds_toArray, List.set_cons_zero, List.set_cons_succ]
      clear HN GA
      generalize Z1.setRow g9 #[.string y.n, .int .i64 y.o, .slice fa1 y.ps.length fc1, .string y.r, .int .i64 y.l, .slice fa2 y.is.length fc2] = Z2 at *
      refine wpAnyH_done (by kernel_rfl) ?_ _
      have bz := HM.out
      clear HM HCL hHeld
      replace E0 := hide ((bz.block _ (Array.getElem?_eq_some_iff.1 E0.out).1).trans E0.out)
      replace E1 := hide ((bz.block _ (Array.getElem?_eq_some_iff.1 E1.out).1).trans E1.out)
      replace HB := hide (HB.out.trans (bz.mono HB.out.size))
      clear bz
      go_upto_region 4 with fail
      have hw' : IntKind.i64.wrap ((y.is.length : Int) - 1) = (y.is.length : Int) - 1 := by rw [IntKind.wrap_i64]; omega
      have f1 := (box_of GB.out).1 1 _ rfl
      have f4 := (box_of GB.out).1 4 _ rfl
      have f5 := (box_of GB.out).1 5 _ rfl
      have s0 := (box_of E1.out).1 0 _ rfl
      have s2 := (box_of E1.out).1 2 _ rfl
      have s3 := (box_of E1.out).1 3 _ rfl
      have s4 := (box_of E1.out).1 4 _ rfl
      have EX := HX.out
      clear HX
      have NO : ∀ b : Bool, V = b → b = false → Hid (V = false) := fun b h1 h2 => hide (h1.trans h2)
      by_cases c1 : y.o = (j : Int)
      · have k1 : (y.o == (j : Int)) = true := by simpa using c1
        rw [decide_eq_true c1, Bool.true_and] at EX
        replace EX := hide EX
        clear c1
        go_wp2_with fail
        refine (inImpl _ _ _ _).mono ?_
        rintro e w2 ⟨rfl, hw2⟩
        rw [hw2]
        clear hw2 w2
        cases c2 : inB p 0 ((y.is.length : Int) - 1) with
        | false =>
          have HF := NO _ EX.out (by rw [c2]; rfl)
          clear EX NO
          go_wp2
          go_ret
          exact ⟨by rw [HF.out]; rfl, HB.out⟩
        | true =>
          replace EX := EX.out
          rw [c2, Bool.true_and] at EX
          by_cases c3 : (l.length : Int) = y.l
          · have k3 : ((l.length : Int) == y.l) = true := by simpa using c3
            rw [decide_eq_true c3, Bool.true_and] at EX
            by_cases c4 : s.length ≤ 6
            · have k4 : (s.length : Int) ≤ 6 := by omega
              rw [decide_eq_true c4] at EX
              replace EX := hide EX
              clear c3 c4 NO
              go_wp2
              go_ret
              exact ⟨by rw [EX.out]; rfl, HB.out⟩
            · have k4 : ¬ (s.length : Int) ≤ 6 := by omega
              have HF := NO _ EX (decide_eq_false c4)
              clear EX NO c3 c4
              go_wp2
              go_ret
              refine ⟨?_, HB.out⟩
              rw [HF.out]
              show Ending.returned (.bool (decide ((s.length : Int) ≤ 6))) = _
              rw [decide_eq_false (by omega)]
          · have k3 : ((l.length : Int) == y.l) = false := by simpa using c3
            have HF := NO _ EX (by rw [decide_eq_false c3]; rfl)
            clear EX NO c3
            go_wp2
            go_ret
            exact ⟨by rw [HF.out]; rfl, HB.out⟩
      · have k1 : (y.o == (j : Int)) = false := by simpa using c1
        have HF := NO _ EX (by rw [decide_eq_false c1]; rfl)
        clear EX NO c1
        go_wp2
        go_ret
        exact ⟨by rw [HF.out]; rfl, HB.out⟩
end Go.Proofs.Ytgkglebgpbehbaa
