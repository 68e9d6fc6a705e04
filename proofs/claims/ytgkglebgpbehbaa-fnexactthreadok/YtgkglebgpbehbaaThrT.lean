/-
  Threads in the model: whether one is right.
-/
import Derived.Test.YtgkglebgpbehbaaThrS
namespace Go.Proofs.Ytgkglebgpbehbaa
open Go.RowKit

set_option maxRecDepth 100000 in
set_option maxHeartbeats 8000000 in
theorem threadOkS (w : World) (x : Pg) (u : Value) (t : Th) (v1 : Value) (h : Reads w w.heap.size (kins x.k) u) (h1 : Reads w w.heap.size (frs t.f) v1) (hg : kinsG x.k) (ht : ThG t) :
    Calls Try.prog 7 #[pgV x u, thV t v1] w fun e w' => e = .returned (.bool (thB x.k t)) ∧ Below w.heap.size w w' := by
  have HR := hide h
  have H1 := hide h1
  have hm := hg.1
  have hl := ht.f.1
  have HG2 := hide ht.f.2
  obtain ⟨a1, c1, e1, _⟩ := h.shape
  obtain ⟨a2, c2, e2, _⟩ := h1.shape
  subst e1 e2
  clear h h1 ht
  have HV1 : Hid (∀ j, j < t.f.length → frB x.k (t.f.getD j default) = false → thB x.k t = false) := hide (fun j h1 h2 => by unfold thB; rw [allNo h1 h2]; rfl)
  have HV2 : Hid ((∀ j, j < t.f.length → frB x.k (t.f.getD j default) = true) → thB x.k t = (inB t.i 1 1000000 && (decide (t.f.length ≤ 8) && ((decide (0 < t.f.length) || !decide (t.s = 0)) && (inB t.s 0 5 && inB t.d 0 15))))) := hide (fun h => by unfold thB; rw [allYes h]; rfl)
  generalize thB x.k t = V at *
  have bA := (((Below.refl w.heap.size w).alloc (Nat.le_refl _) (.cells #[.slice a1 x.k.length c1] 33)).alloc (by simp) (.cells #[.int .i64 t.i, .slice a2 t.f.length c2, .int .i64 t.s, .int .i64 t.d] 37))
  have G0 := heap_alloc_new w (.cells #[.slice a1 x.k.length c1] 33)
  have G1 := heap_alloc_new (w.alloc (.cells #[.slice a1 x.k.length c1] 33)) (.cells #[.int .i64 t.i, .slice a2 t.f.length c2, .int .i64 t.s, .int .i64 t.d] 37)
  simp only [World.size_alloc] at G1
  have E0 := hide ((Below.heap_alloc _ (.cells #[.int .i64 t.i, .slice a2 t.f.length c2, .int .i64 t.s, .int .i64 t.d] 37) _ (by simp)).trans (G0))
  have E1 := hide (G1)
  have HB := hide bA
  replace HR := hide (HR.out.at bA)
  replace H1 := hide (H1.out.at bA)
  clear bA G0 G1
  unfold pgV thV
  go_enter Try.func7, Try.ntmps7
  go_wp2
  generalize ((w.alloc (.cells #[.slice a1 x.k.length c1] 33)).alloc (.cells #[.int .i64 t.i, .slice a2 t.f.length c2, .int .i64 t.s, .int .i64 t.d] 37)) = W at *
  go_loopw [5] (fun i wr => ∃ j : Nat, j ≤ t.f.length ∧ i = .int .i64 (j : Int) ∧ Hid (Below W.heap.size W wr) ∧ Hid (∀ i, i < j → frB x.k (t.f.getD i default) = true)) (fun i _ => t.f.length - (intOf i).toNat)
  case atStart => exact ⟨0, Nat.zero_le _, rfl, hide (Below.refl _ _), hide (fun i hi => by omega)⟩
  case round =>
    obtain ⟨j, hj, rfl, HL, HQ⟩ := hrel
    have E0r := hide ((HL.out.block _ (Array.getElem?_eq_some_iff.1 E0.out).1).trans E0.out)
    have E1r := hide ((HL.out.block _ (Array.getElem?_eq_some_iff.1 E1.out).1).trans E1.out)
    have HRr := hide (HR.out.at HL.out)
    have HBr := hide (HB.out.trans (HL.out.mono HB.out.size))
    by_cases hlt : j < t.f.length
    · obtain ⟨a', cap', ea, hcap, _, hc⟩ := frame_at (H1.out.at HL.out)
      cases ea
      obtain ⟨b, o, rfl, hbb, hcell⟩ := hc (by omega)
      obtain ⟨pv1, pv2, d0, d1, d2, d3, d4, r1, r2⟩ := hcell j hlt
      have HGy := hide (HG2.out (t.f.getD j default) (by rw [List.getD_eq_getElem?_getD, List.getElem?_eq_getElem hlt]; exact List.getElem_mem hlt))
      clear hcell hc
      obtain ⟨y, hy⟩ : ∃ y, t.f.getD j default = y := ⟨_, rfl⟩
      rw [hy] at d0 d1 d2 r1 r2 HGy
      have HY := hide hy
      clear hy
      obtain ⟨fa1, fc1, fe1, _⟩ := r1.shape
      obtain ⟨fa2, fc2, fe2, _⟩ := r2.shape
      subst fe1 fe2
      have q0 := (box_of E1r.out).1 1 _ rfl
      go_upto_region 4 with fail
      clear q0
      have HCL : Hid (∀ w', Below wr.heap.size wr w' → w'.cell? ⟨w.heap.size, 0, none⟩ = some (.slice a1 x.k.length c1) ∧ w'.cell? ⟨w.heap.size + 1, 1, none⟩ = some (.slice (some ⟨b, o, none⟩) t.f.length c2) ∧ w'.cell? ⟨b, o + j * 5, none⟩ = some (.int .i64 y.k) ∧ w'.cell? ⟨b, o + j * 5 + 1, none⟩ = some (.int .i64 y.m) ∧ w'.cell? ⟨b, o + j * 5 + 2, none⟩ = some (.int .i64 y.p) ∧ w'.cell? ⟨b, o + j * 5 + 3, none⟩ = some (.slice fa1 y.l.length fc1) ∧ w'.cell? ⟨b, o + j * 5 + 4, none⟩ = some (.slice fa2 y.s.length fc2)) := hide (fun w' hb => ⟨(box_of ((hb.block _ (Array.getElem?_eq_some_iff.1 E0r.out).1).trans E0r.out)).1 0 _ rfl, (box_of ((hb.block _ (Array.getElem?_eq_some_iff.1 E1r.out).1).trans E1r.out)).1 1 _ rfl, (hb.cell (p := ⟨b, o + j * 5, none⟩) hbb).trans d0, (hb.cell (p := ⟨b, o + j * 5 + 1, none⟩) hbb).trans d1, (hb.cell (p := ⟨b, o + j * 5 + 2, none⟩) hbb).trans d2, (hb.cell (p := ⟨b, o + j * 5 + 3, none⟩) hbb).trans d3, (hb.cell (p := ⟨b, o + j * 5 + 4, none⟩) hbb).trans d4⟩)
      have HW := hide (Below.refl wr.heap.size wr).drew
      clear d0 d1 d2 d3 d4
      refine wp_region_held_drew (S := fun w' => w'.cell? ⟨w.heap.size, 0, none⟩ = some (.slice a1 x.k.length c1) ∧ w'.cell? ⟨w.heap.size + 1, 1, none⟩ = some (.slice (some ⟨b, o, none⟩) t.f.length c2) ∧ w'.cell? ⟨b, o + j * 5, none⟩ = some (.int .i64 y.k) ∧ w'.cell? ⟨b, o + j * 5 + 1, none⟩ = some (.int .i64 y.m) ∧ w'.cell? ⟨b, o + j * 5 + 2, none⟩ = some (.int .i64 y.p) ∧ w'.cell? ⟨b, o + j * 5 + 3, none⟩ = some (.slice fa1 y.l.length fc1) ∧ w'.cell? ⟨b, o + j * 5 + 4, none⟩ = some (.slice fa2 y.s.length fc2)) (by kernel_rfl) (HCL.out _ HW.out) (fun hHeld => ?_)
      generalize wr.drew = Z0 at *
      refine wpAnyH_take (i := 0) (v := ?_) rfl (by kernel_rfl) (by kernel_rfl) (by kernel_rfl) (fun _ _ _ h => h) (Or.inl ⟨by rfl, ?_⟩) (by assumption) ?_
      rotate_left
      · intro w' hSw
        try dsimp only at hSw
        go_simp; try rfl
      simp only [List.getElem_toArray, List.getElem_cons_zero, Act.put, List.setIfInBounds_toArray, List.set_cons_zero, List.set_cons_succ]
      refine wpAnyH_take (i := 1) (v := ?_) rfl (by kernel_rfl) (by kernel_rfl) (by kernel_rfl) (fun _ _ _ h => h) (Or.inl ⟨by rfl, ?_⟩) (by assumption) ?_
      rotate_left
      · intro w' hSw
        try dsimp only at hSw
        go_simp; try rfl
      simp only [List.getElem_toArray, List.getElem_cons_succ, List.getElem_cons_zero, Act.put, List.setIfInBounds_toArray, List.set_cons_zero, List.set_cons_succ]
      refine wpAnyH_take (i := 2) (v := ?_) rfl (by kernel_rfl) (by kernel_rfl) (by kernel_rfl) (fun _ _ _ h => h) (Or.inl ⟨by rfl, ?_⟩) (by assumption) ?_
      rotate_left
      · intro w' hSw
        try dsimp only at hSw
        go_simp; try rfl
      simp only [List.getElem_toArray, List.getElem_cons_succ, List.getElem_cons_zero, Act.put, List.setIfInBounds_toArray, List.set_cons_zero, List.set_cons_succ]
      refine wpAnyH_take (i := 3) (v := ?_) rfl (by kernel_rfl) (by kernel_rfl) (by kernel_rfl) (fun _ _ _ h => h) (Or.inl ⟨by rfl, ?_⟩) (by assumption) ?_
      rotate_left
      · intro w' hSw
        try dsimp only at hSw
        go_simp; try rfl
      simp only [List.getElem_toArray, List.getElem_cons_succ, List.getElem_cons_zero, Act.put, List.setIfInBounds_toArray, List.set_cons_zero, List.set_cons_succ]
      refine wpAnyH_take (i := 4) (v := ?_) rfl (by kernel_rfl) (by kernel_rfl) (by kernel_rfl) (fun _ _ _ h => h) (Or.inl ⟨by rfl, ?_⟩) (by assumption) ?_
      rotate_left
      · intro w' hSw
        try dsimp only at hSw
        go_simp; try rfl
      simp only [List.getElem_toArray, List.getElem_cons_succ, List.getElem_cons_zero, Act.put, List.setIfInBounds_toArray, List.set_cons_zero, List.set_cons_succ]
      refine wpAnyH_take (i := 5) (v := ?_) rfl (by kernel_rfl) (by kernel_rfl) (by kernel_rfl) (fun _ _ _ h => h) (Or.inl ⟨by rfl, ?_⟩) (by assumption) ?_
      rotate_left
      · intro w' hSw
        try dsimp only at hSw
        go_simp; try rfl
      simp only [List.getElem_toArray, List.getElem_cons_succ, List.getElem_cons_zero, Act.put, List.setIfInBounds_toArray, List.set_cons_zero, List.set_cons_succ]
      refine wpAnyH_ready (rs := [6]) (by kernel_rfl) (by simp) (AllReadyH.cons rfl (fun K hK => ?_) AllReadyH.nil)
      refine step_callW (some 20) (by kernel_rfl) (by kernel_rfl) 20 _ _ rfl #[.agg #[.slice a1 x.k.length c1], .agg #[.int .i64 y.k, .int .i64 y.m, .int .i64 y.p, .slice fa1 y.l.length fc1, .slice fa2 y.s.length fc2]] (by kernel_rfl) (frameS _ x _ y _ _ (HRr.out.at HW.out) (r1.at HW.out) (r2.at HW.out) hg HGy.out.l.1 HGy.out.s.1) ?_
      rintro e Z1 ⟨rfl, b9⟩
      replace HW := hide (HW.out.trans (b9.mono HW.out.size))
      clear b9
      refine ⟨_, rfl, ?_⟩
      refine hK.out _ _ (HCL.out _ HW.out) (fun hHeld => ?_)
      clear hK K
      simp only [Act.put, List.setIfInBounds_toArray, List.set_cons_zero, List.set_cons_succ]
      refine wpAnyH_take (i := 7) (v := ?_) rfl (by kernel_rfl) (by kernel_rfl) (by kernel_rfl) (fun _ _ _ h => h) (Or.inl ⟨by rfl, ?_⟩) (by assumption) ?_
      rotate_left
      · intro w' hSw
        try dsimp only at hSw
        go_simp; try rfl
      simp only [List.getElem_toArray, List.getElem_cons_succ, List.getElem_cons_zero, Act.put, List.setIfInBounds_toArray, List.set_cons_zero, List.set_cons_succ]
      refine wpAnyH_done (by kernel_rfl) ?_ _
      have HX := hide (HBr.out.trans (HW.out.mono HBr.out.size))
      have HX2 := hide (HL.out.trans (HW.out.mono HL.out.size))
      clear r1 r2
      cases c : frB x.k y with
      | false =>
        have HF : Hid (V = false) := hide (HV1.out j hlt (by rw [HY.out]; exact c))
        go_wp2
        go_ret
        exact ⟨by rw [HF.out]; rfl, HX.out⟩
      | true =>
        have HQ2 : Hid (∀ i, i < j + 1 → frB x.k (t.f.getD i default) = true) := hide (fun i hi => by
          rcases Nat.lt_succ_iff_lt_or_eq.1 hi with h | rfl
          · exact HQ.out i h
          · rw [HY.out]; exact c)
        go_wp2
        exact ⟨⟨j + 1, by omega, by go_num, HX2, HQ2⟩, by simp [intOf]; omega⟩
    · obtain rfl : j = t.f.length := by omega
      have EX := hide (HV2.out HQ.out)
      clear HQ hlt hj HV1 HV2
      have q0 := (box_of E1r.out).1 0 _ rfl
      have q1 := (box_of E1r.out).1 1 _ rfl
      have q2 := (box_of E1r.out).1 2 _ rfl
      have q3 := (box_of E1r.out).1 3 _ rfl
      go_wp2_with fail
      refine (inSpec _ _ _ _).mono ?_
      rintro e w1 ⟨rfl, hw1⟩
      rw [hw1]
      clear hw1 w1
      cases c1 : inB t.i 1 1000000 with
      | false =>
        have HF : Hid (V = false) := hide (EX.out.trans (by rw [c1]; rfl))
        clear EX
        go_wp2
        go_ret
        exact ⟨by rw [HF.out]; rfl, HBr.out⟩
      | true =>
        replace EX := EX.out
        rw [c1, Bool.true_and] at EX
        replace EX := hide EX
        by_cases c2 : t.f.length ≤ 8
        · have k2 : (t.f.length : Int) ≤ 8 := by omega
          replace EX := EX.out
          rw [decide_eq_true c2, Bool.true_and] at EX
          replace EX := hide EX
          by_cases c3 : 0 < t.f.length
          · have k3 : 0 < (t.f.length : Int) := by omega
            replace EX := EX.out
            rw [decide_eq_true c3, Bool.true_or, Bool.true_and] at EX
            replace EX := hide EX
            go_wp2_with fail
            refine (inSpec _ _ _ _).mono ?_
            rintro e w1 ⟨rfl, hw1⟩
            rw [hw1]
            clear hw1 w1
            cases c5 : inB t.s 0 5 with
            | false =>
              have HF : Hid (V = false) := hide (EX.out.trans (by rw [c5]; rfl))
              clear EX
              go_wp2
              go_ret
              exact ⟨by rw [HF.out]; rfl, HBr.out⟩
            | true =>
              replace EX := EX.out
              rw [c5, Bool.true_and] at EX
              replace EX := hide EX
              go_wp2_with fail
              refine (inSpec _ _ _ _).mono ?_
              rintro e w1 ⟨rfl, hw1⟩
              rw [hw1]
              clear hw1 w1
              rw [← EX.out]
              clear EX
              go_wp2
              go_ret
              exact ⟨rfl, HBr.out⟩
          · have k3 : ¬ 0 < (t.f.length : Int) := by omega
            by_cases c4 : t.s = 0
            · have k4 : (t.s != 0) = false := by simpa using c4
              have HF : Hid (V = false) := hide (EX.out.trans (by rw [decide_eq_false c3, decide_eq_true c4]; rfl))
              clear c4
              clear EX
              go_wp2
              go_ret
              exact ⟨by rw [HF.out]; rfl, HBr.out⟩
            · have k4 : (t.s != 0) = true := by simpa using c4
              replace EX := EX.out
              rw [decide_eq_false c3, decide_eq_false c4, show (false || !false) = true from rfl, Bool.true_and] at EX
              replace EX := hide EX
              clear c4
              go_wp2_with fail
              refine (inSpec _ _ _ _).mono ?_
              rintro e w1 ⟨rfl, hw1⟩
              rw [hw1]
              clear hw1 w1
              cases c5 : inB t.s 0 5 with
              | false =>
                have HF : Hid (V = false) := hide (EX.out.trans (by rw [c5]; rfl))
                clear EX
                go_wp2
                go_ret
                exact ⟨by rw [HF.out]; rfl, HBr.out⟩
              | true =>
                replace EX := EX.out
                rw [c5, Bool.true_and] at EX
                replace EX := hide EX
                go_wp2_with fail
                refine (inSpec _ _ _ _).mono ?_
                rintro e w1 ⟨rfl, hw1⟩
                rw [hw1]
                clear hw1 w1
                rw [← EX.out]
                clear EX
                go_wp2
                go_ret
                exact ⟨rfl, HBr.out⟩
        · have k2 : ¬ (t.f.length : Int) ≤ 8 := by omega
          have HF : Hid (V = false) := hide (EX.out.trans (by rw [decide_eq_false c2]; rfl))
          clear EX
          go_wp2
          go_ret
          exact ⟨by rw [HF.out]; rfl, HBr.out⟩
end Go.Proofs.Ytgkglebgpbehbaa
