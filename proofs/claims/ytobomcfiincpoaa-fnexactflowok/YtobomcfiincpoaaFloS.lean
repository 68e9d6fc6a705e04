/-
  FlowOk and Meet in the model.
-/
import Derived.Test.YtobomcfiincpoaaFloM
import Derived.Test.YtobomcfiincpoaaTypS
import Derived.Test.YtobomcfiincpoaaStepX
import Derived.Test.YtobomcfiincpoaaDeepF
namespace Go.Proofs.Ytobomcfiincpoaa
open Go.RowKit

set_option maxRecDepth 100000 in
set_option maxHeartbeats 8000000 in
theorem flowOkS (w : World) (x : Pg) (u : Value) (f : Fl) (u1 u2 : Value) (h : Reads w w.heap.size (kins x.k) u) (h1 : Reads w w.heap.size (tys f.lo) u1) (h2 : Reads w w.heap.size (tys f.st) u2) (hm : x.k.length ≤ 1048576) (hf : FlG f) :
    Calls Try.prog 7 #[pgV x u, flV f u1 u2] w fun e w' => e = .returned (.bool (flB x.k f)) ∧ Below w.heap.size w w' := by
  have HR := hide h
  have H1 := hide h1
  have H2 := hide h2
  have hl1 := hf.lo.1
  have hl2 := hf.st.1
  obtain ⟨a1, c1, e1, _⟩ := h.shape
  obtain ⟨a2, c2, e2, _⟩ := h1.shape
  obtain ⟨a3, c3, e3, _⟩ := h2.shape
  subst e1 e2 e3
  clear h h1 h2 hf
  have HV1 : Hid (f.lo.all (tyB x.k) = false → flB x.k f = false) := hide (fun h => by unfold flB; rw [h]; rfl)
  have HV2 : Hid (f.st.all (tyB x.k) = false → flB x.k f = false) := hide (fun h => by unfold flB; rw [h]; simp)
  have HV3 : Hid (f.lo.all (tyB x.k) = true → f.st.all (tyB x.k) = true → flB x.k f = (decide (f.lo.length ≤ 6) && (decide (f.st.length ≤ 6) && inB f.h 0 4))) := hide (fun h h' => by unfold flB; rw [h, h']; rfl)
  generalize flB x.k f = V at *
  have bA := (((Below.refl w.heap.size w).alloc (Nat.le_refl _) (.cells #[.slice a1 x.k.length c1] 33)).alloc (by simp) (.cells #[.slice a2 f.lo.length c2, .slice a3 f.st.length c3, .int .i64 f.h] 37))
  have G0 := heap_alloc_new w (.cells #[.slice a1 x.k.length c1] 33)
  have G1 := heap_alloc_new (w.alloc (.cells #[.slice a1 x.k.length c1] 33)) (.cells #[.slice a2 f.lo.length c2, .slice a3 f.st.length c3, .int .i64 f.h] 37)
  simp only [World.size_alloc] at G1
  have E0 := hide ((Below.heap_alloc _ (.cells #[.slice a2 f.lo.length c2, .slice a3 f.st.length c3, .int .i64 f.h] 37) _ (by simp)).trans (G0))
  have E1 := hide (G1)
  have HB := hide bA
  replace HR := hide (HR.out.at bA)
  replace H1 := hide (H1.out.at bA)
  replace H2 := hide (H2.out.at bA)
  clear bA G0 G1
  unfold pgV flV
  go_enter Try.func7, Try.ntmps7
  go_wp2
  generalize ((w.alloc (.cells #[.slice a1 x.k.length c1] 33)).alloc (.cells #[.slice a2 f.lo.length c2, .slice a3 f.st.length c3, .int .i64 f.h] 37)) = W at *
  go_loopw [5] (fun i wr => ∃ j : Nat, j ≤ f.lo.length ∧ i = .int .i64 (j : Int) ∧ Hid (Below W.heap.size W wr) ∧ Hid (∀ i, i < j → tyB x.k (f.lo.getD i default) = true)) (fun i _ => f.lo.length - (intOf i).toNat)
  case atStart => exact ⟨0, Nat.zero_le _, rfl, hide (Below.refl _ _), hide (fun i hi => by omega)⟩
  case round =>
    obtain ⟨j, hj, rfl, HL, HQ⟩ := hrel
    have E0r := hide ((HL.out.block _ (Array.getElem?_eq_some_iff.1 E0.out).1).trans E0.out)
    have E1r := hide ((HL.out.block _ (Array.getElem?_eq_some_iff.1 E1.out).1).trans E1.out)
    have HRr := hide (HR.out.at HL.out)
    have HBr := hide (HB.out.trans (HL.out.mono HB.out.size))
    by_cases hlt : j < f.lo.length
    · obtain ⟨a', cap', ea, hcap, _, hc⟩ := type_at (H1.out.at HL.out)
      cases ea
      obtain ⟨b, o, rfl, hbb, hcell⟩ := hc (by omega)
      obtain ⟨d0, d1⟩ := hcell j hlt
      clear hcell hc
      obtain ⟨y, hy⟩ : ∃ y, f.lo.getD j default = y := ⟨_, rfl⟩
      rw [hy] at d0 d1
      have HY := hide hy
      clear hy
      have q0 := (box_of E1r.out).1 0 _ rfl
      go_upto_region 4 with fail
      clear q0
      have HCL : Hid (∀ w', Below wr.heap.size wr w' → w'.cell? ⟨w.heap.size, 0, none⟩ = some (.slice a1 x.k.length c1) ∧ w'.cell? ⟨w.heap.size + 1, 0, none⟩ = some (.slice (some ⟨b, o, none⟩) f.lo.length c2) ∧ w'.cell? ⟨b, o + j * 2, none⟩ = some (.int .i64 y.k) ∧ w'.cell? ⟨b, o + j * 2 + 1, none⟩ = some (.int .i64 y.c)) := hide (fun w' hb => ⟨(box_of ((hb.block _ (Array.getElem?_eq_some_iff.1 E0r.out).1).trans E0r.out)).1 0 _ rfl, (box_of ((hb.block _ (Array.getElem?_eq_some_iff.1 E1r.out).1).trans E1r.out)).1 0 _ rfl, (hb.cell (p := ⟨b, o + j * 2, none⟩) hbb).trans d0, (hb.cell (p := ⟨b, o + j * 2 + 1, none⟩) hbb).trans d1⟩)
      have HD := hide (Below.refl wr.heap.size wr).drew
      refine wp_region_held_drew (S := fun w' => w'.cell? ⟨w.heap.size, 0, none⟩ = some (.slice a1 x.k.length c1) ∧ w'.cell? ⟨w.heap.size + 1, 0, none⟩ = some (.slice (some ⟨b, o, none⟩) f.lo.length c2) ∧ w'.cell? ⟨b, o + j * 2, none⟩ = some (.int .i64 y.k) ∧ w'.cell? ⟨b, o + j * 2 + 1, none⟩ = some (.int .i64 y.c)) (by kernel_rfl) (HCL.out _ HD.out) (fun hHeld => ?_)
      have HW := HD
      clear HD d0 d1
      generalize wr.drew = Z0 at *
      refine wpAnyH_take (i := 0) (v := ?_) rfl (by kernel_rfl) (by kernel_rfl) (by kernel_rfl) (fun _ _ _ h => h) (Or.inl ⟨by rfl, ?_⟩) (by assumption) ?_
      rotate_left
      · intro w' hSw
        try dsimp only at hSw
        go_simp; try rfl
      simp only [List.getElem_toArray, List.getElem_cons_zero, Act.put, List.setIfInBounds_toArray, List.set_cons_zero, List.set_cons_succ]
      refine wpAnyH_take (i := 1) (v := ?_) rfl (by kernel_rfl) (by kernel_rfl) (by kernel_rfl) (fun _ _ _ h => h) (Or.inl ⟨by rfl, ?_⟩) (by assumption) ?_
      rotate_left
      · intro w' hSw
        try dsimp only at hSw
        go_simp; try rfl
      simp only [List.getElem_toArray, List.getElem_cons_succ, List.getElem_cons_zero, Act.put, List.setIfInBounds_toArray, List.set_cons_zero, List.set_cons_succ]
      refine wpAnyH_take (i := 2) (v := ?_) rfl (by kernel_rfl) (by kernel_rfl) (by kernel_rfl) (fun _ _ _ h => h) (Or.inl ⟨by rfl, ?_⟩) (by assumption) ?_
      rotate_left
      · intro w' hSw
        try dsimp only at hSw
        go_simp; try rfl
      simp only [List.getElem_toArray, List.getElem_cons_succ, List.getElem_cons_zero, Act.put, List.setIfInBounds_toArray, List.set_cons_zero, List.set_cons_succ]
      refine wpAnyH_take (i := 3) (v := ?_) rfl (by kernel_rfl) (by kernel_rfl) (by kernel_rfl) (fun _ _ _ h => h) (Or.inl ⟨by rfl, ?_⟩) (by assumption) ?_
      rotate_left
      · intro w' hSw
        try dsimp only at hSw
        go_simp; try rfl
      simp only [List.getElem_toArray, List.getElem_cons_succ, List.getElem_cons_zero, Act.put, List.setIfInBounds_toArray, List.set_cons_zero, List.set_cons_succ]
      refine wpAnyH_take (i := 4) (v := ?_) rfl (by kernel_rfl) (by kernel_rfl) (by kernel_rfl) (fun _ _ _ h => h) (Or.inl ⟨by rfl, ?_⟩) (by assumption) ?_
      rotate_left
      · intro w' hSw
        try dsimp only at hSw
        go_simp; try rfl
      simp only [List.getElem_toArray, List.getElem_cons_succ, List.getElem_cons_zero, Act.put, List.setIfInBounds_toArray, List.set_cons_zero, List.set_cons_succ]
      refine wpAnyH_take (i := 5) (v := ?_) rfl (by kernel_rfl) (by kernel_rfl) (by kernel_rfl) (fun _ _ _ h => h) (Or.inl ⟨by rfl, ?_⟩) (by assumption) ?_
      rotate_left
      · intro w' hSw
        try dsimp only at hSw
        go_simp; try rfl
      simp only [List.getElem_toArray, List.getElem_cons_succ, List.getElem_cons_zero, Act.put, List.setIfInBounds_toArray, List.set_cons_zero, List.set_cons_succ]
      refine wpAnyH_ready (rs := [6]) (by kernel_rfl) (by simp) (AllReadyH.cons rfl (fun K hK => ?_) AllReadyH.nil)
      refine step_callW (some 20) (by kernel_rfl) (by kernel_rfl) 20 _ _ rfl #[.agg #[.slice a1 x.k.length c1], .agg #[.int .i64 y.k, .int .i64 y.c]] (by kernel_rfl) (typeOkS _ x _ y (HRr.out.at HW.out) hm) ?_
      rintro e Z1 ⟨rfl, b9⟩
      replace HW := hide (HW.out.trans (b9.mono HW.out.size))
      clear b9
      refine ⟨_, rfl, ?_⟩
      refine hK.out _ _ (HCL.out _ HW.out) (fun hHeld => ?_)
      clear hK K
      simp only [Act.put, List.setIfInBounds_toArray, List.set_cons_zero, List.set_cons_succ]
      refine wpAnyH_take (i := 7) (v := ?_) rfl (by kernel_rfl) (by kernel_rfl) (by kernel_rfl) (fun _ _ _ h => h) (Or.inl ⟨by rfl, ?_⟩) (by assumption) ?_
      rotate_left
      · intro w' hSw
        try dsimp only at hSw
        go_simp; try rfl
      simp only [List.getElem_toArray, List.getElem_cons_succ, List.getElem_cons_zero, Act.put, List.setIfInBounds_toArray, List.set_cons_zero, List.set_cons_succ]
      refine wpAnyH_done (by kernel_rfl) ?_ _
      have HX := hide (HBr.out.trans (HW.out.mono HBr.out.size))
      have HX2 := hide (HL.out.trans (HW.out.mono HL.out.size))
      cases c : tyB x.k y with
      | false =>
        have HF : Hid (V = false) := hide (HV1.out (all_hit hlt (by rw [HY.out]; exact c)))
        go_wp2
        go_ret
        exact ⟨by rw [HF.out]; rfl, HX.out⟩
      | true =>
        have HQ2 : Hid (∀ i, i < j + 1 → tyB x.k (f.lo.getD i default) = true) := hide (fun i hi => by
          rcases Nat.lt_succ_iff_lt_or_eq.1 hi with h | rfl
          · exact HQ.out i h
          · rw [HY.out]; exact c)
        go_wp2
        exact ⟨⟨j + 1, by omega, by go_num, HX2, HQ2⟩, by simp [intOf]; omega⟩
    · obtain rfl : j = f.lo.length := by omega
      have HA0 := hide (all_yes HQ.out)
      clear HQ hlt hj
      have q0 := (box_of E1r.out).1 0 _ rfl
      go_wp2
      clear q0
      replace E0 := E0r
      replace E1 := E1r
      replace HR := HRr
      replace HB := HBr
      replace H2 := hide (H2.out.at HL.out)
      clear E0r E1r HRr HBr HL
      generalize wr = W at *
      go_loopw [6] (fun i wr => ∃ j : Nat, j ≤ f.st.length ∧ i = .int .i64 (j : Int) ∧ Hid (Below W.heap.size W wr) ∧ Hid (∀ i, i < j → tyB x.k (f.st.getD i default) = true)) (fun i _ => f.st.length - (intOf i).toNat)
      case atStart => exact ⟨0, Nat.zero_le _, rfl, hide (Below.refl _ _), hide (fun i hi => by omega)⟩
      case round =>
        obtain ⟨j, hj, rfl, HL, HQ⟩ := hrel
        have E0r := hide ((HL.out.block _ (Array.getElem?_eq_some_iff.1 E0.out).1).trans E0.out)
        have E1r := hide ((HL.out.block _ (Array.getElem?_eq_some_iff.1 E1.out).1).trans E1.out)
        have HRr := hide (HR.out.at HL.out)
        have HBr := hide (HB.out.trans (HL.out.mono HB.out.size))
        by_cases hlt : j < f.st.length
        · obtain ⟨a', cap', ea, hcap, _, hc⟩ := type_at (H2.out.at HL.out)
          cases ea
          obtain ⟨b, o, rfl, hbb, hcell⟩ := hc (by omega)
          obtain ⟨d0, d1⟩ := hcell j hlt
          clear hcell hc
          obtain ⟨y, hy⟩ : ∃ y, f.st.getD j default = y := ⟨_, rfl⟩
          rw [hy] at d0 d1
          have HY := hide hy
          clear hy
          have q1 := (box_of E1r.out).1 1 _ rfl
          go_upto_region 9 with fail
          clear q1
          have HCL : Hid (∀ w', Below wr.heap.size wr w' → w'.cell? ⟨w.heap.size, 0, none⟩ = some (.slice a1 x.k.length c1) ∧ w'.cell? ⟨w.heap.size + 1, 1, none⟩ = some (.slice (some ⟨b, o, none⟩) f.st.length c3) ∧ w'.cell? ⟨b, o + j * 2, none⟩ = some (.int .i64 y.k) ∧ w'.cell? ⟨b, o + j * 2 + 1, none⟩ = some (.int .i64 y.c)) := hide (fun w' hb => ⟨(box_of ((hb.block _ (Array.getElem?_eq_some_iff.1 E0r.out).1).trans E0r.out)).1 0 _ rfl, (box_of ((hb.block _ (Array.getElem?_eq_some_iff.1 E1r.out).1).trans E1r.out)).1 1 _ rfl, (hb.cell (p := ⟨b, o + j * 2, none⟩) hbb).trans d0, (hb.cell (p := ⟨b, o + j * 2 + 1, none⟩) hbb).trans d1⟩)
          have HD := hide (Below.refl wr.heap.size wr).drew
          refine wp_region_held_drew (S := fun w' => w'.cell? ⟨w.heap.size, 0, none⟩ = some (.slice a1 x.k.length c1) ∧ w'.cell? ⟨w.heap.size + 1, 1, none⟩ = some (.slice (some ⟨b, o, none⟩) f.st.length c3) ∧ w'.cell? ⟨b, o + j * 2, none⟩ = some (.int .i64 y.k) ∧ w'.cell? ⟨b, o + j * 2 + 1, none⟩ = some (.int .i64 y.c)) (by kernel_rfl) (HCL.out _ HD.out) (fun hHeld => ?_)
          have HW := HD
          clear HD d0 d1
          generalize wr.drew = Z0 at *
          refine wpAnyH_take (i := 0) (v := ?_) rfl (by kernel_rfl) (by kernel_rfl) (by kernel_rfl) (fun _ _ _ h => h) (Or.inl ⟨by rfl, ?_⟩) (by assumption) ?_
          rotate_left
          · intro w' hSw
            try dsimp only at hSw
            go_simp; try rfl
          simp only [List.getElem_toArray, List.getElem_cons_zero, Act.put, List.setIfInBounds_toArray, List.set_cons_zero, List.set_cons_succ]
          refine wpAnyH_take (i := 1) (v := ?_) rfl (by kernel_rfl) (by kernel_rfl) (by kernel_rfl) (fun _ _ _ h => h) (Or.inl ⟨by rfl, ?_⟩) (by assumption) ?_
          rotate_left
          · intro w' hSw
            try dsimp only at hSw
            go_simp; try rfl
          simp only [List.getElem_toArray, List.getElem_cons_succ, List.getElem_cons_zero, Act.put, List.setIfInBounds_toArray, List.set_cons_zero, List.set_cons_succ]
          refine wpAnyH_take (i := 2) (v := ?_) rfl (by kernel_rfl) (by kernel_rfl) (by kernel_rfl) (fun _ _ _ h => h) (Or.inl ⟨by rfl, ?_⟩) (by assumption) ?_
          rotate_left
          · intro w' hSw
            try dsimp only at hSw
            go_simp; try rfl
          simp only [List.getElem_toArray, List.getElem_cons_succ, List.getElem_cons_zero, Act.put, List.setIfInBounds_toArray, List.set_cons_zero, List.set_cons_succ]
          refine wpAnyH_take (i := 3) (v := ?_) rfl (by kernel_rfl) (by kernel_rfl) (by kernel_rfl) (fun _ _ _ h => h) (Or.inl ⟨by rfl, ?_⟩) (by assumption) ?_
          rotate_left
          · intro w' hSw
            try dsimp only at hSw
            go_simp; try rfl
          simp only [List.getElem_toArray, List.getElem_cons_succ, List.getElem_cons_zero, Act.put, List.setIfInBounds_toArray, List.set_cons_zero, List.set_cons_succ]
          refine wpAnyH_take (i := 4) (v := ?_) rfl (by kernel_rfl) (by kernel_rfl) (by kernel_rfl) (fun _ _ _ h => h) (Or.inl ⟨by rfl, ?_⟩) (by assumption) ?_
          rotate_left
          · intro w' hSw
            try dsimp only at hSw
            go_simp; try rfl
          simp only [List.getElem_toArray, List.getElem_cons_succ, List.getElem_cons_zero, Act.put, List.setIfInBounds_toArray, List.set_cons_zero, List.set_cons_succ]
          refine wpAnyH_take (i := 5) (v := ?_) rfl (by kernel_rfl) (by kernel_rfl) (by kernel_rfl) (fun _ _ _ h => h) (Or.inl ⟨by rfl, ?_⟩) (by assumption) ?_
          rotate_left
          · intro w' hSw
            try dsimp only at hSw
            go_simp; try rfl
          simp only [List.getElem_toArray, List.getElem_cons_succ, List.getElem_cons_zero, Act.put, List.setIfInBounds_toArray, List.set_cons_zero, List.set_cons_succ]
          refine wpAnyH_ready (rs := [6]) (by kernel_rfl) (by simp) (AllReadyH.cons rfl (fun K hK => ?_) AllReadyH.nil)
          refine step_callW (some 35) (by kernel_rfl) (by kernel_rfl) 20 _ _ rfl #[.agg #[.slice a1 x.k.length c1], .agg #[.int .i64 y.k, .int .i64 y.c]] (by kernel_rfl) (typeOkS _ x _ y (HRr.out.at HW.out) hm) ?_
          rintro e Z1 ⟨rfl, b9⟩
          replace HW := hide (HW.out.trans (b9.mono HW.out.size))
          clear b9
          refine ⟨_, rfl, ?_⟩
          refine hK.out _ _ (HCL.out _ HW.out) (fun hHeld => ?_)
          clear hK K
          simp only [Act.put, List.setIfInBounds_toArray, List.set_cons_zero, List.set_cons_succ]
          refine wpAnyH_take (i := 7) (v := ?_) rfl (by kernel_rfl) (by kernel_rfl) (by kernel_rfl) (fun _ _ _ h => h) (Or.inl ⟨by rfl, ?_⟩) (by assumption) ?_
          rotate_left
          · intro w' hSw
            try dsimp only at hSw
            go_simp; try rfl
          simp only [List.getElem_toArray, List.getElem_cons_succ, List.getElem_cons_zero, Act.put, List.setIfInBounds_toArray, List.set_cons_zero, List.set_cons_succ]
          refine wpAnyH_done (by kernel_rfl) ?_ _
          have HX := hide (HBr.out.trans (HW.out.mono HBr.out.size))
          have HX2 := hide (HL.out.trans (HW.out.mono HL.out.size))
          cases c : tyB x.k y with
          | false =>
            have HF : Hid (V = false) := hide (HV2.out (all_hit hlt (by rw [HY.out]; exact c)))
            go_wp2
            go_ret
            exact ⟨by rw [HF.out]; rfl, HX.out⟩
          | true =>
            have HQ2 : Hid (∀ i, i < j + 1 → tyB x.k (f.st.getD i default) = true) := hide (fun i hi => by
              rcases Nat.lt_succ_iff_lt_or_eq.1 hi with h | rfl
              · exact HQ.out i h
              · rw [HY.out]; exact c)
            go_wp2
            exact ⟨⟨j + 1, by omega, by go_num, HX2, HQ2⟩, by simp [intOf]; omega⟩
        · obtain rfl : j = f.st.length := by omega
          have HA1 := hide (all_yes HQ.out)
          clear HQ hlt hj
          have q1 := (box_of E1r.out).1 1 _ rfl
          have q1 := (box_of E1r.out).1 1 _ rfl
          have q0 := (box_of E1r.out).1 0 _ rfl
          have q2 := (box_of E1r.out).1 2 _ rfl
          have HF := hide (HV3.out HA0.out HA1.out)
          clear HV1 HV2 HV3
          by_cases g1 : f.lo.length ≤ 6
          · by_cases g2 : f.st.length ≤ 6
            · have HF2 : Hid (V = inB f.h 0 4) := hide (by rw [HF.out, decide_eq_true g1, decide_eq_true g2]; rfl)
              have g1' : ((f.lo.length : Int) ≤ 6) := by omega
              have g2' : ((f.st.length : Int) ≤ 6) := by omega
              go_wp2_with fail
              refine (inSpec _ _ _ _).mono ?_
              rintro e w1 ⟨rfl, hw1⟩
              rw [hw1]
              clear hw1 w1
              go_wp2
              go_ret
              exact ⟨by rw [HF2.out]; rfl, HBr.out⟩
            · have HF2 : Hid (V = false) := hide (by rw [HF.out, decide_eq_true g1, decide_eq_false g2]; rfl)
              have g1' : ((f.lo.length : Int) ≤ 6) := by omega
              have g2' : ¬ ((f.st.length : Int) ≤ 6) := by omega
              go_wp2
              go_ret
              exact ⟨by rw [HF2.out]; rfl, HBr.out⟩
          · have HF2 : Hid (V = false) := hide (by rw [HF.out, decide_eq_false g1]; rfl)
            have g1' : ¬ ((f.lo.length : Int) ≤ 6) := by omega
            go_wp2
            go_ret
            exact ⟨by rw [HF2.out]; rfl, HBr.out⟩
end Go.Proofs.Ytobomcfiincpoaa
