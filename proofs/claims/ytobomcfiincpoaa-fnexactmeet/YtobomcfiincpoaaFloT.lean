/-
  Meet in the model.
-/
import Derived.Test.YtobomcfiincpoaaFloM
import Derived.Test.YtobomcfiincpoaaTypS
import Derived.Test.YtobomcfiincpoaaBldV
namespace Go.Proofs.Ytobomcfiincpoaa
open Go.RowKit

set_option maxRecDepth 100000 in
set_option maxHeartbeats 8000000 in
theorem meetS (w : World) (x : Pg) (u : Value) (a b : Fl) (ua1 ua2 ub1 ub2 : Value) (h : Reads w w.heap.size (kins x.k) u) (ha1 : Reads w w.heap.size (tys a.lo) ua1) (ha2 : Reads w w.heap.size (tys a.st) ua2) (hb1 : Reads w w.heap.size (tys b.lo) ub1) (hb2 : Reads w w.heap.size (tys b.st) ub2) (hg : kinsG x.k) (hga : FlG a) (hgb : FlG b) :
    Calls Try.prog 13 #[pgV x u, flV a ua1 ua2, flV b ub1 ub2] w fun e w' => flP w w' (meetF x.k a b) (.int .i64 (meetC a b)) e := by
  have HR := hide h
  have A1 := hide ha1
  have A2 := hide ha2
  have B1 := hide hb1
  have B2 := hide hb2
  have HG := hide hg
  have hl1 := hga.lo.1
  have hl2 := hga.st.1
  have hl3 := hgb.lo.1
  have hl4 := hgb.st.1
  obtain ⟨a1, c1, e1, _⟩ := h.shape
  obtain ⟨a2, c2, e2, _⟩ := ha1.shape
  obtain ⟨a3, c3, e3, _⟩ := ha2.shape
  obtain ⟨a4, c4, e4, _⟩ := hb1.shape
  obtain ⟨a5, c5, e5, _⟩ := hb2.shape
  subst e1 e2 e3 e4 e5
  clear h ha1 ha2 hb1 hb2 hg hga hgb
  have HV1 : Hid (¬ (a.lo.length = b.lo.length ∧ a.st.length = b.st.length) → meetF x.k a b = ⟨[], [], 0⟩ ∧ meetC a b = 1) := hide (fun h => by unfold meetF meetC; rw [if_neg (fun g => h ⟨g.1, g.2.1⟩), if_neg h]; exact ⟨rfl, rfl⟩)
  have HV2 : Hid (a.lo.length = b.lo.length → a.st.length = b.st.length → ¬ a.h = b.h → meetF x.k a b = ⟨[], [], 0⟩ ∧ meetC a b = 4) := hide (fun h1 h2 h => by unfold meetF meetC; rw [if_neg (fun g => h g.2.2), if_pos ⟨h1, h2⟩, if_neg h]; exact ⟨rfl, rfl⟩)
  have HV3 : Hid (a.lo.length = b.lo.length → a.st.length = b.st.length → a.h = b.h → meetF x.k a b = ⟨joinE x.k a.lo b.lo, joinE x.k a.st b.st, a.h⟩ ∧ meetC a b = 0) := hide (fun h1 h2 h => by unfold meetF meetC; rw [if_pos ⟨h1, h2, h⟩, if_pos ⟨h1, h2⟩, if_pos h]; exact ⟨rfl, rfl⟩)
  generalize meetF x.k a b = V at *
  generalize meetC a b = C at *
  have bA := (((((Below.refl w.heap.size w).alloc (Nat.le_refl _) (.cells #[.slice a1 x.k.length c1] 33)).alloc (by simp) (.cells #[.slice a2 a.lo.length c2, .slice a3 a.st.length c3, .int .i64 a.h] 37)).alloc (by simp <;> omega) (.cells #[.slice a4 b.lo.length c4, .slice a5 b.st.length c5, .int .i64 b.h] 37)).alloc (by simp <;> omega) (.cells #[.slice none 0 0, .slice none 0 0, .int .i64 0] 37))
  have G0 := heap_alloc_new w (.cells #[.slice a1 x.k.length c1] 33)
  have G1 := heap_alloc_new (w.alloc (.cells #[.slice a1 x.k.length c1] 33)) (.cells #[.slice a2 a.lo.length c2, .slice a3 a.st.length c3, .int .i64 a.h] 37)
  have G2 := heap_alloc_new ((w.alloc (.cells #[.slice a1 x.k.length c1] 33)).alloc (.cells #[.slice a2 a.lo.length c2, .slice a3 a.st.length c3, .int .i64 a.h] 37)) (.cells #[.slice a4 b.lo.length c4, .slice a5 b.st.length c5, .int .i64 b.h] 37)
  have G3 := heap_alloc_new (((w.alloc (.cells #[.slice a1 x.k.length c1] 33)).alloc (.cells #[.slice a2 a.lo.length c2, .slice a3 a.st.length c3, .int .i64 a.h] 37)).alloc (.cells #[.slice a4 b.lo.length c4, .slice a5 b.st.length c5, .int .i64 b.h] 37)) (.cells #[.slice none 0 0, .slice none 0 0, .int .i64 0] 37)
  simp only [World.size_alloc] at G1 G2 G3
  have E0 := hide ((Below.heap_alloc _ (.cells #[.slice none 0 0, .slice none 0 0, .int .i64 0] 37) _ (by simp <;> omega)).trans ((Below.heap_alloc _ (.cells #[.slice a4 b.lo.length c4, .slice a5 b.st.length c5, .int .i64 b.h] 37) _ (by simp <;> omega)).trans ((Below.heap_alloc _ (.cells #[.slice a2 a.lo.length c2, .slice a3 a.st.length c3, .int .i64 a.h] 37) _ (by simp)).trans (G0))))
  have E1 := hide ((Below.heap_alloc _ (.cells #[.slice none 0 0, .slice none 0 0, .int .i64 0] 37) _ (by simp <;> omega)).trans ((Below.heap_alloc _ (.cells #[.slice a4 b.lo.length c4, .slice a5 b.st.length c5, .int .i64 b.h] 37) _ (by simp)).trans (G1)))
  have E2 := hide ((Below.heap_alloc _ (.cells #[.slice none 0 0, .slice none 0 0, .int .i64 0] 37) _ (by simp)).trans (G2))
  have E3 := hide (G3)
  have HB := hide bA
  replace HR := hide (HR.out.at bA)
  replace A1 := hide (A1.out.at bA)
  replace A2 := hide (A2.out.at bA)
  replace B1 := hide (B1.out.at bA)
  replace B2 := hide (B2.out.at bA)
  clear bA G0 G1 G2 G3
  unfold pgV flV
  have q0 := (box_of E1.out).1 0 _ rfl
  have q1 := (box_of E1.out).1 1 _ rfl
  have q2 := (box_of E1.out).1 2 _ rfl
  have r0 := (box_of E2.out).1 0 _ rfl
  have r1 := (box_of E2.out).1 1 _ rfl
  have r2 := (box_of E2.out).1 2 _ rfl
  have s0 := (box_of E3.out).1 0 _ rfl
  have s1 := (box_of E3.out).1 1 _ rfl
  have s2 := (box_of E3.out).1 2 _ rfl
  have sz := (box_of E3.out).2
  by_cases k1 : a.lo.length = b.lo.length
  · have HE0 := hide k1
    have k1' : ((a.lo.length : Int) != (b.lo.length : Int)) = false := by simp [k1]
    clear k1
    by_cases k2 : a.st.length = b.st.length
    · have HE1 := hide k2
      have k2' : ((a.st.length : Int) != (b.st.length : Int)) = false := by simp [k2]
      clear k2
      by_cases k3 : a.h = b.h
      · have HEh := hide k3
        have k3' : (a.h != b.h) = false := by simp [k3]
        clear k3
        obtain ⟨i0, hi, hz0, hz1, hz2⟩ := info_parts Try.infoTy
        have HI := hide (And.intro hi (And.intro hz0 (And.intro hz1 hz2)))
        clear hi hz0 hz1 hz2
        go_enter Try.func13, Try.ntmps13
        go_wp2
        clear q0 q1 q2 r0 r1 r2 s0 s1 s2 sz k1' k2' k3'
        have hWs : ((((w.alloc (.cells #[.slice a1 x.k.length c1] 33)).alloc (.cells #[.slice a2 a.lo.length c2, .slice a3 a.st.length c3, .int .i64 a.h] 37)).alloc (.cells #[.slice a4 b.lo.length c4, .slice a5 b.st.length c5, .int .i64 b.h] 37)).alloc (.cells #[.slice none 0 0, .slice none 0 0, .int .i64 0] 37)).heap.size = w.heap.size + 1 + 1 + 1 + 1 := by simp
        have HWs := hide hWs
        have HV9 := hide (Bv.new ((((w.alloc (.cells #[.slice a1 x.k.length c1] 33)).alloc (.cells #[.slice a2 a.lo.length c2, .slice a3 a.st.length c3, .int .i64 a.h] 37)).alloc (.cells #[.slice a4 b.lo.length c4, .slice a5 b.st.length c5, .int .i64 b.h] 37)).alloc (.cells #[.slice none 0 0, .slice none 0 0, .int .i64 0] 37)) 37 (ds := [.row 51 2 0 [], .row 51 2 0 [], .val (.int .i64 a.h)]) (vs := [.slice none 0 0, .slice none 0 0, .int .i64 a.h]) (OwnDL.cons (m := ((((w.alloc (.cells #[.slice a1 x.k.length c1] 33)).alloc (.cells #[.slice a2 a.lo.length c2, .slice a3 a.st.length c3, .int .i64 a.h] 37)).alloc (.cells #[.slice a4 b.lo.length c4, .slice a5 b.st.length c5, .int .i64 b.h] 37)).alloc (.cells #[.slice none 0 0, .slice none 0 0, .int .i64 0] 37)).heap.size + 1) (ownD_nil _ _ _ _ _) (OwnDL.cons (m := ((((w.alloc (.cells #[.slice a1 x.k.length c1] 33)).alloc (.cells #[.slice a2 a.lo.length c2, .slice a3 a.st.length c3, .int .i64 a.h] 37)).alloc (.cells #[.slice a4 b.lo.length c4, .slice a5 b.st.length c5, .int .i64 b.h] 37)).alloc (.cells #[.slice none 0 0, .slice none 0 0, .int .i64 0] 37)).heap.size + 1) (ownD_nil _ _ _ _ _) (OwnDL.val (ownDL_nil _ _ _)) (Nat.le_refl _) (by simp)) (Nat.le_refl _) (by simp)))
        rw [hWs] at HV9
        clear hWs
        generalize ((((w.alloc (.cells #[.slice a1 x.k.length c1] 33)).alloc (.cells #[.slice a2 a.lo.length c2, .slice a3 a.st.length c3, .int .i64 a.h] 37)).alloc (.cells #[.slice a4 b.lo.length c4, .slice a5 b.st.length c5, .int .i64 b.h] 37)).alloc (.cells #[.slice none 0 0, .slice none 0 0, .int .i64 0] 37)) = W at *
        go_loopw [9] (fun i wr => ∃ (xs : List Ty) (pa : Option Addr) (pc : Nat), xs.length ≤ a.lo.length ∧ i = .int .i64 (xs.length : Int) ∧ Hid (Bv W wr (w.heap.size + 1 + 1 + 1 + 1) 37 [.row 51 2 xs.length (xs.flatMap tyD), .row 51 2 0 [], .val (.int .i64 a.h)] [.slice pa xs.length pc, .slice none 0 0, .int .i64 a.h]) ∧ Hid (xs = joinE x.k (a.lo.take xs.length) (b.lo.take xs.length))) (fun i _ => a.lo.length - (intOf i).toNat)
        case atStart => exact ⟨[], none, 0, Nat.zero_le _, rfl, HV9, hide (by simp [joinE])⟩
        case round =>
          clear HV9
          obtain ⟨xs, pa, pc, hj, rfl, HV9, HQ⟩ := hrel
          have HL : Hid (Below W.heap.size W wr) := hide (by rw [HWs.out]; exact HV9.out.bel)
          have E0r := hide ((HL.out.block _ (Array.getElem?_eq_some_iff.1 E0.out).1).trans E0.out)
          have E1r := hide ((HL.out.block _ (Array.getElem?_eq_some_iff.1 E1.out).1).trans E1.out)
          have E2r := hide ((HL.out.block _ (Array.getElem?_eq_some_iff.1 E2.out).1).trans E2.out)
          have q1 := (box_of E1r.out).1 0 _ rfl
          by_cases hlt : xs.length < a.lo.length
          · obtain ⟨a', cap', ea, hcap, _, hc⟩ := type_at A1.out
            cases ea
            obtain ⟨b1, o1, rfl, hbb1, hcell⟩ := hc (by omega)
            obtain ⟨d0, d1⟩ := hcell xs.length hlt
            clear hcell hc
            have hltb : xs.length < b.lo.length := by have := HE0.out; omega
            obtain ⟨a', cap', ea, hcap', _, hc⟩ := type_at B1.out
            cases ea
            obtain ⟨b2, o2, rfl, hbb2, hcell⟩ := hc (by omega)
            obtain ⟨d2, d3⟩ := hcell xs.length hltb
            clear hcell hc
            have HJ := hide (joinE_step x.k a.lo b.lo xs.length hlt hltb)
            obtain ⟨ya, hy⟩ : ∃ y, a.lo.getD xs.length default = y := ⟨_, rfl⟩
            obtain ⟨yb, hy'⟩ : ∃ y, b.lo.getD xs.length default = y := ⟨_, rfl⟩
            rw [hy] at d0 d1 HJ
            rw [hy'] at d2 d3 HJ
            clear hy hy'
            have hltI : (xs.length : Int) < (b.lo.length : Int) := by omega
            go_upto_region 9 with fail
            clear q1
            have HCL : Hid (∀ w', Below (w.heap.size + 1 + 1 + 1 + 1) W w' → w'.cell? ⟨w.heap.size, 0, none⟩ = some (.slice a1 x.k.length c1) ∧ w'.cell? ⟨w.heap.size + 1, 0, none⟩ = some (.slice (some ⟨b1, o1, none⟩) a.lo.length c2) ∧ w'.cell? ⟨w.heap.size + 1 + 1, 0, none⟩ = some (.slice (some ⟨b2, o2, none⟩) b.lo.length c4) ∧ w'.cell? ⟨b1, o1 + xs.length * 2, none⟩ = some (.int .i64 ya.k) ∧ w'.cell? ⟨b1, o1 + xs.length * 2 + 1, none⟩ = some (.int .i64 ya.c) ∧ w'.cell? ⟨b2, o2 + xs.length * 2, none⟩ = some (.int .i64 yb.k) ∧ w'.cell? ⟨b2, o2 + xs.length * 2 + 1, none⟩ = some (.int .i64 yb.c)) := hide (fun w' hb0 => have hb : Below W.heap.size W w' := (by rw [HWs.out]; exact hb0); ⟨(box_of ((hb.block _ (Array.getElem?_eq_some_iff.1 E0.out).1).trans E0.out)).1 0 _ rfl, (box_of ((hb.block _ (Array.getElem?_eq_some_iff.1 E1.out).1).trans E1.out)).1 0 _ rfl, (box_of ((hb.block _ (Array.getElem?_eq_some_iff.1 E2.out).1).trans E2.out)).1 0 _ rfl, (hb.cell (p := ⟨b1, o1 + xs.length * 2, none⟩) hbb1).trans d0, (hb.cell (p := ⟨b1, o1 + xs.length * 2 + 1, none⟩) hbb1).trans d1, (hb.cell (p := ⟨b2, o2 + xs.length * 2, none⟩) hbb2).trans d2, (hb.cell (p := ⟨b2, o2 + xs.length * 2 + 1, none⟩) hbb2).trans d3⟩)
            have HVz := hide (HV9.out.call (Below.refl wr.heap.size wr).drew)
            have hlx : xs.length ≤ 1048576 := by omega
            clear d0 d1 d2 d3 hbb1 hbb2
            refine wp_region_held_drew (S := fun w' => w'.cell? ⟨w.heap.size, 0, none⟩ = some (.slice a1 x.k.length c1) ∧ w'.cell? ⟨w.heap.size + 1, 0, none⟩ = some (.slice (some ⟨b1, o1, none⟩) a.lo.length c2) ∧ w'.cell? ⟨w.heap.size + 1 + 1, 0, none⟩ = some (.slice (some ⟨b2, o2, none⟩) b.lo.length c4) ∧ w'.cell? ⟨b1, o1 + xs.length * 2, none⟩ = some (.int .i64 ya.k) ∧ w'.cell? ⟨b1, o1 + xs.length * 2 + 1, none⟩ = some (.int .i64 ya.c) ∧ w'.cell? ⟨b2, o2 + xs.length * 2, none⟩ = some (.int .i64 yb.k) ∧ w'.cell? ⟨b2, o2 + xs.length * 2 + 1, none⟩ = some (.int .i64 yb.c)) (by kernel_rfl) (HCL.out _ HVz.out.bel) (fun hHeld => ?_)
            generalize wr.drew = Z0 at *
            refine wpAnyH_take (i := 0) (v := ?_) rfl (by kernel_rfl) (by kernel_rfl) (by kernel_rfl) (fun _ _ _ h => h) (Or.inl ⟨by rfl, ?_⟩) (by assumption) ?_
            rotate_left
            · intro w' hSw
              try dsimp only at hSw
              go_simp; try rfl
            simp only [List.getElem_toArray, List.getElem_cons_zero, Act.put, List.setIfInBounds_toArray, List.set_cons_zero, List.set_cons_succ]
            refine wpAnyH_take (i := 2) (v := ?_) rfl (by kernel_rfl) (by kernel_rfl) (by kernel_rfl) (fun _ _ _ h => h) (Or.inl ⟨by rfl, ?_⟩) (by assumption) ?_
            rotate_left
            · intro w' hSw
              try dsimp only at hSw
              go_simp; try rfl
            simp only [List.getElem_toArray, List.getElem_cons_succ, List.getElem_cons_zero, Act.put, List.setIfInBounds_toArray, List.set_cons_zero, List.set_cons_succ]
            refine wpAnyH_take (i := 3) (v := ?_) rfl (by kernel_rfl) (by kernel_rfl) (by kernel_rfl) (fun _ _ _ h => h) (Or.inl ⟨by rfl, ?_⟩) (by assumption) ?_
            rotate_left
            · intro w' hSw
              try dsimp only at hSw
              go_simp; try rfl
            simp only [List.getElem_toArray, List.getElem_cons_succ, List.getElem_cons_zero, Act.put, List.setIfInBounds_toArray, List.set_cons_zero, List.set_cons_succ]
            refine wpAnyH_take (i := 4) (v := ?_) rfl (by kernel_rfl) (by kernel_rfl) (by kernel_rfl) (fun _ _ _ h => h) (Or.inl ⟨by rfl, ?_⟩) (by assumption) ?_
            rotate_left
            · intro w' hSw
              try dsimp only at hSw
              go_simp; try rfl
            simp only [List.getElem_toArray, List.getElem_cons_succ, List.getElem_cons_zero, Act.put, List.setIfInBounds_toArray, List.set_cons_zero, List.set_cons_succ]
            refine wpAnyH_take (i := 5) (v := ?_) rfl (by kernel_rfl) (by kernel_rfl) (by kernel_rfl) (fun _ _ _ h => h) (Or.inl ⟨by rfl, ?_⟩) (by assumption) ?_
            rotate_left
            · intro w' hSw
              try dsimp only at hSw
              go_simp; try rfl
            simp only [List.getElem_toArray, List.getElem_cons_succ, List.getElem_cons_zero, Act.put, List.setIfInBounds_toArray, List.set_cons_zero, List.set_cons_succ]
            refine wpAnyH_take (i := 6) (v := ?_) rfl (by kernel_rfl) (by kernel_rfl) (by kernel_rfl) (fun _ _ _ h => h) (Or.inl ⟨by rfl, ?_⟩) (by assumption) ?_
            rotate_left
            · intro w' hSw
              try dsimp only at hSw
              go_simp; try rfl
            simp only [List.getElem_toArray, List.getElem_cons_succ, List.getElem_cons_zero, Act.put, List.setIfInBounds_toArray, List.set_cons_zero, List.set_cons_succ]
            refine wpAnyH_take (i := 7) (v := ?_) rfl (by kernel_rfl) (by kernel_rfl) (by kernel_rfl) (fun _ _ _ h => h) (Or.inl ⟨by rfl, ?_⟩) (by assumption) ?_
            rotate_left
            · intro w' hSw
              try dsimp only at hSw
              go_simp; try rfl
            simp only [List.getElem_toArray, List.getElem_cons_succ, List.getElem_cons_zero, Act.put, List.setIfInBounds_toArray, List.set_cons_zero, List.set_cons_succ]
            refine wpAnyH_take (i := 8) (v := ?_) rfl (by kernel_rfl) (by kernel_rfl) (by kernel_rfl) (fun _ _ _ h => h) (Or.inl ⟨by rfl, ?_⟩) (by assumption) ?_
            rotate_left
            · intro w' hSw
              try dsimp only at hSw
              go_simp; try rfl
            simp only [List.getElem_toArray, List.getElem_cons_succ, List.getElem_cons_zero, Act.put, List.setIfInBounds_toArray, List.set_cons_zero, List.set_cons_succ]
            refine wpAnyH_take (i := 9) (v := ?_) rfl (by kernel_rfl) (by kernel_rfl) (by kernel_rfl) (fun _ _ _ h => h) (Or.inl ⟨by rfl, ?_⟩) (by assumption) ?_
            rotate_left
            · intro w' hSw
              try dsimp only at hSw
              go_simp; try rfl
            simp only [List.getElem_toArray, List.getElem_cons_succ, List.getElem_cons_zero, Act.put, List.setIfInBounds_toArray, List.set_cons_zero, List.set_cons_succ]
            refine wpAnyH_take (i := 10) (v := ?_) rfl (by kernel_rfl) (by kernel_rfl) (by kernel_rfl) (fun _ _ _ h => h) (Or.inl ⟨by rfl, ?_⟩) (by assumption) ?_
            rotate_left
            · intro w' hSw
              try dsimp only at hSw
              go_simp; try rfl
            simp only [List.getElem_toArray, List.getElem_cons_succ, List.getElem_cons_zero, Act.put, List.setIfInBounds_toArray, List.set_cons_zero, List.set_cons_succ]
            refine wpAnyH_take (i := 11) (v := ?_) rfl (by kernel_rfl) (by kernel_rfl) (by kernel_rfl) (fun _ _ _ h => h) (Or.inl ⟨by rfl, ?_⟩) (by assumption) ?_
            rotate_left
            · intro w' hSw
              try dsimp only at hSw
              go_simp; try rfl
            simp only [List.getElem_toArray, List.getElem_cons_succ, List.getElem_cons_zero, Act.put, List.setIfInBounds_toArray, List.set_cons_zero, List.set_cons_succ]
            refine wpAnyH_take (i := 12) (v := ?_) rfl (by kernel_rfl) (by kernel_rfl) (by kernel_rfl) (fun _ _ _ h => h) (Or.inl ⟨by rfl, ?_⟩) (by assumption) ?_
            rotate_left
            · intro w' hSw
              try dsimp only at hSw
              go_simp; try rfl
            simp only [List.getElem_toArray, List.getElem_cons_succ, List.getElem_cons_zero, Act.put, List.setIfInBounds_toArray, List.set_cons_zero, List.set_cons_succ]
            refine wpAnyH_ready (rs := [1, 13]) (by kernel_rfl) (by simp) (AllReadyH.cons rfl (fun K hK => ?_) (AllReadyH.cons rfl (fun K hK => ?_) AllReadyH.nil))
            · skip
              have f9 := (box_of HVz.out.box).1 0 _ rfl
              refine step_runX (some 45) (by kernel_rfl) (by kernel_rfl) (v := .slice pa xs.length pc) (w' := Z0) (by go_simp; try rfl) ?_
              clear f9
              refine hK.out _ _ (HCL.out _ HVz.out.bel) (fun hHeld => ?_)
              clear hK K
              simp only [Act.put, List.setIfInBounds_toArray, List.set_cons_zero, List.set_cons_succ]
              refine wpAnyH_ready (rs := [13]) (by kernel_rfl) (by simp) (AllReadyH.cons rfl (fun K hK => ?_) AllReadyH.nil)
              refine step_callW (some 57) (by kernel_rfl) (by kernel_rfl) 30 _ _ rfl #[.agg #[.slice a1 x.k.length c1], .agg #[.int .i64 ya.k, .int .i64 ya.c], .agg #[.int .i64 yb.k, .int .i64 yb.c]] (by kernel_rfl) (joinS _ x _ ya yb (HR.out.at (by rw [HWs.out]; exact HVz.out.bel)) HG.out) ?_
              rintro e Z2 ⟨rfl, b9⟩
              generalize joinX x.k ya yb = J at *
              unfold tyV
              replace HVz := hide (HVz.out.call b9)
              clear b9
              refine ⟨_, rfl, ?_⟩
              refine hK.out _ _ (HCL.out _ HVz.out.bel) (fun hHeld => ?_)
              clear hK K
              simp only [Act.put, List.setIfInBounds_toArray, List.set_cons_zero, List.set_cons_succ]
              refine wpAnyH_ready (rs := [14]) (by kernel_rfl) (by simp) (AllReadyH.cons rfl (fun K hK => ?_) AllReadyH.nil)
              refine step_runX (some 58) (by kernel_rfl) (by kernel_rfl) (v := .slice (some ⟨Z2.heap.size, 0, none⟩) 1 1) (w' := Z2.alloc (.cells #[.int .i64 J.k, .int .i64 J.c] 51)) (by go_simp; try rfl) ?_
              have hb9 := (Below.refl Z2.heap.size Z2).alloc (Nat.le_refl _) (.cells #[.int .i64 J.k, .int .i64 J.c] 51)
              replace HVz := hide (HVz.out.call hb9)
              clear hb9
              have HBx := hide (Box.new Z2 #[.int .i64 J.k, .int .i64 J.c] 51)
              refine hK.out _ _ (HCL.out _ HVz.out.bel) (fun hHeld => ?_)
              clear hK K
              simp only [Act.put, List.setIfInBounds_toArray, List.set_cons_zero, List.set_cons_succ]
              generalize Z2.alloc (.cells #[.int .i64 J.k, .int .i64 J.c] 51) = Z3 at *
              generalize Z2.heap.size = gB at *
              refine wpAnyH_ready (rs := [15]) (by kernel_rfl) (by simp) (AllReadyH.cons rfl (fun K hK => ?_) AllReadyH.nil)
              have HDs : Hid (OwnDL Z3 Z3.heap.size Z3.heap.size (tyD J) [.int .i64 J.k, .int .i64 J.c]) := hide (OwnDL.val (OwnDL.val (ownDL_nil _ _ _)))
              refine step_appL (by kernel_rfl) _ _ 35 rfl (w.heap.size + 1 + 1 + 1 + 1 + 1) Z3.heap.size Z3.heap.size 51 i0 (.agg #[.int .i64 0, .int .i64 0]) 2 16 Try.underlying35 HI.out.1 HI.out.2.1 HI.out.2.2.1 HI.out.2.2.2 rfl (by decide) (.slice pa xs.length pc) xs.length (xs.flatMap tyD) [] [.row 51 2 0 [], .val (.int .i64 a.h)] [] [.slice none 0 0, .int .i64 a.h] (by kernel_rfl) HVz.out.own rfl gB 1 [.int .i64 J.k, .int .i64 J.c] (tyD J) (by kernel_rfl) HBx.out HDs.out rfl (by simp [Value.oneCell']) (by omega) (by decide) (Nat.le_refl _) HVz.out.lt (Nat.le_refl _) ?_
              intro g9 c9 Z4 o6 g6 q6
              have HK := hide (HVz.out.app (v1 := []) 0 rfl o6 g6 (fun q hq => (q6 q hq).1))
              have HWb := hide (HVz.out.bel.grown g6 (Nat.le_of_lt HVz.out.lt) (fun q hq => by have := (q6 q hq).1; omega))
              clear o6 g6 q6
              refine hK.out _ _ (HCL.out _ HWb.out) (fun hHeld => ?_)
              clear hK K
              simp only [Act.put, List.setIfInBounds_toArray]
              refine wpAnyH_take (i := 16) (v := ?_) rfl (by kernel_rfl) (by kernel_rfl) (by kernel_rfl) (fun _ _ _ h => h) (Or.inl ⟨by rfl, ?_⟩) (by assumption) ?_
              rotate_left
              · intro w' hSw
                try dsimp only at hSw
                go_simp; try rfl
              simp only [List.getElem_toArray, List.getElem_cons_succ, List.getElem_cons_zero, Act.put, List.setIfInBounds_toArray, List.set_cons_zero, List.set_cons_succ]
              refine wpAnyH_ready (rs := [17]) (by kernel_rfl) (by simp) (AllReadyH.cons rfl (fun K hK => ?_) AllReadyH.nil)
              have f9 := (box_of HK.out.1).1 0 _ rfl
              have z9 := (box_of HK.out.1).2 0
              refine step_store1 (by kernel_rfl) (by kernel_rfl) 35 _ _ rfl (w.heap.size + 1 + 1 + 1 + 1) 0 (.slice (some ⟨g9, 0, none⟩) (xs.length + 1) c9) (by kernel_rfl) (by kernel_rfl) rfl _ f9 z9 (by kernel_rfl) ?_
              clear f9 z9
              refine hK.out _ _ (HCL.out _ HK.out.2.bel) (fun hHeld => ?_)
              clear hK K
              try simp only [Act.put, List.setIfInBounds_toArray, List.set_cons_zero, List.set_cons_succ]
              refine wpAnyH_done (by kernel_rfl) ?_ _
              go_wp2_with fail
              exact ⟨⟨xs ++ [J], some ⟨g9, 0, none⟩, c9, by simp; omega, by first | go_num | (simp; go_num) | (simp; done), hide (by rw [List.length_append, List.flatMap_append]; simpa using HK.out.2), hide (by rw [List.length_append, List.length_singleton, HJ.out, ← HQ.out])⟩, by simp [intOf]; omega⟩
            · skip
              refine step_callW (some 57) (by kernel_rfl) (by kernel_rfl) 30 _ _ rfl #[.agg #[.slice a1 x.k.length c1], .agg #[.int .i64 ya.k, .int .i64 ya.c], .agg #[.int .i64 yb.k, .int .i64 yb.c]] (by kernel_rfl) (joinS _ x _ ya yb (HR.out.at (by rw [HWs.out]; exact HVz.out.bel)) HG.out) ?_
              rintro e Z6 ⟨rfl, b9⟩
              generalize joinX x.k ya yb = J at *
              unfold tyV
              replace HVz := hide (HVz.out.call b9)
              clear b9
              refine ⟨_, rfl, ?_⟩
              refine hK.out _ _ (HCL.out _ HVz.out.bel) (fun hHeld => ?_)
              clear hK K
              simp only [Act.put, List.setIfInBounds_toArray, List.set_cons_zero, List.set_cons_succ]
              refine wpAnyH_ready (rs := [1, 14]) (by kernel_rfl) (by simp) (AllReadyH.cons rfl (fun K hK => ?_) (AllReadyH.cons rfl (fun K hK => ?_) AllReadyH.nil))
              · skip
                have f9 := (box_of HVz.out.box).1 0 _ rfl
                refine step_runX (some 45) (by kernel_rfl) (by kernel_rfl) (v := .slice pa xs.length pc) (w' := Z6) (by go_simp; try rfl) ?_
                clear f9
                refine hK.out _ _ (HCL.out _ HVz.out.bel) (fun hHeld => ?_)
                clear hK K
                simp only [Act.put, List.setIfInBounds_toArray, List.set_cons_zero, List.set_cons_succ]
                refine wpAnyH_ready (rs := [14]) (by kernel_rfl) (by simp) (AllReadyH.cons rfl (fun K hK => ?_) AllReadyH.nil)
                refine step_runX (some 58) (by kernel_rfl) (by kernel_rfl) (v := .slice (some ⟨Z6.heap.size, 0, none⟩) 1 1) (w' := Z6.alloc (.cells #[.int .i64 J.k, .int .i64 J.c] 51)) (by go_simp; try rfl) ?_
                have hb9 := (Below.refl Z6.heap.size Z6).alloc (Nat.le_refl _) (.cells #[.int .i64 J.k, .int .i64 J.c] 51)
                replace HVz := hide (HVz.out.call hb9)
                clear hb9
                have HBx := hide (Box.new Z6 #[.int .i64 J.k, .int .i64 J.c] 51)
                refine hK.out _ _ (HCL.out _ HVz.out.bel) (fun hHeld => ?_)
                clear hK K
                simp only [Act.put, List.setIfInBounds_toArray, List.set_cons_zero, List.set_cons_succ]
                generalize Z6.alloc (.cells #[.int .i64 J.k, .int .i64 J.c] 51) = Z8 at *
                generalize Z6.heap.size = gB at *
                refine wpAnyH_ready (rs := [15]) (by kernel_rfl) (by simp) (AllReadyH.cons rfl (fun K hK => ?_) AllReadyH.nil)
                have HDs : Hid (OwnDL Z8 Z8.heap.size Z8.heap.size (tyD J) [.int .i64 J.k, .int .i64 J.c]) := hide (OwnDL.val (OwnDL.val (ownDL_nil _ _ _)))
                refine step_appL (by kernel_rfl) _ _ 35 rfl (w.heap.size + 1 + 1 + 1 + 1 + 1) Z8.heap.size Z8.heap.size 51 i0 (.agg #[.int .i64 0, .int .i64 0]) 2 16 Try.underlying35 HI.out.1 HI.out.2.1 HI.out.2.2.1 HI.out.2.2.2 rfl (by decide) (.slice pa xs.length pc) xs.length (xs.flatMap tyD) [] [.row 51 2 0 [], .val (.int .i64 a.h)] [] [.slice none 0 0, .int .i64 a.h] (by kernel_rfl) HVz.out.own rfl gB 1 [.int .i64 J.k, .int .i64 J.c] (tyD J) (by kernel_rfl) HBx.out HDs.out rfl (by simp [Value.oneCell']) (by omega) (by decide) (Nat.le_refl _) HVz.out.lt (Nat.le_refl _) ?_
                intro g9 c9 Z9 o6 g6 q6
                have HK := hide (HVz.out.app (v1 := []) 0 rfl o6 g6 (fun q hq => (q6 q hq).1))
                have HWb := hide (HVz.out.bel.grown g6 (Nat.le_of_lt HVz.out.lt) (fun q hq => by have := (q6 q hq).1; omega))
                clear o6 g6 q6
                refine hK.out _ _ (HCL.out _ HWb.out) (fun hHeld => ?_)
                clear hK K
                simp only [Act.put, List.setIfInBounds_toArray]
                refine wpAnyH_take (i := 16) (v := ?_) rfl (by kernel_rfl) (by kernel_rfl) (by kernel_rfl) (fun _ _ _ h => h) (Or.inl ⟨by rfl, ?_⟩) (by assumption) ?_
                rotate_left
                · intro w' hSw
                  try dsimp only at hSw
                  go_simp; try rfl
                simp only [List.getElem_toArray, List.getElem_cons_succ, List.getElem_cons_zero, Act.put, List.setIfInBounds_toArray, List.set_cons_zero, List.set_cons_succ]
                refine wpAnyH_ready (rs := [17]) (by kernel_rfl) (by simp) (AllReadyH.cons rfl (fun K hK => ?_) AllReadyH.nil)
                have f9 := (box_of HK.out.1).1 0 _ rfl
                have z9 := (box_of HK.out.1).2 0
                refine step_store1 (by kernel_rfl) (by kernel_rfl) 35 _ _ rfl (w.heap.size + 1 + 1 + 1 + 1) 0 (.slice (some ⟨g9, 0, none⟩) (xs.length + 1) c9) (by kernel_rfl) (by kernel_rfl) rfl _ f9 z9 (by kernel_rfl) ?_
                clear f9 z9
                refine hK.out _ _ (HCL.out _ HK.out.2.bel) (fun hHeld => ?_)
                clear hK K
                try simp only [Act.put, List.setIfInBounds_toArray, List.set_cons_zero, List.set_cons_succ]
                refine wpAnyH_done (by kernel_rfl) ?_ _
                go_wp2_with fail
                exact ⟨⟨xs ++ [J], some ⟨g9, 0, none⟩, c9, by simp; omega, by first | go_num | (simp; go_num) | (simp; done), hide (by rw [List.length_append, List.flatMap_append]; simpa using HK.out.2), hide (by rw [List.length_append, List.length_singleton, HJ.out, ← HQ.out])⟩, by simp [intOf]; omega⟩
              · skip
                refine step_runX (some 58) (by kernel_rfl) (by kernel_rfl) (v := .slice (some ⟨Z6.heap.size, 0, none⟩) 1 1) (w' := Z6.alloc (.cells #[.int .i64 J.k, .int .i64 J.c] 51)) (by go_simp; try rfl) ?_
                have hb9 := (Below.refl Z6.heap.size Z6).alloc (Nat.le_refl _) (.cells #[.int .i64 J.k, .int .i64 J.c] 51)
                replace HVz := hide (HVz.out.call hb9)
                clear hb9
                have HBx := hide (Box.new Z6 #[.int .i64 J.k, .int .i64 J.c] 51)
                refine hK.out _ _ (HCL.out _ HVz.out.bel) (fun hHeld => ?_)
                clear hK K
                simp only [Act.put, List.setIfInBounds_toArray, List.set_cons_zero, List.set_cons_succ]
                generalize Z6.alloc (.cells #[.int .i64 J.k, .int .i64 J.c] 51) = Z11 at *
                generalize Z6.heap.size = gB at *
                refine wpAnyH_ready (rs := [1]) (by kernel_rfl) (by simp) (AllReadyH.cons rfl (fun K hK => ?_) AllReadyH.nil)
                have f9 := (box_of HVz.out.box).1 0 _ rfl
                refine step_runX (some 45) (by kernel_rfl) (by kernel_rfl) (v := .slice pa xs.length pc) (w' := Z11) (by go_simp; try rfl) ?_
                clear f9
                refine hK.out _ _ (HCL.out _ HVz.out.bel) (fun hHeld => ?_)
                clear hK K
                simp only [Act.put, List.setIfInBounds_toArray, List.set_cons_zero, List.set_cons_succ]
                refine wpAnyH_ready (rs := [15]) (by kernel_rfl) (by simp) (AllReadyH.cons rfl (fun K hK => ?_) AllReadyH.nil)
                have HDs : Hid (OwnDL Z11 Z11.heap.size Z11.heap.size (tyD J) [.int .i64 J.k, .int .i64 J.c]) := hide (OwnDL.val (OwnDL.val (ownDL_nil _ _ _)))
                refine step_appL (by kernel_rfl) _ _ 35 rfl (w.heap.size + 1 + 1 + 1 + 1 + 1) Z11.heap.size Z11.heap.size 51 i0 (.agg #[.int .i64 0, .int .i64 0]) 2 16 Try.underlying35 HI.out.1 HI.out.2.1 HI.out.2.2.1 HI.out.2.2.2 rfl (by decide) (.slice pa xs.length pc) xs.length (xs.flatMap tyD) [] [.row 51 2 0 [], .val (.int .i64 a.h)] [] [.slice none 0 0, .int .i64 a.h] (by kernel_rfl) HVz.out.own rfl gB 1 [.int .i64 J.k, .int .i64 J.c] (tyD J) (by kernel_rfl) HBx.out HDs.out rfl (by simp [Value.oneCell']) (by omega) (by decide) (Nat.le_refl _) HVz.out.lt (Nat.le_refl _) ?_
                intro g9 c9 Z13 o6 g6 q6
                have HK := hide (HVz.out.app (v1 := []) 0 rfl o6 g6 (fun q hq => (q6 q hq).1))
                have HWb := hide (HVz.out.bel.grown g6 (Nat.le_of_lt HVz.out.lt) (fun q hq => by have := (q6 q hq).1; omega))
                clear o6 g6 q6
                refine hK.out _ _ (HCL.out _ HWb.out) (fun hHeld => ?_)
                clear hK K
                simp only [Act.put, List.setIfInBounds_toArray]
                refine wpAnyH_take (i := 16) (v := ?_) rfl (by kernel_rfl) (by kernel_rfl) (by kernel_rfl) (fun _ _ _ h => h) (Or.inl ⟨by rfl, ?_⟩) (by assumption) ?_
                rotate_left
                · intro w' hSw
                  try dsimp only at hSw
                  go_simp; try rfl
                simp only [List.getElem_toArray, List.getElem_cons_succ, List.getElem_cons_zero, Act.put, List.setIfInBounds_toArray, List.set_cons_zero, List.set_cons_succ]
                refine wpAnyH_ready (rs := [17]) (by kernel_rfl) (by simp) (AllReadyH.cons rfl (fun K hK => ?_) AllReadyH.nil)
                have f9 := (box_of HK.out.1).1 0 _ rfl
                have z9 := (box_of HK.out.1).2 0
                refine step_store1 (by kernel_rfl) (by kernel_rfl) 35 _ _ rfl (w.heap.size + 1 + 1 + 1 + 1) 0 (.slice (some ⟨g9, 0, none⟩) (xs.length + 1) c9) (by kernel_rfl) (by kernel_rfl) rfl _ f9 z9 (by kernel_rfl) ?_
                clear f9 z9
                refine hK.out _ _ (HCL.out _ HK.out.2.bel) (fun hHeld => ?_)
                clear hK K
                try simp only [Act.put, List.setIfInBounds_toArray, List.set_cons_zero, List.set_cons_succ]
                refine wpAnyH_done (by kernel_rfl) ?_ _
                go_wp2_with fail
                exact ⟨⟨xs ++ [J], some ⟨g9, 0, none⟩, c9, by simp; omega, by first | go_num | (simp; go_num) | (simp; done), hide (by rw [List.length_append, List.flatMap_append]; simpa using HK.out.2), hide (by rw [List.length_append, List.length_singleton, HJ.out, ← HQ.out])⟩, by simp [intOf]; omega⟩
          · have hjn : xs.length = a.lo.length := by omega
            have HX0 : Hid (xs = joinE x.k a.lo b.lo) := hide (by have h := HQ.out; rw [hjn, List.take_length, HE0.out, List.take_length] at h; exact h)
            clear HQ
            go_wp2
            clear q1 hj hlt
            have HXL := HX0
            clear HX0 E0r E1r E2r HL hjn
            go_loopw [10] (fun i wr => ∃ (ys : List Ty) (pb : Option Addr) (pd : Nat), ys.length ≤ a.st.length ∧ i = .int .i64 (ys.length : Int) ∧ Hid (Bv W wr (w.heap.size + 1 + 1 + 1 + 1) 37 [.row 51 2 xs.length (xs.flatMap tyD), .row 51 2 ys.length (ys.flatMap tyD), .val (.int .i64 a.h)] [.slice pa xs.length pc, .slice pb ys.length pd, .int .i64 a.h]) ∧ Hid (ys = joinE x.k (a.st.take ys.length) (b.st.take ys.length))) (fun i _ => a.st.length - (intOf i).toNat)
            case atStart => exact ⟨[], none, 0, Nat.zero_le _, rfl, HV9, hide (by simp [joinE])⟩
            case round =>
              clear HV9
              obtain ⟨ys, pb, pd, hj, rfl, HV9, HQ⟩ := hrel
              have HL : Hid (Below W.heap.size W wr) := hide (by rw [HWs.out]; exact HV9.out.bel)
              have E0r := hide ((HL.out.block _ (Array.getElem?_eq_some_iff.1 E0.out).1).trans E0.out)
              have E1r := hide ((HL.out.block _ (Array.getElem?_eq_some_iff.1 E1.out).1).trans E1.out)
              have E2r := hide ((HL.out.block _ (Array.getElem?_eq_some_iff.1 E2.out).1).trans E2.out)
              have q1 := (box_of E1r.out).1 1 _ rfl
              by_cases hlt : ys.length < a.st.length
              · obtain ⟨a', cap', ea, hcap, _, hc⟩ := type_at A2.out
                cases ea
                obtain ⟨b1, o1, rfl, hbb1, hcell⟩ := hc (by omega)
                obtain ⟨d0, d1⟩ := hcell ys.length hlt
                clear hcell hc
                have hltb : ys.length < b.st.length := by have := HE1.out; omega
                obtain ⟨a', cap', ea, hcap', _, hc⟩ := type_at B2.out
                cases ea
                obtain ⟨b2, o2, rfl, hbb2, hcell⟩ := hc (by omega)
                obtain ⟨d2, d3⟩ := hcell ys.length hltb
                clear hcell hc
                have HJ := hide (joinE_step x.k a.st b.st ys.length hlt hltb)
                obtain ⟨ya, hy⟩ : ∃ y, a.st.getD ys.length default = y := ⟨_, rfl⟩
                obtain ⟨yb, hy'⟩ : ∃ y, b.st.getD ys.length default = y := ⟨_, rfl⟩
                rw [hy] at d0 d1 HJ
                rw [hy'] at d2 d3 HJ
                clear hy hy'
                have hltI : (ys.length : Int) < (b.st.length : Int) := by omega
                go_upto_region 13 with fail
                clear q1
                have HCL : Hid (∀ w', Below (w.heap.size + 1 + 1 + 1 + 1) W w' → w'.cell? ⟨w.heap.size, 0, none⟩ = some (.slice a1 x.k.length c1) ∧ w'.cell? ⟨w.heap.size + 1, 1, none⟩ = some (.slice (some ⟨b1, o1, none⟩) a.st.length c3) ∧ w'.cell? ⟨w.heap.size + 1 + 1, 1, none⟩ = some (.slice (some ⟨b2, o2, none⟩) b.st.length c5) ∧ w'.cell? ⟨b1, o1 + ys.length * 2, none⟩ = some (.int .i64 ya.k) ∧ w'.cell? ⟨b1, o1 + ys.length * 2 + 1, none⟩ = some (.int .i64 ya.c) ∧ w'.cell? ⟨b2, o2 + ys.length * 2, none⟩ = some (.int .i64 yb.k) ∧ w'.cell? ⟨b2, o2 + ys.length * 2 + 1, none⟩ = some (.int .i64 yb.c)) := hide (fun w' hb0 => have hb : Below W.heap.size W w' := (by rw [HWs.out]; exact hb0); ⟨(box_of ((hb.block _ (Array.getElem?_eq_some_iff.1 E0.out).1).trans E0.out)).1 0 _ rfl, (box_of ((hb.block _ (Array.getElem?_eq_some_iff.1 E1.out).1).trans E1.out)).1 1 _ rfl, (box_of ((hb.block _ (Array.getElem?_eq_some_iff.1 E2.out).1).trans E2.out)).1 1 _ rfl, (hb.cell (p := ⟨b1, o1 + ys.length * 2, none⟩) hbb1).trans d0, (hb.cell (p := ⟨b1, o1 + ys.length * 2 + 1, none⟩) hbb1).trans d1, (hb.cell (p := ⟨b2, o2 + ys.length * 2, none⟩) hbb2).trans d2, (hb.cell (p := ⟨b2, o2 + ys.length * 2 + 1, none⟩) hbb2).trans d3⟩)
                have HVz := hide (HV9.out.call (Below.refl wr.heap.size wr).drew)
                have hlx : ys.length ≤ 1048576 := by omega
                clear d0 d1 d2 d3 hbb1 hbb2
                refine wp_region_held_drew (S := fun w' => w'.cell? ⟨w.heap.size, 0, none⟩ = some (.slice a1 x.k.length c1) ∧ w'.cell? ⟨w.heap.size + 1, 1, none⟩ = some (.slice (some ⟨b1, o1, none⟩) a.st.length c3) ∧ w'.cell? ⟨w.heap.size + 1 + 1, 1, none⟩ = some (.slice (some ⟨b2, o2, none⟩) b.st.length c5) ∧ w'.cell? ⟨b1, o1 + ys.length * 2, none⟩ = some (.int .i64 ya.k) ∧ w'.cell? ⟨b1, o1 + ys.length * 2 + 1, none⟩ = some (.int .i64 ya.c) ∧ w'.cell? ⟨b2, o2 + ys.length * 2, none⟩ = some (.int .i64 yb.k) ∧ w'.cell? ⟨b2, o2 + ys.length * 2 + 1, none⟩ = some (.int .i64 yb.c)) (by kernel_rfl) (HCL.out _ HVz.out.bel) (fun hHeld => ?_)
                generalize wr.drew = Z0 at *
                refine wpAnyH_take (i := 0) (v := ?_) rfl (by kernel_rfl) (by kernel_rfl) (by kernel_rfl) (fun _ _ _ h => h) (Or.inl ⟨by rfl, ?_⟩) (by assumption) ?_
                rotate_left
                · intro w' hSw
                  try dsimp only at hSw
                  go_simp; try rfl
                simp only [List.getElem_toArray, List.getElem_cons_zero, Act.put, List.setIfInBounds_toArray, List.set_cons_zero, List.set_cons_succ]
                refine wpAnyH_take (i := 2) (v := ?_) rfl (by kernel_rfl) (by kernel_rfl) (by kernel_rfl) (fun _ _ _ h => h) (Or.inl ⟨by rfl, ?_⟩) (by assumption) ?_
                rotate_left
                · intro w' hSw
                  try dsimp only at hSw
                  go_simp; try rfl
                simp only [List.getElem_toArray, List.getElem_cons_succ, List.getElem_cons_zero, Act.put, List.setIfInBounds_toArray, List.set_cons_zero, List.set_cons_succ]
                refine wpAnyH_take (i := 3) (v := ?_) rfl (by kernel_rfl) (by kernel_rfl) (by kernel_rfl) (fun _ _ _ h => h) (Or.inl ⟨by rfl, ?_⟩) (by assumption) ?_
                rotate_left
                · intro w' hSw
                  try dsimp only at hSw
                  go_simp; try rfl
                simp only [List.getElem_toArray, List.getElem_cons_succ, List.getElem_cons_zero, Act.put, List.setIfInBounds_toArray, List.set_cons_zero, List.set_cons_succ]
                refine wpAnyH_take (i := 4) (v := ?_) rfl (by kernel_rfl) (by kernel_rfl) (by kernel_rfl) (fun _ _ _ h => h) (Or.inl ⟨by rfl, ?_⟩) (by assumption) ?_
                rotate_left
                · intro w' hSw
                  try dsimp only at hSw
                  go_simp; try rfl
                simp only [List.getElem_toArray, List.getElem_cons_succ, List.getElem_cons_zero, Act.put, List.setIfInBounds_toArray, List.set_cons_zero, List.set_cons_succ]
                refine wpAnyH_take (i := 5) (v := ?_) rfl (by kernel_rfl) (by kernel_rfl) (by kernel_rfl) (fun _ _ _ h => h) (Or.inl ⟨by rfl, ?_⟩) (by assumption) ?_
                rotate_left
                · intro w' hSw
                  try dsimp only at hSw
                  go_simp; try rfl
                simp only [List.getElem_toArray, List.getElem_cons_succ, List.getElem_cons_zero, Act.put, List.setIfInBounds_toArray, List.set_cons_zero, List.set_cons_succ]
                refine wpAnyH_take (i := 6) (v := ?_) rfl (by kernel_rfl) (by kernel_rfl) (by kernel_rfl) (fun _ _ _ h => h) (Or.inl ⟨by rfl, ?_⟩) (by assumption) ?_
                rotate_left
                · intro w' hSw
                  try dsimp only at hSw
                  go_simp; try rfl
                simp only [List.getElem_toArray, List.getElem_cons_succ, List.getElem_cons_zero, Act.put, List.setIfInBounds_toArray, List.set_cons_zero, List.set_cons_succ]
                refine wpAnyH_take (i := 7) (v := ?_) rfl (by kernel_rfl) (by kernel_rfl) (by kernel_rfl) (fun _ _ _ h => h) (Or.inl ⟨by rfl, ?_⟩) (by assumption) ?_
                rotate_left
                · intro w' hSw
                  try dsimp only at hSw
                  go_simp; try rfl
                simp only [List.getElem_toArray, List.getElem_cons_succ, List.getElem_cons_zero, Act.put, List.setIfInBounds_toArray, List.set_cons_zero, List.set_cons_succ]
                refine wpAnyH_take (i := 8) (v := ?_) rfl (by kernel_rfl) (by kernel_rfl) (by kernel_rfl) (fun _ _ _ h => h) (Or.inl ⟨by rfl, ?_⟩) (by assumption) ?_
                rotate_left
                · intro w' hSw
                  try dsimp only at hSw
                  go_simp; try rfl
                simp only [List.getElem_toArray, List.getElem_cons_succ, List.getElem_cons_zero, Act.put, List.setIfInBounds_toArray, List.set_cons_zero, List.set_cons_succ]
                refine wpAnyH_take (i := 9) (v := ?_) rfl (by kernel_rfl) (by kernel_rfl) (by kernel_rfl) (fun _ _ _ h => h) (Or.inl ⟨by rfl, ?_⟩) (by assumption) ?_
                rotate_left
                · intro w' hSw
                  try dsimp only at hSw
                  go_simp; try rfl
                simp only [List.getElem_toArray, List.getElem_cons_succ, List.getElem_cons_zero, Act.put, List.setIfInBounds_toArray, List.set_cons_zero, List.set_cons_succ]
                refine wpAnyH_take (i := 10) (v := ?_) rfl (by kernel_rfl) (by kernel_rfl) (by kernel_rfl) (fun _ _ _ h => h) (Or.inl ⟨by rfl, ?_⟩) (by assumption) ?_
                rotate_left
                · intro w' hSw
                  try dsimp only at hSw
                  go_simp; try rfl
                simp only [List.getElem_toArray, List.getElem_cons_succ, List.getElem_cons_zero, Act.put, List.setIfInBounds_toArray, List.set_cons_zero, List.set_cons_succ]
                refine wpAnyH_take (i := 11) (v := ?_) rfl (by kernel_rfl) (by kernel_rfl) (by kernel_rfl) (fun _ _ _ h => h) (Or.inl ⟨by rfl, ?_⟩) (by assumption) ?_
                rotate_left
                · intro w' hSw
                  try dsimp only at hSw
                  go_simp; try rfl
                simp only [List.getElem_toArray, List.getElem_cons_succ, List.getElem_cons_zero, Act.put, List.setIfInBounds_toArray, List.set_cons_zero, List.set_cons_succ]
                refine wpAnyH_take (i := 12) (v := ?_) rfl (by kernel_rfl) (by kernel_rfl) (by kernel_rfl) (fun _ _ _ h => h) (Or.inl ⟨by rfl, ?_⟩) (by assumption) ?_
                rotate_left
                · intro w' hSw
                  try dsimp only at hSw
                  go_simp; try rfl
                simp only [List.getElem_toArray, List.getElem_cons_succ, List.getElem_cons_zero, Act.put, List.setIfInBounds_toArray, List.set_cons_zero, List.set_cons_succ]
                refine wpAnyH_ready (rs := [1, 13]) (by kernel_rfl) (by simp) (AllReadyH.cons rfl (fun K hK => ?_) (AllReadyH.cons rfl (fun K hK => ?_) AllReadyH.nil))
                · skip
                  have f9 := (box_of HVz.out.box).1 1 _ rfl
                  refine step_runX (some 69) (by kernel_rfl) (by kernel_rfl) (v := .slice pb ys.length pd) (w' := Z0) (by go_simp; try rfl) ?_
                  clear f9
                  refine hK.out _ _ (HCL.out _ HVz.out.bel) (fun hHeld => ?_)
                  clear hK K
                  simp only [Act.put, List.setIfInBounds_toArray, List.set_cons_zero, List.set_cons_succ]
                  refine wpAnyH_ready (rs := [13]) (by kernel_rfl) (by simp) (AllReadyH.cons rfl (fun K hK => ?_) AllReadyH.nil)
                  refine step_callW (some 81) (by kernel_rfl) (by kernel_rfl) 30 _ _ rfl #[.agg #[.slice a1 x.k.length c1], .agg #[.int .i64 ya.k, .int .i64 ya.c], .agg #[.int .i64 yb.k, .int .i64 yb.c]] (by kernel_rfl) (joinS _ x _ ya yb (HR.out.at (by rw [HWs.out]; exact HVz.out.bel)) HG.out) ?_
                  rintro e Z2 ⟨rfl, b9⟩
                  generalize joinX x.k ya yb = J at *
                  unfold tyV
                  replace HVz := hide (HVz.out.call b9)
                  clear b9
                  refine ⟨_, rfl, ?_⟩
                  refine hK.out _ _ (HCL.out _ HVz.out.bel) (fun hHeld => ?_)
                  clear hK K
                  simp only [Act.put, List.setIfInBounds_toArray, List.set_cons_zero, List.set_cons_succ]
                  refine wpAnyH_ready (rs := [14]) (by kernel_rfl) (by simp) (AllReadyH.cons rfl (fun K hK => ?_) AllReadyH.nil)
                  refine step_runX (some 82) (by kernel_rfl) (by kernel_rfl) (v := .slice (some ⟨Z2.heap.size, 0, none⟩) 1 1) (w' := Z2.alloc (.cells #[.int .i64 J.k, .int .i64 J.c] 51)) (by go_simp; try rfl) ?_
                  have hb9 := (Below.refl Z2.heap.size Z2).alloc (Nat.le_refl _) (.cells #[.int .i64 J.k, .int .i64 J.c] 51)
                  replace HVz := hide (HVz.out.call hb9)
                  clear hb9
                  have HBx := hide (Box.new Z2 #[.int .i64 J.k, .int .i64 J.c] 51)
                  refine hK.out _ _ (HCL.out _ HVz.out.bel) (fun hHeld => ?_)
                  clear hK K
                  simp only [Act.put, List.setIfInBounds_toArray, List.set_cons_zero, List.set_cons_succ]
                  generalize Z2.alloc (.cells #[.int .i64 J.k, .int .i64 J.c] 51) = Z3 at *
                  generalize Z2.heap.size = gB at *
                  refine wpAnyH_ready (rs := [15]) (by kernel_rfl) (by simp) (AllReadyH.cons rfl (fun K hK => ?_) AllReadyH.nil)
                  have HDs : Hid (OwnDL Z3 Z3.heap.size Z3.heap.size (tyD J) [.int .i64 J.k, .int .i64 J.c]) := hide (OwnDL.val (OwnDL.val (ownDL_nil _ _ _)))
                  refine step_appL (by kernel_rfl) _ _ 35 rfl (w.heap.size + 1 + 1 + 1 + 1 + 1) Z3.heap.size Z3.heap.size 51 i0 (.agg #[.int .i64 0, .int .i64 0]) 2 16 Try.underlying35 HI.out.1 HI.out.2.1 HI.out.2.2.1 HI.out.2.2.2 rfl (by decide) (.slice pb ys.length pd) ys.length (ys.flatMap tyD) [.row 51 2 xs.length (xs.flatMap tyD)] [.val (.int .i64 a.h)] [.slice pa xs.length pc] [.int .i64 a.h] (by kernel_rfl) HVz.out.own rfl gB 1 [.int .i64 J.k, .int .i64 J.c] (tyD J) (by kernel_rfl) HBx.out HDs.out rfl (by simp [Value.oneCell']) (by omega) (by decide) (Nat.le_refl _) HVz.out.lt (Nat.le_refl _) ?_
                  intro g9 c9 Z4 o6 g6 q6
                  have HK := hide (HVz.out.app (v1 := [.slice pa xs.length pc]) 1 rfl o6 g6 (fun q hq => (q6 q hq).1))
                  have HWb := hide (HVz.out.bel.grown g6 (Nat.le_of_lt HVz.out.lt) (fun q hq => by have := (q6 q hq).1; omega))
                  clear o6 g6 q6
                  refine hK.out _ _ (HCL.out _ HWb.out) (fun hHeld => ?_)
                  clear hK K
                  simp only [Act.put, List.setIfInBounds_toArray]
                  refine wpAnyH_take (i := 16) (v := ?_) rfl (by kernel_rfl) (by kernel_rfl) (by kernel_rfl) (fun _ _ _ h => h) (Or.inl ⟨by rfl, ?_⟩) (by assumption) ?_
                  rotate_left
                  · intro w' hSw
                    try dsimp only at hSw
                    go_simp; try rfl
                  simp only [List.getElem_toArray, List.getElem_cons_succ, List.getElem_cons_zero, Act.put, List.setIfInBounds_toArray, List.set_cons_zero, List.set_cons_succ]
                  refine wpAnyH_ready (rs := [17]) (by kernel_rfl) (by simp) (AllReadyH.cons rfl (fun K hK => ?_) AllReadyH.nil)
                  have f9 := (box_of HK.out.1).1 1 _ rfl
                  have z9 := (box_of HK.out.1).2 1
                  refine step_store1 (by kernel_rfl) (by kernel_rfl) 35 _ _ rfl (w.heap.size + 1 + 1 + 1 + 1) 1 (.slice (some ⟨g9, 0, none⟩) (ys.length + 1) c9) (by kernel_rfl) (by kernel_rfl) rfl _ f9 z9 (by kernel_rfl) ?_
                  clear f9 z9
                  refine hK.out _ _ (HCL.out _ HK.out.2.bel) (fun hHeld => ?_)
                  clear hK K
                  try simp only [Act.put, List.setIfInBounds_toArray, List.set_cons_zero, List.set_cons_succ]
                  refine wpAnyH_done (by kernel_rfl) ?_ _
                  go_wp2_with fail
                  exact ⟨⟨ys ++ [J], some ⟨g9, 0, none⟩, c9, by simp; omega, by first | go_num | (simp; go_num) | (simp; done), hide (by rw [List.length_append, List.flatMap_append]; simpa using HK.out.2), hide (by rw [List.length_append, List.length_singleton, HJ.out, ← HQ.out])⟩, by simp [intOf]; omega⟩
                · skip
                  refine step_callW (some 81) (by kernel_rfl) (by kernel_rfl) 30 _ _ rfl #[.agg #[.slice a1 x.k.length c1], .agg #[.int .i64 ya.k, .int .i64 ya.c], .agg #[.int .i64 yb.k, .int .i64 yb.c]] (by kernel_rfl) (joinS _ x _ ya yb (HR.out.at (by rw [HWs.out]; exact HVz.out.bel)) HG.out) ?_
                  rintro e Z6 ⟨rfl, b9⟩
                  generalize joinX x.k ya yb = J at *
                  unfold tyV
                  replace HVz := hide (HVz.out.call b9)
                  clear b9
                  refine ⟨_, rfl, ?_⟩
                  refine hK.out _ _ (HCL.out _ HVz.out.bel) (fun hHeld => ?_)
                  clear hK K
                  simp only [Act.put, List.setIfInBounds_toArray, List.set_cons_zero, List.set_cons_succ]
                  refine wpAnyH_ready (rs := [1, 14]) (by kernel_rfl) (by simp) (AllReadyH.cons rfl (fun K hK => ?_) (AllReadyH.cons rfl (fun K hK => ?_) AllReadyH.nil))
                  · skip
                    have f9 := (box_of HVz.out.box).1 1 _ rfl
                    refine step_runX (some 69) (by kernel_rfl) (by kernel_rfl) (v := .slice pb ys.length pd) (w' := Z6) (by go_simp; try rfl) ?_
                    clear f9
                    refine hK.out _ _ (HCL.out _ HVz.out.bel) (fun hHeld => ?_)
                    clear hK K
                    simp only [Act.put, List.setIfInBounds_toArray, List.set_cons_zero, List.set_cons_succ]
                    refine wpAnyH_ready (rs := [14]) (by kernel_rfl) (by simp) (AllReadyH.cons rfl (fun K hK => ?_) AllReadyH.nil)
                    refine step_runX (some 82) (by kernel_rfl) (by kernel_rfl) (v := .slice (some ⟨Z6.heap.size, 0, none⟩) 1 1) (w' := Z6.alloc (.cells #[.int .i64 J.k, .int .i64 J.c] 51)) (by go_simp; try rfl) ?_
                    have hb9 := (Below.refl Z6.heap.size Z6).alloc (Nat.le_refl _) (.cells #[.int .i64 J.k, .int .i64 J.c] 51)
                    replace HVz := hide (HVz.out.call hb9)
                    clear hb9
                    have HBx := hide (Box.new Z6 #[.int .i64 J.k, .int .i64 J.c] 51)
                    refine hK.out _ _ (HCL.out _ HVz.out.bel) (fun hHeld => ?_)
                    clear hK K
                    simp only [Act.put, List.setIfInBounds_toArray, List.set_cons_zero, List.set_cons_succ]
                    generalize Z6.alloc (.cells #[.int .i64 J.k, .int .i64 J.c] 51) = Z8 at *
                    generalize Z6.heap.size = gB at *
                    refine wpAnyH_ready (rs := [15]) (by kernel_rfl) (by simp) (AllReadyH.cons rfl (fun K hK => ?_) AllReadyH.nil)
                    have HDs : Hid (OwnDL Z8 Z8.heap.size Z8.heap.size (tyD J) [.int .i64 J.k, .int .i64 J.c]) := hide (OwnDL.val (OwnDL.val (ownDL_nil _ _ _)))
                    refine step_appL (by kernel_rfl) _ _ 35 rfl (w.heap.size + 1 + 1 + 1 + 1 + 1) Z8.heap.size Z8.heap.size 51 i0 (.agg #[.int .i64 0, .int .i64 0]) 2 16 Try.underlying35 HI.out.1 HI.out.2.1 HI.out.2.2.1 HI.out.2.2.2 rfl (by decide) (.slice pb ys.length pd) ys.length (ys.flatMap tyD) [.row 51 2 xs.length (xs.flatMap tyD)] [.val (.int .i64 a.h)] [.slice pa xs.length pc] [.int .i64 a.h] (by kernel_rfl) HVz.out.own rfl gB 1 [.int .i64 J.k, .int .i64 J.c] (tyD J) (by kernel_rfl) HBx.out HDs.out rfl (by simp [Value.oneCell']) (by omega) (by decide) (Nat.le_refl _) HVz.out.lt (Nat.le_refl _) ?_
                    intro g9 c9 Z9 o6 g6 q6
                    have HK := hide (HVz.out.app (v1 := [.slice pa xs.length pc]) 1 rfl o6 g6 (fun q hq => (q6 q hq).1))
                    have HWb := hide (HVz.out.bel.grown g6 (Nat.le_of_lt HVz.out.lt) (fun q hq => by have := (q6 q hq).1; omega))
                    clear o6 g6 q6
                    refine hK.out _ _ (HCL.out _ HWb.out) (fun hHeld => ?_)
                    clear hK K
                    simp only [Act.put, List.setIfInBounds_toArray]
                    refine wpAnyH_take (i := 16) (v := ?_) rfl (by kernel_rfl) (by kernel_rfl) (by kernel_rfl) (fun _ _ _ h => h) (Or.inl ⟨by rfl, ?_⟩) (by assumption) ?_
                    rotate_left
                    · intro w' hSw
                      try dsimp only at hSw
                      go_simp; try rfl
                    simp only [List.getElem_toArray, List.getElem_cons_succ, List.getElem_cons_zero, Act.put, List.setIfInBounds_toArray, List.set_cons_zero, List.set_cons_succ]
                    refine wpAnyH_ready (rs := [17]) (by kernel_rfl) (by simp) (AllReadyH.cons rfl (fun K hK => ?_) AllReadyH.nil)
                    have f9 := (box_of HK.out.1).1 1 _ rfl
                    have z9 := (box_of HK.out.1).2 1
                    refine step_store1 (by kernel_rfl) (by kernel_rfl) 35 _ _ rfl (w.heap.size + 1 + 1 + 1 + 1) 1 (.slice (some ⟨g9, 0, none⟩) (ys.length + 1) c9) (by kernel_rfl) (by kernel_rfl) rfl _ f9 z9 (by kernel_rfl) ?_
                    clear f9 z9
                    refine hK.out _ _ (HCL.out _ HK.out.2.bel) (fun hHeld => ?_)
                    clear hK K
                    try simp only [Act.put, List.setIfInBounds_toArray, List.set_cons_zero, List.set_cons_succ]
                    refine wpAnyH_done (by kernel_rfl) ?_ _
                    go_wp2_with fail
                    exact ⟨⟨ys ++ [J], some ⟨g9, 0, none⟩, c9, by simp; omega, by first | go_num | (simp; go_num) | (simp; done), hide (by rw [List.length_append, List.flatMap_append]; simpa using HK.out.2), hide (by rw [List.length_append, List.length_singleton, HJ.out, ← HQ.out])⟩, by simp [intOf]; omega⟩
                  · skip
                    refine step_runX (some 82) (by kernel_rfl) (by kernel_rfl) (v := .slice (some ⟨Z6.heap.size, 0, none⟩) 1 1) (w' := Z6.alloc (.cells #[.int .i64 J.k, .int .i64 J.c] 51)) (by go_simp; try rfl) ?_
                    have hb9 := (Below.refl Z6.heap.size Z6).alloc (Nat.le_refl _) (.cells #[.int .i64 J.k, .int .i64 J.c] 51)
                    replace HVz := hide (HVz.out.call hb9)
                    clear hb9
                    have HBx := hide (Box.new Z6 #[.int .i64 J.k, .int .i64 J.c] 51)
                    refine hK.out _ _ (HCL.out _ HVz.out.bel) (fun hHeld => ?_)
                    clear hK K
                    simp only [Act.put, List.setIfInBounds_toArray, List.set_cons_zero, List.set_cons_succ]
                    generalize Z6.alloc (.cells #[.int .i64 J.k, .int .i64 J.c] 51) = Z11 at *
                    generalize Z6.heap.size = gB at *
                    refine wpAnyH_ready (rs := [1]) (by kernel_rfl) (by simp) (AllReadyH.cons rfl (fun K hK => ?_) AllReadyH.nil)
                    have f9 := (box_of HVz.out.box).1 1 _ rfl
                    refine step_runX (some 69) (by kernel_rfl) (by kernel_rfl) (v := .slice pb ys.length pd) (w' := Z11) (by go_simp; try rfl) ?_
                    clear f9
                    refine hK.out _ _ (HCL.out _ HVz.out.bel) (fun hHeld => ?_)
                    clear hK K
                    simp only [Act.put, List.setIfInBounds_toArray, List.set_cons_zero, List.set_cons_succ]
                    refine wpAnyH_ready (rs := [15]) (by kernel_rfl) (by simp) (AllReadyH.cons rfl (fun K hK => ?_) AllReadyH.nil)
                    have HDs : Hid (OwnDL Z11 Z11.heap.size Z11.heap.size (tyD J) [.int .i64 J.k, .int .i64 J.c]) := hide (OwnDL.val (OwnDL.val (ownDL_nil _ _ _)))
                    refine step_appL (by kernel_rfl) _ _ 35 rfl (w.heap.size + 1 + 1 + 1 + 1 + 1) Z11.heap.size Z11.heap.size 51 i0 (.agg #[.int .i64 0, .int .i64 0]) 2 16 Try.underlying35 HI.out.1 HI.out.2.1 HI.out.2.2.1 HI.out.2.2.2 rfl (by decide) (.slice pb ys.length pd) ys.length (ys.flatMap tyD) [.row 51 2 xs.length (xs.flatMap tyD)] [.val (.int .i64 a.h)] [.slice pa xs.length pc] [.int .i64 a.h] (by kernel_rfl) HVz.out.own rfl gB 1 [.int .i64 J.k, .int .i64 J.c] (tyD J) (by kernel_rfl) HBx.out HDs.out rfl (by simp [Value.oneCell']) (by omega) (by decide) (Nat.le_refl _) HVz.out.lt (Nat.le_refl _) ?_
                    intro g9 c9 Z13 o6 g6 q6
                    have HK := hide (HVz.out.app (v1 := [.slice pa xs.length pc]) 1 rfl o6 g6 (fun q hq => (q6 q hq).1))
                    have HWb := hide (HVz.out.bel.grown g6 (Nat.le_of_lt HVz.out.lt) (fun q hq => by have := (q6 q hq).1; omega))
                    clear o6 g6 q6
                    refine hK.out _ _ (HCL.out _ HWb.out) (fun hHeld => ?_)
                    clear hK K
                    simp only [Act.put, List.setIfInBounds_toArray]
                    refine wpAnyH_take (i := 16) (v := ?_) rfl (by kernel_rfl) (by kernel_rfl) (by kernel_rfl) (fun _ _ _ h => h) (Or.inl ⟨by rfl, ?_⟩) (by assumption) ?_
                    rotate_left
                    · intro w' hSw
                      try dsimp only at hSw
                      go_simp; try rfl
                    simp only [List.getElem_toArray, List.getElem_cons_succ, List.getElem_cons_zero, Act.put, List.setIfInBounds_toArray, List.set_cons_zero, List.set_cons_succ]
                    refine wpAnyH_ready (rs := [17]) (by kernel_rfl) (by simp) (AllReadyH.cons rfl (fun K hK => ?_) AllReadyH.nil)
                    have f9 := (box_of HK.out.1).1 1 _ rfl
                    have z9 := (box_of HK.out.1).2 1
                    refine step_store1 (by kernel_rfl) (by kernel_rfl) 35 _ _ rfl (w.heap.size + 1 + 1 + 1 + 1) 1 (.slice (some ⟨g9, 0, none⟩) (ys.length + 1) c9) (by kernel_rfl) (by kernel_rfl) rfl _ f9 z9 (by kernel_rfl) ?_
                    clear f9 z9
                    refine hK.out _ _ (HCL.out _ HK.out.2.bel) (fun hHeld => ?_)
                    clear hK K
                    try simp only [Act.put, List.setIfInBounds_toArray, List.set_cons_zero, List.set_cons_succ]
                    refine wpAnyH_done (by kernel_rfl) ?_ _
                    go_wp2_with fail
                    exact ⟨⟨ys ++ [J], some ⟨g9, 0, none⟩, c9, by simp; omega, by first | go_num | (simp; go_num) | (simp; done), hide (by rw [List.length_append, List.flatMap_append]; simpa using HK.out.2), hide (by rw [List.length_append, List.length_singleton, HJ.out, ← HQ.out])⟩, by simp [intOf]; omega⟩
              · have hjn : ys.length = a.st.length := by omega
                have HX1 : Hid (ys = joinE x.k a.st b.st) := hide (by have h := HQ.out; rw [hjn, List.take_length, HE1.out, List.take_length] at h; exact h)
                clear HQ
                clear hjn hj
                have E3r := hide ((HL.out.block _ (Array.getElem?_eq_some_iff.1 E3.out).1).trans E3.out)
                have HBr := hide (HB.out.trans (HL.out.mono HB.out.size))
                have f0 := (box_of HV9.out.box).1 0 _ rfl
                have f1 := (box_of HV9.out.box).1 1 _ rfl
                have f2 := (box_of HV9.out.box).1 2 _ rfl
                have g0 := (box_of E3r.out).1 0 _ rfl
                have g1 := (box_of E3r.out).1 1 _ rfl
                have g2 := (box_of E3r.out).1 2 _ rfl
                have gz := (box_of E3r.out).2
                obtain ⟨hv, hc⟩ := HV3.out HE0.out HE1.out HEh.out
                have HF := hide hv
                have HC := hide hc
                clear hv hc HV1 HV2 HV3
                go_wp2
                refine bodyPost_ret (v := .tuple #[.agg #[.slice pa xs.length pc, .slice pb ys.length pd, .int .i64 a.h], .int .i64 0]) (results_ct Try.results13 _ _ _ rfl (loadFl (putN3 E3r.out _ _ _))) rfl ?_
                rw [HF.out, HC.out, ← HXL.out, ← HX1.out]
                refine ⟨_, _, rfl, ?_, ((HBr.out.setCell (by simp <;> omega) _).setCell (by simp <;> omega) _).setCell (by simp <;> omega) _⟩
                exact ((HV9.out.own.same (fun q hq _ _ => by rw [heap_setCell_other _ _ _ _ (by simp <;> omega), heap_setCell_other _ _ _ _ (by simp <;> omega), heap_setCell_other _ _ _ _ (by simp <;> omega)])).mono (by omega)).up (by simp)
      · have k3' : (a.h != b.h) = true := by simp [k3]
        go_enter Try.func13, Try.ntmps13
        go_upto_region 1 with fail
        generalize ((((w.alloc (.cells #[.slice a1 x.k.length c1] 33)).alloc (.cells #[.slice a2 a.lo.length c2, .slice a3 a.st.length c3, .int .i64 a.h] 37)).alloc (.cells #[.slice a4 b.lo.length c4, .slice a5 b.st.length c5, .int .i64 b.h] 37)).alloc (.cells #[.slice none 0 0, .slice none 0 0, .int .i64 0] 37)) = W at *
        go_wp2
        refine bodyPost_ret (v := .tuple #[.agg #[.slice none 0 0, .slice none 0 0, .int .i64 0], .int .i64 4]) (results_ct Try.results13 _ _ _ rfl (loadFl (putN3 E3.out _ _ _))) rfl ?_
        obtain ⟨hv, hc⟩ := HV2.out HE0.out HE1.out k3
        rw [hv, hc]
        refine ⟨_, _, rfl, ownFl0 _ _ _ ?_, ((HB.out.setCell (by simp <;> omega) _).setCell (by simp <;> omega) _).setCell (by simp <;> omega) _⟩
        have hs9 := HB.out.size
        simpa using hs9
    · have k2' : ((a.st.length : Int) != (b.st.length : Int)) = true := by simp; omega
      go_enter Try.func13, Try.ntmps13
      go_upto_region 1 with fail
      generalize ((((w.alloc (.cells #[.slice a1 x.k.length c1] 33)).alloc (.cells #[.slice a2 a.lo.length c2, .slice a3 a.st.length c3, .int .i64 a.h] 37)).alloc (.cells #[.slice a4 b.lo.length c4, .slice a5 b.st.length c5, .int .i64 b.h] 37)).alloc (.cells #[.slice none 0 0, .slice none 0 0, .int .i64 0] 37)) = W at *
      go_wp2
      refine bodyPost_ret (v := .tuple #[.agg #[.slice none 0 0, .slice none 0 0, .int .i64 0], .int .i64 1]) (results_ct Try.results13 _ _ _ rfl (loadFl (putN3 E3.out _ _ _))) rfl ?_
      obtain ⟨hv, hc⟩ := HV1.out (fun g => k2 g.2)
      rw [hv, hc]
      refine ⟨_, _, rfl, ownFl0 _ _ _ ?_, ((HB.out.setCell (by simp <;> omega) _).setCell (by simp <;> omega) _).setCell (by simp <;> omega) _⟩
      have hs9 := HB.out.size
      simpa using hs9
  · have k1' : ((a.lo.length : Int) != (b.lo.length : Int)) = true := by simp; omega
    go_enter Try.func13, Try.ntmps13
    go_upto_region 1 with fail
    generalize ((((w.alloc (.cells #[.slice a1 x.k.length c1] 33)).alloc (.cells #[.slice a2 a.lo.length c2, .slice a3 a.st.length c3, .int .i64 a.h] 37)).alloc (.cells #[.slice a4 b.lo.length c4, .slice a5 b.st.length c5, .int .i64 b.h] 37)).alloc (.cells #[.slice none 0 0, .slice none 0 0, .int .i64 0] 37)) = W at *
    go_wp2
    refine bodyPost_ret (v := .tuple #[.agg #[.slice none 0 0, .slice none 0 0, .int .i64 0], .int .i64 1]) (results_ct Try.results13 _ _ _ rfl (loadFl (putN3 E3.out _ _ _))) rfl ?_
    obtain ⟨hv, hc⟩ := HV1.out (fun g => k1 g.1)
    rw [hv, hc]
    refine ⟨_, _, rfl, ownFl0 _ _ _ ?_, ((HB.out.setCell (by simp <;> omega) _).setCell (by simp <;> omega) _).setCell (by simp <;> omega) _⟩
    have hs9 := HB.out.size
    simpa using hs9
end Go.Proofs.Ytobomcfiincpoaa
