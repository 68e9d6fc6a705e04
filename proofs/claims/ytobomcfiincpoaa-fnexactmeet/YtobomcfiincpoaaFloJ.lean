/-
  Meet in the program.
-/
import Derived.Test.YtobomcfiincpoaaFloM
import Derived.Test.YtobomcfiincpoaaTypI
import Derived.Test.YtobomcfiincpoaaBldV
namespace Go.Proofs.Ytobomcfiincpoaa
open Go.RowKit

set_option maxRecDepth 100000 in
set_option maxHeartbeats 8000000 in
theorem joinEachI (w : World) (x : Pg) (u : Value) (a b : List Ty) (v1 v2 : Value) (h : Reads w w.heap.size (kins x.k) u) (h1 : Reads w w.heap.size (tys a) v1) (h2 : Reads w w.heap.size (tys b) v2) (hg : kinsG x.k) (hl : a.length = b.length) (hl1 : a.length ≤ 1048576) :
    Calls Try.prog 31 #[pgV x u, v1, v2] w fun e w' => rowP w w' (tys (joinE x.k a b)) e := by
  have HR := hide h
  have A1 := hide h1
  have B1 := hide h2
  have HG := hide hg
  have HE0 := hide hl
  obtain ⟨a1, c1, e1, _⟩ := h.shape
  obtain ⟨a2, c2, e2, _⟩ := h1.shape
  obtain ⟨a3, c3, e3, _⟩ := h2.shape
  subst e1 e2 e3
  have hlb : b.length ≤ 1048576 := by omega
  clear h h1 h2 hg hl
  have bA := ((Below.refl w.heap.size w).alloc (Nat.le_refl _) (.cells #[.slice a1 x.k.length c1] 33))
  have G0 := heap_alloc_new w (.cells #[.slice a1 x.k.length c1] 33)
  have E0 := hide (G0)
  have HB := hide bA
  replace HR := hide (HR.out.at bA)
  replace A1 := hide (A1.out.at bA)
  replace B1 := hide (B1.out.at bA)
  clear bA G0
  obtain ⟨i0, hi, hz0, hz1, hz2⟩ := info_parts Try.infoTy
  have HI := hide (And.intro hi (And.intro hz0 (And.intro hz1 hz2)))
  clear hi hz0 hz1 hz2
  unfold pgV
  go_enter Try.func31, Try.ntmps31
  go_wp2
  generalize (w.alloc (.cells #[.slice a1 x.k.length c1] 33)) = W at *
  have hwW : w.heap.size ≤ W.heap.size := HB.out.size
  go_loopw [7, 12] (fun out i wr => ∃ (xs : List Ty) (pa : Option Addr) (pc : Nat), xs.length ≤ a.length ∧ out = .slice pa xs.length pc ∧ i = .int .i64 (xs.length : Int) ∧ Hid (OwnDL wr W.heap.size wr.heap.size [.row 51 2 xs.length (xs.flatMap tyD)] [.slice pa xs.length pc]) ∧ Hid (Below W.heap.size W wr) ∧ Hid (xs = joinE x.k (a.take xs.length) (b.take xs.length))) (fun _ i _ => a.length - (intOf i).toNat)
  case atStart => exact ⟨[], none, 0, Nat.zero_le _, rfl, rfl, hide (OwnDL.cons (m := W.heap.size) (ownD_nil _ _ _ _ _) (ownDL_nil _ _ _) (Nat.le_refl _) (Nat.le_refl _)), hide (Below.refl _ _), hide (by simp [joinE])⟩
  case round =>
    obtain ⟨xs, pa, pc, hj, rfl, rfl, HO, HL, HQ⟩ := hrel
    by_cases hlt : xs.length < a.length
    · obtain ⟨a', cap', ea, hcap, _, hc⟩ := type_at A1.out
      cases ea
      obtain ⟨b1, o1, rfl, hbb1, hcell⟩ := hc (by omega)
      obtain ⟨d0, d1⟩ := hcell xs.length hlt
      clear hcell hc
      have hltb : xs.length < b.length := by have := HE0.out; omega
      obtain ⟨a', cap', ea, hcap', _, hc⟩ := type_at B1.out
      cases ea
      obtain ⟨b2, o2, rfl, hbb2, hcell⟩ := hc (by omega)
      obtain ⟨d2, d3⟩ := hcell xs.length hltb
      clear hcell hc
      have HJ := hide (joinE_step x.k a b xs.length hlt hltb)
      obtain ⟨ya, hy⟩ : ∃ y, a.getD xs.length default = y := ⟨_, rfl⟩
      obtain ⟨yb, hy'⟩ : ∃ y, b.getD xs.length default = y := ⟨_, rfl⟩
      rw [hy] at d0 d1 HJ
      rw [hy'] at d2 d3 HJ
      clear hy hy'
      have hltI : (xs.length : Int) < (b.length : Int) := by omega
      replace d0 := (HL.out.cell (p := ⟨b1, o1 + xs.length * 2, none⟩) hbb1).trans d0
      replace d1 := (HL.out.cell (p := ⟨b1, o1 + xs.length * 2 + 1, none⟩) hbb1).trans d1
      go_upto_region 5 with fail
      clear d0 d1 hbb1
      have b9 := (Below.refl wr.heap.size wr).alloc (Nat.le_refl _) (.cells #[.int .i64 ya.k, .int .i64 ya.c] 51)
      have HG9 := hide (heap_alloc_new wr (.cells #[.int .i64 ya.k, .int .i64 ya.c] 51))
      have hgs : wr.heap.size + 1 ≤ (wr.alloc (.cells #[.int .i64 ya.k, .int .i64 ya.c] 51)).heap.size := by simp
      replace HL := hide (HL.out.trans (b9.mono HL.out.size))
      replace HO := hide (HO.out.below b9)
      clear b9
      generalize wr.alloc (.cells #[.int .i64 ya.k, .int .i64 ya.c] 51) = W5 at *
      obtain ⟨g, hgg⟩ : ∃ g, wr.heap.size = g := ⟨_, rfl⟩
      rw [hgg] at HG9 ⊢
      have hgw : wr.heap.size ≤ g := Nat.le_of_eq hgg
      clear hgg
      have HCL : Hid (∀ w', Below W.heap.size W w' → w'.heap[g]? = some (.cells #[.int .i64 ya.k, .int .i64 ya.c] 51 (0, 0)) → w'.cell? ⟨w.heap.size, 0, none⟩ = some (.slice a1 x.k.length c1) ∧ w'.cell? ⟨g, 0, none⟩ = some (.int .i64 ya.k) ∧ w'.cell? ⟨g, 1, none⟩ = some (.int .i64 ya.c) ∧ w'.cell? ⟨b2, o2 + xs.length * 2, none⟩ = some (.int .i64 yb.k) ∧ w'.cell? ⟨b2, o2 + xs.length * 2 + 1, none⟩ = some (.int .i64 yb.c)) := hide (fun w' hb hg => ⟨(box_of ((hb.block _ (Array.getElem?_eq_some_iff.1 E0.out).1).trans E0.out)).1 0 _ rfl, (box_of hg).1 0 _ rfl, (box_of hg).1 1 _ rfl, (hb.cell (p := ⟨b2, o2 + xs.length * 2, none⟩) hbb2).trans d2, (hb.cell (p := ⟨b2, o2 + xs.length * 2 + 1, none⟩) hbb2).trans d3⟩)
      have hdr := (Below.refl W5.heap.size W5).drew
      replace HL := hide (HL.out.trans (hdr.mono HL.out.size))
      replace HG9 := hide ((hdr.block _ (Array.getElem?_eq_some_iff.1 HG9.out).1).trans HG9.out)
      replace HO := hide (HO.out.below hdr)
      replace hgs := Nat.le_trans hgs hdr.size
      clear d2 d3 hbb2 hdr
      refine wp_region_held_drew (S := fun w' => w'.cell? ⟨w.heap.size, 0, none⟩ = some (.slice a1 x.k.length c1) ∧ w'.cell? ⟨g, 0, none⟩ = some (.int .i64 ya.k) ∧ w'.cell? ⟨g, 1, none⟩ = some (.int .i64 ya.c) ∧ w'.cell? ⟨b2, o2 + xs.length * 2, none⟩ = some (.int .i64 yb.k) ∧ w'.cell? ⟨b2, o2 + xs.length * 2 + 1, none⟩ = some (.int .i64 yb.c)) (by kernel_rfl) (HCL.out _ HL.out HG9.out) (fun hHeld => ?_)
      generalize W5.drew = Z0 at *
      refine wpAnyH_take (i := 0) (v := ?_) rfl (by kernel_rfl) (by kernel_rfl) (by kernel_rfl) (fun _ _ _ h => h) (Or.inl ⟨by rfl, ?_⟩) (by assumption) ?_
      rotate_left
      · intro w' hSw
        try dsimp only at hSw
        go_simp; try rfl
      simp only [List.getElem_toArray, List.getElem_cons_zero, Act.put, List.setIfInBounds_toArray, List.set_cons_zero, List.set_cons_succ]
      refine wpAnyH_take (i := 1) (v := ?_) rfl (by kernel_rfl) (by kernel_rfl) (by kernel_rfl) (fun _ _ _ h => h) (Or.inl ⟨by rfl, ?_⟩) (by assumption) ?_
      rotate_left
      · intro w' hSw
        try dsimp only at hSw
        go_simp; try rfl
      simp only [List.getElem_toArray, List.getElem_cons_succ, List.getElem_cons_zero, Act.put, List.setIfInBounds_toArray, List.set_cons_zero, List.set_cons_succ]
      refine wpAnyH_take (i := 2) (v := ?_) rfl (by kernel_rfl) (by kernel_rfl) (by kernel_rfl) (fun _ _ _ h => h) (Or.inl ⟨by rfl, ?_⟩) (by assumption) ?_
      rotate_left
      · intro w' hSw
        try dsimp only at hSw
        go_simp; try rfl
      simp only [List.getElem_toArray, List.getElem_cons_succ, List.getElem_cons_zero, Act.put, List.setIfInBounds_toArray, List.set_cons_zero, List.set_cons_succ]
      refine wpAnyH_take (i := 3) (v := ?_) rfl (by kernel_rfl) (by kernel_rfl) (by kernel_rfl) (fun _ _ _ h => h) (Or.inl ⟨by rfl, ?_⟩) (by assumption) ?_
      rotate_left
      · intro w' hSw
        try dsimp only at hSw
        go_simp; try rfl
      simp only [List.getElem_toArray, List.getElem_cons_succ, List.getElem_cons_zero, Act.put, List.setIfInBounds_toArray, List.set_cons_zero, List.set_cons_succ]
      refine wpAnyH_take (i := 4) (v := ?_) rfl (by kernel_rfl) (by kernel_rfl) (by kernel_rfl) (fun _ _ _ h => h) (Or.inl ⟨by rfl, ?_⟩) (by assumption) ?_
      rotate_left
      · intro w' hSw
        try dsimp only at hSw
        go_simp; try rfl
      simp only [List.getElem_toArray, List.getElem_cons_succ, List.getElem_cons_zero, Act.put, List.setIfInBounds_toArray, List.set_cons_zero, List.set_cons_succ]
      refine wpAnyH_take (i := 5) (v := ?_) rfl (by kernel_rfl) (by kernel_rfl) (by kernel_rfl) (fun _ _ _ h => h) (Or.inl ⟨by rfl, ?_⟩) (by assumption) ?_
      rotate_left
      · intro w' hSw
        try dsimp only at hSw
        go_simp; try rfl
      simp only [List.getElem_toArray, List.getElem_cons_succ, List.getElem_cons_zero, Act.put, List.setIfInBounds_toArray, List.set_cons_zero, List.set_cons_succ]
      refine wpAnyH_take (i := 6) (v := ?_) rfl (by kernel_rfl) (by kernel_rfl) (by kernel_rfl) (fun _ _ _ h => h) (Or.inl ⟨by rfl, ?_⟩) (by assumption) ?_
      rotate_left
      · intro w' hSw
        try dsimp only at hSw
        go_simp; try rfl
      simp only [List.getElem_toArray, List.getElem_cons_succ, List.getElem_cons_zero, Act.put, List.setIfInBounds_toArray, List.set_cons_zero, List.set_cons_succ]
      refine wpAnyH_ready (rs := [7]) (by kernel_rfl) (by simp) (AllReadyH.cons rfl (fun K hK => ?_) AllReadyH.nil)
      refine step_callW (some 24) (by kernel_rfl) (by kernel_rfl) 43 _ _ rfl #[.agg #[.slice a1 x.k.length c1], .agg #[.int .i64 ya.k, .int .i64 ya.c], .agg #[.int .i64 yb.k, .int .i64 yb.c]] (by kernel_rfl) (joinI _ x _ ya yb (HR.out.at HL.out) HG.out) ?_
      rintro e Z1 ⟨rfl, b9⟩
      generalize joinX x.k ya yb = J at *
      unfold tyV
      replace HL := hide (HL.out.trans (b9.mono HL.out.size))
      replace HG9 := hide ((b9.block _ (Array.getElem?_eq_some_iff.1 HG9.out).1).trans HG9.out)
      replace HO := hide (HO.out.below b9)
      replace hgs := Nat.le_trans hgs b9.size
      clear b9
      refine ⟨_, rfl, ?_⟩
      refine hK.out _ _ (HCL.out _ HL.out HG9.out) (fun hHeld => ?_)
      clear hK K
      simp only [Act.put, List.setIfInBounds_toArray, List.set_cons_zero, List.set_cons_succ]
      refine wpAnyH_ready (rs := [8]) (by kernel_rfl) (by simp) (AllReadyH.cons rfl (fun K hK => ?_) AllReadyH.nil)
      refine step_runX (some 25) (by kernel_rfl) (by kernel_rfl) (v := .slice (some ⟨Z1.heap.size, 0, none⟩) 1 1) (w' := Z1.alloc (.cells #[.int .i64 J.k, .int .i64 J.c] 51)) (by go_simp; try rfl) ?_
      have b9 := (Below.refl Z1.heap.size Z1).alloc (Nat.le_refl _) (.cells #[.int .i64 J.k, .int .i64 J.c] 51)
      replace HL := hide (HL.out.trans (b9.mono HL.out.size))
      replace HG9 := hide ((b9.block _ (Array.getElem?_eq_some_iff.1 HG9.out).1).trans HG9.out)
      replace HO := hide (HO.out.below b9)
      replace hgs := Nat.le_trans hgs b9.size
      clear b9
      have HBx := hide (Box.new Z1 #[.int .i64 J.k, .int .i64 J.c] 51)
      refine hK.out _ _ (HCL.out _ HL.out HG9.out) (fun hHeld => ?_)
      clear hK K
      simp only [Act.put, List.setIfInBounds_toArray, List.set_cons_zero, List.set_cons_succ]
      generalize Z1.alloc (.cells #[.int .i64 J.k, .int .i64 J.c] 51) = Z2 at *
      generalize Z1.heap.size = gB at *
      refine wpAnyH_ready (rs := [9]) (by kernel_rfl) (by simp) (AllReadyH.cons rfl (fun K hK => ?_) AllReadyH.nil)
      have HDs : Hid (OwnDL Z2 Z2.heap.size Z2.heap.size (tyD J) [.int .i64 J.k, .int .i64 J.c]) := hide (OwnDL.val (OwnDL.val (ownDL_nil _ _ _)))
      refine step_appL (by kernel_rfl) _ _ 35 rfl W.heap.size wr.heap.size Z2.heap.size 51 i0 (.agg #[.int .i64 0, .int .i64 0]) 2 16 Try.underlying35 HI.out.1 HI.out.2.1 HI.out.2.2.1 HI.out.2.2.2 rfl (by decide) (.slice pa xs.length pc) xs.length (xs.flatMap tyD) [] [] [] [] (by kernel_rfl) HO.out rfl gB 1 [.int .i64 J.k, .int .i64 J.c] (tyD J) (by kernel_rfl) HBx.out HDs.out rfl (by simp [Value.oneCell']) (by omega) (by decide) (by omega) HL.out.size (Nat.le_refl _) ?_
      intro g9 c9 Z3 o6 g6 q6
      have HGn := hide ((g6.block g (Array.getElem?_eq_some_iff.1 HG9.out).1 (fun e => by have := (q6 g e.symm).2; omega)).trans HG9.out)
      have HLn := hide (HL.out.grown g6 HL.out.size (fun q hq => (q6 q hq).1))
      have HOn := hide o6
      clear o6 g6 q6
      refine hK.out _ _ (HCL.out _ HLn.out HGn.out) (fun hHeld => ?_)
      clear hK K
      simp only [Act.put, List.setIfInBounds_toArray]
      refine wpAnyH_take (i := 10) (v := ?_) rfl (by kernel_rfl) (by kernel_rfl) (by kernel_rfl) (fun _ _ _ h => h) (Or.inl ⟨by rfl, ?_⟩) (by assumption) ?_
      rotate_left
      · intro w' hSw
        try dsimp only at hSw
        go_simp; try rfl
      simp only [List.getElem_toArray, List.getElem_cons_succ, List.getElem_cons_zero, Act.put, List.setIfInBounds_toArray, List.set_cons_zero, List.set_cons_succ]
      refine wpAnyH_done (by kernel_rfl) ?_ _
      go_wp2_with fail
      exact ⟨⟨xs ++ [J], some ⟨g9, 0, none⟩, c9, by simp; omega, by simp, by first | go_num | (simp; go_num) | (simp; done), hide (by rw [List.length_append, List.flatMap_append]; simpa using HOn.out), HLn, hide (by rw [List.length_append, List.length_singleton, HJ.out, ← HQ.out])⟩, by simp [intOf]; omega⟩
    · have hjn : xs.length = a.length := by omega
      have HX : Hid (xs = joinE x.k a b) := hide (by have h := HQ.out; rw [hjn, List.take_length, HE0.out, List.take_length] at h; exact h)
      clear HQ hjn hj
      go_wp2
      go_ret
      rw [← HX.out]
      exact ⟨_, rfl, ((OwnDL.mid (c1 := []) (v1 := []) HO.out rfl).mono hwW).up (Nat.le_refl _), HB.out.trans (HL.out.mono hwW)⟩
set_option maxRecDepth 100000 in
set_option maxHeartbeats 8000000 in
theorem meetI (w : World) (x : Pg) (u : Value) (a b : Fl) (ua1 ua2 ub1 ub2 : Value) (h : Reads w w.heap.size (kins x.k) u) (ha1 : Reads w w.heap.size (tys a.lo) ua1) (ha2 : Reads w w.heap.size (tys a.st) ua2) (hb1 : Reads w w.heap.size (tys b.lo) ub1) (hb2 : Reads w w.heap.size (tys b.st) ub2) (hg : kinsG x.k) (hga : FlG a) (hgb : FlG b) :
    Calls Try.prog 14 #[pgV x u, flV a ua1 ua2, flV b ub1 ub2] w fun e w' => flP w w' (meetF x.k a b) (.int .i64 (meetC a b)) e := by
  have HR := hide h
  have A1 := hide ha1
  have A2 := hide ha2
  have B1 := hide hb1
  have B2 := hide hb2
  have HG := hide hg
  have hl1 := hga.lo.1
  have hl2 := hga.st.1
  have hl3 := hgb.lo.1
  have hl4 := hgb.st.1
  obtain ⟨a1, c1, e1, _⟩ := h.shape
  obtain ⟨a2, c2, e2, _⟩ := ha1.shape
  obtain ⟨a3, c3, e3, _⟩ := ha2.shape
  obtain ⟨a4, c4, e4, _⟩ := hb1.shape
  obtain ⟨a5, c5, e5, _⟩ := hb2.shape
  subst e1 e2 e3 e4 e5
  clear h ha1 ha2 hb1 hb2 hg hga hgb
  have HV1 : Hid (¬ (a.lo.length = b.lo.length ∧ a.st.length = b.st.length) → meetF x.k a b = ⟨[], [], 0⟩ ∧ meetC a b = 1) := hide (fun h => by unfold meetF meetC; rw [if_neg (fun g => h ⟨g.1, g.2.1⟩), if_neg h]; exact ⟨rfl, rfl⟩)
  have HV2 : Hid (a.lo.length = b.lo.length → a.st.length = b.st.length → ¬ a.h = b.h → meetF x.k a b = ⟨[], [], 0⟩ ∧ meetC a b = 4) := hide (fun h1 h2 h => by unfold meetF meetC; rw [if_neg (fun g => h g.2.2), if_pos ⟨h1, h2⟩, if_neg h]; exact ⟨rfl, rfl⟩)
  have HV3 : Hid (a.lo.length = b.lo.length → a.st.length = b.st.length → a.h = b.h → meetF x.k a b = ⟨joinE x.k a.lo b.lo, joinE x.k a.st b.st, a.h⟩ ∧ meetC a b = 0) := hide (fun h1 h2 h => by unfold meetF meetC; rw [if_pos ⟨h1, h2, h⟩, if_pos ⟨h1, h2⟩, if_pos h]; exact ⟨rfl, rfl⟩)
  generalize meetF x.k a b = V at *
  generalize meetC a b = C at *
  have bA := (((((Below.refl w.heap.size w).alloc (Nat.le_refl _) (.cells #[.slice a1 x.k.length c1] 33)).alloc (by simp) (.cells #[.slice a2 a.lo.length c2, .slice a3 a.st.length c3, .int .i64 a.h] 37)).alloc (by simp <;> omega) (.cells #[.slice a4 b.lo.length c4, .slice a5 b.st.length c5, .int .i64 b.h] 37)).alloc (by simp <;> omega) (.cells #[.slice none 0 0, .slice none 0 0, .int .i64 0] 37))
  have G0 := heap_alloc_new w (.cells #[.slice a1 x.k.length c1] 33)
  have G1 := heap_alloc_new (w.alloc (.cells #[.slice a1 x.k.length c1] 33)) (.cells #[.slice a2 a.lo.length c2, .slice a3 a.st.length c3, .int .i64 a.h] 37)
  have G2 := heap_alloc_new ((w.alloc (.cells #[.slice a1 x.k.length c1] 33)).alloc (.cells #[.slice a2 a.lo.length c2, .slice a3 a.st.length c3, .int .i64 a.h] 37)) (.cells #[.slice a4 b.lo.length c4, .slice a5 b.st.length c5, .int .i64 b.h] 37)
  have G3 := heap_alloc_new (((w.alloc (.cells #[.slice a1 x.k.length c1] 33)).alloc (.cells #[.slice a2 a.lo.length c2, .slice a3 a.st.length c3, .int .i64 a.h] 37)).alloc (.cells #[.slice a4 b.lo.length c4, .slice a5 b.st.length c5, .int .i64 b.h] 37)) (.cells #[.slice none 0 0, .slice none 0 0, .int .i64 0] 37)
  simp only [World.size_alloc] at G1 G2 G3
  have E0 := hide ((Below.heap_alloc _ (.cells #[.slice none 0 0, .slice none 0 0, .int .i64 0] 37) _ (by simp <;> omega)).trans ((Below.heap_alloc _ (.cells #[.slice a4 b.lo.length c4, .slice a5 b.st.length c5, .int .i64 b.h] 37) _ (by simp <;> omega)).trans ((Below.heap_alloc _ (.cells #[.slice a2 a.lo.length c2, .slice a3 a.st.length c3, .int .i64 a.h] 37) _ (by simp)).trans (G0))))
  have E1 := hide ((Below.heap_alloc _ (.cells #[.slice none 0 0, .slice none 0 0, .int .i64 0] 37) _ (by simp <;> omega)).trans ((Below.heap_alloc _ (.cells #[.slice a4 b.lo.length c4, .slice a5 b.st.length c5, .int .i64 b.h] 37) _ (by simp)).trans (G1)))
  have E2 := hide ((Below.heap_alloc _ (.cells #[.slice none 0 0, .slice none 0 0, .int .i64 0] 37) _ (by simp)).trans (G2))
  have E3 := hide (G3)
  have HB := hide bA
  replace HR := hide (HR.out.at bA)
  replace A1 := hide (A1.out.at bA)
  replace A2 := hide (A2.out.at bA)
  replace B1 := hide (B1.out.at bA)
  replace B2 := hide (B2.out.at bA)
  clear bA G0 G1 G2 G3
  unfold pgV flV
  have q0 := (box_of E1.out).1 0 _ rfl
  have q1 := (box_of E1.out).1 1 _ rfl
  have q2 := (box_of E1.out).1 2 _ rfl
  have r0 := (box_of E2.out).1 0 _ rfl
  have r1 := (box_of E2.out).1 1 _ rfl
  have r2 := (box_of E2.out).1 2 _ rfl
  have s0 := (box_of E3.out).1 0 _ rfl
  have s1 := (box_of E3.out).1 1 _ rfl
  have s2 := (box_of E3.out).1 2 _ rfl
  have sz := (box_of E3.out).2
  go_enter Try.func14, Try.ntmps14
  go_upto_region 1 with fail
  generalize ((((w.alloc (.cells #[.slice a1 x.k.length c1] 33)).alloc (.cells #[.slice a2 a.lo.length c2, .slice a3 a.st.length c3, .int .i64 a.h] 37)).alloc (.cells #[.slice a4 b.lo.length c4, .slice a5 b.st.length c5, .int .i64 b.h] 37)).alloc (.cells #[.slice none 0 0, .slice none 0 0, .int .i64 0] 37)) = W at *
  by_cases k1 : a.lo.length = b.lo.length
  · have HE0 := hide k1
    have k1' : ((a.lo.length : Int) != (b.lo.length : Int)) = false := by simp [k1]
    clear k1
    by_cases k2 : a.st.length = b.st.length
    · have HE1 := hide k2
      have k2' : ((a.st.length : Int) != (b.st.length : Int)) = false := by simp [k2]
      clear k2
      by_cases k3 : a.h = b.h
      · have HEh := hide k3
        have k3' : (a.h != b.h) = false := by simp [k3]
        clear k3
        go_upto_region 5 with fail
        clear q0 q1 q2 r0 r1 r2 s0 s1 s2 sz k1' k2' k3'
        have HCL : Hid (∀ w', Below (w.heap.size + 1 + 1 + 1) W w' → w'.cell? ⟨w.heap.size, 0, none⟩ = some (.slice a1 x.k.length c1) ∧ w'.cell? ⟨w.heap.size + 1, 0, none⟩ = some (.slice a2 a.lo.length c2) ∧ w'.cell? ⟨w.heap.size + 1, 1, none⟩ = some (.slice a3 a.st.length c3) ∧ w'.cell? ⟨w.heap.size + 1, 2, none⟩ = some (.int .i64 a.h) ∧ w'.cell? ⟨w.heap.size + 1 + 1, 0, none⟩ = some (.slice a4 b.lo.length c4) ∧ w'.cell? ⟨w.heap.size + 1 + 1, 1, none⟩ = some (.slice a5 b.st.length c5)) := hide (fun w' hb => ⟨(box_of ((hb.block _ (by omega)).trans E0.out)).1 0 _ rfl, (box_of ((hb.block _ (by omega)).trans E1.out)).1 0 _ rfl, (box_of ((hb.block _ (by omega)).trans E1.out)).1 1 _ rfl, (box_of ((hb.block _ (by omega)).trans E1.out)).1 2 _ rfl, (box_of ((hb.block _ (by omega)).trans E2.out)).1 0 _ rfl, (box_of ((hb.block _ (by omega)).trans E2.out)).1 1 _ rfl⟩)
        have HW : Hid (Below W.heap.size W W.drew) := hide (Below.refl W.heap.size W).drew
        have hW4 : w.heap.size + 1 + 1 + 1 < W.heap.size := (Array.getElem?_eq_some_iff.1 E3.out).1
        have hW3 : w.heap.size + 1 + 1 + 1 ≤ W.heap.size := Nat.le_of_lt hW4
        refine wp_region_held_drew (S := fun w' => w'.cell? ⟨w.heap.size, 0, none⟩ = some (.slice a1 x.k.length c1) ∧ w'.cell? ⟨w.heap.size + 1, 0, none⟩ = some (.slice a2 a.lo.length c2) ∧ w'.cell? ⟨w.heap.size + 1, 1, none⟩ = some (.slice a3 a.st.length c3) ∧ w'.cell? ⟨w.heap.size + 1, 2, none⟩ = some (.int .i64 a.h) ∧ w'.cell? ⟨w.heap.size + 1 + 1, 0, none⟩ = some (.slice a4 b.lo.length c4) ∧ w'.cell? ⟨w.heap.size + 1 + 1, 1, none⟩ = some (.slice a5 b.st.length c5)) (by kernel_rfl) (HCL.out _ (HW.out.mono hW3)) (fun hHeld => ?_)
        generalize W.drew = Z0 at *
        refine wpAnyH_take (i := 0) (v := ?_) rfl (by kernel_rfl) (by kernel_rfl) (by kernel_rfl) (fun _ _ _ h => h) (Or.inl ⟨by rfl, ?_⟩) (by assumption) ?_
        rotate_left
        · intro w' hSw
          try dsimp only at hSw
          go_simp; try rfl
        simp only [List.getElem_toArray, List.getElem_cons_zero, Act.put, List.setIfInBounds_toArray, List.set_cons_zero, List.set_cons_succ]
        refine wpAnyH_take (i := 1) (v := ?_) rfl (by kernel_rfl) (by kernel_rfl) (by kernel_rfl) (fun _ _ _ h => h) (Or.inl ⟨by rfl, ?_⟩) (by assumption) ?_
        rotate_left
        · intro w' hSw
          try dsimp only at hSw
          go_simp; try rfl
        simp only [List.getElem_toArray, List.getElem_cons_succ, List.getElem_cons_zero, Act.put, List.setIfInBounds_toArray, List.set_cons_zero, List.set_cons_succ]
        refine wpAnyH_take (i := 2) (v := ?_) rfl (by kernel_rfl) (by kernel_rfl) (by kernel_rfl) (fun _ _ _ h => h) (Or.inl ⟨by rfl, ?_⟩) (by assumption) ?_
        rotate_left
        · intro w' hSw
          try dsimp only at hSw
          go_simp; try rfl
        simp only [List.getElem_toArray, List.getElem_cons_succ, List.getElem_cons_zero, Act.put, List.setIfInBounds_toArray, List.set_cons_zero, List.set_cons_succ]
        refine wpAnyH_take (i := 3) (v := ?_) rfl (by kernel_rfl) (by kernel_rfl) (by kernel_rfl) (fun _ _ _ h => h) (Or.inl ⟨by rfl, ?_⟩) (by assumption) ?_
        rotate_left
        · intro w' hSw
          try dsimp only at hSw
          go_simp; try rfl
        simp only [List.getElem_toArray, List.getElem_cons_succ, List.getElem_cons_zero, Act.put, List.setIfInBounds_toArray, List.set_cons_zero, List.set_cons_succ]
        refine wpAnyH_take (i := 4) (v := ?_) rfl (by kernel_rfl) (by kernel_rfl) (by kernel_rfl) (fun _ _ _ h => h) (Or.inl ⟨by rfl, ?_⟩) (by assumption) ?_
        rotate_left
        · intro w' hSw
          try dsimp only at hSw
          go_simp; try rfl
        simp only [List.getElem_toArray, List.getElem_cons_succ, List.getElem_cons_zero, Act.put, List.setIfInBounds_toArray, List.set_cons_zero, List.set_cons_succ]
        refine wpAnyH_take (i := 6) (v := ?_) rfl (by kernel_rfl) (by kernel_rfl) (by kernel_rfl) (fun _ _ _ h => h) (Or.inl ⟨by rfl, ?_⟩) (by assumption) ?_
        rotate_left
        · intro w' hSw
          try dsimp only at hSw
          go_simp; try rfl
        simp only [List.getElem_toArray, List.getElem_cons_succ, List.getElem_cons_zero, Act.put, List.setIfInBounds_toArray, List.set_cons_zero, List.set_cons_succ]
        refine wpAnyH_take (i := 7) (v := ?_) rfl (by kernel_rfl) (by kernel_rfl) (by kernel_rfl) (fun _ _ _ h => h) (Or.inl ⟨by rfl, ?_⟩) (by assumption) ?_
        rotate_left
        · intro w' hSw
          try dsimp only at hSw
          go_simp; try rfl
        simp only [List.getElem_toArray, List.getElem_cons_succ, List.getElem_cons_zero, Act.put, List.setIfInBounds_toArray, List.set_cons_zero, List.set_cons_succ]
        refine wpAnyH_take (i := 8) (v := ?_) rfl (by kernel_rfl) (by kernel_rfl) (by kernel_rfl) (fun _ _ _ h => h) (Or.inl ⟨by rfl, ?_⟩) (by assumption) ?_
        rotate_left
        · intro w' hSw
          try dsimp only at hSw
          go_simp; try rfl
        simp only [List.getElem_toArray, List.getElem_cons_succ, List.getElem_cons_zero, Act.put, List.setIfInBounds_toArray, List.set_cons_zero, List.set_cons_succ]
        refine wpAnyH_take (i := 9) (v := ?_) rfl (by kernel_rfl) (by kernel_rfl) (by kernel_rfl) (fun _ _ _ h => h) (Or.inl ⟨by rfl, ?_⟩) (by assumption) ?_
        rotate_left
        · intro w' hSw
          try dsimp only at hSw
          go_simp; try rfl
        simp only [List.getElem_toArray, List.getElem_cons_succ, List.getElem_cons_zero, Act.put, List.setIfInBounds_toArray, List.set_cons_zero, List.set_cons_succ]
        refine wpAnyH_take (i := 10) (v := ?_) rfl (by kernel_rfl) (by kernel_rfl) (by kernel_rfl) (fun _ _ _ h => h) (Or.inl ⟨by rfl, ?_⟩) (by assumption) ?_
        rotate_left
        · intro w' hSw
          try dsimp only at hSw
          go_simp; try rfl
        simp only [List.getElem_toArray, List.getElem_cons_succ, List.getElem_cons_zero, Act.put, List.setIfInBounds_toArray, List.set_cons_zero, List.set_cons_succ]
        refine wpAnyH_take (i := 12) (v := ?_) rfl (by kernel_rfl) (by kernel_rfl) (by kernel_rfl) (fun _ _ _ h => h) (Or.inl ⟨by rfl, ?_⟩) (by assumption) ?_
        rotate_left
        · intro w' hSw
          try dsimp only at hSw
          go_simp; try rfl
        simp only [List.getElem_toArray, List.getElem_cons_succ, List.getElem_cons_zero, Act.put, List.setIfInBounds_toArray, List.set_cons_zero, List.set_cons_succ]
        refine wpAnyH_take (i := 13) (v := ?_) rfl (by kernel_rfl) (by kernel_rfl) (by kernel_rfl) (fun _ _ _ h => h) (Or.inl ⟨by rfl, ?_⟩) (by assumption) ?_
        rotate_left
        · intro w' hSw
          try dsimp only at hSw
          go_simp; try rfl
        simp only [List.getElem_toArray, List.getElem_cons_succ, List.getElem_cons_zero, Act.put, List.setIfInBounds_toArray, List.set_cons_zero, List.set_cons_succ]
        refine wpAnyH_ready (rs := [5]) (by kernel_rfl) (by simp) (AllReadyH.cons rfl (fun K hK => ?_) AllReadyH.nil)
        refine step_callW (some 38) (by kernel_rfl) (by kernel_rfl) 31 _ _ rfl #[.agg #[.slice a1 x.k.length c1], .slice a2 a.lo.length c2, .slice a4 b.lo.length c4] (by kernel_rfl) (joinEachI _ x _ a.lo b.lo _ _ (HR.out.at HW.out) (A1.out.at HW.out) (B1.out.at HW.out) HG.out HE0.out hl1) ?_
        rintro e Z1 ⟨rlo, rfl, o9, b9⟩
        obtain ⟨pl, ql, el⟩ := o9.shape
        subst el
        have OL := hide o9
        have hzl := HW.out.size
        replace HW := hide (HW.out.trans (b9.mono HW.out.size))
        have hz1 := b9.size
        clear o9 b9
        refine ⟨_, rfl, ?_⟩
        refine hK.out _ _ (HCL.out _ (HW.out.mono hW3)) (fun hHeld => ?_)
        clear hK K
        simp only [Act.put, List.setIfInBounds_toArray, List.set_cons_zero, List.set_cons_succ]
        refine wpAnyH_ready (rs := [11]) (by kernel_rfl) (by simp) (AllReadyH.cons rfl (fun K hK => ?_) AllReadyH.nil)
        refine step_callW (some 44) (by kernel_rfl) (by kernel_rfl) 31 _ _ rfl #[.agg #[.slice a1 x.k.length c1], .slice a3 a.st.length c3, .slice a5 b.st.length c5] (by kernel_rfl) (joinEachI _ x _ a.st b.st _ _ (HR.out.at HW.out) (A2.out.at HW.out) (B2.out.at HW.out) HG.out HE1.out hl2) ?_
        rintro e Z2 ⟨rst, rfl, o9, b9⟩
        obtain ⟨ps, qs, es⟩ := o9.shape
        subst es
        have OS := hide o9
        replace OL := hide (OL.out.below b9)
        replace HW := hide (HW.out.trans (b9.mono HW.out.size))
        have hz2 := b9.size
        clear o9 b9
        refine ⟨_, rfl, ?_⟩
        refine hK.out _ _ (HCL.out _ (HW.out.mono hW3)) (fun hHeld => ?_)
        clear hK K
        simp only [Act.put, List.setIfInBounds_toArray, List.set_cons_zero, List.set_cons_succ]
        refine wpAnyH_take (i := 14) (v := ?_) rfl (by kernel_rfl) (by kernel_rfl) (by kernel_rfl) (fun _ _ _ h => h) (Or.inl ⟨by rfl, ?_⟩) (by assumption) ?_
        rotate_left
        · intro w' hSw
          try dsimp only at hSw
          go_simp; try rfl
        simp only [List.getElem_toArray, List.getElem_cons_succ, List.getElem_cons_zero, Act.put, List.setIfInBounds_toArray, List.set_cons_zero, List.set_cons_succ]
        refine wpAnyH_ready (rs := [15]) (by kernel_rfl) (by simp) (AllReadyH.cons rfl (fun K hK => ?_) AllReadyH.nil)
        have GA := hide ((HW.out.block _ (Array.getElem?_eq_some_iff.1 E3.out).1).trans E3.out)
        refine step_storeX (by kernel_rfl) (by kernel_rfl) 37 _ _ rfl (w.heap.size + 1 + 1 + 1) #[.slice pl (joinE x.k a.lo b.lo).length ql, .slice ps (joinE x.k a.st b.st).length qs, .int .i64 a.h] (by kernel_rfl) (by kernel_rfl) _ _ GA.out (by kernel_rfl) (by rfl) (by simp [Value.oneCell']) ?_
        have GB := hide (setRow_heap Z2 (w.heap.size + 1 + 1 + 1) _ #[.slice pl (joinE x.k a.lo b.lo).length ql, .slice ps (joinE x.k a.st b.st).length qs, .int .i64 a.h] _ _ GA.out)
        have HB2 := hide (below_setRow (g := w.heap.size + 1 + 1 + 1) (HB.out.trans (HW.out.mono HB.out.size)) (by omega) #[.slice pl (joinE x.k a.lo b.lo).length ql, .slice ps (joinE x.k a.st b.st).length qs, .int .i64 a.h])
        have HB3 := hide (below_setRow (g := w.heap.size + 1 + 1 + 1) (HW.out.mono hW3) (Nat.le_refl _) #[.slice pl (joinE x.k a.lo b.lo).length ql, .slice ps (joinE x.k a.st b.st).length qs, .int .i64 a.h])
        refine hK.out _ _ (HCL.out _ HB3.out) (fun hHeld => ?_)
        clear hK K
        try simp only [Act.put, List.setIfInBounds_toArray, List.set_cons_zero, List.set_cons_succ]
        refine wpAnyH_take (i := 16) (v := ?_) rfl (by kernel_rfl) (by kernel_rfl) (by kernel_rfl) (fun _ _ _ h => h) (Or.inl ⟨by rfl, ?_⟩) (by assumption) ?_
        rotate_left
        · intro w' hSw
          try dsimp only at hSw
          go_simp; try rfl
        simp only [List.getElem_toArray, List.getElem_cons_succ, List.getElem_cons_zero, Act.put, List.setIfInBounds_toArray, List.set_cons_zero, List.set_cons_succ]
        refine wpAnyH_done (by kernel_rfl) ?_ _
        go_wp2_with fail
        refine bodyPost_ret (v := .tuple #[.agg #[.slice pl (joinE x.k a.lo b.lo).length ql, .slice ps (joinE x.k a.st b.st).length qs, .int .i64 a.h], .int .i64 0]) (results_ct Try.results14 _ _ _ rfl (loadFl GB.out)) rfl ?_
        obtain ⟨hv, hc⟩ := HV3.out HE0.out HE1.out HEh.out
        rw [hv, hc]
        refine ⟨_, _, rfl, ?_, HB2.out⟩
        have hB0 := HB.out.size
        refine (((OwnDL.cons (b := W.heap.size) (m := Z1.heap.size) (OL.out.mono (by omega)) (OwnDL.cons (m := Z2.heap.size) OS.out (OwnDL.val (ownDL_nil _ _ _)) hz2 (Nat.le_refl _)) (by omega) hz2).same (fun q hq hq2 _ => ?_)).mono hB0).up (by simp)
        exact setRow_other _ _ _ _ (by omega)
      · have k3' : (a.h != b.h) = true := by simp [k3]
        go_wp2
        refine bodyPost_ret (v := .tuple #[.agg #[.slice none 0 0, .slice none 0 0, .int .i64 0], .int .i64 4]) (results_ct Try.results14 _ _ _ rfl (loadFl (putN3 E3.out _ _ _))) rfl ?_
        obtain ⟨hv, hc⟩ := HV2.out HE0.out HE1.out k3
        rw [hv, hc]
        refine ⟨_, _, rfl, ownFl0 _ _ _ ?_, ((HB.out.setCell (by simp <;> omega) _).setCell (by simp <;> omega) _).setCell (by simp <;> omega) _⟩
        have hs9 := HB.out.size
        simpa using hs9
    · have k2' : ((a.st.length : Int) != (b.st.length : Int)) = true := by simp; omega
      go_wp2
      refine bodyPost_ret (v := .tuple #[.agg #[.slice none 0 0, .slice none 0 0, .int .i64 0], .int .i64 1]) (results_ct Try.results14 _ _ _ rfl (loadFl (putN3 E3.out _ _ _))) rfl ?_
      obtain ⟨hv, hc⟩ := HV1.out (fun g => k2 g.2)
      rw [hv, hc]
      refine ⟨_, _, rfl, ownFl0 _ _ _ ?_, ((HB.out.setCell (by simp <;> omega) _).setCell (by simp <;> omega) _).setCell (by simp <;> omega) _⟩
      have hs9 := HB.out.size
      simpa using hs9
  · have k1' : ((a.lo.length : Int) != (b.lo.length : Int)) = true := by simp; omega
    go_wp2
    refine bodyPost_ret (v := .tuple #[.agg #[.slice none 0 0, .slice none 0 0, .int .i64 0], .int .i64 1]) (results_ct Try.results14 _ _ _ rfl (loadFl (putN3 E3.out _ _ _))) rfl ?_
    obtain ⟨hv, hc⟩ := HV1.out (fun g => k1 g.1)
    rw [hv, hc]
    refine ⟨_, _, rfl, ownFl0 _ _ _ ?_, ((HB.out.setCell (by simp <;> omega) _).setCell (by simp <;> omega) _).setCell (by simp <;> omega) _⟩
    have hs9 := HB.out.size
    simpa using hs9
end Go.Proofs.Ytobomcfiincpoaa
