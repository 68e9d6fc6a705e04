/-
  What is different, in the model.
-/
import Derived.Test.YtabeeppfgkeahaaDifM
import Derived.Test.YtabeeppfgkeahaaDeepL
import Derived.Test.YtabeeppfgkeahaaBldW
import Derived.Test.YtabeeppfgkeahaaStepX
import Derived.Deep.RegionHeld
namespace Go.Proofs.Ytabeeppfgkeahaa
open Go.RowKit

theorem cels_snoc (xs : List Cel) (y : Cel) : cels (xs ++ [y]) = .row 50 3 (xs.length + 1) (xs.flatMap celD ++ celD y) := by
  unfold cels
  rw [List.length_append, List.flatMap_append]
  simp
set_option maxRecDepth 100000 in
set_option maxHeartbeats 8000000 in
theorem diffS (w : World) (a b : List Vl) (v1 v2 : Value) (h1 : Reads w w.heap.size (vls a) v1) (h2 : Reads w w.heap.size (vls b) v2) (ha : vlsG a) (hb : vlsG b) :
    Calls Try.prog 8 #[v1, v2] w fun e w' => rowP w w' (cels (difX a b)) e := by
  have H1 := hide h1
  have H2 := hide h2
  have hla := ha.1
  have hlb := hb.1
  obtain ⟨a1, c1, e1, _⟩ := h1.shape
  obtain ⟨a2, c2, e2, _⟩ := h2.shape
  subst e1 e2
  clear h1 h2
  obtain ⟨i0, hi, hz0, hz1, hz2⟩ := info_parts Try.infoCel
  have HI := hide (And.intro hi (And.intro hz0 (And.intro hz1 hz2)))
  clear hi hz0 hz1 hz2
  have HO := hide (ownD_zero w 50 3)
  have HBX := hide ((Below.refl w.heap.size w).alloc (Nat.le_refl _) (.cells #[] 50))
  have hbX := HBX.out.size
  go_enter Try.func8, Try.ntmps8
  go_upto_region 2 with fail
  obtain ⟨gA, hgA⟩ : ∃ g, w.heap.size = g := ⟨_, rfl⟩
  rw [hgA] at HO hbX ⊢
  have HGA := hide hgA
  clear hgA
  generalize w.alloc (.cells #[] 50) = W1 at *
  by_cases hc : a.length = b.length ∧ a.length ≤ 8
  · obtain ⟨hc1, hc2⟩ := hc
    have HV : Hid (difX a b = difN a b a.length) := hide (if_pos ⟨hc1, hc2⟩)
    have heq : ((a.length : Int) == (b.length : Int)) = true := by rw [beq_iff_eq]; omega
    have hle : (a.length : Int) ≤ 8 := by omega
    have HC1 := hide hc1
    clear hc1
    go_wp2
    go_loopw [5, 6] (fun r i wr => ∃ (j : Nat) (ys : List Cel), j ≤ a.length ∧ Hid (ys = difN a b j) ∧ i = .int .i64 (j : Int) ∧ ∃ (va : Option Addr) (vc : Nat), r = .slice va ys.length vc ∧ Hid (OwnD wr gA wr.heap.size (cels ys) (.slice va ys.length vc)) ∧ Hid (Below gA W1 wr)) (fun _ i _ => a.length - (intOf i).toNat)
    case atStart => exact ⟨0, [], Nat.zero_le _, hide rfl, rfl, _, _, rfl, HO, hide (Below.refl _ _)⟩
    case round =>
      clear HO
      obtain ⟨j, ys, hj, HYS, rfl, va, vc, rfl, HO, HL⟩ := hrel
      have HBr : Hid (Below w.heap.size w wr) := hide (HBX.out.trans (HL.out.mono (by have := HGA.out; omega)))
      have hgw : gA ≤ wr.heap.size := Nat.le_trans (by omega) HL.out.size
      have hyl : ys.length ≤ 1048576 := by
        have h1 := difN_len a b j
        rw [← HYS.out] at h1
        omega
      by_cases hlt : j < a.length
      · have hltb : j < b.length := by have := HC1.out; omega
        have hltI : (j : Int) < (a.length : Int) := by omega
        have hltbI : (j : Int) < (b.length : Int) := by omega
        obtain ⟨_, _, ea, _, _, hcv⟩ := val_at (H1.out.at HBr.out)
        cases ea
        obtain ⟨b1, o1, rfl, hb1, hcell1⟩ := hcv (by omega)
        obtain ⟨_, _, eb, _, _, hcw⟩ := val_at (H2.out.at HBr.out)
        cases eb
        obtain ⟨b2, o2, rfl, hb2, hcell2⟩ := hcw (by omega)
        obtain ⟨d0, d1⟩ := hcell1 j hlt
        obtain ⟨f0, f1⟩ := hcell2 j hltb
        clear hcell1 hcell2 hcv hcw
        have HS2 : Hid (difN a b (j + 1) = difN a b j ++ (if eqB (a.getD j default) (b.getD j default) = true then [] else [Cel.mk (j : Int) (b.getD j default).r (b.getD j default).n])) := hide rfl
        obtain ⟨x, hx⟩ : ∃ x, a.getD j default = x := ⟨_, rfl⟩
        obtain ⟨y, hy⟩ : ∃ y, b.getD j default = y := ⟨_, rfl⟩
        rw [hx] at d0 d1 HS2
        rw [hy] at f0 f1 HS2
        clear hx hy
        cases er : (x.r == y.r) <;> cases en : (x.n == y.n)
        · go_upto_region 5 with fail
          have HS : Hid (∀ w', Below wr.heap.size wr w' → w'.cell? ⟨b1, o1 + j * 2, none⟩ = some (.bool x.r) ∧ w'.cell? ⟨b1, o1 + j * 2 + 1, none⟩ = some (.int .i64 x.n) ∧ w'.cell? ⟨b2, o2 + j * 2, none⟩ = some (.bool y.r) ∧ w'.cell? ⟨b2, o2 + j * 2 + 1, none⟩ = some (.int .i64 y.n)) := hide (fun w' hb => ⟨(hb.cell (p := ⟨b1, o1 + j * 2, none⟩) hb1).trans d0, (hb.cell (p := ⟨b1, o1 + j * 2 + 1, none⟩) hb1).trans d1, (hb.cell (p := ⟨b2, o2 + j * 2, none⟩) hb2).trans f0, (hb.cell (p := ⟨b2, o2 + j * 2 + 1, none⟩) hb2).trans f1⟩)
          have HD : Hid (Below wr.heap.size wr wr.drew) := hide (Below.refl wr.heap.size wr).drew
          refine wp_region_held_drew (S := fun w' => w'.cell? ⟨b1, o1 + j * 2, none⟩ = some (.bool x.r) ∧ w'.cell? ⟨b1, o1 + j * 2 + 1, none⟩ = some (.int .i64 x.n) ∧ w'.cell? ⟨b2, o2 + j * 2, none⟩ = some (.bool y.r) ∧ w'.cell? ⟨b2, o2 + j * 2 + 1, none⟩ = some (.int .i64 y.n)) (by kernel_rfl) (HS.out _ HD.out) (fun hHeld => ?_)
          generalize wr.drew = x0 at HD hHeld ⊢
          refine wpAnyH_take (i := 0) (v := ?_) rfl (by kernel_rfl) (by kernel_rfl) (by kernel_rfl) (fun _ _ _ h => h) (Or.inl ⟨by rfl, ?_⟩) (by assumption) ?_
          rotate_left
          · intro w' hSw
            try dsimp only at hSw
            go_simp; try rfl
          simp only [List.getElem_toArray, List.getElem_cons_zero, Act.put, List.setIfInBounds_toArray, List.set_cons_zero, List.set_cons_succ]
          refine wpAnyH_take (i := 1) (v := ?_) rfl (by kernel_rfl) (by kernel_rfl) (by kernel_rfl) (fun _ _ _ h => h) (Or.inl ⟨by rfl, ?_⟩) (by assumption) ?_
          rotate_left
          · intro w' hSw
            try dsimp only at hSw
            go_simp; try rfl
          simp only [List.getElem_toArray, List.getElem_cons_succ, List.getElem_cons_zero, Act.put, List.setIfInBounds_toArray, List.set_cons_zero, List.set_cons_succ]
          refine wpAnyH_take (i := 2) (v := ?_) rfl (by kernel_rfl) (by kernel_rfl) (by kernel_rfl) (fun _ _ _ h => h) (Or.inl ⟨by rfl, ?_⟩) (by assumption) ?_
          rotate_left
          · intro w' hSw
            try dsimp only at hSw
            go_simp; try rfl
          simp only [List.getElem_toArray, List.getElem_cons_succ, List.getElem_cons_zero, Act.put, List.setIfInBounds_toArray, List.set_cons_zero, List.set_cons_succ]
          refine wpAnyH_take (i := 3) (v := ?_) rfl (by kernel_rfl) (by kernel_rfl) (by kernel_rfl) (fun _ _ _ h => h) (Or.inl ⟨by rfl, ?_⟩) (by assumption) ?_
          rotate_left
          · intro w' hSw
            try dsimp only at hSw
            go_simp; try rfl
          simp only [List.getElem_toArray, List.getElem_cons_succ, List.getElem_cons_zero, Act.put, List.setIfInBounds_toArray, List.set_cons_zero, List.set_cons_succ]
          refine wpAnyH_take (i := 4) (v := ?_) rfl (by kernel_rfl) (by kernel_rfl) (by kernel_rfl) (fun _ _ _ h => h) (Or.inl ⟨by rfl, ?_⟩) (by assumption) ?_
          rotate_left
          · intro w' hSw
            try dsimp only at hSw
            go_simp; try rfl
          simp only [List.getElem_toArray, List.getElem_cons_succ, List.getElem_cons_zero, Act.put, List.setIfInBounds_toArray, List.set_cons_zero, List.set_cons_succ]
          refine wpAnyH_take (i := 5) (v := ?_) rfl (by kernel_rfl) (by kernel_rfl) (by kernel_rfl) (fun _ _ _ h => h) (Or.inl ⟨by rfl, ?_⟩) (by assumption) ?_
          rotate_left
          · intro w' hSw
            try dsimp only at hSw
            go_simp; try rfl
          simp only [List.getElem_toArray, List.getElem_cons_succ, List.getElem_cons_zero, Act.put, List.setIfInBounds_toArray, List.set_cons_zero, List.set_cons_succ]
          refine wpAnyH_take (i := 6) (v := ?_) rfl (by kernel_rfl) (by kernel_rfl) (by kernel_rfl) (fun _ _ _ h => h) (Or.inl ⟨by rfl, ?_⟩) (by assumption) ?_
          rotate_left
          · intro w' hSw
            try dsimp only at hSw
            go_simp; try rfl
          simp only [List.getElem_toArray, List.getElem_cons_succ, List.getElem_cons_zero, Act.put, List.setIfInBounds_toArray, List.set_cons_zero, List.set_cons_succ]
          refine wpAnyH_take (i := 7) (v := ?_) rfl (by kernel_rfl) (by kernel_rfl) (by kernel_rfl) (fun _ _ _ h => h) (Or.inl ⟨by rfl, ?_⟩) (by assumption) ?_
          rotate_left
          · intro w' hSw
            try dsimp only at hSw
            go_simp; try rfl
          simp only [List.getElem_toArray, List.getElem_cons_succ, List.getElem_cons_zero, Act.put, List.setIfInBounds_toArray, List.set_cons_zero, List.set_cons_succ]
          refine wpAnyH_take (i := 8) (v := ?_) rfl (by kernel_rfl) (by kernel_rfl) (by kernel_rfl) (fun _ _ _ h => h) (Or.inl ⟨by rfl, ?_⟩) (by assumption) ?_
          rotate_left
          · intro w' hSw
            try dsimp only at hSw
            go_simp; try rfl
          simp only [List.getElem_toArray, List.getElem_cons_succ, List.getElem_cons_zero, Act.put, List.setIfInBounds_toArray, List.set_cons_zero, List.set_cons_succ]
          refine wpAnyH_done (by kernel_rfl) ?_ _
          have hbs := HD.out.size
          have HY2 : Hid (difN a b (j + 1) = ys ++ [Cel.mk (j : Int) y.r y.n]) := hide (by rw [HS2.out, HYS.out]; unfold eqB; rw [er, en]; rfl)
          replace HO := hide (HO.out.below HD.out)
          replace HL := hide (HL.out.trans (HD.out.mono hgw))
          have g0 := (HD.out.cell (p := ⟨b2, o2 + j * 2, none⟩) hb2).trans f0
          have g1 := (HD.out.cell (p := ⟨b2, o2 + j * 2 + 1, none⟩) hb2).trans f1
          clear HS HD hHeld d0 d1 f0 f1 HYS HS2
          have HXa := hide ((Below.refl x0.heap.size x0).alloc (Nat.le_refl _) (.cells #[.int .i64 (j : Int), .bool y.r, .int .i64 y.n] 50))
          have hsX := HXa.out.size
          have hown := hide (OwnDL.cons ((HO.out.up hbs).below HXa.out) (ownDL_nil _ x0.heap.size x0.heap.size) (by omega) (Nat.le_refl _))
          have hbx := hide (box_of (heap_alloc_new x0 (.cells #[.int .i64 (j : Int), .bool y.r, .int .i64 y.n] 50))).1
          have HLx := hide (HL.out.trans (HXa.out.mono (by omega)))
          go_wp2_with (first
            | (at_builtin; refine appL rfl _ _ 24 rfl gA x0.heap.size x0.heap.size 50 i0 (.agg #[.int .i64 0, .bool false, .int .i64 0]) 3 24 Try.underlying24 HI.out.1 HI.out.2.1 HI.out.2.2.1 HI.out.2.2.2 rfl (by decide) (.slice va ys.length vc) ys.length (ys.flatMap celD) [] [] [] [] rfl hown.out rfl _ _ [.int .i64 (j : Int), .bool y.r, .int .i64 y.n] (celD (Cel.mk (j : Int) y.r y.n)) rfl hbx.out (ownDL_vals _ _ _ [.int .i64 (j : Int), .bool y.r, .int .i64 y.n]) rfl (by simp [Value.oneCell']) (by omega) (by decide) (Nat.le_refl _) (by omega) (by omega) ?_; intro g9 vc9 w9 o9 gr9 hq9; have HO9 := hide (OwnDL.mid (c1 := []) (v1 := []) o9 rfl); have HB9 := hide (HLx.out.grown gr9 (by omega) (fun q hq => (hq9 q hq).1)); clear o9 gr9 hq9)
            | fail)
          refine ⟨⟨j + 1, ys ++ [Cel.mk (j : Int) y.r y.n], by omega, hide HY2.out.symm, by go_num, some ⟨g9, 0, none⟩, vc9, ?_, hide ?_, HB9⟩, ?_⟩
          · rw [List.length_append]; rfl
          · rw [cels_snoc, List.length_append]
            exact HO9.out
          · simp [intOf]; omega
        · go_upto_region 5 with fail
          have HS : Hid (∀ w', Below wr.heap.size wr w' → w'.cell? ⟨b1, o1 + j * 2, none⟩ = some (.bool x.r) ∧ w'.cell? ⟨b1, o1 + j * 2 + 1, none⟩ = some (.int .i64 x.n) ∧ w'.cell? ⟨b2, o2 + j * 2, none⟩ = some (.bool y.r) ∧ w'.cell? ⟨b2, o2 + j * 2 + 1, none⟩ = some (.int .i64 y.n)) := hide (fun w' hb => ⟨(hb.cell (p := ⟨b1, o1 + j * 2, none⟩) hb1).trans d0, (hb.cell (p := ⟨b1, o1 + j * 2 + 1, none⟩) hb1).trans d1, (hb.cell (p := ⟨b2, o2 + j * 2, none⟩) hb2).trans f0, (hb.cell (p := ⟨b2, o2 + j * 2 + 1, none⟩) hb2).trans f1⟩)
          have HD : Hid (Below wr.heap.size wr wr.drew) := hide (Below.refl wr.heap.size wr).drew
          refine wp_region_held_drew (S := fun w' => w'.cell? ⟨b1, o1 + j * 2, none⟩ = some (.bool x.r) ∧ w'.cell? ⟨b1, o1 + j * 2 + 1, none⟩ = some (.int .i64 x.n) ∧ w'.cell? ⟨b2, o2 + j * 2, none⟩ = some (.bool y.r) ∧ w'.cell? ⟨b2, o2 + j * 2 + 1, none⟩ = some (.int .i64 y.n)) (by kernel_rfl) (HS.out _ HD.out) (fun hHeld => ?_)
          generalize wr.drew = x0 at HD hHeld ⊢
          refine wpAnyH_take (i := 0) (v := ?_) rfl (by kernel_rfl) (by kernel_rfl) (by kernel_rfl) (fun _ _ _ h => h) (Or.inl ⟨by rfl, ?_⟩) (by assumption) ?_
          rotate_left
          · intro w' hSw
            try dsimp only at hSw
            go_simp; try rfl
          simp only [List.getElem_toArray, List.getElem_cons_zero, Act.put, List.setIfInBounds_toArray, List.set_cons_zero, List.set_cons_succ]
          refine wpAnyH_take (i := 1) (v := ?_) rfl (by kernel_rfl) (by kernel_rfl) (by kernel_rfl) (fun _ _ _ h => h) (Or.inl ⟨by rfl, ?_⟩) (by assumption) ?_
          rotate_left
          · intro w' hSw
            try dsimp only at hSw
            go_simp; try rfl
          simp only [List.getElem_toArray, List.getElem_cons_succ, List.getElem_cons_zero, Act.put, List.setIfInBounds_toArray, List.set_cons_zero, List.set_cons_succ]
          refine wpAnyH_take (i := 2) (v := ?_) rfl (by kernel_rfl) (by kernel_rfl) (by kernel_rfl) (fun _ _ _ h => h) (Or.inl ⟨by rfl, ?_⟩) (by assumption) ?_
          rotate_left
          · intro w' hSw
            try dsimp only at hSw
            go_simp; try rfl
          simp only [List.getElem_toArray, List.getElem_cons_succ, List.getElem_cons_zero, Act.put, List.setIfInBounds_toArray, List.set_cons_zero, List.set_cons_succ]
          refine wpAnyH_take (i := 3) (v := ?_) rfl (by kernel_rfl) (by kernel_rfl) (by kernel_rfl) (fun _ _ _ h => h) (Or.inl ⟨by rfl, ?_⟩) (by assumption) ?_
          rotate_left
          · intro w' hSw
            try dsimp only at hSw
            go_simp; try rfl
          simp only [List.getElem_toArray, List.getElem_cons_succ, List.getElem_cons_zero, Act.put, List.setIfInBounds_toArray, List.set_cons_zero, List.set_cons_succ]
          refine wpAnyH_take (i := 4) (v := ?_) rfl (by kernel_rfl) (by kernel_rfl) (by kernel_rfl) (fun _ _ _ h => h) (Or.inl ⟨by rfl, ?_⟩) (by assumption) ?_
          rotate_left
          · intro w' hSw
            try dsimp only at hSw
            go_simp; try rfl
          simp only [List.getElem_toArray, List.getElem_cons_succ, List.getElem_cons_zero, Act.put, List.setIfInBounds_toArray, List.set_cons_zero, List.set_cons_succ]
          refine wpAnyH_take (i := 5) (v := ?_) rfl (by kernel_rfl) (by kernel_rfl) (by kernel_rfl) (fun _ _ _ h => h) (Or.inl ⟨by rfl, ?_⟩) (by assumption) ?_
          rotate_left
          · intro w' hSw
            try dsimp only at hSw
            go_simp; try rfl
          simp only [List.getElem_toArray, List.getElem_cons_succ, List.getElem_cons_zero, Act.put, List.setIfInBounds_toArray, List.set_cons_zero, List.set_cons_succ]
          refine wpAnyH_take (i := 6) (v := ?_) rfl (by kernel_rfl) (by kernel_rfl) (by kernel_rfl) (fun _ _ _ h => h) (Or.inl ⟨by rfl, ?_⟩) (by assumption) ?_
          rotate_left
          · intro w' hSw
            try dsimp only at hSw
            go_simp; try rfl
          simp only [List.getElem_toArray, List.getElem_cons_succ, List.getElem_cons_zero, Act.put, List.setIfInBounds_toArray, List.set_cons_zero, List.set_cons_succ]
          refine wpAnyH_take (i := 7) (v := ?_) rfl (by kernel_rfl) (by kernel_rfl) (by kernel_rfl) (fun _ _ _ h => h) (Or.inl ⟨by rfl, ?_⟩) (by assumption) ?_
          rotate_left
          · intro w' hSw
            try dsimp only at hSw
            go_simp; try rfl
          simp only [List.getElem_toArray, List.getElem_cons_succ, List.getElem_cons_zero, Act.put, List.setIfInBounds_toArray, List.set_cons_zero, List.set_cons_succ]
          refine wpAnyH_take (i := 8) (v := ?_) rfl (by kernel_rfl) (by kernel_rfl) (by kernel_rfl) (fun _ _ _ h => h) (Or.inl ⟨by rfl, ?_⟩) (by assumption) ?_
          rotate_left
          · intro w' hSw
            try dsimp only at hSw
            go_simp; try rfl
          simp only [List.getElem_toArray, List.getElem_cons_succ, List.getElem_cons_zero, Act.put, List.setIfInBounds_toArray, List.set_cons_zero, List.set_cons_succ]
          refine wpAnyH_done (by kernel_rfl) ?_ _
          have hbs := HD.out.size
          have HY2 : Hid (difN a b (j + 1) = ys ++ [Cel.mk (j : Int) y.r y.n]) := hide (by rw [HS2.out, HYS.out]; unfold eqB; rw [er, en]; rfl)
          replace HO := hide (HO.out.below HD.out)
          replace HL := hide (HL.out.trans (HD.out.mono hgw))
          have g0 := (HD.out.cell (p := ⟨b2, o2 + j * 2, none⟩) hb2).trans f0
          have g1 := (HD.out.cell (p := ⟨b2, o2 + j * 2 + 1, none⟩) hb2).trans f1
          clear HS HD hHeld d0 d1 f0 f1 HYS HS2
          have HXa := hide ((Below.refl x0.heap.size x0).alloc (Nat.le_refl _) (.cells #[.int .i64 (j : Int), .bool y.r, .int .i64 y.n] 50))
          have hsX := HXa.out.size
          have hown := hide (OwnDL.cons ((HO.out.up hbs).below HXa.out) (ownDL_nil _ x0.heap.size x0.heap.size) (by omega) (Nat.le_refl _))
          have hbx := hide (box_of (heap_alloc_new x0 (.cells #[.int .i64 (j : Int), .bool y.r, .int .i64 y.n] 50))).1
          have HLx := hide (HL.out.trans (HXa.out.mono (by omega)))
          go_wp2_with (first
            | (at_builtin; refine appL rfl _ _ 24 rfl gA x0.heap.size x0.heap.size 50 i0 (.agg #[.int .i64 0, .bool false, .int .i64 0]) 3 24 Try.underlying24 HI.out.1 HI.out.2.1 HI.out.2.2.1 HI.out.2.2.2 rfl (by decide) (.slice va ys.length vc) ys.length (ys.flatMap celD) [] [] [] [] rfl hown.out rfl _ _ [.int .i64 (j : Int), .bool y.r, .int .i64 y.n] (celD (Cel.mk (j : Int) y.r y.n)) rfl hbx.out (ownDL_vals _ _ _ [.int .i64 (j : Int), .bool y.r, .int .i64 y.n]) rfl (by simp [Value.oneCell']) (by omega) (by decide) (Nat.le_refl _) (by omega) (by omega) ?_; intro g9 vc9 w9 o9 gr9 hq9; have HO9 := hide (OwnDL.mid (c1 := []) (v1 := []) o9 rfl); have HB9 := hide (HLx.out.grown gr9 (by omega) (fun q hq => (hq9 q hq).1)); clear o9 gr9 hq9)
            | fail)
          refine ⟨⟨j + 1, ys ++ [Cel.mk (j : Int) y.r y.n], by omega, hide HY2.out.symm, by go_num, some ⟨g9, 0, none⟩, vc9, ?_, hide ?_, HB9⟩, ?_⟩
          · rw [List.length_append]; rfl
          · rw [cels_snoc, List.length_append]
            exact HO9.out
          · simp [intOf]; omega
        · go_upto_region 5 with fail
          have HS : Hid (∀ w', Below wr.heap.size wr w' → w'.cell? ⟨b1, o1 + j * 2, none⟩ = some (.bool x.r) ∧ w'.cell? ⟨b1, o1 + j * 2 + 1, none⟩ = some (.int .i64 x.n) ∧ w'.cell? ⟨b2, o2 + j * 2, none⟩ = some (.bool y.r) ∧ w'.cell? ⟨b2, o2 + j * 2 + 1, none⟩ = some (.int .i64 y.n)) := hide (fun w' hb => ⟨(hb.cell (p := ⟨b1, o1 + j * 2, none⟩) hb1).trans d0, (hb.cell (p := ⟨b1, o1 + j * 2 + 1, none⟩) hb1).trans d1, (hb.cell (p := ⟨b2, o2 + j * 2, none⟩) hb2).trans f0, (hb.cell (p := ⟨b2, o2 + j * 2 + 1, none⟩) hb2).trans f1⟩)
          have HD : Hid (Below wr.heap.size wr wr.drew) := hide (Below.refl wr.heap.size wr).drew
          refine wp_region_held_drew (S := fun w' => w'.cell? ⟨b1, o1 + j * 2, none⟩ = some (.bool x.r) ∧ w'.cell? ⟨b1, o1 + j * 2 + 1, none⟩ = some (.int .i64 x.n) ∧ w'.cell? ⟨b2, o2 + j * 2, none⟩ = some (.bool y.r) ∧ w'.cell? ⟨b2, o2 + j * 2 + 1, none⟩ = some (.int .i64 y.n)) (by kernel_rfl) (HS.out _ HD.out) (fun hHeld => ?_)
          generalize wr.drew = x0 at HD hHeld ⊢
          refine wpAnyH_take (i := 0) (v := ?_) rfl (by kernel_rfl) (by kernel_rfl) (by kernel_rfl) (fun _ _ _ h => h) (Or.inl ⟨by rfl, ?_⟩) (by assumption) ?_
          rotate_left
          · intro w' hSw
            try dsimp only at hSw
            go_simp; try rfl
          simp only [List.getElem_toArray, List.getElem_cons_zero, Act.put, List.setIfInBounds_toArray, List.set_cons_zero, List.set_cons_succ]
          refine wpAnyH_take (i := 1) (v := ?_) rfl (by kernel_rfl) (by kernel_rfl) (by kernel_rfl) (fun _ _ _ h => h) (Or.inl ⟨by rfl, ?_⟩) (by assumption) ?_
          rotate_left
          · intro w' hSw
            try dsimp only at hSw
            go_simp; try rfl
          simp only [List.getElem_toArray, List.getElem_cons_succ, List.getElem_cons_zero, Act.put, List.setIfInBounds_toArray, List.set_cons_zero, List.set_cons_succ]
          refine wpAnyH_take (i := 2) (v := ?_) rfl (by kernel_rfl) (by kernel_rfl) (by kernel_rfl) (fun _ _ _ h => h) (Or.inl ⟨by rfl, ?_⟩) (by assumption) ?_
          rotate_left
          · intro w' hSw
            try dsimp only at hSw
            go_simp; try rfl
          simp only [List.getElem_toArray, List.getElem_cons_succ, List.getElem_cons_zero, Act.put, List.setIfInBounds_toArray, List.set_cons_zero, List.set_cons_succ]
          refine wpAnyH_take (i := 3) (v := ?_) rfl (by kernel_rfl) (by kernel_rfl) (by kernel_rfl) (fun _ _ _ h => h) (Or.inl ⟨by rfl, ?_⟩) (by assumption) ?_
          rotate_left
          · intro w' hSw
            try dsimp only at hSw
            go_simp; try rfl
          simp only [List.getElem_toArray, List.getElem_cons_succ, List.getElem_cons_zero, Act.put, List.setIfInBounds_toArray, List.set_cons_zero, List.set_cons_succ]
          refine wpAnyH_take (i := 4) (v := ?_) rfl (by kernel_rfl) (by kernel_rfl) (by kernel_rfl) (fun _ _ _ h => h) (Or.inl ⟨by rfl, ?_⟩) (by assumption) ?_
          rotate_left
          · intro w' hSw
            try dsimp only at hSw
            go_simp; try rfl
          simp only [List.getElem_toArray, List.getElem_cons_succ, List.getElem_cons_zero, Act.put, List.setIfInBounds_toArray, List.set_cons_zero, List.set_cons_succ]
          refine wpAnyH_take (i := 5) (v := ?_) rfl (by kernel_rfl) (by kernel_rfl) (by kernel_rfl) (fun _ _ _ h => h) (Or.inl ⟨by rfl, ?_⟩) (by assumption) ?_
          rotate_left
          · intro w' hSw
            try dsimp only at hSw
            go_simp; try rfl
          simp only [List.getElem_toArray, List.getElem_cons_succ, List.getElem_cons_zero, Act.put, List.setIfInBounds_toArray, List.set_cons_zero, List.set_cons_succ]
          refine wpAnyH_take (i := 6) (v := ?_) rfl (by kernel_rfl) (by kernel_rfl) (by kernel_rfl) (fun _ _ _ h => h) (Or.inl ⟨by rfl, ?_⟩) (by assumption) ?_
          rotate_left
          · intro w' hSw
            try dsimp only at hSw
            go_simp; try rfl
          simp only [List.getElem_toArray, List.getElem_cons_succ, List.getElem_cons_zero, Act.put, List.setIfInBounds_toArray, List.set_cons_zero, List.set_cons_succ]
          refine wpAnyH_take (i := 7) (v := ?_) rfl (by kernel_rfl) (by kernel_rfl) (by kernel_rfl) (fun _ _ _ h => h) (Or.inl ⟨by rfl, ?_⟩) (by assumption) ?_
          rotate_left
          · intro w' hSw
            try dsimp only at hSw
            go_simp; try rfl
          simp only [List.getElem_toArray, List.getElem_cons_succ, List.getElem_cons_zero, Act.put, List.setIfInBounds_toArray, List.set_cons_zero, List.set_cons_succ]
          refine wpAnyH_take (i := 8) (v := ?_) rfl (by kernel_rfl) (by kernel_rfl) (by kernel_rfl) (fun _ _ _ h => h) (Or.inl ⟨by rfl, ?_⟩) (by assumption) ?_
          rotate_left
          · intro w' hSw
            try dsimp only at hSw
            go_simp; try rfl
          simp only [List.getElem_toArray, List.getElem_cons_succ, List.getElem_cons_zero, Act.put, List.setIfInBounds_toArray, List.set_cons_zero, List.set_cons_succ]
          refine wpAnyH_done (by kernel_rfl) ?_ _
          have hbs := HD.out.size
          have HY2 : Hid (difN a b (j + 1) = ys ++ [Cel.mk (j : Int) y.r y.n]) := hide (by rw [HS2.out, HYS.out]; unfold eqB; rw [er, en]; rfl)
          replace HO := hide (HO.out.below HD.out)
          replace HL := hide (HL.out.trans (HD.out.mono hgw))
          have g0 := (HD.out.cell (p := ⟨b2, o2 + j * 2, none⟩) hb2).trans f0
          have g1 := (HD.out.cell (p := ⟨b2, o2 + j * 2 + 1, none⟩) hb2).trans f1
          clear HS HD hHeld d0 d1 f0 f1 HYS HS2
          have HXa := hide ((Below.refl x0.heap.size x0).alloc (Nat.le_refl _) (.cells #[.int .i64 (j : Int), .bool y.r, .int .i64 y.n] 50))
          have hsX := HXa.out.size
          have hown := hide (OwnDL.cons ((HO.out.up hbs).below HXa.out) (ownDL_nil _ x0.heap.size x0.heap.size) (by omega) (Nat.le_refl _))
          have hbx := hide (box_of (heap_alloc_new x0 (.cells #[.int .i64 (j : Int), .bool y.r, .int .i64 y.n] 50))).1
          have HLx := hide (HL.out.trans (HXa.out.mono (by omega)))
          go_wp2_with (first
            | (at_builtin; refine appL rfl _ _ 24 rfl gA x0.heap.size x0.heap.size 50 i0 (.agg #[.int .i64 0, .bool false, .int .i64 0]) 3 24 Try.underlying24 HI.out.1 HI.out.2.1 HI.out.2.2.1 HI.out.2.2.2 rfl (by decide) (.slice va ys.length vc) ys.length (ys.flatMap celD) [] [] [] [] rfl hown.out rfl _ _ [.int .i64 (j : Int), .bool y.r, .int .i64 y.n] (celD (Cel.mk (j : Int) y.r y.n)) rfl hbx.out (ownDL_vals _ _ _ [.int .i64 (j : Int), .bool y.r, .int .i64 y.n]) rfl (by simp [Value.oneCell']) (by omega) (by decide) (Nat.le_refl _) (by omega) (by omega) ?_; intro g9 vc9 w9 o9 gr9 hq9; have HO9 := hide (OwnDL.mid (c1 := []) (v1 := []) o9 rfl); have HB9 := hide (HLx.out.grown gr9 (by omega) (fun q hq => (hq9 q hq).1)); clear o9 gr9 hq9)
            | fail)
          refine ⟨⟨j + 1, ys ++ [Cel.mk (j : Int) y.r y.n], by omega, hide HY2.out.symm, by go_num, some ⟨g9, 0, none⟩, vc9, ?_, hide ?_, HB9⟩, ?_⟩
          · rw [List.length_append]; rfl
          · rw [cels_snoc, List.length_append]
            exact HO9.out
          · simp [intOf]; omega
        · go_upto_region 5 with fail
          have HS : Hid (∀ w', Below wr.heap.size wr w' → w'.cell? ⟨b1, o1 + j * 2, none⟩ = some (.bool x.r) ∧ w'.cell? ⟨b1, o1 + j * 2 + 1, none⟩ = some (.int .i64 x.n) ∧ w'.cell? ⟨b2, o2 + j * 2, none⟩ = some (.bool y.r) ∧ w'.cell? ⟨b2, o2 + j * 2 + 1, none⟩ = some (.int .i64 y.n)) := hide (fun w' hb => ⟨(hb.cell (p := ⟨b1, o1 + j * 2, none⟩) hb1).trans d0, (hb.cell (p := ⟨b1, o1 + j * 2 + 1, none⟩) hb1).trans d1, (hb.cell (p := ⟨b2, o2 + j * 2, none⟩) hb2).trans f0, (hb.cell (p := ⟨b2, o2 + j * 2 + 1, none⟩) hb2).trans f1⟩)
          have HD : Hid (Below wr.heap.size wr wr.drew) := hide (Below.refl wr.heap.size wr).drew
          refine wp_region_held_drew (S := fun w' => w'.cell? ⟨b1, o1 + j * 2, none⟩ = some (.bool x.r) ∧ w'.cell? ⟨b1, o1 + j * 2 + 1, none⟩ = some (.int .i64 x.n) ∧ w'.cell? ⟨b2, o2 + j * 2, none⟩ = some (.bool y.r) ∧ w'.cell? ⟨b2, o2 + j * 2 + 1, none⟩ = some (.int .i64 y.n)) (by kernel_rfl) (HS.out _ HD.out) (fun hHeld => ?_)
          generalize wr.drew = x0 at HD hHeld ⊢
          refine wpAnyH_take (i := 0) (v := ?_) rfl (by kernel_rfl) (by kernel_rfl) (by kernel_rfl) (fun _ _ _ h => h) (Or.inl ⟨by rfl, ?_⟩) (by assumption) ?_
          rotate_left
          · intro w' hSw
            try dsimp only at hSw
            go_simp; try rfl
          simp only [List.getElem_toArray, List.getElem_cons_zero, Act.put, List.setIfInBounds_toArray, List.set_cons_zero, List.set_cons_succ]
          refine wpAnyH_take (i := 1) (v := ?_) rfl (by kernel_rfl) (by kernel_rfl) (by kernel_rfl) (fun _ _ _ h => h) (Or.inl ⟨by rfl, ?_⟩) (by assumption) ?_
          rotate_left
          · intro w' hSw
            try dsimp only at hSw
            go_simp; try rfl
          simp only [List.getElem_toArray, List.getElem_cons_succ, List.getElem_cons_zero, Act.put, List.setIfInBounds_toArray, List.set_cons_zero, List.set_cons_succ]
          refine wpAnyH_take (i := 2) (v := ?_) rfl (by kernel_rfl) (by kernel_rfl) (by kernel_rfl) (fun _ _ _ h => h) (Or.inl ⟨by rfl, ?_⟩) (by assumption) ?_
          rotate_left
          · intro w' hSw
            try dsimp only at hSw
            go_simp; try rfl
          simp only [List.getElem_toArray, List.getElem_cons_succ, List.getElem_cons_zero, Act.put, List.setIfInBounds_toArray, List.set_cons_zero, List.set_cons_succ]
          refine wpAnyH_take (i := 3) (v := ?_) rfl (by kernel_rfl) (by kernel_rfl) (by kernel_rfl) (fun _ _ _ h => h) (Or.inl ⟨by rfl, ?_⟩) (by assumption) ?_
          rotate_left
          · intro w' hSw
            try dsimp only at hSw
            go_simp; try rfl
          simp only [List.getElem_toArray, List.getElem_cons_succ, List.getElem_cons_zero, Act.put, List.setIfInBounds_toArray, List.set_cons_zero, List.set_cons_succ]
          refine wpAnyH_take (i := 4) (v := ?_) rfl (by kernel_rfl) (by kernel_rfl) (by kernel_rfl) (fun _ _ _ h => h) (Or.inl ⟨by rfl, ?_⟩) (by assumption) ?_
          rotate_left
          · intro w' hSw
            try dsimp only at hSw
            go_simp; try rfl
          simp only [List.getElem_toArray, List.getElem_cons_succ, List.getElem_cons_zero, Act.put, List.setIfInBounds_toArray, List.set_cons_zero, List.set_cons_succ]
          refine wpAnyH_take (i := 5) (v := ?_) rfl (by kernel_rfl) (by kernel_rfl) (by kernel_rfl) (fun _ _ _ h => h) (Or.inl ⟨by rfl, ?_⟩) (by assumption) ?_
          rotate_left
          · intro w' hSw
            try dsimp only at hSw
            go_simp; try rfl
          simp only [List.getElem_toArray, List.getElem_cons_succ, List.getElem_cons_zero, Act.put, List.setIfInBounds_toArray, List.set_cons_zero, List.set_cons_succ]
          refine wpAnyH_take (i := 6) (v := ?_) rfl (by kernel_rfl) (by kernel_rfl) (by kernel_rfl) (fun _ _ _ h => h) (Or.inl ⟨by rfl, ?_⟩) (by assumption) ?_
          rotate_left
          · intro w' hSw
            try dsimp only at hSw
            go_simp; try rfl
          simp only [List.getElem_toArray, List.getElem_cons_succ, List.getElem_cons_zero, Act.put, List.setIfInBounds_toArray, List.set_cons_zero, List.set_cons_succ]
          refine wpAnyH_take (i := 7) (v := ?_) rfl (by kernel_rfl) (by kernel_rfl) (by kernel_rfl) (fun _ _ _ h => h) (Or.inl ⟨by rfl, ?_⟩) (by assumption) ?_
          rotate_left
          · intro w' hSw
            try dsimp only at hSw
            go_simp; try rfl
          simp only [List.getElem_toArray, List.getElem_cons_succ, List.getElem_cons_zero, Act.put, List.setIfInBounds_toArray, List.set_cons_zero, List.set_cons_succ]
          refine wpAnyH_take (i := 8) (v := ?_) rfl (by kernel_rfl) (by kernel_rfl) (by kernel_rfl) (fun _ _ _ h => h) (Or.inl ⟨by rfl, ?_⟩) (by assumption) ?_
          rotate_left
          · intro w' hSw
            try dsimp only at hSw
            go_simp; try rfl
          simp only [List.getElem_toArray, List.getElem_cons_succ, List.getElem_cons_zero, Act.put, List.setIfInBounds_toArray, List.set_cons_zero, List.set_cons_succ]
          refine wpAnyH_done (by kernel_rfl) ?_ _
          have hbs := HD.out.size
          have HY2 : Hid (difN a b (j + 1) = ys) := hide (by rw [HS2.out, HYS.out]; unfold eqB; rw [er, en]; simp)
          replace HO := hide (HO.out.below HD.out)
          replace HL := hide (HL.out.trans (HD.out.mono hgw))
          clear HS HD hHeld d0 d1 f0 f1 HYS HS2
          go_wp2
          exact ⟨⟨j + 1, ys, by omega, hide HY2.out.symm, by go_num, va, vc, rfl, hide (HO.out.up hbs), HL⟩, by simp [intOf]; omega⟩
      · obtain rfl : j = a.length := by omega
        have hnI : ¬ (a.length : Int) < (a.length : Int) := by omega
        have HF : Hid (difX a b = ys) := hide (by rw [HV.out, HYS.out])
        go_wp2
        go_ret
        refine ⟨_, rfl, ?_, HBr.out⟩
        rw [HF.out]
        exact HO.out.mono (by have := HGA.out; omega)
  · have HV : Hid (difX a b = []) := hide (if_neg hc)
    go_wp2
    go_loopw [5, 6] (fun r i wr => r = .slice (some ⟨gA, 0, none⟩) 0 0 ∧ i = .int .i64 0 ∧ wr = W1) (fun _ _ _ => 0)
    case atStart => exact ⟨rfl, rfl, rfl⟩
    case round =>
      obtain ⟨rfl, rfl, rfl⟩ := hrel
      have HB2 : Hid (Below w.heap.size w wr) := HBX
      by_cases h0 : (0 : Int) < (a.length : Int)
      · cases heq : ((a.length : Int) == (b.length : Int)) with
        | false =>
          go_wp2
          go_ret
          refine ⟨_, rfl, ?_, HB2.out⟩
          rw [HV.out]
          exact HO.out.mono (by have := HGA.out; omega)
        | true =>
          have hle : ¬ (a.length : Int) ≤ 8 := by
            rw [beq_iff_eq] at heq
            omega
          go_wp2
          go_ret
          refine ⟨_, rfl, ?_, HB2.out⟩
          rw [HV.out]
          exact HO.out.mono (by have := HGA.out; omega)
      · go_wp2
        go_ret
        refine ⟨_, rfl, ?_, HB2.out⟩
        rw [HV.out]
        exact HO.out.mono (by have := HGA.out; omega)
end Go.Proofs.Ytabeeppfgkeahaa
