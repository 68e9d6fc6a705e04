/-
  Types and flows copied.
-/
import Derived.Test.YtobomcfiincpoaaTypD
import Derived.Test.YtobomcfiincpoaaRecT
namespace Go.Proofs.Ytobomcfiincpoaa
open Go.ChangeShapes Go.WideShapes Go.RowKit

set_option maxRecDepth 100000 in
set_option maxHeartbeats 4000000 in
theorem toTy (w : World) (x : Ty) : Calls Try.prog 37 #[tyV x] w fun e w' => e = .returned (tyV x) ∧ Below w.heap.size w w' := by
  unfold tyV
  go_enter Try.func37, Try.ntmps37
  go_wp2
  exact bodyPost_ret (v := .agg #[.int .i64 x.k, .int .i64 x.c]) (by simp [results, Try.results37, go_sem]) rfl ⟨rfl, (((Below.refl _ _).alloc (Nat.le_refl _) _).alloc (by simp) _).alloc (by simp; omega) _⟩
theorem loadTy {w : World} {g : Nat} {a0 a1 : Value} (h : w.heap[g]? = some (.cells #[a0, a1] 51 (0, 0))) : (loadVar 51 ⟨g, 0, none⟩).run Try.prog w = .ok (.agg #[a0, a1]) w :=
  run_loadVar_row w g 51 51 #[a0, a1] (0, 0) _ h Try.underlying51 rfl (by kernel_rfl)
theorem Try.infoTy : (Try.prog.info? 51).map (fun i => (i.zero, i.size, i.bytes)) = some (some (.agg #[.int .i64 0, .int .i64 0]), 2, 16) := by kernel_rfl
set_option maxRecDepth 100000 in
set_option maxHeartbeats 4000000 in
theorem toTys (w : World) (v : Value) (xs : List Ty) (h : Reads w w.heap.size (tys xs) v) (hg : tysG xs) :
    Calls Try.prog 23 #[v] w fun e w' => ∃ v', e = .returned v' ∧ OwnD w' w.heap.size w'.heap.size (tys xs) v' ∧ Below w.heap.size w w' := by
  obtain ⟨hm, hgd⟩ := hg
  have HX : Hid (∀ wr, Below w.heap.size w wr → _) := hide (fun wr hb => type_at (h.at hb))
  have HG : Hid (∀ j, j < xs.length → TyG (xs.getD j default)) := hide (fun j hj => getD_mem hgd j hj)
  clear hgd
  obtain ⟨a, cap, rfl, _⟩ := type_at h
  have HD : Hid (∀ W hi v, OwnD W w.heap.size hi (.row 51 2 xs.length (upTo tyD [.int .i64 0, .int .i64 0] xs xs.length)) v → OwnD W w.heap.size hi (tys xs) v) := hide (fun W hi v h => by unfold tys; rwa [upTo_all] at h)
  clear h
  obtain ⟨i0, hi, hz0, hz1, hz2⟩ := info_parts Try.infoTy
  generalize hn : xs.length = n at *
  go_enter Try.func23, Try.ntmps23
  go_wp2_with (at_make; refine wpList_make_full _ rfl _ _ 35 rfl w.heap.size 51 i0 (.agg #[.int .i64 0, .int .i64 0]) 2 Try.underlying35 hi hz0 hz1 _ _ _ _ n rfl rfl rfl rfl (by rw [hz2]; omega) (by unfold maxLen; omega) (Nat.le_refl _) ?_; intro w1 ho1 hg1)
  have o1 : OwnD w1 w.heap.size w1.heap.size (.row 51 2 n (upTo tyD [.int .i64 0, .int .i64 0] xs 0)) (.slice (some ⟨w.heap.size, 0, none⟩) n n) := ownD_made hn rfl (by decide) rfl ho1 (fun q hq => (World.ownsRow.lt ho1 q hq).2)
  have hl1 : w.heap.size < w1.heap.size := (World.ownsRow.lt ho1 _ rfl).2
  have b1 : Below w.heap.size w w1 := (Below.refl _ _).grown hg1 (Nat.le_refl _) (fun k hk => by cases hk)
  clear ho1 hg1 hi hz0 hz1 hz2
  go_loopw [4] (fun i wr => ∃ (j : Nat), j ≤ n ∧ i = .int .i64 (j : Int) ∧ Hid (OwnD wr w.heap.size wr.heap.size (.row 51 2 n (upTo tyD [.int .i64 0, .int .i64 0] xs j)) (.slice (some ⟨w.heap.size, 0, none⟩) n n)) ∧ Hid (Below w.heap.size w wr) ∧ w.heap.size < wr.heap.size) (fun i _ => n - (intOf i).toNat)
  case atStart => exact ⟨0, Nat.zero_le _, rfl, hide o1, hide b1, hl1⟩
  case round =>
    clear o1 b1
    obtain ⟨j, hj, rfl, HO, HB, hlt0⟩ := hrel
    by_cases hlt : j < n
    · obtain ⟨a', cap', ea, _, _, hx⟩ := HX.out wr HB.out
      cases ea
      obtain ⟨b, o, rfl, _, hcell⟩ := hx (by omega)
      obtain ⟨e0, e1⟩ := hcell j hlt
      clear hcell hx
      have HL : Hid (xs.getD j default = xs.getD j default) := hide rfl
      generalize hx9 : xs.getD j default = x at *
      have OU : Hid (∀ W : World, OwnDL W W.heap.size W.heap.size (tyD (xs.getD j default)) [.int .i64 x.k, .int .i64 x.c]) := hide (fun W => by rw [hx9]; exact OwnDL.val (OwnDL.val (ownDL_nil _ _ _)))
      clear hx9 HL
      go_wp2_with fail
      refine (toTy _ x).mono ?_
      rintro e w2 ⟨rfl, b2⟩
      have hs2 := b2.size
      replace HO := hide ((HO.out.below b2).up hs2)
      replace HB := hide (HB.out.trans (b2.mono HB.out.size))
      replace hlt0 : w.heap.size < w2.heap.size := by omega
      clear b2
      unfold tyV
      obtain ⟨hc, hf, ho2⟩ := OwnD.fill (f := tyD) (k := 2) (fun _ => rfl) rfl hn hlt HO.out (OU.out w2) (Nat.le_refl _) (Nat.le_of_lt hlt0) (Nat.le_refl _)
      obtain ⟨y0, d0⟩ := hc 0 (by omega)
      obtain ⟨y1, d1⟩ := hc 1 (by omega)
      rw [Nat.add_zero]  at d0
      have hb2 := setRow_below [.int .i64 x.k, .int .i64 x.c] w2 (j * 2) HB.out (Nat.le_refl _)
      have hs9 : w2.heap.size = (setRow w2 w.heap.size (j * 2) [.int .i64 x.k, .int .i64 x.c]).heap.size := by simp [setRow]
      rw [hs9] at ho2
      clear hs9
      simp only [setRow] at ho2 hb2
      replace HO := hide ho2
      have HB2 := hide hb2
      clear ho2 hb2 hc HB OU
      go_wp2
      exact ⟨⟨j + 1, by omega, by go_num, HO, HB2, by simp; omega⟩, by simp [intOf]; omega⟩
    · obtain rfl : j = n := by omega
      have HF := hide (HD.out _ _ _ HO.out)
      go_wp2
      go_ret
      exact ⟨_, rfl, HF.out, HB.out⟩
theorem loadFl {w : World} {g : Nat} {a0 a1 a2 : Value} (h : w.heap[g]? = some (.cells #[a0, a1, a2] 37 (0, 0))) : (loadVar 37 ⟨g, 0, none⟩).run Try.prog w = .ok (.agg #[a0, a1, a2]) w :=
  run_loadVar_row w g 37 37 #[a0, a1, a2] (0, 0) _ h Try.underlying37 rfl (by kernel_rfl)
set_option maxRecDepth 100000 in
set_option maxHeartbeats 4000000 in
theorem toFl (w : World) (x : Fl) (v1 v2 : Value) (h1 : Reads w w.heap.size (tys x.lo) v1) (h2 : Reads w w.heap.size (tys x.st) v2) (hg : FlG x) :
    Calls Try.prog 9 #[flV x v1 v2] w fun e w' => ∃ u1 u2, e = .returned (flV x u1 u2) ∧ OwnDL w' w.heap.size w'.heap.size (flD x) [u1, u2, .int .i64 x.h] ∧ Below w.heap.size w w' := by
  obtain ⟨a1, c1, e1, _⟩ := h1.shape
  subst e1
  have H1 := hide h1
  clear h1
  obtain ⟨a2, c2, e2, _⟩ := h2.shape
  subst e2
  have H2 := hide h2
  clear h2
  unfold flV
  go_enter Try.func9, Try.ntmps9
  go_wp2_with fail
  have G0 := heap_alloc_new w (.cells #[.slice a1 (x.lo.length) c1, .slice a2 (x.st.length) c2, .int .i64 x.h] 27)
  have G1 := heap_alloc_new (w.alloc (.cells #[.slice a1 (x.lo.length) c1, .slice a2 (x.st.length) c2, .int .i64 x.h] 27)) (.cells #[.slice none 0 0, .slice none 0 0, .int .i64 0] 37)
  have G2 := heap_alloc_new ((w.alloc (.cells #[.slice a1 (x.lo.length) c1, .slice a2 (x.st.length) c2, .int .i64 x.h] 27)).alloc (.cells #[.slice none 0 0, .slice none 0 0, .int .i64 0] 37)) (.cells #[.slice none 0 0, .slice none 0 0, .int .i64 0] 37)
  simp only [World.size_alloc] at G1 G2
  have bA := (((Below.refl w.heap.size w).alloc (Nat.le_refl _) (.cells #[.slice a1 (x.lo.length) c1, .slice a2 (x.st.length) c2, .int .i64 x.h] 27)).alloc (by simp) (.cells #[.slice none 0 0, .slice none 0 0, .int .i64 0] 37)).alloc (by simp; omega) (.cells #[.slice none 0 0, .slice none 0 0, .int .i64 0] 37)
  refine (toTys _ _ x.lo (H1.out.at bA) hg.lo).mono ?_
  rintro e w1 ⟨u1, rfl, o1, b1⟩
  obtain ⟨p1, q1, rfl⟩ := o1.shape
  have E0 := (b1.block w.heap.size (by simp; omega)).trans ((Below.heap_alloc _ _ _ (by simp; omega)).trans ((Below.heap_alloc _ _ _ (by simp)).trans G0))
  have E1 := (b1.block (w.heap.size + 1) (by simp)).trans ((Below.heap_alloc _ _ _ (by simp)).trans G1)
  have E2 := (b1.block (w.heap.size + 1 + 1) (by simp)).trans G2
  have HB := bA.trans (b1.mono (by simp; omega))
  have hs1 : w.heap.size + 1 + 1 + 1 ≤ w1.heap.size := by have := b1.size; simp only [World.size_alloc] at this; omega
  simp only [World.size_alloc] at o1
  have hM1 := hs1
  clear b1 bA G0 G1 G2
  generalize hm1 : w1.heap.size = M1 at o1
  have k1 : w.heap.size + 1 + 1 + 1 ≤ M1 := by omega
  have l1 : M1 ≤ w1.heap.size := by omega
  clear hm1
  have O1 := hide o1
  clear o1
  have X0 := box_of E0
  have X1 := box_of E1
  have X2 := box_of E2
  have f0 := X0.1 0 _ rfl
  have g0 := X2.1 0 _ rfl
  have f1 := X0.1 1 _ rfl
  have g1 := X2.1 1 _ rfl
  have f2 := X0.1 2 _ rfl
  have g2 := X2.1 2 _ rfl
  have z2 := X2.2
  have HE0 := hide E0
  have HE1 := hide E1
  have HE2 := hide E2
  have HHB := hide HB
  clear X0 X1 X2 E0 E1 E2 HB
  go_wp2_with fail
  have E0 : (w1.setCell ⟨w.heap.size + 1 + 1, 0, none⟩ (.slice p1 (x.lo.length) q1)).heap[w.heap.size]? = _ := (heap_setCell_other _ _ _ _ (by simp <;> omega)).trans (HE0.out)
  have E1 : (w1.setCell ⟨w.heap.size + 1 + 1, 0, none⟩ (.slice p1 (x.lo.length) q1)).heap[w.heap.size + 1]? = _ := (heap_setCell_other _ _ _ _ (by simp <;> omega)).trans (HE1.out)
  have E2 : (w1.setCell ⟨w.heap.size + 1 + 1, 0, none⟩ (.slice p1 (x.lo.length) q1)).heap[w.heap.size + 1 + 1]? = some (.cells #[.slice p1 (x.lo.length) q1, .slice none 0 0, .int .i64 0] 37 (0, 0)) := (heap_setCell_same _ _ 0 _ _ _ HE2.out)
  have HB : Below w.heap.size w (w1.setCell ⟨w.heap.size + 1 + 1, 0, none⟩ (.slice p1 (x.lo.length) q1)) := (HHB.out.setCell (p := ⟨w.heap.size + 1 + 1, 0, none⟩) (by simp; omega) _)
  have o1 : OwnD (w1.setCell ⟨w.heap.size + 1 + 1, 0, none⟩ (.slice p1 (x.lo.length) q1)) _ _ _ _ := O1.out.same (fun q hq _ _ => by rw [heap_setCell_other _ _ _ _ (by simp; omega)])
  replace hs1 : w.heap.size + 1 + 1 + 1 ≤ (w1.setCell ⟨w.heap.size + 1 + 1, 0, none⟩ (.slice p1 (x.lo.length) q1)).heap.size := by simp; omega
  replace l1 : M1 ≤ (w1.setCell ⟨w.heap.size + 1 + 1, 0, none⟩ (.slice p1 (x.lo.length) q1)).heap.size := by simp; omega
  clear f0 g0 f1 g1 f2 g2 z2 HE0 HE1 HE2 HHB O1
  generalize (w1.setCell ⟨w.heap.size + 1 + 1, 0, none⟩ (.slice p1 (x.lo.length) q1)) = W1 at *
  refine (toTys _ _ x.st (H2.out.at HB) hg.st).mono ?_
  rintro e w2 ⟨u2, rfl, o2, b2⟩
  obtain ⟨p2, q2, rfl⟩ := o2.shape
  replace E0 := (b2.block w.heap.size (by omega)).trans E0
  replace E1 := (b2.block (w.heap.size + 1) (by omega)).trans E1
  replace E2 := (b2.block (w.heap.size + 1 + 1) (by omega)).trans E2
  replace HB := HB.trans (b2.mono (by omega))
  replace o1 := o1.below b2
  have hs2 := b2.size
  generalize hm2 : w2.heap.size = M2 at o2
  replace o2 := o2.mono l1
  have k2 : M1 ≤ M2 := by omega
  have l2 : M2 ≤ w2.heap.size := by omega
  replace hs1 : w.heap.size + 1 + 1 + 1 ≤ w2.heap.size := by omega
  clear b2 hm2 hs2
  have O1 := hide o1
  clear o1
  have O2 := hide o2
  clear o2
  have X0 := box_of E0
  have X1 := box_of E1
  have X2 := box_of E2
  have f0 := X0.1 0 _ rfl
  have g0 := X2.1 0 _ rfl
  have f1 := X0.1 1 _ rfl
  have g1 := X2.1 1 _ rfl
  have f2 := X0.1 2 _ rfl
  have g2 := X2.1 2 _ rfl
  have r0 := X1.1 0 _ rfl
  have r1 := X1.1 1 _ rfl
  have r2 := X1.1 2 _ rfl
  have z1 := X1.2
  have z2 := X2.2
  have HE0 := hide E0
  have HE1 := hide E1
  have HE2 := hide E2
  have HHB := hide HB
  clear X0 X1 X2 E0 E1 E2 HB
  go_wp2
  refine bodyPost_ret (v := .agg #[.slice p1 (x.lo.length) q1, .slice p2 (x.st.length) q2, .int .i64 x.h]) (results_one Try.results9 _ _ _ rfl (loadFl (putN3 ((heap_setCell_other _ _ _ _ (by simp <;> omega)).trans ((heap_setCell_other _ _ _ _ (by simp <;> omega)).trans HE1.out)) _ _ _))) rfl ⟨_, _, rfl, ?_, ?_⟩
  · refine (OwnDL.mono (b := w.heap.size + 1 + 1 + 1) (OwnDL.same (OwnDL.cons (m := M1) (O1.out) (OwnDL.cons (m := M2) (O2.out) (OwnDL.val (ownDL_nil _ M2 _)) (by omega) (by omega)) (by omega) (by omega)) (fun q hq _ _ => ?_)) (by omega)).up (by simp)
    rw [heap_setCell_other _ _ _ _ (by simp; omega), heap_setCell_other _ _ _ _ (by simp; omega), heap_setCell_other _ _ _ _ (by simp; omega), heap_setCell_other _ _ _ _ (by simp; omega), heap_setCell_other _ _ _ _ (by simp; omega)]
  · exact (((((HHB.out.setCell (by simp <;> omega) _).setCell (by simp <;> omega) _).setCell (by simp <;> omega) _).setCell (by simp <;> omega) _).setCell (by simp <;> omega) _)
end Go.Proofs.Ytobomcfiincpoaa
