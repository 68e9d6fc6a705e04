/-
  Joined: PrgTo, KfEq.
-/
import Derived.Test.YtofnpgheppgcaaaJ6
import Derived.Test.YtofnpgheppgcaaaJ11
import Derived.Test.YtofnpgheppgcaaaJ9
import Derived.Test.YtofnpgheppgcaaaJ10
import Derived.Deep.QuietTactic
import Derived.BigQuiet
/-
  Programs copied into new memory.
-/
namespace Go.Proofs.Ytofnpgheppgcaaa
open Go.ChangeShapes Go.WideShapes Go.RowKit

theorem Try.infoCo : (Try.prog.info? 135).map (fun i => (i.zero, i.size, i.bytes)) = some (some (.agg #[.string ByteArray.empty, .int .i64 0, .slice none 0 0, .string ByteArray.empty, .int .i64 0, .slice none 0 0]), 6, 96) := by kernel_rfl
theorem loadCo {w : World} {g : Nat} {a0 a1 a2 a3 a4 a5 : Value} (h : w.heap[g]? = some (.cells #[a0, a1, a2, a3, a4, a5] 135 (0, 0))) : (loadVar 135 ⟨g, 0, none⟩).run Try.prog w = .ok (.agg #[a0, a1, a2, a3, a4, a5]) w :=
  run_loadVar_row w g 135 135 #[a0, a1, a2, a3, a4, a5] (0, 0) _ h Try.underlying135 rfl (by kernel_rfl)
set_option maxRecDepth 100000 in
set_option maxHeartbeats 4000000 in
theorem toCo (w : World) (x : Co) (v1 v2 : Value) (h1 : Reads w w.heap.size (strs x.ps) v1) (h2 : Reads w w.heap.size (inss x.is) v2) (hg : CoG x) :
    Calls Try.prog 91 #[coV x v1 v2] w fun e w' => ∃ u1 u2, e = .returned (coV x u1 u2) ∧ OwnDL w' w.heap.size w'.heap.size (coD x) [.string x.n, .int .i64 x.o, u1, .string x.r, .int .i64 x.l, u2] ∧ Below w.heap.size w w' := by
  obtain ⟨a1, c1, e1, _⟩ := h1.shape
  subst e1
  have H1 := hide h1
  clear h1
  obtain ⟨a2, c2, e2, _⟩ := h2.shape
  subst e2
  have H2 := hide h2
  clear h2
  unfold coV
  go_enter Try.func91, Try.ntmps91
  go_wp2_with fail
  have G0 := heap_alloc_new w (.cells #[.string x.n, .int .i64 x.o, .slice a1 (x.ps.length) c1, .string x.r, .int .i64 x.l, .slice a2 (x.is.length) c2] 129)
  have G1 := heap_alloc_new (w.alloc (.cells #[.string x.n, .int .i64 x.o, .slice a1 (x.ps.length) c1, .string x.r, .int .i64 x.l, .slice a2 (x.is.length) c2] 129)) (.cells #[.string ByteArray.empty, .int .i64 0, .slice none 0 0, .string ByteArray.empty, .int .i64 0, .slice none 0 0] 135)
  have G2 := heap_alloc_new ((w.alloc (.cells #[.string x.n, .int .i64 x.o, .slice a1 (x.ps.length) c1, .string x.r, .int .i64 x.l, .slice a2 (x.is.length) c2] 129)).alloc (.cells #[.string ByteArray.empty, .int .i64 0, .slice none 0 0, .string ByteArray.empty, .int .i64 0, .slice none 0 0] 135)) (.cells #[.string x.n, .int .i64 x.o, .slice none 0 0, .string ByteArray.empty, .int .i64 0, .slice none 0 0] 135)
  simp only [World.size_alloc] at G1 G2
  have bA := (((Below.refl w.heap.size w).alloc (Nat.le_refl _) (.cells #[.string x.n, .int .i64 x.o, .slice a1 (x.ps.length) c1, .string x.r, .int .i64 x.l, .slice a2 (x.is.length) c2] 129)).alloc (by simp) (.cells #[.string ByteArray.empty, .int .i64 0, .slice none 0 0, .string ByteArray.empty, .int .i64 0, .slice none 0 0] 135)).alloc (by simp; omega) (.cells #[.string x.n, .int .i64 x.o, .slice none 0 0, .string ByteArray.empty, .int .i64 0, .slice none 0 0] 135)
  refine (toStrsR _ _ x.ps (H1.out.at bA) hg.ps).mono ?_
  rintro e w1 ⟨u1, rfl, o1, b1⟩
  obtain ⟨p1, q1, rfl⟩ := o1.shape
  have E0 := (b1.block w.heap.size (by simp; omega)).trans ((Below.heap_alloc _ _ _ (by simp; omega)).trans ((Below.heap_alloc _ _ _ (by simp)).trans G0))
  have E1 := (b1.block (w.heap.size + 1) (by simp)).trans ((Below.heap_alloc _ _ _ (by simp)).trans G1)
  have E2 := (b1.block (w.heap.size + 1 + 1) (by simp)).trans G2
  have HB := bA.trans (b1.mono (by simp; omega))
  have hs1 : w.heap.size + 1 + 1 + 1 ≤ w1.heap.size := by have := b1.size; simp only [World.size_alloc] at this; omega
  simp only [World.size_alloc] at o1
  have hM1 := hs1
  clear b1 bA G0 G1 G2
  generalize hm1 : w1.heap.size = M1 at o1
  have k1 : w.heap.size + 1 + 1 + 1 ≤ M1 := by omega
  have l1 : M1 ≤ w1.heap.size := by omega
  clear hm1
  have O1 := hide o1
  clear o1
  have X0 := box_of E0
  have X1 := box_of E1
  have X2 := box_of E2
  have f0 := X0.1 0 _ rfl
  have g0 := X2.1 0 _ rfl
  have f1 := X0.1 1 _ rfl
  have g1 := X2.1 1 _ rfl
  have f2 := X0.1 2 _ rfl
  have g2 := X2.1 2 _ rfl
  have f3 := X0.1 3 _ rfl
  have g3 := X2.1 3 _ rfl
  have f4 := X0.1 4 _ rfl
  have g4 := X2.1 4 _ rfl
  have f5 := X0.1 5 _ rfl
  have g5 := X2.1 5 _ rfl
  have z2 := X2.2
  have HE0 := hide E0
  have HE1 := hide E1
  have HE2 := hide E2
  have HHB := hide HB
  clear X0 X1 X2 E0 E1 E2 HB
  go_wp2_with fail
  have E0 : (((w1.setCell ⟨w.heap.size + 1 + 1, 2, none⟩ (.slice p1 (x.ps.length) q1)).setCell ⟨w.heap.size + 1 + 1, 3, none⟩ (.string x.r)).setCell ⟨w.heap.size + 1 + 1, 4, none⟩ (.int .i64 x.l)).heap[w.heap.size]? = _ := (heap_setCell_other _ _ _ _ (by simp <;> omega)).trans ((heap_setCell_other _ _ _ _ (by simp <;> omega)).trans ((heap_setCell_other _ _ _ _ (by simp <;> omega)).trans (HE0.out)))
  have E1 : (((w1.setCell ⟨w.heap.size + 1 + 1, 2, none⟩ (.slice p1 (x.ps.length) q1)).setCell ⟨w.heap.size + 1 + 1, 3, none⟩ (.string x.r)).setCell ⟨w.heap.size + 1 + 1, 4, none⟩ (.int .i64 x.l)).heap[w.heap.size + 1]? = _ := (heap_setCell_other _ _ _ _ (by simp <;> omega)).trans ((heap_setCell_other _ _ _ _ (by simp <;> omega)).trans ((heap_setCell_other _ _ _ _ (by simp <;> omega)).trans (HE1.out)))
  have E2 : (((w1.setCell ⟨w.heap.size + 1 + 1, 2, none⟩ (.slice p1 (x.ps.length) q1)).setCell ⟨w.heap.size + 1 + 1, 3, none⟩ (.string x.r)).setCell ⟨w.heap.size + 1 + 1, 4, none⟩ (.int .i64 x.l)).heap[w.heap.size + 1 + 1]? = some (.cells #[.string x.n, .int .i64 x.o, .slice p1 (x.ps.length) q1, .string x.r, .int .i64 x.l, .slice none 0 0] 135 (0, 0)) := (heap_setCell_same _ _ 4 _ _ _ (heap_setCell_same _ _ 3 _ _ _ (heap_setCell_same _ _ 2 _ _ _ HE2.out)))
  have HB : Below w.heap.size w (((w1.setCell ⟨w.heap.size + 1 + 1, 2, none⟩ (.slice p1 (x.ps.length) q1)).setCell ⟨w.heap.size + 1 + 1, 3, none⟩ (.string x.r)).setCell ⟨w.heap.size + 1 + 1, 4, none⟩ (.int .i64 x.l)) := (((HHB.out.setCell (p := ⟨w.heap.size + 1 + 1, 2, none⟩) (by simp; omega) _).setCell (p := ⟨w.heap.size + 1 + 1, 3, none⟩) (by simp; omega) _).setCell (p := ⟨w.heap.size + 1 + 1, 4, none⟩) (by simp; omega) _)
  have o1 : OwnD (((w1.setCell ⟨w.heap.size + 1 + 1, 2, none⟩ (.slice p1 (x.ps.length) q1)).setCell ⟨w.heap.size + 1 + 1, 3, none⟩ (.string x.r)).setCell ⟨w.heap.size + 1 + 1, 4, none⟩ (.int .i64 x.l)) _ _ _ _ := O1.out.same (fun q hq _ _ => by rw [heap_setCell_other _ _ _ _ (by simp; omega), heap_setCell_other _ _ _ _ (by simp; omega), heap_setCell_other _ _ _ _ (by simp; omega)])
  replace hs1 : w.heap.size + 1 + 1 + 1 ≤ (((w1.setCell ⟨w.heap.size + 1 + 1, 2, none⟩ (.slice p1 (x.ps.length) q1)).setCell ⟨w.heap.size + 1 + 1, 3, none⟩ (.string x.r)).setCell ⟨w.heap.size + 1 + 1, 4, none⟩ (.int .i64 x.l)).heap.size := by simp; omega
  replace l1 : M1 ≤ (((w1.setCell ⟨w.heap.size + 1 + 1, 2, none⟩ (.slice p1 (x.ps.length) q1)).setCell ⟨w.heap.size + 1 + 1, 3, none⟩ (.string x.r)).setCell ⟨w.heap.size + 1 + 1, 4, none⟩ (.int .i64 x.l)).heap.size := by simp; omega
  clear f0 g0 f1 g1 f2 g2 f3 g3 f4 g4 f5 g5 z2 HE0 HE1 HE2 HHB O1
  generalize (((w1.setCell ⟨w.heap.size + 1 + 1, 2, none⟩ (.slice p1 (x.ps.length) q1)).setCell ⟨w.heap.size + 1 + 1, 3, none⟩ (.string x.r)).setCell ⟨w.heap.size + 1 + 1, 4, none⟩ (.int .i64 x.l)) = W1 at *
  refine (toInssR _ _ x.is (H2.out.at HB) hg.is).mono ?_
  rintro e w2 ⟨u2, rfl, o2, b2⟩
  obtain ⟨p2, q2, rfl⟩ := o2.shape
  replace E0 := (b2.block w.heap.size (by omega)).trans E0
  replace E1 := (b2.block (w.heap.size + 1) (by omega)).trans E1
  replace E2 := (b2.block (w.heap.size + 1 + 1) (by omega)).trans E2
  replace HB := HB.trans (b2.mono (by omega))
  replace o1 := o1.below b2
  have hs2 := b2.size
  generalize hm2 : w2.heap.size = M2 at o2
  replace o2 := o2.mono l1
  have k2 : M1 ≤ M2 := by omega
  have l2 : M2 ≤ w2.heap.size := by omega
  replace hs1 : w.heap.size + 1 + 1 + 1 ≤ w2.heap.size := by omega
  clear b2 hm2 hs2
  have O1 := hide o1
  clear o1
  have O2 := hide o2
  clear o2
  have X0 := box_of E0
  have X1 := box_of E1
  have X2 := box_of E2
  have f0 := X0.1 0 _ rfl
  have g0 := X2.1 0 _ rfl
  have f1 := X0.1 1 _ rfl
  have g1 := X2.1 1 _ rfl
  have f2 := X0.1 2 _ rfl
  have g2 := X2.1 2 _ rfl
  have f3 := X0.1 3 _ rfl
  have g3 := X2.1 3 _ rfl
  have f4 := X0.1 4 _ rfl
  have g4 := X2.1 4 _ rfl
  have f5 := X0.1 5 _ rfl
  have g5 := X2.1 5 _ rfl
  have r0 := X1.1 0 _ rfl
  have r1 := X1.1 1 _ rfl
  have r2 := X1.1 2 _ rfl
  have r3 := X1.1 3 _ rfl
  have r4 := X1.1 4 _ rfl
  have r5 := X1.1 5 _ rfl
  have z1 := X1.2
  have z2 := X2.2
  have HE0 := hide E0
  have HE1 := hide E1
  have HE2 := hide E2
  have HHB := hide HB
  clear X0 X1 X2 E0 E1 E2 HB
  go_wp2
  refine bodyPost_ret (v := .agg #[.string x.n, .int .i64 x.o, .slice p1 (x.ps.length) q1, .string x.r, .int .i64 x.l, .slice p2 (x.is.length) q2]) (results_one Try.results91 _ _ _ rfl (loadCo (putN6 ((heap_setCell_other _ _ _ _ (by simp <;> omega)).trans HE1.out) _ _ _ _ _ _))) rfl ⟨_, _, rfl, ?_, ?_⟩
  · refine (OwnDL.mono (b := w.heap.size + 1 + 1 + 1) (OwnDL.same (OwnDL.val (OwnDL.val (OwnDL.cons (m := M1) (O1.out) (OwnDL.val (OwnDL.val (OwnDL.cons (m := M2) (O2.out) (ownDL_nil _ M2 _) (by omega) (by omega)))) (by omega) (by omega)))) (fun q hq _ _ => ?_)) (by omega)).up (by simp)
    rw [heap_setCell_other _ _ _ _ (by simp; omega), heap_setCell_other _ _ _ _ (by simp; omega), heap_setCell_other _ _ _ _ (by simp; omega), heap_setCell_other _ _ _ _ (by simp; omega), heap_setCell_other _ _ _ _ (by simp; omega), heap_setCell_other _ _ _ _ (by simp; omega), heap_setCell_other _ _ _ _ (by simp; omega)]
  · exact (((((((HHB.out.setCell (by simp <;> omega) _).setCell (by simp <;> omega) _).setCell (by simp <;> omega) _).setCell (by simp <;> omega) _).setCell (by simp <;> omega) _).setCell (by simp <;> omega) _).setCell (by simp <;> omega) _)
set_option maxRecDepth 100000 in
set_option maxHeartbeats 4000000 in
theorem toCods (w : World) (v : Value) (xs : List Co) (h : Reads w w.heap.size (cods xs) v) (hg : codsG xs) :
    Calls Try.prog 79 #[v] w fun e w' => ∃ v', e = .returned v' ∧ OwnD w' w.heap.size w'.heap.size (cods xs) v' ∧ Below w.heap.size w w' := by
  obtain ⟨hm, hgd⟩ := hg
  have HX : Hid (∀ wr, Below w.heap.size w wr → _) := hide (fun wr hb => code_at (h.at hb))
  have HG : Hid (∀ j, j < xs.length → CoG (xs.getD j default)) := hide (fun j hj => getD_mem hgd j hj)
  clear hgd
  obtain ⟨a, cap, rfl, _⟩ := code_at h
  have HD : Hid (∀ W hi v, OwnD W w.heap.size hi (.row 135 6 xs.length (upTo coD [.string ByteArray.empty, .int .i64 0, .slice none 0 0, .string ByteArray.empty, .int .i64 0, .slice none 0 0] xs xs.length)) v → OwnD W w.heap.size hi (cods xs) v) := hide (fun W hi v h => by unfold cods; rwa [upTo_all] at h)
  clear h
  obtain ⟨i0, hi, hz0, hz1, hz2⟩ := info_parts Try.infoCo
  generalize hn : xs.length = n at *
  go_enter Try.func79, Try.ntmps79
  go_wp2_with (at_make; refine wpList_make_full _ rfl _ _ 96 rfl w.heap.size 135 i0 (.agg #[.string ByteArray.empty, .int .i64 0, .slice none 0 0, .string ByteArray.empty, .int .i64 0, .slice none 0 0]) 6 Try.underlying96 hi hz0 hz1 _ _ _ _ n rfl rfl rfl rfl (by rw [hz2]; omega) (by unfold maxLen; omega) (Nat.le_refl _) ?_; intro w1 ho1 hg1)
  have o1 : OwnD w1 w.heap.size w1.heap.size (.row 135 6 n (upTo coD [.string ByteArray.empty, .int .i64 0, .slice none 0 0, .string ByteArray.empty, .int .i64 0, .slice none 0 0] xs 0)) (.slice (some ⟨w.heap.size, 0, none⟩) n n) := ownD_made hn rfl (by decide) rfl ho1 (fun q hq => (World.ownsRow.lt ho1 q hq).2)
  have hl1 : w.heap.size < w1.heap.size := (World.ownsRow.lt ho1 _ rfl).2
  have b1 : Below w.heap.size w w1 := (Below.refl _ _).grown hg1 (Nat.le_refl _) (fun k hk => by cases hk)
  clear ho1 hg1 hi hz0 hz1 hz2
  go_loopw [4] (fun i wr => ∃ (j : Nat), j ≤ n ∧ i = .int .i64 (j : Int) ∧ Hid (OwnD wr w.heap.size wr.heap.size (.row 135 6 n (upTo coD [.string ByteArray.empty, .int .i64 0, .slice none 0 0, .string ByteArray.empty, .int .i64 0, .slice none 0 0] xs j)) (.slice (some ⟨w.heap.size, 0, none⟩) n n)) ∧ Hid (Below w.heap.size w wr) ∧ w.heap.size < wr.heap.size) (fun i _ => n - (intOf i).toNat)
  case atStart => exact ⟨0, Nat.zero_le _, rfl, hide o1, hide b1, hl1⟩
  case round =>
    clear o1 b1
    obtain ⟨j, hj, rfl, HO, HB, hlt0⟩ := hrel
    by_cases hlt : j < n
    · obtain ⟨a', cap', ea, _, _, hx⟩ := HX.out wr HB.out
      cases ea
      obtain ⟨b, o, rfl, _, hcell⟩ := hx (by omega)
      obtain ⟨pv1, pv2, e0, e1, e2, e3, e4, e5, r1, r2⟩ := hcell j hlt
      clear hcell hx
      have HL : Hid (xs.getD j default = xs.getD j default) := hide rfl
      have hgx := hide (HG.out j hlt)
      generalize hx9 : xs.getD j default = x at *
      have HX9 := hide hx9
      clear hx9 HL
      obtain ⟨aa1, cc1, ea1, _⟩ := r1.shape
      obtain ⟨aa2, cc2, ea2, _⟩ := r2.shape
      subst ea1 ea2
      have R1 := hide r1
      clear r1
      have R2 := hide r2
      clear r2
      go_wp2_with fail
      refine (toCo _ x _ _ R1.out R2.out hgx.out).mono ?_
      rintro e w2 ⟨u1, u2, rfl, ou, b2⟩
      obtain ⟨p1, q1, e1', p2, q2, e2'⟩ : ∃ p1 q1, u1 = .slice p1 x.ps.length q1 ∧ ∃ p2 q2, u2 = .slice p2 x.is.length q2 := by
        obtain ⟨_, h3, _, _⟩ := ou
        obtain ⟨_, _, _, _, h2, _, _, h3⟩ := ownsL_cons h3
        cases h2
        obtain ⟨_, _, _, _, h2, _, _, h3⟩ := ownsL_cons h3
        cases h2
        obtain ⟨_, _, _, _, h2, _, n2, h3⟩ := ownsL_cons h3
        cases h2
        obtain ⟨_, _, _, _, h2, _, _, h3⟩ := ownsL_cons h3
        cases h2
        obtain ⟨_, _, _, _, h2, _, _, h3⟩ := ownsL_cons h3
        cases h2
        obtain ⟨_, _, _, _, h2, _, n5, h3⟩ := ownsL_cons h3
        cases h2
        obtain ⟨l1, m1, f1, _⟩ := (Owns.reads (Nat.le_refl _) _ _ _ n2).shape
        obtain ⟨l2, m2, f2, _⟩ := (Owns.reads (Nat.le_refl _) _ _ _ n5).shape
        exact ⟨l1, m1, f1, l2, m2, f2⟩
      subst e1' e2'
      rw [← HX9.out] at ou
      have hs2 := b2.size
      obtain ⟨hc, hf, ho2⟩ := OwnD.fill (f := coD) (k := 6) (fun _ => rfl) rfl hn hlt (HO.out.below b2) ou (Nat.le_refl _) (Nat.le_of_lt hlt0) hs2
      rw [HX9.out] at ho2
      replace HB := hide (HB.out.trans (b2.mono HB.out.size))
      replace hlt0 : w.heap.size < w2.heap.size := by omega
      have OU := hide hs2
      clear b2 HO HX9 ou
      unfold coV
      obtain ⟨y0, d0⟩ := hc 0 (by omega)
      obtain ⟨y1, d1⟩ := hc 1 (by omega)
      obtain ⟨y2, d2⟩ := hc 2 (by omega)
      obtain ⟨y3, d3⟩ := hc 3 (by omega)
      obtain ⟨y4, d4⟩ := hc 4 (by omega)
      obtain ⟨y5, d5⟩ := hc 5 (by omega)
      rw [Nat.add_zero]  at d0
      have hb2 := setRow_below [.string x.n, .int .i64 x.o, .slice p1 x.ps.length q1, .string x.r, .int .i64 x.l, .slice p2 x.is.length q2] w2 (j * 6) HB.out (Nat.le_refl _)
      have hs9 : w2.heap.size = (setRow w2 w.heap.size (j * 6) [.string x.n, .int .i64 x.o, .slice p1 x.ps.length q1, .string x.r, .int .i64 x.l, .slice p2 x.is.length q2]).heap.size := by simp [setRow]
      rw [hs9] at ho2
      clear hs9
      simp only [setRow, Nat.add_assoc, Nat.reduceAdd] at ho2 hb2
      replace HO := hide ho2
      have HB2 := hide hb2
      clear ho2 hb2 hc HB OU
      go_wp2
      exact ⟨⟨j + 1, by omega, by go_num, HO, HB2, by simp; omega⟩, by simp [intOf]; omega⟩
    · obtain rfl : j = n := by omega
      have HF := hide (HD.out _ _ _ HO.out)
      go_wp2
      go_ret
      exact ⟨_, rfl, HF.out, HB.out⟩
theorem Try.infoKd : (Try.prog.info? 98).map (fun i => (i.zero, i.size, i.bytes)) = some (some (.agg #[.string ByteArray.empty, .int .i64 0, .slice none 0 0, .slice none 0 0, .slice none 0 0]), 5, 96) := by kernel_rfl
theorem loadKd {w : World} {g : Nat} {a0 a1 a2 a3 a4 : Value} (h : w.heap[g]? = some (.cells #[a0, a1, a2, a3, a4] 98 (0, 0))) : (loadVar 98 ⟨g, 0, none⟩).run Try.prog w = .ok (.agg #[a0, a1, a2, a3, a4]) w :=
  run_loadVar_row w g 98 98 #[a0, a1, a2, a3, a4] (0, 0) _ h Try.underlying98 rfl (by kernel_rfl)
set_option maxRecDepth 100000 in
set_option maxHeartbeats 4000000 in
theorem toKd (w : World) (x : Kd) (v1 v2 v3 : Value) (h1 : Reads w w.heap.size (pool x.p) v1) (h2 : Reads w w.heap.size (flds x.f) v2) (h3 : Reads w w.heap.size (cods x.m) v3) (hg : KdG x) :
    Calls Try.prog 64 #[kdV x v1 v2 v3] w fun e w' => ∃ u1 u2 u3, e = .returned (kdV x u1 u2 u3) ∧ OwnDL w' w.heap.size w'.heap.size (kdD x) [.string x.n, .int .i64 x.s, u1, u2, u3] ∧ Below w.heap.size w w' := by
  obtain ⟨a1, c1, e1, _⟩ := h1.shape
  subst e1
  have H1 := hide h1
  clear h1
  obtain ⟨a2, c2, e2, _⟩ := h2.shape
  subst e2
  have H2 := hide h2
  clear h2
  obtain ⟨a3, c3, e3, _⟩ := h3.shape
  subst e3
  have H3 := hide h3
  clear h3
  unfold kdV
  go_enter Try.func64, Try.ntmps64
  go_wp2_with fail
  have G0 := heap_alloc_new w (.cells #[.string x.n, .int .i64 x.s, .slice a1 (x.p.length) c1, .slice a2 (x.f.length) c2, .slice a3 (x.m.length) c3] 92)
  have G1 := heap_alloc_new (w.alloc (.cells #[.string x.n, .int .i64 x.s, .slice a1 (x.p.length) c1, .slice a2 (x.f.length) c2, .slice a3 (x.m.length) c3] 92)) (.cells #[.string ByteArray.empty, .int .i64 0, .slice none 0 0, .slice none 0 0, .slice none 0 0] 98)
  have G2 := heap_alloc_new ((w.alloc (.cells #[.string x.n, .int .i64 x.s, .slice a1 (x.p.length) c1, .slice a2 (x.f.length) c2, .slice a3 (x.m.length) c3] 92)).alloc (.cells #[.string ByteArray.empty, .int .i64 0, .slice none 0 0, .slice none 0 0, .slice none 0 0] 98)) (.cells #[.string x.n, .int .i64 x.s, .slice none 0 0, .slice none 0 0, .slice none 0 0] 98)
  simp only [World.size_alloc] at G1 G2
  have bA := (((Below.refl w.heap.size w).alloc (Nat.le_refl _) (.cells #[.string x.n, .int .i64 x.s, .slice a1 (x.p.length) c1, .slice a2 (x.f.length) c2, .slice a3 (x.m.length) c3] 92)).alloc (by simp) (.cells #[.string ByteArray.empty, .int .i64 0, .slice none 0 0, .slice none 0 0, .slice none 0 0] 98)).alloc (by simp; omega) (.cells #[.string x.n, .int .i64 x.s, .slice none 0 0, .slice none 0 0, .slice none 0 0] 98)
  refine (toPoolR _ _ x.p (H1.out.at bA) hg.p).mono ?_
  rintro e w1 ⟨u1, rfl, o1, b1⟩
  obtain ⟨p1, q1, rfl⟩ := o1.shape
  have E0 := (b1.block w.heap.size (by simp; omega)).trans ((Below.heap_alloc _ _ _ (by simp; omega)).trans ((Below.heap_alloc _ _ _ (by simp)).trans G0))
  have E1 := (b1.block (w.heap.size + 1) (by simp)).trans ((Below.heap_alloc _ _ _ (by simp)).trans G1)
  have E2 := (b1.block (w.heap.size + 1 + 1) (by simp)).trans G2
  have HB := bA.trans (b1.mono (by simp; omega))
  have hs1 : w.heap.size + 1 + 1 + 1 ≤ w1.heap.size := by have := b1.size; simp only [World.size_alloc] at this; omega
  simp only [World.size_alloc] at o1
  have hM1 := hs1
  clear b1 bA G0 G1 G2
  generalize hm1 : w1.heap.size = M1 at o1
  have k1 : w.heap.size + 1 + 1 + 1 ≤ M1 := by omega
  have l1 : M1 ≤ w1.heap.size := by omega
  clear hm1
  have O1 := hide o1
  clear o1
  have X0 := box_of E0
  have X1 := box_of E1
  have X2 := box_of E2
  have f0 := X0.1 0 _ rfl
  have g0 := X2.1 0 _ rfl
  have f1 := X0.1 1 _ rfl
  have g1 := X2.1 1 _ rfl
  have f2 := X0.1 2 _ rfl
  have g2 := X2.1 2 _ rfl
  have f3 := X0.1 3 _ rfl
  have g3 := X2.1 3 _ rfl
  have f4 := X0.1 4 _ rfl
  have g4 := X2.1 4 _ rfl
  have z2 := X2.2
  have HE0 := hide E0
  have HE1 := hide E1
  have HE2 := hide E2
  have HHB := hide HB
  clear X0 X1 X2 E0 E1 E2 HB
  go_wp2_with fail
  have E0 : (w1.setCell ⟨w.heap.size + 1 + 1, 2, none⟩ (.slice p1 (x.p.length) q1)).heap[w.heap.size]? = _ := (heap_setCell_other _ _ _ _ (by simp <;> omega)).trans (HE0.out)
  have E1 : (w1.setCell ⟨w.heap.size + 1 + 1, 2, none⟩ (.slice p1 (x.p.length) q1)).heap[w.heap.size + 1]? = _ := (heap_setCell_other _ _ _ _ (by simp <;> omega)).trans (HE1.out)
  have E2 : (w1.setCell ⟨w.heap.size + 1 + 1, 2, none⟩ (.slice p1 (x.p.length) q1)).heap[w.heap.size + 1 + 1]? = some (.cells #[.string x.n, .int .i64 x.s, .slice p1 (x.p.length) q1, .slice none 0 0, .slice none 0 0] 98 (0, 0)) := (heap_setCell_same _ _ 2 _ _ _ HE2.out)
  have HB : Below w.heap.size w (w1.setCell ⟨w.heap.size + 1 + 1, 2, none⟩ (.slice p1 (x.p.length) q1)) := (HHB.out.setCell (p := ⟨w.heap.size + 1 + 1, 2, none⟩) (by simp; omega) _)
  have o1 : OwnD (w1.setCell ⟨w.heap.size + 1 + 1, 2, none⟩ (.slice p1 (x.p.length) q1)) _ _ _ _ := O1.out.same (fun q hq _ _ => by rw [heap_setCell_other _ _ _ _ (by simp; omega)])
  replace hs1 : w.heap.size + 1 + 1 + 1 ≤ (w1.setCell ⟨w.heap.size + 1 + 1, 2, none⟩ (.slice p1 (x.p.length) q1)).heap.size := by simp; omega
  replace l1 : M1 ≤ (w1.setCell ⟨w.heap.size + 1 + 1, 2, none⟩ (.slice p1 (x.p.length) q1)).heap.size := by simp; omega
  clear f0 g0 f1 g1 f2 g2 f3 g3 f4 g4 z2 HE0 HE1 HE2 HHB O1
  generalize (w1.setCell ⟨w.heap.size + 1 + 1, 2, none⟩ (.slice p1 (x.p.length) q1)) = W1 at *
  refine (toFldsR _ _ x.f (H2.out.at HB) hg.f).mono ?_
  rintro e w2 ⟨u2, rfl, o2, b2⟩
  obtain ⟨p2, q2, rfl⟩ := o2.shape
  replace E0 := (b2.block w.heap.size (by omega)).trans E0
  replace E1 := (b2.block (w.heap.size + 1) (by omega)).trans E1
  replace E2 := (b2.block (w.heap.size + 1 + 1) (by omega)).trans E2
  replace HB := HB.trans (b2.mono (by omega))
  replace o1 := o1.below b2
  have hs2 := b2.size
  generalize hm2 : w2.heap.size = M2 at o2
  replace o2 := o2.mono l1
  have k2 : M1 ≤ M2 := by omega
  have l2 : M2 ≤ w2.heap.size := by omega
  replace hs1 : w.heap.size + 1 + 1 + 1 ≤ w2.heap.size := by omega
  clear b2 hm2 hs2
  have O1 := hide o1
  clear o1
  have O2 := hide o2
  clear o2
  have X0 := box_of E0
  have X1 := box_of E1
  have X2 := box_of E2
  have f0 := X0.1 0 _ rfl
  have g0 := X2.1 0 _ rfl
  have f1 := X0.1 1 _ rfl
  have g1 := X2.1 1 _ rfl
  have f2 := X0.1 2 _ rfl
  have g2 := X2.1 2 _ rfl
  have f3 := X0.1 3 _ rfl
  have g3 := X2.1 3 _ rfl
  have f4 := X0.1 4 _ rfl
  have g4 := X2.1 4 _ rfl
  have z2 := X2.2
  have HE0 := hide E0
  have HE1 := hide E1
  have HE2 := hide E2
  have HHB := hide HB
  clear X0 X1 X2 E0 E1 E2 HB
  go_wp2_with fail
  have E0 : (w2.setCell ⟨w.heap.size + 1 + 1, 3, none⟩ (.slice p2 (x.f.length) q2)).heap[w.heap.size]? = _ := (heap_setCell_other _ _ _ _ (by simp <;> omega)).trans (HE0.out)
  have E1 : (w2.setCell ⟨w.heap.size + 1 + 1, 3, none⟩ (.slice p2 (x.f.length) q2)).heap[w.heap.size + 1]? = _ := (heap_setCell_other _ _ _ _ (by simp <;> omega)).trans (HE1.out)
  have E2 : (w2.setCell ⟨w.heap.size + 1 + 1, 3, none⟩ (.slice p2 (x.f.length) q2)).heap[w.heap.size + 1 + 1]? = some (.cells #[.string x.n, .int .i64 x.s, .slice p1 (x.p.length) q1, .slice p2 (x.f.length) q2, .slice none 0 0] 98 (0, 0)) := (heap_setCell_same _ _ 3 _ _ _ HE2.out)
  have HB : Below w.heap.size w (w2.setCell ⟨w.heap.size + 1 + 1, 3, none⟩ (.slice p2 (x.f.length) q2)) := (HHB.out.setCell (p := ⟨w.heap.size + 1 + 1, 3, none⟩) (by simp; omega) _)
  have o1 : OwnD (w2.setCell ⟨w.heap.size + 1 + 1, 3, none⟩ (.slice p2 (x.f.length) q2)) _ _ _ _ := O1.out.same (fun q hq _ _ => by rw [heap_setCell_other _ _ _ _ (by simp; omega)])
  have o2 : OwnD (w2.setCell ⟨w.heap.size + 1 + 1, 3, none⟩ (.slice p2 (x.f.length) q2)) _ _ _ _ := O2.out.same (fun q hq _ _ => by rw [heap_setCell_other _ _ _ _ (by simp; omega)])
  replace hs1 : w.heap.size + 1 + 1 + 1 ≤ (w2.setCell ⟨w.heap.size + 1 + 1, 3, none⟩ (.slice p2 (x.f.length) q2)).heap.size := by simp; omega
  replace l2 : M2 ≤ (w2.setCell ⟨w.heap.size + 1 + 1, 3, none⟩ (.slice p2 (x.f.length) q2)).heap.size := by simp; omega
  clear f0 g0 f1 g1 f2 g2 f3 g3 f4 g4 z2 HE0 HE1 HE2 HHB O1 O2
  generalize (w2.setCell ⟨w.heap.size + 1 + 1, 3, none⟩ (.slice p2 (x.f.length) q2)) = W2 at *
  refine (toCods _ _ x.m (H3.out.at HB) hg.m).mono ?_
  rintro e w3 ⟨u3, rfl, o3, b3⟩
  obtain ⟨p3, q3, rfl⟩ := o3.shape
  replace E0 := (b3.block w.heap.size (by omega)).trans E0
  replace E1 := (b3.block (w.heap.size + 1) (by omega)).trans E1
  replace E2 := (b3.block (w.heap.size + 1 + 1) (by omega)).trans E2
  replace HB := HB.trans (b3.mono (by omega))
  replace o1 := o1.below b3
  replace o2 := o2.below b3
  have hs3 := b3.size
  generalize hm3 : w3.heap.size = M3 at o3
  replace o3 := o3.mono l2
  have k3 : M2 ≤ M3 := by omega
  have l3 : M3 ≤ w3.heap.size := by omega
  replace hs1 : w.heap.size + 1 + 1 + 1 ≤ w3.heap.size := by omega
  clear b3 hm3 hs3
  have O1 := hide o1
  clear o1
  have O2 := hide o2
  clear o2
  have O3 := hide o3
  clear o3
  have X0 := box_of E0
  have X1 := box_of E1
  have X2 := box_of E2
  have f0 := X0.1 0 _ rfl
  have g0 := X2.1 0 _ rfl
  have f1 := X0.1 1 _ rfl
  have g1 := X2.1 1 _ rfl
  have f2 := X0.1 2 _ rfl
  have g2 := X2.1 2 _ rfl
  have f3 := X0.1 3 _ rfl
  have g3 := X2.1 3 _ rfl
  have f4 := X0.1 4 _ rfl
  have g4 := X2.1 4 _ rfl
  have r0 := X1.1 0 _ rfl
  have r1 := X1.1 1 _ rfl
  have r2 := X1.1 2 _ rfl
  have r3 := X1.1 3 _ rfl
  have r4 := X1.1 4 _ rfl
  have z1 := X1.2
  have z2 := X2.2
  have HE0 := hide E0
  have HE1 := hide E1
  have HE2 := hide E2
  have HHB := hide HB
  clear X0 X1 X2 E0 E1 E2 HB
  go_wp2
  refine bodyPost_ret (v := .agg #[.string x.n, .int .i64 x.s, .slice p1 (x.p.length) q1, .slice p2 (x.f.length) q2, .slice p3 (x.m.length) q3]) (results_one Try.results64 _ _ _ rfl (loadKd (putN5 ((heap_setCell_other _ _ _ _ (by simp <;> omega)).trans HE1.out) _ _ _ _ _))) rfl ⟨_, _, _, rfl, ?_, ?_⟩
  · refine (OwnDL.mono (b := w.heap.size + 1 + 1 + 1) (OwnDL.same (OwnDL.val (OwnDL.val (OwnDL.cons (m := M1) (O1.out) (OwnDL.cons (m := M2) (O2.out) (OwnDL.cons (m := M3) (O3.out) (ownDL_nil _ M3 _) (by omega) (by omega)) (by omega) (by omega)) (by omega) (by omega)))) (fun q hq _ _ => ?_)) (by omega)).up (by simp)
    rw [heap_setCell_other _ _ _ _ (by simp; omega), heap_setCell_other _ _ _ _ (by simp; omega), heap_setCell_other _ _ _ _ (by simp; omega), heap_setCell_other _ _ _ _ (by simp; omega), heap_setCell_other _ _ _ _ (by simp; omega), heap_setCell_other _ _ _ _ (by simp; omega)]
  · exact ((((((HHB.out.setCell (by simp <;> omega) _).setCell (by simp <;> omega) _).setCell (by simp <;> omega) _).setCell (by simp <;> omega) _).setCell (by simp <;> omega) _).setCell (by simp <;> omega) _)
set_option maxRecDepth 100000 in
set_option maxHeartbeats 4000000 in
theorem toKins (w : World) (v : Value) (xs : List Kd) (h : Reads w w.heap.size (kins xs) v) (hg : kinsG xs) :
    Calls Try.prog 41 #[v] w fun e w' => ∃ v', e = .returned v' ∧ OwnD w' w.heap.size w'.heap.size (kins xs) v' ∧ Below w.heap.size w w' := by
  obtain ⟨hm, hgd⟩ := hg
  have HX : Hid (∀ wr, Below w.heap.size w wr → _) := hide (fun wr hb => kind_at (h.at hb))
  have HG : Hid (∀ j, j < xs.length → KdG (xs.getD j default)) := hide (fun j hj => getD_mem hgd j hj)
  clear hgd
  obtain ⟨a, cap, rfl, _⟩ := kind_at h
  have HD : Hid (∀ W hi v, OwnD W w.heap.size hi (.row 98 5 xs.length (upTo kdD [.string ByteArray.empty, .int .i64 0, .slice none 0 0, .slice none 0 0, .slice none 0 0] xs xs.length)) v → OwnD W w.heap.size hi (kins xs) v) := hide (fun W hi v h => by unfold kins; rwa [upTo_all] at h)
  clear h
  obtain ⟨i0, hi, hz0, hz1, hz2⟩ := info_parts Try.infoKd
  generalize hn : xs.length = n at *
  go_enter Try.func41, Try.ntmps41
  go_wp2_with (at_make; refine wpList_make_full _ rfl _ _ 29 rfl w.heap.size 98 i0 (.agg #[.string ByteArray.empty, .int .i64 0, .slice none 0 0, .slice none 0 0, .slice none 0 0]) 5 Try.underlying29 hi hz0 hz1 _ _ _ _ n rfl rfl rfl rfl (by rw [hz2]; omega) (by unfold maxLen; omega) (Nat.le_refl _) ?_; intro w1 ho1 hg1)
  have o1 : OwnD w1 w.heap.size w1.heap.size (.row 98 5 n (upTo kdD [.string ByteArray.empty, .int .i64 0, .slice none 0 0, .slice none 0 0, .slice none 0 0] xs 0)) (.slice (some ⟨w.heap.size, 0, none⟩) n n) := ownD_made hn rfl (by decide) rfl ho1 (fun q hq => (World.ownsRow.lt ho1 q hq).2)
  have hl1 : w.heap.size < w1.heap.size := (World.ownsRow.lt ho1 _ rfl).2
  have b1 : Below w.heap.size w w1 := (Below.refl _ _).grown hg1 (Nat.le_refl _) (fun k hk => by cases hk)
  clear ho1 hg1 hi hz0 hz1 hz2
  go_loopw [4] (fun i wr => ∃ (j : Nat), j ≤ n ∧ i = .int .i64 (j : Int) ∧ Hid (OwnD wr w.heap.size wr.heap.size (.row 98 5 n (upTo kdD [.string ByteArray.empty, .int .i64 0, .slice none 0 0, .slice none 0 0, .slice none 0 0] xs j)) (.slice (some ⟨w.heap.size, 0, none⟩) n n)) ∧ Hid (Below w.heap.size w wr) ∧ w.heap.size < wr.heap.size) (fun i _ => n - (intOf i).toNat)
  case atStart => exact ⟨0, Nat.zero_le _, rfl, hide o1, hide b1, hl1⟩
  case round =>
    clear o1 b1
    obtain ⟨j, hj, rfl, HO, HB, hlt0⟩ := hrel
    by_cases hlt : j < n
    · obtain ⟨a', cap', ea, _, _, hx⟩ := HX.out wr HB.out
      cases ea
      obtain ⟨b, o, rfl, _, hcell⟩ := hx (by omega)
      obtain ⟨pv1, pv2, pv3, e0, e1, e2, e3, e4, r1, r2, r3⟩ := hcell j hlt
      clear hcell hx
      have HL : Hid (xs.getD j default = xs.getD j default) := hide rfl
      have hgx := hide (HG.out j hlt)
      generalize hx9 : xs.getD j default = x at *
      have HX9 := hide hx9
      clear hx9 HL
      obtain ⟨aa1, cc1, ea1, _⟩ := r1.shape
      obtain ⟨aa2, cc2, ea2, _⟩ := r2.shape
      obtain ⟨aa3, cc3, ea3, _⟩ := r3.shape
      subst ea1 ea2 ea3
      have R1 := hide r1
      clear r1
      have R2 := hide r2
      clear r2
      have R3 := hide r3
      clear r3
      go_wp2_with fail
      refine (toKd _ x _ _ _ R1.out R2.out R3.out hgx.out).mono ?_
      rintro e w2 ⟨u1, u2, u3, rfl, ou, b2⟩
      obtain ⟨p1, q1, e1', p2, q2, e2', p3, q3, e3'⟩ : ∃ p1 q1, u1 = .slice p1 x.p.length q1 ∧ ∃ p2 q2, u2 = .slice p2 x.f.length q2 ∧ ∃ p3 q3, u3 = .slice p3 x.m.length q3 := by
        obtain ⟨_, h3, _, _⟩ := ou
        obtain ⟨_, _, _, _, h2, _, _, h3⟩ := ownsL_cons h3
        cases h2
        obtain ⟨_, _, _, _, h2, _, _, h3⟩ := ownsL_cons h3
        cases h2
        obtain ⟨_, _, _, _, h2, _, n2, h3⟩ := ownsL_cons h3
        cases h2
        obtain ⟨_, _, _, _, h2, _, n3, h3⟩ := ownsL_cons h3
        cases h2
        obtain ⟨_, _, _, _, h2, _, n4, h3⟩ := ownsL_cons h3
        cases h2
        obtain ⟨l1, m1, f1, _⟩ := (Owns.reads (Nat.le_refl _) _ _ _ n2).shape
        obtain ⟨l2, m2, f2, _⟩ := (Owns.reads (Nat.le_refl _) _ _ _ n3).shape
        obtain ⟨l3, m3, f3, _⟩ := (Owns.reads (Nat.le_refl _) _ _ _ n4).shape
        exact ⟨l1, m1, f1, l2, m2, f2, l3, m3, f3⟩
      subst e1' e2' e3'
      rw [← HX9.out] at ou
      have hs2 := b2.size
      obtain ⟨hc, hf, ho2⟩ := OwnD.fill (f := kdD) (k := 5) (fun _ => rfl) rfl hn hlt (HO.out.below b2) ou (Nat.le_refl _) (Nat.le_of_lt hlt0) hs2
      rw [HX9.out] at ho2
      replace HB := hide (HB.out.trans (b2.mono HB.out.size))
      replace hlt0 : w.heap.size < w2.heap.size := by omega
      have OU := hide hs2
      clear b2 HO HX9 ou
      unfold kdV
      obtain ⟨y0, d0⟩ := hc 0 (by omega)
      obtain ⟨y1, d1⟩ := hc 1 (by omega)
      obtain ⟨y2, d2⟩ := hc 2 (by omega)
      obtain ⟨y3, d3⟩ := hc 3 (by omega)
      obtain ⟨y4, d4⟩ := hc 4 (by omega)
      rw [Nat.add_zero]  at d0
      have hb2 := setRow_below [.string x.n, .int .i64 x.s, .slice p1 x.p.length q1, .slice p2 x.f.length q2, .slice p3 x.m.length q3] w2 (j * 5) HB.out (Nat.le_refl _)
      have hs9 : w2.heap.size = (setRow w2 w.heap.size (j * 5) [.string x.n, .int .i64 x.s, .slice p1 x.p.length q1, .slice p2 x.f.length q2, .slice p3 x.m.length q3]).heap.size := by simp [setRow]
      rw [hs9] at ho2
      clear hs9
      simp only [setRow, Nat.add_assoc, Nat.reduceAdd] at ho2 hb2
      replace HO := hide ho2
      have HB2 := hide hb2
      clear ho2 hb2 hc HB OU
      go_wp2
      exact ⟨⟨j + 1, by omega, by go_num, HO, HB2, by simp; omega⟩, by simp [intOf]; omega⟩
    · obtain rfl : j = n := by omega
      have HF := hide (HD.out _ _ _ HO.out)
      go_wp2
      go_ret
      exact ⟨_, rfl, HF.out, HB.out⟩
theorem loadPg {w : World} {g : Nat} {a0 : Value} (h : w.heap[g]? = some (.cells #[a0] 31 (0, 0))) : (loadVar 31 ⟨g, 0, none⟩).run Try.prog w = .ok (.agg #[a0]) w :=
  run_loadVar_row w g 31 31 #[a0] (0, 0) _ h Try.underlying31 rfl (by kernel_rfl)
set_option maxRecDepth 100000 in
set_option maxHeartbeats 4000000 in
theorem toPg (w : World) (x : Pg) (v1 : Value) (h1 : Reads w w.heap.size (kins x.k) v1) (hg : PgG x) :
    Calls Try.prog 12 #[pgV x v1] w fun e w' => ∃ u1, e = .returned (pgV x u1) ∧ OwnDL w' w.heap.size w'.heap.size (pgD x) [u1] ∧ Below w.heap.size w w' := by
  obtain ⟨a1, c1, e1, _⟩ := h1.shape
  subst e1
  have H1 := hide h1
  clear h1
  unfold pgV
  go_enter Try.func12, Try.ntmps12
  go_wp2_with fail
  have G0 := heap_alloc_new w (.cells #[.slice a1 (x.k.length) c1] 24)
  have G1 := heap_alloc_new (w.alloc (.cells #[.slice a1 (x.k.length) c1] 24)) (.cells #[.slice none 0 0] 31)
  have G2 := heap_alloc_new ((w.alloc (.cells #[.slice a1 (x.k.length) c1] 24)).alloc (.cells #[.slice none 0 0] 31)) (.cells #[.slice none 0 0] 31)
  simp only [World.size_alloc] at G1 G2
  have bA := (((Below.refl w.heap.size w).alloc (Nat.le_refl _) (.cells #[.slice a1 (x.k.length) c1] 24)).alloc (by simp) (.cells #[.slice none 0 0] 31)).alloc (by simp; omega) (.cells #[.slice none 0 0] 31)
  refine (toKins _ _ x.k (H1.out.at bA) hg.k).mono ?_
  rintro e w1 ⟨u1, rfl, o1, b1⟩
  obtain ⟨p1, q1, rfl⟩ := o1.shape
  have E0 := (b1.block w.heap.size (by simp; omega)).trans ((Below.heap_alloc _ _ _ (by simp; omega)).trans ((Below.heap_alloc _ _ _ (by simp)).trans G0))
  have E1 := (b1.block (w.heap.size + 1) (by simp)).trans ((Below.heap_alloc _ _ _ (by simp)).trans G1)
  have E2 := (b1.block (w.heap.size + 1 + 1) (by simp)).trans G2
  have HB := bA.trans (b1.mono (by simp; omega))
  have hs1 : w.heap.size + 1 + 1 + 1 ≤ w1.heap.size := by have := b1.size; simp only [World.size_alloc] at this; omega
  simp only [World.size_alloc] at o1
  have hM1 := hs1
  clear b1 bA G0 G1 G2
  generalize hm1 : w1.heap.size = M1 at o1
  have k1 : w.heap.size + 1 + 1 + 1 ≤ M1 := by omega
  have l1 : M1 ≤ w1.heap.size := by omega
  clear hm1
  have O1 := hide o1
  clear o1
  have X0 := box_of E0
  have X1 := box_of E1
  have X2 := box_of E2
  have f0 := X0.1 0 _ rfl
  have g0 := X2.1 0 _ rfl
  have r0 := X1.1 0 _ rfl
  have z1 := X1.2
  have z2 := X2.2
  have HE0 := hide E0
  have HE1 := hide E1
  have HE2 := hide E2
  have HHB := hide HB
  clear X0 X1 X2 E0 E1 E2 HB
  go_wp2
  refine bodyPost_ret (v := .agg #[.slice p1 (x.k.length) q1]) (results_one Try.results12 _ _ _ rfl (loadPg (putN1 ((heap_setCell_other _ _ _ _ (by simp <;> omega)).trans HE1.out) _))) rfl ⟨_, rfl, ?_, ?_⟩
  · refine (OwnDL.mono (b := w.heap.size + 1 + 1 + 1) (OwnDL.same (OwnDL.cons (m := M1) (O1.out) (ownDL_nil _ M1 _) (by omega) (by omega)) (fun q hq _ _ => ?_)) (by omega)).up (by simp)
    rw [heap_setCell_other _ _ _ _ (by simp; omega), heap_setCell_other _ _ _ _ (by simp; omega)]
  · exact ((HHB.out.setCell (by simp <;> omega) _).setCell (by simp <;> omega) _)
end Go.Proofs.Ytofnpgheppgcaaa
/-
  Texts, consts and fields held against each other.
-/
namespace Go.Proofs.Ytofnpgheppgcaaa
open Go.RowKit

set_option maxRecDepth 100000 in
set_option maxHeartbeats 1000000 in
theorem eqSt (w : World) (v1 v2 : Value) (xs : List ByteArray) (h1 : Reads w w.heap.size (strs xs) v1) (h2 : Reads w w.heap.size (strs xs) v2) (hm : xs.length ≤ 1048576) :
    Calls Try.prog 102 #[v1, v2] w fun e w' => e = .returned (.bool true) ∧ ∃ q, w' = w.drewN q := by
  obtain ⟨a1, c1, rfl, _, _, hx1⟩ := str_at h1
  obtain ⟨a2, c2, rfl, _, _, hx2⟩ := str_at h2
  have HX1 := hide hx1
  have HX2 := hide hx2
  clear h1 h2 hx1 hx2
  have hne : ((xs.length : Int) != (xs.length : Int)) = false := by simp
  generalize hn : xs.length = n at *
  go_enter Try.func102, Try.ntmps102
  go_wp2
  go_loopw [5] (fun i wr => ∃ k : Nat, k ≤ n ∧ i = .int .i64 k ∧ ∃ q, wr = w.drewN q) (fun i _ => n - (intOf i).toNat)
  case atStart => exact ⟨0, Nat.zero_le _, rfl, 0, rfl⟩
  case round =>
    obtain ⟨k, hk, rfl, q, rfl⟩ := hrel
    by_cases hlt : k < n
    · obtain ⟨b1, o1, rfl, _, hc1⟩ := HX1.out (by omega)
      obtain ⟨b2, o2, rfl, _, hc2⟩ := HX2.out (by omega)
      have e1 := hc1 k hlt
      have e2 := hc2 k hlt
      clear hc1 hc2 HX1 HX2
      have hbe : ((xs.getD k default).toList != (xs.getD k default).toList) = false := by simp
      go_wp2
      go_quiet (fail)
      go_wp2
      go_roundw
      case rel => exact ⟨k + 1, by omega, by go_num, q + nq, rfl⟩
      case measure => simp [intOf]; omega
    · go_wp2
      go_ret
      exact ⟨rfl, q, rfl⟩
set_option maxRecDepth 100000 in
set_option maxHeartbeats 1000000 in
theorem eqKc (w : World) (x : Kc) : Calls Try.prog 94 #[kcV x, kcV x] w fun e w' => e = .returned (.bool true) ∧ Below w.heap.size w w' := by
  have e1 : (x.k != x.k) = false := by simp
  have e2 : (x.n != x.n) = false := by simp
  have e3 : (x.a.toList != x.a.toList) = false := by simp
  have e4 : (x.b.toList != x.b.toList) = false := by simp
  unfold kcV
  go_enter Try.func94, Try.ntmps94
  go_wp2
  go_ret
  exact ⟨rfl, ((Below.refl _ _).alloc (Nat.le_refl _) _).alloc (by simp) _⟩
set_option maxRecDepth 100000 in
set_option maxHeartbeats 1000000 in
theorem eqFd (w : World) (x : Fd) : Calls Try.prog 95 #[fdV x, fdV x] w fun e w' => e = .returned (.bool true) ∧ Below w.heap.size w w' := by
  have e3 : (x.n.toList != x.n.toList) = false := by simp
  have e4 : (x.t.toList != x.t.toList) = false := by simp
  unfold fdV
  go_enter Try.func95, Try.ntmps95
  go_wp2
  go_ret
  exact ⟨rfl, ((Below.refl _ _).alloc (Nat.le_refl _) _).alloc (by simp) _⟩
set_option maxRecDepth 100000 in
set_option maxHeartbeats 4000000 in
theorem eqKcs (w : World) (v1 v2 : Value) (xs : List Kc) (h1 : Reads w w.heap.size (pool xs) v1) (h2 : Reads w w.heap.size (pool xs) v2) (hm : xs.length ≤ 1048576) :
    Calls Try.prog 82 #[v1, v2] w fun e w' => e = .returned (.bool true) ∧ Below w.heap.size w w' := by
  have HX1 : Hid (∀ wr, Below w.heap.size w wr → _) := hide (fun wr hb => const_at (h1.at hb))
  have HX2 : Hid (∀ wr, Below w.heap.size w wr → _) := hide (fun wr hb => const_at (h2.at hb))
  obtain ⟨a1, cap1, rfl, _⟩ := const_at h1
  obtain ⟨a2, cap2, rfl, _⟩ := const_at h2
  clear h1 h2
  generalize hn : xs.length = n at *
  have hne : ((n : Int) != (n : Int)) = false := by simp
  go_enter Try.func82, Try.ntmps82
  go_wp2
  go_loopw [5] (fun i wr => ∃ j : Nat, j ≤ n ∧ i = .int .i64 (j : Int) ∧ Below w.heap.size w wr) (fun i _ => n - (intOf i).toNat)
  case atStart => exact ⟨0, Nat.zero_le _, rfl, Below.refl _ _⟩
  case round =>
    obtain ⟨j, hj, rfl, hb⟩ := hrel
    have HB := hide hb
    have hs := hb.size
    clear hb
    by_cases hlt : j < n
    · obtain ⟨a1', cap1', ea1, _, _, hx1⟩ := HX1.out wr HB.out
      cases ea1
      obtain ⟨b1, o1, rfl, hb1, hc1⟩ := hx1 (by omega)
      obtain ⟨a2', cap2', ea2, _, _, hx2⟩ := HX2.out wr HB.out
      cases ea2
      obtain ⟨b2, o2, rfl, hb2, hc2⟩ := hx2 (by omega)
      obtain ⟨e0, e1, e2, e3⟩ := hc1 j hlt
      obtain ⟨d0, d1, d2, d3⟩ := hc2 j hlt
      clear hx1 hx2 hc1 hc2
      generalize xs.getD j default = p at *
      go_wp2
      go_cut [26] from 11 to 26 (fun s wq => s = .bool false ∧ Below w.heap.size w wq)
      case first =>
        go_region_with (go_at_call 94; refine (eqKc _ p).mono ?_; rintro e w1 ⟨rfl, b1⟩; have HB1 := hide (HB.out.trans (below_of_drew b1 |>.mono hs)); clear b1)
        all_goals (go_wp2_with fail; go_meet; exact ⟨rfl, HB1.out⟩)
      case rest =>
        obtain ⟨rfl, hB⟩ := hcut
        have HB2 := hide hB
        clear hB
        go_wp2
        exact ⟨⟨j + 1, hlt, by go_num, HB2.out⟩, by simp [intOf]; omega⟩
    · go_wp2
      go_ret
      exact ⟨rfl, HB.out⟩
set_option maxRecDepth 100000 in
set_option maxHeartbeats 4000000 in
theorem eqFds (w : World) (v1 v2 : Value) (xs : List Fd) (h1 : Reads w w.heap.size (flds xs) v1) (h2 : Reads w w.heap.size (flds xs) v2) (hm : xs.length ≤ 1048576) :
    Calls Try.prog 83 #[v1, v2] w fun e w' => e = .returned (.bool true) ∧ Below w.heap.size w w' := by
  have HX1 : Hid (∀ wr, Below w.heap.size w wr → _) := hide (fun wr hb => field_at (h1.at hb))
  have HX2 : Hid (∀ wr, Below w.heap.size w wr → _) := hide (fun wr hb => field_at (h2.at hb))
  obtain ⟨a1, cap1, rfl, _⟩ := field_at h1
  obtain ⟨a2, cap2, rfl, _⟩ := field_at h2
  clear h1 h2
  generalize hn : xs.length = n at *
  have hne : ((n : Int) != (n : Int)) = false := by simp
  go_enter Try.func83, Try.ntmps83
  go_wp2
  go_loopw [5] (fun i wr => ∃ j : Nat, j ≤ n ∧ i = .int .i64 (j : Int) ∧ Below w.heap.size w wr) (fun i _ => n - (intOf i).toNat)
  case atStart => exact ⟨0, Nat.zero_le _, rfl, Below.refl _ _⟩
  case round =>
    obtain ⟨j, hj, rfl, hb⟩ := hrel
    have HB := hide hb
    have hs := hb.size
    clear hb
    by_cases hlt : j < n
    · obtain ⟨a1', cap1', ea1, _, _, hx1⟩ := HX1.out wr HB.out
      cases ea1
      obtain ⟨b1, o1, rfl, hb1, hc1⟩ := hx1 (by omega)
      obtain ⟨a2', cap2', ea2, _, _, hx2⟩ := HX2.out wr HB.out
      cases ea2
      obtain ⟨b2, o2, rfl, hb2, hc2⟩ := hx2 (by omega)
      obtain ⟨e0, e1⟩ := hc1 j hlt
      obtain ⟨d0, d1⟩ := hc2 j hlt
      clear hx1 hx2 hc1 hc2
      generalize xs.getD j default = p at *
      go_wp2
      go_cut [26] from 11 to 26 (fun s wq => s = .bool false ∧ Below w.heap.size w wq)
      case first =>
        go_region_with (go_at_call 95; refine (eqFd _ p).mono ?_; rintro e w1 ⟨rfl, b1⟩; have HB1 := hide (HB.out.trans (below_of_drew b1 |>.mono hs)); clear b1)
        all_goals (go_wp2_with fail; go_meet; exact ⟨rfl, HB1.out⟩)
      case rest =>
        obtain ⟨rfl, hB⟩ := hcut
        have HB2 := hide hB
        clear hB
        go_wp2
        exact ⟨⟨j + 1, hlt, by go_num, HB2.out⟩, by simp [intOf]; omega⟩
    · go_wp2
      go_ret
      exact ⟨rfl, HB.out⟩
end Go.Proofs.Ytofnpgheppgcaaa
