/-
  Memories as data.
-/
import Derived.Test.YtelpdlhgjepgbaaDeepCh
import Derived.Laws.StructEq
import Derived.Test.YtelpdlhgjepgbaaObR
import Derived.Test.YtelpdlhgjepgbaaLkR
namespace Go.Proofs.Ytelpdlhgjepgbaa
open Go.ChangeShapes Go.WideShapes Go.RowKit

structure Mm where
  o : List Ob
  l : List Lk
instance : Inhabited Mm := ⟨⟨[], []⟩⟩
def mmD (x : Mm) : List Dt := [obs x.o, lks x.l]
def mmV (_x : Mm) (u1 u2 : Value) : Value := .agg #[u1, u2]
structure MmR (x : Mm) : Prop where
  o : obsR x.o
  l : lksR x.l
def mmW (x : Mm) : Nat := obsW x.o + lksW x.l
structure MmG (x : Mm) : Prop where
  o : obsG x.o
  l : lksG x.l
theorem mmG_of {x : Mm} (hr : MmR x) (hw : mmW x ≤ 1048576) : MmG x := by
  unfold mmW at hw
  exact ⟨obsG_of hr.o (by omega), lksG_of hr.l (by omega)⟩
theorem mmD_own {w : World} {b hi : Nat} {x : Mm} {u1 u2 : Value} (h : OwnDL w b hi (mmD x) [u1, u2]) : Reads w w.heap.size (obs x.o) u1 ∧ Reads w w.heap.size (lks x.l) u2 := by
  have h := h.rd (Nat.le_refl _)
  obtain ⟨_, _, e, h1, h⟩ := readsL_cons h
  cases e
  obtain ⟨_, _, e, h2, h⟩ := readsL_cons h
  cases e
  exact ⟨h1, h2⟩
def IsMm (W : World) (v : Value) : Prop := ∃ (x : Mm) (u1 u2 : Value), v = mmV x u1 u2 ∧ Reads W W.heap.size (obs x.o) u1 ∧ Reads W W.heap.size (lks x.l) u2 ∧ MmR x
set_option maxRecDepth 100000 in
theorem openMm {H : Type} {enc : TypeId × Value → H} {W : World} {r : Reach} {base : Nat} {v : Value} {d : DataW H} {p : List MemPlace}
    (hv : Value.okWide Try.prog W r base 28 v) (h : DataW.Trod enc Try.prog W 0 (fun _ => true) true 28 v d p) : IsMm W v := by
  have c0 : Try.prog.cellsOf 28 = 2 := by kernel_rfl
  have cc0 : Try.prog.cellsOf 25 = 1 := by kernel_rfl
  have cc1 : Try.prog.cellsOf 26 = 1 := by kernel_rfl
  obtain ⟨cs, rfl, _⟩ := okWide_struct Try.underlying28 hv
  obtain ⟨fuel, h⟩ := h
  obtain ⟨xs, n, rfl, hd, hlen, hxl, hf⟩ := DataW.trod_struct Try.underlying28 h
  rw [c0] at hlen
  have hcs : (Value.agg cs).cells.toList = cs.toList := rfl
  rw [hcs] at hlen hf
  obtain ⟨l⟩ := cs
  match xs, hxl, l, hlen with
  | [y0, y1], _, [v0, v1], _ =>
    have g0 := hf 0 _ rfl
    have g1 := hf 1 _ rfl
    simp [cc0, cc1] at g0 g1
    obtain ⟨z0, h0a, h0b, h0c⟩ := rd_open (sz := 3) (Q := ObQ W) (f := obC) Try.underlying25 (by kernel_rfl) (by decide) (fun _ => rfl) (fun _ _ _ h => ob_cells h) ⟨_, g0⟩
    have q0 := all_of_getD h0c
    have r0 : Reads W W.heap.size (obs (z0.map Prod.fst)) v0 := reads_row (T := 99) (f := obD) (m := Prod.fst) z0 h0a (fun y hy => (q0 y hy).1)
    obtain ⟨z1, h1a, h1b, h1c⟩ := rd_open (sz := 3) (Q := LkR) (f := lkC) Try.underlying26 (by kernel_rfl) (by decide) (fun _ => rfl) (fun _ _ _ h => lk_cells h) ⟨_, g1⟩
    have r1 : Reads W W.heap.size (lks z1) v1 := by
      have := reads_row (T := 102) (f := lkD) (m := id) z1 h1a (fun y _ => lk_reads y)
      rwa [List.map_id] at this
    exact ⟨⟨z0.map Prod.fst, z1⟩, v0, v1, rfl, r0, r1, ⟨⟨by simpa using h0b, fun y hy => by
      obtain ⟨x, hx, rfl⟩ := List.mem_map.1 hy
      exact (q0 x hx).2⟩, ⟨h1b, all_of_getD h1c⟩⟩⟩
set_option maxRecDepth 100000 in
set_option maxHeartbeats 4000000 in
theorem szMm (w : World) (x : Mm) (v1 v2 : Value) (left : Int) (h1 : Reads w w.heap.size (obs x.o) v1) (h2 : Reads w w.heap.size (lks x.l) v2) (h0 : 0 ≤ left) (h9 : left ≤ 1048576) (hr : MmR x) :
    Calls Try.prog 10 #[mmV x v1 v2, .int .i64 left] w fun e w' => e = .returned (.int .i64 (szR left (mmW x))) ∧ Below w.heap.size w w' := by
  obtain ⟨a1, c1, e1, _⟩ := h1.shape
  obtain ⟨a2, c2, e2, _⟩ := h2.shape
  subst e1 e2
  have b0 := (Below.refl w.heap.size w).alloc (Nat.le_refl _) (.cells #[.slice a1 x.o.length c1, .slice a2 x.l.length c2] 28)
  have H1 := hide (h1.at b0)
  have H2 := hide (h2.at b0)
  have HB := hide b0
  have HX := hide (Box.new w #[.slice a1 x.o.length c1, .slice a2 x.l.length c2] 28)
  have hgs : Hid (w.heap.size < (w.alloc (.cells #[.slice a1 x.o.length c1, .slice a2 x.l.length c2] 28)).heap.size) := hide (by simp)
  have K1 := hide hr.o
  have K2 := hide hr.l
  obtain ⟨t1, ht1⟩ : ∃ t, obsW x.o = t := ⟨_, rfl⟩
  obtain ⟨t2, ht2⟩ : ∃ t, lksW x.l = t := ⟨_, rfl⟩
  obtain ⟨R, hR⟩ : ∃ R, szR left (mmW x) = R := ⟨_, rfl⟩
  rw [hR]
  unfold mmW at hR
  rw [ht1, ht2] at hR
  have HT1 := hide ht1
  have HT2 := hide ht2
  have HR := hide hR
  clear hR hr b0 h1 ht1 h2 ht2
  unfold mmV
  go_enter Try.func10, Try.ntmps10
  go_wp2_with fail
  generalize w.alloc (.cells #[.slice a1 x.o.length c1, .slice a2 x.l.length c2] 28) = W at *
  refine (szObs _ _ x.o _ H1.out (by omega) (by omega) K1.out).mono ?_
  rintro e w1 ⟨rfl, b1⟩
  rw [HT1.out]
  by_cases g1 : left < (t1 : Int)
  · rw [szR_neg g1]
    replace HB := hide (HB.out.trans (b1.mono HB.out.size))
    clear b1
    go_wp2
    go_ret
    exact ⟨ret_int (by rw [← HR.out, szR_neg (by omega)]), HB.out⟩
  · rw [szR_pos g1]
    have g1' : ¬ left - (t1 : Int) < 0 := by omega
    replace HX := hide (HX.out.below hgs.out b1)
    replace hgs := hide (Nat.lt_of_lt_of_le hgs.out b1.size)
    replace H2 := hide (H2.out.at b1)
    replace HB := hide (HB.out.trans (b1.mono HB.out.size))
    clear b1
    have q0 := HX.out 0 _ rfl
    have q1 := HX.out 1 _ rfl
    go_wp2_with fail
    clear q0 q1
    refine (szLks _ _ x.l _ H2.out (by omega) (by omega) K2.out).mono ?_
    rintro e w2 ⟨rfl, b2⟩
    rw [HT2.out]
    by_cases g2 : left - (t1 : Int) < (t2 : Int)
    · rw [szR_neg g2]
      replace HB := hide (HB.out.trans (b2.mono HB.out.size))
      clear b2
      go_wp2
      go_ret
      exact ⟨ret_int (by rw [← HR.out, szR_neg (by omega)]), HB.out⟩
    · rw [szR_pos g2]
      have g2' : ¬ left - (t1 : Int) - (t2 : Int) < 0 := by omega
      replace HX := hide (HX.out.below hgs.out b2)
      replace hgs := hide (Nat.lt_of_lt_of_le hgs.out b2.size)
      replace HB := hide (HB.out.trans (b2.mono HB.out.size))
      clear b2
      go_wp2
      go_ret
      exact ⟨ret_int (by rw [← HR.out, szR_pos (by omega)] <;> omega), HB.out⟩
theorem loadMm {w : World} {g : Nat} {a0 a1 : Value} (h : w.heap[g]? = some (.cells #[a0, a1] 41 (0, 0))) : (loadVar 41 ⟨g, 0, none⟩).run Try.prog w = .ok (.agg #[a0, a1]) w :=
  run_loadVar_row w g 41 41 #[a0, a1] (0, 0) _ h Try.underlying41 rfl (by kernel_rfl)
set_option maxRecDepth 100000 in
set_option maxHeartbeats 4000000 in
theorem toMm (w : World) (x : Mm) (v1 v2 : Value) (h1 : Reads w w.heap.size (obs x.o) v1) (h2 : Reads w w.heap.size (lks x.l) v2) (hg : MmG x) :
    Calls Try.prog 14 #[mmV x v1 v2] w fun e w' => ∃ u1 u2, e = .returned (mmV x u1 u2) ∧ OwnDL w' w.heap.size w'.heap.size (mmD x) [u1, u2] ∧ Below w.heap.size w w' := by
  obtain ⟨a1, c1, e1, _⟩ := h1.shape
  subst e1
  have H1 := hide h1
  clear h1
  obtain ⟨a2, c2, e2, _⟩ := h2.shape
  subst e2
  have H2 := hide h2
  clear h2
  unfold mmV
  go_enter Try.func14, Try.ntmps14
  go_wp2_with fail
  have G0 := heap_alloc_new w (.cells #[.slice a1 (x.o.length) c1, .slice a2 (x.l.length) c2] 28)
  have G1 := heap_alloc_new (w.alloc (.cells #[.slice a1 (x.o.length) c1, .slice a2 (x.l.length) c2] 28)) (.cells #[.slice none 0 0, .slice none 0 0] 41)
  have G2 := heap_alloc_new ((w.alloc (.cells #[.slice a1 (x.o.length) c1, .slice a2 (x.l.length) c2] 28)).alloc (.cells #[.slice none 0 0, .slice none 0 0] 41)) (.cells #[.slice none 0 0, .slice none 0 0] 41)
  simp only [World.size_alloc] at G1 G2
  have bA := (((Below.refl w.heap.size w).alloc (Nat.le_refl _) (.cells #[.slice a1 (x.o.length) c1, .slice a2 (x.l.length) c2] 28)).alloc (by simp) (.cells #[.slice none 0 0, .slice none 0 0] 41)).alloc (by simp; omega) (.cells #[.slice none 0 0, .slice none 0 0] 41)
  refine (toObs _ _ x.o (H1.out.at bA) hg.o).mono ?_
  rintro e w1 ⟨u1, rfl, o1, b1⟩
  obtain ⟨p1, q1, rfl⟩ := o1.shape
  have E0 := (b1.block w.heap.size (by simp; omega)).trans ((Below.heap_alloc _ _ _ (by simp; omega)).trans ((Below.heap_alloc _ _ _ (by simp)).trans G0))
  have E1 := (b1.block (w.heap.size + 1) (by simp)).trans ((Below.heap_alloc _ _ _ (by simp)).trans G1)
  have E2 := (b1.block (w.heap.size + 1 + 1) (by simp)).trans G2
  have HB := bA.trans (b1.mono (by simp; omega))
  have hs1 : w.heap.size + 1 + 1 + 1 ≤ w1.heap.size := by have := b1.size; simp only [World.size_alloc] at this; omega
  simp only [World.size_alloc] at o1
  have hM1 := hs1
  clear b1 bA G0 G1 G2
  generalize hm1 : w1.heap.size = M1 at o1
  have k1 : w.heap.size + 1 + 1 + 1 ≤ M1 := by omega
  have l1 : M1 ≤ w1.heap.size := by omega
  clear hm1
  have O1 := hide o1
  clear o1
  have X0 := box_of E0
  have X1 := box_of E1
  have X2 := box_of E2
  have f0 := X0.1 0 _ rfl
  have g0 := X2.1 0 _ rfl
  have f1 := X0.1 1 _ rfl
  have g1 := X2.1 1 _ rfl
  have z2 := X2.2
  have HE0 := hide E0
  have HE1 := hide E1
  have HE2 := hide E2
  have HHB := hide HB
  clear X0 X1 X2 E0 E1 E2 HB
  go_wp2_with fail
  have E0 : (w1.setCell ⟨w.heap.size + 1 + 1, 0, none⟩ (.slice p1 (x.o.length) q1)).heap[w.heap.size]? = _ := (heap_setCell_other _ _ _ _ (by simp <;> omega)).trans (HE0.out)
  have E1 : (w1.setCell ⟨w.heap.size + 1 + 1, 0, none⟩ (.slice p1 (x.o.length) q1)).heap[w.heap.size + 1]? = _ := (heap_setCell_other _ _ _ _ (by simp <;> omega)).trans (HE1.out)
  have E2 : (w1.setCell ⟨w.heap.size + 1 + 1, 0, none⟩ (.slice p1 (x.o.length) q1)).heap[w.heap.size + 1 + 1]? = some (.cells #[.slice p1 (x.o.length) q1, .slice none 0 0] 41 (0, 0)) := (heap_setCell_same _ _ 0 _ _ _ HE2.out)
  have HB : Below w.heap.size w (w1.setCell ⟨w.heap.size + 1 + 1, 0, none⟩ (.slice p1 (x.o.length) q1)) := (HHB.out.setCell (p := ⟨w.heap.size + 1 + 1, 0, none⟩) (by simp; omega) _)
  have o1 : OwnD (w1.setCell ⟨w.heap.size + 1 + 1, 0, none⟩ (.slice p1 (x.o.length) q1)) _ _ _ _ := O1.out.same (fun q hq _ _ => by rw [heap_setCell_other _ _ _ _ (by simp; omega)])
  replace hs1 : w.heap.size + 1 + 1 + 1 ≤ (w1.setCell ⟨w.heap.size + 1 + 1, 0, none⟩ (.slice p1 (x.o.length) q1)).heap.size := by simp; omega
  replace l1 : M1 ≤ (w1.setCell ⟨w.heap.size + 1 + 1, 0, none⟩ (.slice p1 (x.o.length) q1)).heap.size := by simp; omega
  clear f0 g0 f1 g1 z2 HE0 HE1 HE2 HHB O1
  generalize (w1.setCell ⟨w.heap.size + 1 + 1, 0, none⟩ (.slice p1 (x.o.length) q1)) = W1 at *
  refine (toLks _ _ x.l (H2.out.at HB) hg.l).mono ?_
  rintro e w2 ⟨u2, rfl, o2, b2⟩
  obtain ⟨p2, q2, rfl⟩ := o2.shape
  replace E0 := (b2.block w.heap.size (by omega)).trans E0
  replace E1 := (b2.block (w.heap.size + 1) (by omega)).trans E1
  replace E2 := (b2.block (w.heap.size + 1 + 1) (by omega)).trans E2
  replace HB := HB.trans (b2.mono (by omega))
  replace o1 := o1.below b2
  have hs2 := b2.size
  generalize hm2 : w2.heap.size = M2 at o2
  replace o2 := o2.mono l1
  have k2 : M1 ≤ M2 := by omega
  have l2 : M2 ≤ w2.heap.size := by omega
  replace hs1 : w.heap.size + 1 + 1 + 1 ≤ w2.heap.size := by omega
  clear b2 hm2 hs2
  have O1 := hide o1
  clear o1
  have O2 := hide o2
  clear o2
  have X0 := box_of E0
  have X1 := box_of E1
  have X2 := box_of E2
  have f0 := X0.1 0 _ rfl
  have g0 := X2.1 0 _ rfl
  have f1 := X0.1 1 _ rfl
  have g1 := X2.1 1 _ rfl
  have r0 := X1.1 0 _ rfl
  have r1 := X1.1 1 _ rfl
  have z1 := X1.2
  have z2 := X2.2
  have HE0 := hide E0
  have HE1 := hide E1
  have HE2 := hide E2
  have HHB := hide HB
  clear X0 X1 X2 E0 E1 E2 HB
  go_wp2
  refine bodyPost_ret (v := .agg #[.slice p1 (x.o.length) q1, .slice p2 (x.l.length) q2]) (results_one Try.results14 _ _ _ rfl (loadMm (putN2 ((heap_setCell_other _ _ _ _ (by simp <;> omega)).trans HE1.out) _ _))) rfl ⟨_, _, rfl, ?_, ?_⟩
  · refine (OwnDL.mono (b := w.heap.size + 1 + 1 + 1) (OwnDL.same (OwnDL.cons (m := M1) (O1.out) (OwnDL.cons (m := M2) (O2.out) (ownDL_nil _ M2 _) (by omega) (by omega)) (by omega) (by omega)) (fun q hq _ _ => ?_)) (by omega)).up (by simp)
    rw [heap_setCell_other _ _ _ _ (by simp; omega), heap_setCell_other _ _ _ _ (by simp; omega), heap_setCell_other _ _ _ _ (by simp; omega)]
  · exact (((HHB.out.setCell (by simp <;> omega) _).setCell (by simp <;> omega) _).setCell (by simp <;> omega) _)
set_option maxRecDepth 100000 in
set_option maxHeartbeats 4000000 in
theorem eqMm (w : World) (x : Mm) (p1 p2 q1 q2 : Value) (hp1 : Reads w w.heap.size (obs x.o) p1) (hp2 : Reads w w.heap.size (lks x.l) p2) (hq1 : Reads w w.heap.size (obs x.o) q1) (hq2 : Reads w w.heap.size (lks x.l) q2) (hg : MmG x) :
    Calls Try.prog 20 #[mmV x p1 p2, mmV x q1 q2] w fun e w' => e = .returned (.bool true) ∧ Below w.heap.size w w' := by
  obtain ⟨a1, k1, e1, _⟩ := hp1.shape
  obtain ⟨b1, l1, f1, _⟩ := hq1.shape
  obtain ⟨a2, k2, e2, _⟩ := hp2.shape
  obtain ⟨b2, l2, f2, _⟩ := hq2.shape
  subst e1 f1 e2 f2
  have bA := ((Below.refl w.heap.size w).alloc (Nat.le_refl _) (.cells #[.slice a1 x.o.length k1, .slice a2 x.l.length k2] 41)).alloc (by simp) (.cells #[.slice b1 x.o.length l1, .slice b2 x.l.length l2] 41)
  have HP1 := hide (hp1.at bA)
  have HQ1 := hide (hq1.at bA)
  have HP2 := hide (hp2.at bA)
  have HQ2 := hide (hq2.at bA)
  have G0 := heap_alloc_new w (.cells #[.slice a1 x.o.length k1, .slice a2 x.l.length k2] 41)
  have G1 := heap_alloc_new (w.alloc (.cells #[.slice a1 x.o.length k1, .slice a2 x.l.length k2] 41)) (.cells #[.slice b1 x.o.length l1, .slice b2 x.l.length l2] 41)
  simp only [World.size_alloc] at G1
  have E0 := hide ((Below.heap_alloc _ (.cells #[.slice b1 x.o.length l1, .slice b2 x.l.length l2] 41) _ (by simp)).trans G0)
  have E1 := hide G1
  have HB := hide bA
  have HG := hide hg
  have hsz : Hid (w.heap.size + 1 < ((w.alloc (.cells #[.slice a1 x.o.length k1, .slice a2 x.l.length k2] 41)).alloc (.cells #[.slice b1 x.o.length l1, .slice b2 x.l.length l2] 41)).heap.size) := hide (by simp)
  clear hp1 hq1 hp2 hq2 bA hg G0 G1
  unfold mmV
  go_enter Try.func20, Try.ntmps20
  go_wp2_with fail
  generalize (w.alloc (.cells #[.slice a1 x.o.length k1, .slice a2 x.l.length k2] 41)).alloc (.cells #[.slice b1 x.o.length l1, .slice b2 x.l.length l2] 41) = W at *
  refine (eqObs _ _ _ x.o HP1.out HQ1.out HG.out.o).mono ?_
  rintro e w1 ⟨rfl, z1⟩
  replace E0 := hide ((z1.block w.heap.size (by have := hsz.out; omega)).trans E0.out)
  replace E1 := hide ((z1.block (w.heap.size + 1) hsz.out).trans E1.out)
  replace hsz := hide (Nat.lt_of_lt_of_le hsz.out z1.size)
  replace HP2 := hide (HP2.out.at z1)
  replace HQ2 := hide (HQ2.out.at z1)
  replace HB := hide (HB.out.trans (z1.mono HB.out.size))
  clear z1
  have f0 := (box_of E0.out).1 0 _ rfl
  have f1 := (box_of E0.out).1 1 _ rfl
  have g0 := (box_of E1.out).1 0 _ rfl
  have g1 := (box_of E1.out).1 1 _ rfl
  go_wp2_with fail
  clear f0 g0 f1 g1
  refine (eqLks _ _ _ x.l HP2.out HQ2.out HG.out.l).mono ?_
  rintro e w2 ⟨rfl, z2⟩
  replace HB := hide (HB.out.trans (z2.mono HB.out.size))
  clear z2
  go_wp2
  go_ret
  exact ⟨rfl, HB.out⟩
end Go.Proofs.Ytelpdlhgjepgbaa
