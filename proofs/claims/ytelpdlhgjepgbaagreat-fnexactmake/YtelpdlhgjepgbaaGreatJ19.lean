/-
  Joined: MmR, ObRK.
-/
import Derived.Test.YtelpdlhgjepgbaaGreatJ16
import Derived.Laws.StructEq
import Derived.Test.YtelpdlhgjepgbaaGreatJ18
/-
  Memories as data.
-/
namespace Go.Proofs.YtelpdlhgjepgbaaGreat
open Go.ChangeShapes Go.WideShapes Go.RowKit

structure Mm where
  o : List Ob
  l : List Lk
instance : Inhabited Mm := ⟨⟨[], []⟩⟩
def mmD (x : Mm) : List Dt := [obs x.o, lks x.l]
def mmV (_x : Mm) (u1 u2 : Value) : Value := .agg #[u1, u2]
structure MmR (x : Mm) : Prop where
  o : obsR x.o
  l : lksR x.l
def mmW (x : Mm) : Nat := obsW x.o + lksW x.l
structure MmG (x : Mm) : Prop where
  o : obsG x.o
  l : lksG x.l
theorem mmG_of {x : Mm} (hr : MmR x) (hw : mmW x ≤ 1048576) : MmG x := by
  unfold mmW at hw
  exact ⟨obsG_of hr.o (by omega), lksG_of hr.l (by omega)⟩
theorem mmD_own {w : World} {b hi : Nat} {x : Mm} {u1 u2 : Value} (h : OwnDL w b hi (mmD x) [u1, u2]) : Reads w w.heap.size (obs x.o) u1 ∧ Reads w w.heap.size (lks x.l) u2 := by
  have h := h.rd (Nat.le_refl _)
  obtain ⟨_, _, e, h1, h⟩ := readsL_cons h
  cases e
  obtain ⟨_, _, e, h2, h⟩ := readsL_cons h
  cases e
  exact ⟨h1, h2⟩
def IsMm (W : World) (v : Value) : Prop := ∃ (x : Mm) (u1 u2 : Value), v = mmV x u1 u2 ∧ Reads W W.heap.size (obs x.o) u1 ∧ Reads W W.heap.size (lks x.l) u2 ∧ MmR x
set_option maxRecDepth 100000 in
theorem openMm {H : Type} {enc : TypeId × Value → H} {W : World} {r : Reach} {base : Nat} {v : Value} {d : DataW H} {p : List MemPlace}
    (hv : Value.okWide Tryz.prog W r base 28 v) (h : DataW.Trod enc Tryz.prog W 0 (fun _ => true) true 28 v d p) : IsMm W v := by
  have c0 : Tryz.prog.cellsOf 28 = 2 := by kernel_rfl
  have cc0 : Tryz.prog.cellsOf 25 = 1 := by kernel_rfl
  have cc1 : Tryz.prog.cellsOf 26 = 1 := by kernel_rfl
  obtain ⟨cs, rfl, _⟩ := okWide_struct Tryz.underlying28 hv
  obtain ⟨fuel, h⟩ := h
  obtain ⟨xs, n, rfl, hd, hlen, hxl, hf⟩ := DataW.trod_struct Tryz.underlying28 h
  rw [c0] at hlen
  have hcs : (Value.agg cs).cells.toList = cs.toList := rfl
  rw [hcs] at hlen hf
  obtain ⟨l⟩ := cs
  match xs, hxl, l, hlen with
  | [y0, y1], _, [v0, v1], _ =>
    have g0 := hf 0 _ rfl
    have g1 := hf 1 _ rfl
    simp [cc0, cc1] at g0 g1
    obtain ⟨z0, h0a, h0b, h0c⟩ := rd_open (sz := 3) (Q := ObQ W) (f := obC) Tryz.underlying25 (by kernel_rfl) (by decide) (fun _ => rfl) (fun _ _ _ h => ob_cells h) ⟨_, g0⟩
    have q0 := all_of_getD h0c
    have r0 : Reads W W.heap.size (obs (z0.map Prod.fst)) v0 := reads_row (T := 54) (f := obD) (m := Prod.fst) z0 h0a (fun y hy => (q0 y hy).1)
    obtain ⟨z1, h1a, h1b, h1c⟩ := rd_open (sz := 3) (Q := LkR) (f := lkC) Tryz.underlying26 (by kernel_rfl) (by decide) (fun _ => rfl) (fun _ _ _ h => lk_cells h) ⟨_, g1⟩
    have r1 : Reads W W.heap.size (lks z1) v1 := by
      have := reads_row (T := 89) (f := lkD) (m := id) z1 h1a (fun y _ => lk_reads y)
      rwa [List.map_id] at this
    exact ⟨⟨z0.map Prod.fst, z1⟩, v0, v1, rfl, r0, r1, ⟨⟨by simpa using h0b, fun y hy => by
      obtain ⟨x, hx, rfl⟩ := List.mem_map.1 hy
      exact (q0 x hx).2⟩, ⟨h1b, all_of_getD h1c⟩⟩⟩
set_option maxRecDepth 100000 in
set_option maxHeartbeats 4000000 in
theorem szMm (w : World) (x : Mm) (v1 v2 : Value) (left : Int) (h1 : Reads w w.heap.size (obs x.o) v1) (h2 : Reads w w.heap.size (lks x.l) v2) (h0 : 0 ≤ left) (h9 : left ≤ 1048576) (hr : MmR x) :
    Calls Tryz.prog 5 #[mmV x v1 v2, .int .i64 left] w fun e w' => e = .returned (.int .i64 (szR left (mmW x))) ∧ Below w.heap.size w w' := by
  obtain ⟨a1, c1, e1, _⟩ := h1.shape
  obtain ⟨a2, c2, e2, _⟩ := h2.shape
  subst e1 e2
  have b0 := (Below.refl w.heap.size w).alloc (Nat.le_refl _) (.cells #[.slice a1 x.o.length c1, .slice a2 x.l.length c2] 28)
  have H1 := hide (h1.at b0)
  have H2 := hide (h2.at b0)
  have HB := hide b0
  have HX := hide (Box.new w #[.slice a1 x.o.length c1, .slice a2 x.l.length c2] 28)
  have hgs : Hid (w.heap.size < (w.alloc (.cells #[.slice a1 x.o.length c1, .slice a2 x.l.length c2] 28)).heap.size) := hide (by simp)
  have K1 := hide hr.o
  have K2 := hide hr.l
  obtain ⟨t1, ht1⟩ : ∃ t, obsW x.o = t := ⟨_, rfl⟩
  obtain ⟨t2, ht2⟩ : ∃ t, lksW x.l = t := ⟨_, rfl⟩
  obtain ⟨R, hR⟩ : ∃ R, szR left (mmW x) = R := ⟨_, rfl⟩
  rw [hR]
  unfold mmW at hR
  rw [ht1, ht2] at hR
  have HT1 := hide ht1
  have HT2 := hide ht2
  have HR := hide hR
  clear hR hr b0 h1 ht1 h2 ht2
  unfold mmV
  go_enter Tryz.func5, Tryz.ntmps5
  go_wp2_with fail
  generalize w.alloc (.cells #[.slice a1 x.o.length c1, .slice a2 x.l.length c2] 28) = W at *
  refine (szObs _ _ x.o _ H1.out (by omega) (by omega) K1.out).mono ?_
  rintro e w1 ⟨rfl, b1⟩
  rw [HT1.out]
  by_cases g1 : left < (t1 : Int)
  · rw [szR_neg g1]
    replace HB := hide (HB.out.trans (b1.mono HB.out.size))
    clear b1
    go_wp2
    go_ret
    exact ⟨ret_int (by rw [← HR.out, szR_neg (by omega)]), HB.out⟩
  · rw [szR_pos g1]
    have g1' : ¬ left - (t1 : Int) < 0 := by omega
    replace HX := hide (HX.out.below hgs.out b1)
    replace hgs := hide (Nat.lt_of_lt_of_le hgs.out b1.size)
    replace H2 := hide (H2.out.at b1)
    replace HB := hide (HB.out.trans (b1.mono HB.out.size))
    clear b1
    have q0 := HX.out 0 _ rfl
    have q1 := HX.out 1 _ rfl
    go_wp2_with fail
    clear q0 q1
    refine (szLks _ _ x.l _ H2.out (by omega) (by omega) K2.out).mono ?_
    rintro e w2 ⟨rfl, b2⟩
    rw [HT2.out]
    by_cases g2 : left - (t1 : Int) < (t2 : Int)
    · rw [szR_neg g2]
      replace HB := hide (HB.out.trans (b2.mono HB.out.size))
      clear b2
      go_wp2
      go_ret
      exact ⟨ret_int (by rw [← HR.out, szR_neg (by omega)]), HB.out⟩
    · rw [szR_pos g2]
      have g2' : ¬ left - (t1 : Int) - (t2 : Int) < 0 := by omega
      replace HX := hide (HX.out.below hgs.out b2)
      replace hgs := hide (Nat.lt_of_lt_of_le hgs.out b2.size)
      replace HB := hide (HB.out.trans (b2.mono HB.out.size))
      clear b2
      go_wp2
      go_ret
      exact ⟨ret_int (by rw [← HR.out, szR_pos (by omega)] <;> omega), HB.out⟩
theorem loadMm {w : World} {g : Nat} {a0 a1 : Value} (h : w.heap[g]? = some (.cells #[a0, a1] 34 (0, 0))) : (loadVar 34 ⟨g, 0, none⟩).run Tryz.prog w = .ok (.agg #[a0, a1]) w :=
  run_loadVar_row w g 34 34 #[a0, a1] (0, 0) _ h Tryz.underlying34 rfl (by kernel_rfl)
set_option maxRecDepth 100000 in
set_option maxHeartbeats 4000000 in
theorem toMm (w : World) (x : Mm) (v1 v2 : Value) (h1 : Reads w w.heap.size (obs x.o) v1) (h2 : Reads w w.heap.size (lks x.l) v2) (hg : MmG x) :
    Calls Tryz.prog 8 #[mmV x v1 v2] w fun e w' => ∃ u1 u2, e = .returned (mmV x u1 u2) ∧ OwnDL w' w.heap.size w'.heap.size (mmD x) [u1, u2] ∧ Below w.heap.size w w' := by
  obtain ⟨a1, c1, e1, _⟩ := h1.shape
  subst e1
  have H1 := hide h1
  clear h1
  obtain ⟨a2, c2, e2, _⟩ := h2.shape
  subst e2
  have H2 := hide h2
  clear h2
  unfold mmV
  go_enter Tryz.func8, Tryz.ntmps8
  go_wp2_with fail
  have G0 := heap_alloc_new w (.cells #[.slice a1 (x.o.length) c1, .slice a2 (x.l.length) c2] 28)
  have G1 := heap_alloc_new (w.alloc (.cells #[.slice a1 (x.o.length) c1, .slice a2 (x.l.length) c2] 28)) (.cells #[.slice none 0 0, .slice none 0 0] 34)
  have G2 := heap_alloc_new ((w.alloc (.cells #[.slice a1 (x.o.length) c1, .slice a2 (x.l.length) c2] 28)).alloc (.cells #[.slice none 0 0, .slice none 0 0] 34)) (.cells #[.slice none 0 0, .slice none 0 0] 34)
  simp only [World.size_alloc] at G1 G2
  have bA := (((Below.refl w.heap.size w).alloc (Nat.le_refl _) (.cells #[.slice a1 (x.o.length) c1, .slice a2 (x.l.length) c2] 28)).alloc (by simp) (.cells #[.slice none 0 0, .slice none 0 0] 34)).alloc (by simp; omega) (.cells #[.slice none 0 0, .slice none 0 0] 34)
  refine (toObs _ _ x.o (H1.out.at bA) hg.o).mono ?_
  rintro e w1 ⟨u1, rfl, o1, b1⟩
  obtain ⟨p1, q1, rfl⟩ := o1.shape
  have E0 := (b1.block w.heap.size (by simp; omega)).trans ((Below.heap_alloc _ _ _ (by simp; omega)).trans ((Below.heap_alloc _ _ _ (by simp)).trans G0))
  have E1 := (b1.block (w.heap.size + 1) (by simp)).trans ((Below.heap_alloc _ _ _ (by simp)).trans G1)
  have E2 := (b1.block (w.heap.size + 1 + 1) (by simp)).trans G2
  have HB := bA.trans (b1.mono (by simp; omega))
  have hs1 : w.heap.size + 1 + 1 + 1 ≤ w1.heap.size := by have := b1.size; simp only [World.size_alloc] at this; omega
  simp only [World.size_alloc] at o1
  have hM1 := hs1
  clear b1 bA G0 G1 G2
  generalize hm1 : w1.heap.size = M1 at o1
  have k1 : w.heap.size + 1 + 1 + 1 ≤ M1 := by omega
  have l1 : M1 ≤ w1.heap.size := by omega
  clear hm1
  have O1 := hide o1
  clear o1
  have X0 := box_of E0
  have X1 := box_of E1
  have X2 := box_of E2
  have f0 := X0.1 0 _ rfl
  have g0 := X2.1 0 _ rfl
  have f1 := X0.1 1 _ rfl
  have g1 := X2.1 1 _ rfl
  have z2 := X2.2
  have HE0 := hide E0
  have HE1 := hide E1
  have HE2 := hide E2
  have HHB := hide HB
  clear X0 X1 X2 E0 E1 E2 HB
  go_wp2_with fail
  have E0 : (w1.setCell ⟨w.heap.size + 1 + 1, 0, none⟩ (.slice p1 (x.o.length) q1)).heap[w.heap.size]? = _ := (heap_setCell_other _ _ _ _ (by simp <;> omega)).trans (HE0.out)
  have E1 : (w1.setCell ⟨w.heap.size + 1 + 1, 0, none⟩ (.slice p1 (x.o.length) q1)).heap[w.heap.size + 1]? = _ := (heap_setCell_other _ _ _ _ (by simp <;> omega)).trans (HE1.out)
  have E2 : (w1.setCell ⟨w.heap.size + 1 + 1, 0, none⟩ (.slice p1 (x.o.length) q1)).heap[w.heap.size + 1 + 1]? = some (.cells #[.slice p1 (x.o.length) q1, .slice none 0 0] 34 (0, 0)) := (heap_setCell_same _ _ 0 _ _ _ HE2.out)
  have HB : Below w.heap.size w (w1.setCell ⟨w.heap.size + 1 + 1, 0, none⟩ (.slice p1 (x.o.length) q1)) := (HHB.out.setCell (p := ⟨w.heap.size + 1 + 1, 0, none⟩) (by simp; omega) _)
  have o1 : OwnD (w1.setCell ⟨w.heap.size + 1 + 1, 0, none⟩ (.slice p1 (x.o.length) q1)) _ _ _ _ := O1.out.same (fun q hq _ _ => by rw [heap_setCell_other _ _ _ _ (by simp; omega)])
  replace hs1 : w.heap.size + 1 + 1 + 1 ≤ (w1.setCell ⟨w.heap.size + 1 + 1, 0, none⟩ (.slice p1 (x.o.length) q1)).heap.size := by simp; omega
  replace l1 : M1 ≤ (w1.setCell ⟨w.heap.size + 1 + 1, 0, none⟩ (.slice p1 (x.o.length) q1)).heap.size := by simp; omega
  clear f0 g0 f1 g1 z2 HE0 HE1 HE2 HHB O1
  generalize (w1.setCell ⟨w.heap.size + 1 + 1, 0, none⟩ (.slice p1 (x.o.length) q1)) = W1 at *
  refine (toLks _ _ x.l (H2.out.at HB) hg.l).mono ?_
  rintro e w2 ⟨u2, rfl, o2, b2⟩
  obtain ⟨p2, q2, rfl⟩ := o2.shape
  replace E0 := (b2.block w.heap.size (by omega)).trans E0
  replace E1 := (b2.block (w.heap.size + 1) (by omega)).trans E1
  replace E2 := (b2.block (w.heap.size + 1 + 1) (by omega)).trans E2
  replace HB := HB.trans (b2.mono (by omega))
  replace o1 := o1.below b2
  have hs2 := b2.size
  generalize hm2 : w2.heap.size = M2 at o2
  replace o2 := o2.mono l1
  have k2 : M1 ≤ M2 := by omega
  have l2 : M2 ≤ w2.heap.size := by omega
  replace hs1 : w.heap.size + 1 + 1 + 1 ≤ w2.heap.size := by omega
  clear b2 hm2 hs2
  have O1 := hide o1
  clear o1
  have O2 := hide o2
  clear o2
  have X0 := box_of E0
  have X1 := box_of E1
  have X2 := box_of E2
  have f0 := X0.1 0 _ rfl
  have g0 := X2.1 0 _ rfl
  have f1 := X0.1 1 _ rfl
  have g1 := X2.1 1 _ rfl
  have r0 := X1.1 0 _ rfl
  have r1 := X1.1 1 _ rfl
  have z1 := X1.2
  have z2 := X2.2
  have HE0 := hide E0
  have HE1 := hide E1
  have HE2 := hide E2
  have HHB := hide HB
  clear X0 X1 X2 E0 E1 E2 HB
  go_wp2
  refine bodyPost_ret (v := .agg #[.slice p1 (x.o.length) q1, .slice p2 (x.l.length) q2]) (results_one Tryz.results8 _ _ _ rfl (loadMm (putN2 ((heap_setCell_other _ _ _ _ (by simp <;> omega)).trans HE1.out) _ _))) rfl ⟨_, _, rfl, ?_, ?_⟩
  · refine (OwnDL.mono (b := w.heap.size + 1 + 1 + 1) (OwnDL.same (OwnDL.cons (m := M1) (O1.out) (OwnDL.cons (m := M2) (O2.out) (ownDL_nil _ M2 _) (by omega) (by omega)) (by omega) (by omega)) (fun q hq _ _ => ?_)) (by omega)).up (by simp)
    rw [heap_setCell_other _ _ _ _ (by simp; omega), heap_setCell_other _ _ _ _ (by simp; omega), heap_setCell_other _ _ _ _ (by simp; omega)]
  · exact (((HHB.out.setCell (by simp <;> omega) _).setCell (by simp <;> omega) _).setCell (by simp <;> omega) _)
set_option maxRecDepth 100000 in
set_option maxHeartbeats 4000000 in
theorem eqMm (w : World) (x : Mm) (p1 p2 q1 q2 : Value) (hp1 : Reads w w.heap.size (obs x.o) p1) (hp2 : Reads w w.heap.size (lks x.l) p2) (hq1 : Reads w w.heap.size (obs x.o) q1) (hq2 : Reads w w.heap.size (lks x.l) q2) (hg : MmG x) :
    Calls Tryz.prog 10 #[mmV x p1 p2, mmV x q1 q2] w fun e w' => e = .returned (.bool true) ∧ Below w.heap.size w w' := by
  obtain ⟨a1, k1, e1, _⟩ := hp1.shape
  obtain ⟨b1, l1, f1, _⟩ := hq1.shape
  obtain ⟨a2, k2, e2, _⟩ := hp2.shape
  obtain ⟨b2, l2, f2, _⟩ := hq2.shape
  subst e1 f1 e2 f2
  have bA := ((Below.refl w.heap.size w).alloc (Nat.le_refl _) (.cells #[.slice a1 x.o.length k1, .slice a2 x.l.length k2] 34)).alloc (by simp) (.cells #[.slice b1 x.o.length l1, .slice b2 x.l.length l2] 34)
  have HP1 := hide (hp1.at bA)
  have HQ1 := hide (hq1.at bA)
  have HP2 := hide (hp2.at bA)
  have HQ2 := hide (hq2.at bA)
  have G0 := heap_alloc_new w (.cells #[.slice a1 x.o.length k1, .slice a2 x.l.length k2] 34)
  have G1 := heap_alloc_new (w.alloc (.cells #[.slice a1 x.o.length k1, .slice a2 x.l.length k2] 34)) (.cells #[.slice b1 x.o.length l1, .slice b2 x.l.length l2] 34)
  simp only [World.size_alloc] at G1
  have E0 := hide ((Below.heap_alloc _ (.cells #[.slice b1 x.o.length l1, .slice b2 x.l.length l2] 34) _ (by simp)).trans G0)
  have E1 := hide G1
  have HB := hide bA
  have HG := hide hg
  have hsz : Hid (w.heap.size + 1 < ((w.alloc (.cells #[.slice a1 x.o.length k1, .slice a2 x.l.length k2] 34)).alloc (.cells #[.slice b1 x.o.length l1, .slice b2 x.l.length l2] 34)).heap.size) := hide (by simp)
  clear hp1 hq1 hp2 hq2 bA hg G0 G1
  unfold mmV
  go_enter Tryz.func10, Tryz.ntmps10
  go_wp2_with fail
  generalize (w.alloc (.cells #[.slice a1 x.o.length k1, .slice a2 x.l.length k2] 34)).alloc (.cells #[.slice b1 x.o.length l1, .slice b2 x.l.length l2] 34) = W at *
  refine (eqObs _ _ _ x.o HP1.out HQ1.out HG.out.o).mono ?_
  rintro e w1 ⟨rfl, z1⟩
  replace E0 := hide ((z1.block w.heap.size (by have := hsz.out; omega)).trans E0.out)
  replace E1 := hide ((z1.block (w.heap.size + 1) hsz.out).trans E1.out)
  replace hsz := hide (Nat.lt_of_lt_of_le hsz.out z1.size)
  replace HP2 := hide (HP2.out.at z1)
  replace HQ2 := hide (HQ2.out.at z1)
  replace HB := hide (HB.out.trans (z1.mono HB.out.size))
  clear z1
  have f0 := (box_of E0.out).1 0 _ rfl
  have f1 := (box_of E0.out).1 1 _ rfl
  have g0 := (box_of E1.out).1 0 _ rfl
  have g1 := (box_of E1.out).1 1 _ rfl
  go_wp2_with fail
  clear f0 g0 f1 g1
  refine (eqLks _ _ _ x.l HP2.out HQ2.out HG.out.l).mono ?_
  rintro e w2 ⟨rfl, z2⟩
  replace HB := hide (HB.out.trans (z2.mono HB.out.size))
  clear z2
  go_wp2
  go_ret
  exact ⟨rfl, HB.out⟩
end Go.Proofs.YtelpdlhgjepgbaaGreat
/-
  Objects as data. Marks, and what is held.
-/
namespace Go.Proofs.YtelpdlhgjepgbaaGreat
open Go.ChangeShapes Go.WideShapes Go.RowKit

def obCnt (x : Ob) : Nat := 2 + cntVls x.f
def mkOb (k : Nat) (x : Ob) : Ob := ⟨((k : Nat) : Int), ((k : Nat) : Int) + 1, mkVls (k + 2) x.f⟩
theorem obCnt_le (x : Ob) : obCnt x ≤ 8 * obW x + 8 := by
  have h_f := cntVls_le x.f
  unfold obCnt obW
  omega
def mkObs : Nat → List Ob → List Ob
  | _, [] => []
  | k, x :: xs => mkOb k x :: mkObs (k + obCnt x) xs
def cntObs (xs : List Ob) : Nat := tot obCnt xs
theorem mkObs_len : ∀ (k : Nat) (xs : List Ob), (mkObs k xs).length = xs.length
  | _, [] => rfl
  | k, x :: xs => by simp [mkObs, mkObs_len _ xs]
theorem mkObs_get : ∀ (k : Nat) (xs : List Ob) (j : Nat), j < xs.length → (mkObs k xs).getD j default = mkOb (k + tot obCnt (xs.take j)) (xs.getD j default)
  | k, [], j, h => by simp at h
  | k, x :: xs, 0, h => by simp [mkObs, tot]
  | k, x :: xs, j + 1, h => by
    rw [mkObs, List.getD_cons_succ, mkObs_get _ xs j (by simpa using h), List.getD_cons_succ]
    congr 1
    unfold tot
    rw [List.take_succ_cons, List.map_cons, List.sum_cons]; omega
theorem cntObs_le (xs : List Ob) : cntObs xs ≤ 8 * obsW xs := tot_cnt obCnt obW obCnt_le xs
set_option maxRecDepth 100000 in
set_option maxHeartbeats 4000000 in
theorem mkObsR (w : World) (b K : Nat) (m : Int) (hmK : m = (K : Int)) (v : Value) (xs : List Ob) (F : List Nat) (h : Owns w b (obs xs) v F) (hnd : F.Nodup) (hK : 0 < K) (hm : K + cntObs xs ≤ 100000000) :
    Calls Tryz.prog 32 #[v, .int .i64 m] w fun e w' => e = .returned (.int .i64 ((K + cntObs xs : Nat) : Int)) ∧ Owns w' b (obs (mkObs K xs)) v F ∧ Chg F w w' := by
  subst hmK
  have HCN : Hid (cntObs xs = tot obCnt xs) := hide rfl
  rw [HCN.out] at hm
  have HST : Hid (Owns w b (.row 54 3 xs.length ((mixR obD (mkObs K xs) xs 0).flatten)) v F) := hide (by rw [mixR_zero]; exact h)
  have HEN : Hid (∀ W, Owns W b (.row 54 3 xs.length ((mixR obD (mkObs K xs) xs xs.length).flatten)) v F → Owns W b (obs (mkObs K xs)) v F) := hide (fun W h => by rw [mixR_end _ (mkObs_len K _)] at h; unfold obs; rw [mkObs_len]; exact h)
  have hML := mkObs_len K xs
  have HTS : Hid (∀ j, j < xs.length → tot obCnt (xs.take (j + 1)) = tot obCnt (xs.take j) + obCnt (xs.getD j default)) := hide (fun j hj => tot_step _ xs j hj)
  have HTL : Hid (∀ j, tot obCnt (xs.take j) ≤ tot obCnt xs) := hide (tot_le _ xs)
  have HTE : Hid (tot obCnt (xs.take xs.length) = tot obCnt xs) := hide (by rw [List.take_length])
  have HG : Hid (∀ j, j < xs.length → (mixR obD (mkObs K xs) xs j).getD j [] = obD (xs.getD j default)) := hide (fun j hj => mixR_get _ hML hj)
  have HS : Hid (∀ j, j < xs.length → (mixR obD (mkObs K xs) xs j).set j (obD (mkOb (K + tot obCnt (xs.take j)) (xs.getD j default))) = mixR obD (mkObs K xs) xs (j + 1)) := hide (fun j hj => by rw [← mkObs_get K xs j hj]; exact mixR_step _ hML hj)
  have HA : Hid (∀ j, ∀ r ∈ mixR obD (mkObs K xs) xs j, r.length = 3) := hide (fun j => mixR_all (f := obD) (k := 3) (fun _ => rfl) _ _ j)
  have HLn : Hid (∀ j, j ≤ xs.length → (mixR obD (mkObs K xs) xs j).length = xs.length) := hide (fun j hj => mixR_len _ hML hj)
  have hxl : xs.length ≤ tot obCnt xs := tot_one _ (fun _ => by unfold obCnt; omega) xs
  have hsl := h.slice
  clear h hML
  rw [HCN.out]
  generalize hn : xs.length = n at *
  rcases hsl with ⟨rfl, rfl⟩ | ⟨g, c, rfl⟩
  · have hx0 : xs = [] := List.eq_nil_of_length_eq_zero hn
    have HX0 : Hid (tot obCnt xs = 0) := hide (by rw [hx0]; rfl)
    go_enter Tryz.func32, Tryz.ntmps32
    go_wp2
    go_loopw [1, 5] (fun q i wr => q = .int .i64 (K : Int) ∧ i = .int .i64 0 ∧ wr = w) (fun _ _ _ => 0)
    case atStart => exact ⟨rfl, rfl, rfl⟩
    case round =>
      obtain ⟨rfl, rfl, rfl⟩ := hrel
      go_wp2
      go_ret
      exact ⟨by rw [HX0.out]; rfl, HEN.out _ HST.out, Chg.refl _ _⟩
  · go_enter Tryz.func32, Tryz.ntmps32
    go_wp2
    go_loopw [1, 5] (fun q i wr => ∃ j : Nat, j ≤ n ∧ q = .int .i64 ((K + tot obCnt (xs.take j) : Nat) : Int) ∧ i = .int .i64 (j : Int) ∧ Hid (Owns wr b (.row 54 3 n ((mixR obD (mkObs K xs) xs j).flatten)) (.slice (some ⟨g, 0, none⟩) n c) F) ∧ Hid (Chg F w wr)) (fun _ i _ => n - (intOf i).toNat)
    case atStart => exact ⟨0, Nat.zero_le _, by simp [tot], rfl, HST, hide (Chg.refl _ _)⟩
    case round =>
      clear HST
      obtain ⟨j, hj, rfl, rfl, HO, HC⟩ := hrel
      by_cases hlt : j < n
      · have hcap : n ≤ c := by
          have := HO.out
          unfold Owns at this
          obtain ⟨us, G, h2, _⟩ := this
          obtain ⟨_, a, cap, e, h3, _⟩ := rd_own h2 (Nat.le_refl _)
          cases e
          exact h3
        obtain ⟨q, hq⟩ : ∃ q, K + tot obCnt (xs.take j) = q := ⟨_, rfl⟩
        have hq0 : 0 < q := by omega
        have hts := HTS.out j hlt
        have htl := HTL.out (j + 1)
        have HA1 := hide (HA.out j)
        have HL1 := hide (HLn.out j hj)
        have HG1 := HG.out j hlt
        have HS1 := HS.out j hlt
        obtain ⟨x, hx⟩ : ∃ x, xs.getD j default = x := ⟨_, rfl⟩
        rw [hx] at HG1 HS1 hts
        have hcm : obCnt x = 2 + cntVls x.f := rfl
        have hqm : q + (2 + cntVls x.f) ≤ 100000000 := by omega
        rw [hq] at HS1 ⊢
        have HG2 := hide HG1
        have HS2 := hide HS1
        have HQ := hide hq
        clear hx hq HG1 HS1
        obtain ⟨rs, hrs⟩ : ∃ rs, mixR obD (mkObs K xs) xs j = rs := ⟨_, rfl⟩
        rw [hrs] at HO HA1 HL1 HG2 HS2
        clear hrs
        have h0 : ∀ i, i < 3 → rs.flatten[j * 3 + i]? = (obD x)[i]? := fun i hi => by rw [rows_get rs j i HA1.out (by have := HL1.out; omega) hi, HG2.out]
        obtain ⟨d0, z0, hgF, ho⟩ := HO.out.cell hnd (i := j * 3) (z := .int .i64 x.i) (by rw [show j * 3 = j * 3 + 0 from rfl, h0 0 (by omega)]; rfl) (.int .i64 (q : Int))
        replace HO := hide ho
        replace HC := hide (HC.out.set hgF (j * 3) (.int .i64 (q : Int)))
        clear ho
        obtain ⟨d1, z1, hgF, ho⟩ := HO.out.cell hnd (i := j * 3 + 1) (z := .int .i64 x.c) (by rw [List.getElem?_set_ne (by omega), h0 1 (by omega)]; rfl) (.int .i64 ((q : Int) + 1))
        replace HO := hide ho
        replace HC := hide (HC.out.set hgF (j * 3 + 1) (.int .i64 ((q : Int) + 1)))
        clear ho
        obtain ⟨u2, G2, d2, p2, nd2, sb2, rc2⟩ := HO.out.part hnd (i := j * 3 + 2) (d := vls x.f) (by rw [List.getElem?_set_ne (by omega), List.getElem?_set_ne (by omega), h0 2 (by omega)]; rfl)
        obtain ⟨aa2, cc2, eu2⟩ := p2.sl
        subst eu2
        have HP := hide p2
        have HRC := hide rc2
        have HLT := hide (fun q hq => (Owns.lt _ _ _ HO.out q hq).2)
        clear p2 rc2
        go_wp2_with fail
        clear d0 z0 d1 z1 d2
        refine (mkVlsR _ b (q + 2) _ (by omega) _ x.f G2 HP.out nd2 (by omega) (by omega)).mono ?_
        rintro e w1 ⟨rfl, o1, ch1⟩
        replace HO := hide (HRC.out w1 (vls (mkVls (q + 2) x.f)) o1 (fun q hq hq' => ch1.block q (HLT.out q hq) hq'))
        replace HC := hide (HC.out.trans (ch1.mono sb2))
        clear o1 ch1 HP HRC HLT
        obtain ⟨r2, hr2⟩ : ∃ r, q + 2 + cntVls x.f = r := ⟨_, rfl⟩
        rw [hr2]
        have HRR2 := hide hr2
        have HZ : Hid ((((rs.flatten.set (j * 3) (.val (.int .i64 (q : Int)))).set (j * 3 + 1) (.val (.int .i64 ((q : Int) + 1)))).set (j * 3 + 2) (vls (mkVls (q + 2) x.f))) = (rs.set j (obD (mkOb q x))).flatten) := hide (by
          have hl := HL1.out
          have hlen : ∀ (rs' : List (List Dt)) (r : List Dt), (∀ r ∈ rs', r.length = 3) → r.length = 3 → ∀ r' ∈ rs'.set j r, r'.length = 3 := fun rs' r h1 h2 r' hr => by
            rcases List.mem_or_eq_of_mem_set hr with h | h
            · exact h1 r' h
            · rw [h]; exact h2
          rw [show j * 3 = j * 3 + 0 from rfl]
          rw [rows_set rs j 0 _ HA1.out (by omega) (by omega), HG2.out]
          rw [rows_set _ j 1 _ (hlen _ _ HA1.out rfl) (by rw [List.length_set]; omega) (by omega), List.getD_eq_getElem?_getD, List.getElem?_set_self (by omega), Option.getD_some, List.set_set]
          rw [rows_set _ j 2 _ (hlen _ _ HA1.out rfl) (by rw [List.length_set]; omega) (by omega), List.getD_eq_getElem?_getD, List.getElem?_set_self (by omega), Option.getD_some, List.set_set]
          unfold obD mkOb
          rfl)
        rw [HZ.out, HS2.out] at HO
        go_wp2
        exact ⟨⟨j + 1, by omega, by have hh := HQ.out; congr 1; omega, by go_num, HO, HC⟩, by simp [intOf]; omega⟩
      · obtain rfl : j = n := by omega
        have HF := hide (HEN.out _ HO.out)
        go_wp2
        go_ret
        exact ⟨by rw [HTE.out]; rfl, HF.out, HC.out⟩
theorem mkObsI (w : World) (b hi K : Nat) (m : Int) (hmK : m = (K : Int)) (v : Value) (xs : List Ob) (h : OwnD w b hi (obs xs) v) (hK : 0 < K) (hm : K + cntObs xs ≤ 100000000) :
    Calls Tryz.prog 32 #[v, .int .i64 m] w fun e w' => e = .returned (.int .i64 ((K + cntObs xs : Nat) : Int)) ∧ OwnD w' b hi (obs (mkObs K xs)) v ∧ ChgI b hi w w' := by
  obtain ⟨F, h1, h2, h3⟩ := h
  have hl := Owns.lt _ _ _ h1
  refine (mkObsR w b K m hmK v xs F h1 h2 hK hm).mono ?_
  rintro e w1 ⟨rfl, o1, c1⟩
  exact ⟨rfl, ⟨F, o1, h2, h3⟩, c1.int (fun q hq => ⟨(hl q hq).1, h3 q hq⟩)⟩
set_option maxRecDepth 100000 in
set_option maxHeartbeats 8000000 in
theorem heldObsR (w : World) (K : Nat) (m : Int) (hmK : m = (K : Int)) (v : Value) (xs : List Ob) (h : Reads w w.heap.size (obs (mkObs K xs)) v) (hK : 0 < K) (hm : K + cntObs xs ≤ 100000000) :
    Calls Tryz.prog 34 #[v, .int .i64 m] w fun e w' => e = .returned (.int .i64 ((K + cntObs xs : Nat) : Int)) ∧ Below w.heap.size w w' := by
  subst hmK
  have HCN : Hid (cntObs xs = tot obCnt xs) := hide rfl
  rw [HCN.out] at hm ⊢
  have HX : Hid (∀ wr, Below w.heap.size w wr → _) := hide (fun wr hb => object_at (h.at hb))
  have HTS : Hid (∀ j, j < xs.length → tot obCnt (xs.take (j + 1)) = tot obCnt (xs.take j) + obCnt (xs.getD j default)) := hide (fun j hj => tot_step _ xs j hj)
  have HTL : Hid (∀ j, tot obCnt (xs.take j) ≤ tot obCnt xs) := hide (fun j => tot_le _ xs j)
  have HGt : Hid (∀ j, j < xs.length → (mkObs K xs).getD j default = mkOb (K + tot obCnt (xs.take j)) (xs.getD j default)) := hide (fun j hj => mkObs_get K xs j hj)
  have HTE : Hid (tot obCnt (xs.take xs.length) = tot obCnt xs) := hide (by rw [List.take_length])
  have HLe := hide (mkObs_len K xs)
  have hmx : xs.length ≤ tot obCnt xs := tot_one _ (fun _ => by unfold obCnt; omega) xs
  obtain ⟨a, cap, rfl, hlc, _⟩ := object_at h
  rw [mkObs_len] at hlc ⊢
  clear h
  obtain ⟨n, hn⟩ : ∃ n, xs.length = n := ⟨_, rfl⟩
  rw [hn] at hlc hmx ⊢
  have HLn := hide hn
  clear hn
  go_enter Tryz.func34, Tryz.ntmps34
  go_wp2
  go_loopw [1, 5] (fun q i wr => ∃ j : Nat, j ≤ n ∧ q = .int .i64 ((K + tot obCnt (xs.take j) : Nat) : Int) ∧ i = .int .i64 (j : Int) ∧ Hid (Below w.heap.size w wr)) (fun _ i _ => n - (intOf i).toNat)
  case atStart => exact ⟨0, Nat.zero_le _, by simp [tot], rfl, hide (Below.refl _ _)⟩
  case round =>
    obtain ⟨j, hj, rfl, rfl, HB⟩ := hrel
    by_cases hlt : j < n
    · have hlt' : j < xs.length := by have := HLn.out; omega
      have hts := HTS.out j hlt'
      have htl := HTL.out (j + 1)
      have hgt := HGt.out j hlt'
      obtain ⟨q, hq⟩ : ∃ q, K + tot obCnt (xs.take j) = q := ⟨_, rfl⟩
      obtain ⟨y, hy⟩ : ∃ y, xs.getD j default = y := ⟨_, rfl⟩
      rw [hy] at hts hgt
      rw [hq] at hgt ⊢
      have hcm : obCnt y = 2 + cntVls y.f := rfl
      have hq0 : 0 < q := by omega
      have hqm : q + (2 + cntVls y.f) ≤ 100000000 := by omega
      have HEND : Hid (K + tot obCnt (xs.take (j + 1)) = q + (2 + cntVls y.f)) := hide (by omega)
      obtain ⟨b, o, ha, hbb, pv1, f0, f1, f2, r2⟩ : ∃ b o, a = some ⟨b, o, none⟩ ∧ b < wr.heap.size ∧ ∃ pv1, wr.cell? ⟨b, o + j * 3, none⟩ = some (.int .i64 (((q : Nat) : Int))) ∧ wr.cell? ⟨b, o + j * 3 + 1, none⟩ = some (.int .i64 (((q : Nat) : Int) + 1)) ∧ wr.cell? ⟨b, o + j * 3 + 2, none⟩ = some (pv1) ∧ Reads wr wr.heap.size (vls (mkVls (q + 2) y.f)) pv1 := by
        obtain ⟨a', cap', e, _, _, hx⟩ := HX.out wr HB.out
        cases e
        obtain ⟨b, o, e, hb, hc⟩ := hx (by rw [HLe.out]; omega)
        obtain ⟨pv1, c0, c1, c2, r2⟩ := hc j (by rw [HLe.out]; exact hlt')
        rw [hgt] at c0 c1 r2
        exact ⟨b, o, e, hb, pv1, c0, c1, c2, r2⟩
      subst ha
      obtain ⟨la1, lc1, le1, _⟩ := r2.shape
      subst le1
      have HD : Hid (∀ wq, Below wr.heap.size wr wq → wq.cell? ⟨b, o + j * 3, none⟩ = some (.int .i64 (((q : Nat) : Int))) ∧ wq.cell? ⟨b, o + j * 3 + 1, none⟩ = some (.int .i64 (((q : Nat) : Int) + 1)) ∧ wq.cell? ⟨b, o + j * 3 + 2, none⟩ = some (.slice la1 (mkVls (q + 2) y.f).length lc1) ∧ Reads wq wq.heap.size (vls (mkVls (q + 2) y.f)) (.slice la1 (mkVls (q + 2) y.f).length lc1)) := hide (fun wq hb =>
        ⟨(hb.cell (p := ⟨b, o + j * 3, none⟩) hbb).trans f0, (hb.cell (p := ⟨b, o + j * 3 + 1, none⟩) hbb).trans f1, (hb.cell (p := ⟨b, o + j * 3 + 2, none⟩) hbb).trans f2, r2.at hb⟩)
      have HR := hide (Below.refl wr.heap.size wr)
      have HQ := hide hq
      clear hq f0 f1 f2 r2 hts htl hgt hcm
      rw [mkVls_len] at HD
      have d0 := (HD.out wr HR.out).1
      have n0 : ((((q : Nat) : Int)) != (((q : Nat) : Int))) = false := by simp
      have d1 := (HD.out wr HR.out).2.1
      have n1 : ((((q : Nat) : Int) + 1) != (((q : Nat) : Int) + 1)) = false := by simp
      have d2 := (HD.out wr HR.out).2.2.1
      go_wp2_with fail
      clear d0 n0 d1 n1 d2
      refine (heldVlsR _ (q + 2) _ (by omega) _ y.f (HD.out wr HR.out).2.2.2 (by omega) (by omega)).mono ?_
      rintro e wh1 ⟨rfl, b2⟩
      have HR2 := hide (HR.out.trans (b2.mono HR.out.size))
      clear b2 HR
      have hnn : ¬ (((q + 2 + cntVls y.f : Nat) : Int) < 0) := by omega
      have HRZ := hide (HB.out.trans (HR2.out.mono HB.out.size))
      go_wp2
      exact ⟨⟨j + 1, hlt, by rw [HEND.out]; exact congrArg (Value.int .i64) (by omega), by go_num, HRZ⟩, by simp [intOf]; omega⟩
    · obtain rfl : j = n := by omega
      have HE9 : Hid (K + tot obCnt (xs.take j) = K + tot obCnt xs) := hide (by rw [← HLn.out, HTE.out])
      go_wp2
      go_ret
      exact ⟨by rw [HE9.out]; rfl, HB.out⟩
def mkoOb (k : Nat) (x : Ob) : Ob := ⟨x.i, x.c, mkVls (k) x.f⟩
def obCto (x : Ob) : Nat := cntVls x.f
theorem obCto_le (x : Ob) : obCto x ≤ 8 * obW x := by
  have h_f := cntVls_le x.f
  unfold obCto obW
  omega
theorem obD_owns {w : World} {b : Nat} {x : Ob} {u1 : Value} {F : List Nat} (h : OwnsL w b (obD x) [.int .i64 x.i, .int .i64 x.c, u1] F) :
    ∃ F1, F = F1 ∧ Owns w b (vls x.f) u1 F1 := by
  unfold obD at h
  obtain ⟨_, _, _, _, e, rfl, h0, h⟩ := ownsL_cons h
  cases e
  unfold Owns at h0
  obtain ⟨_, _, _, _, e, rfl, h1, h⟩ := ownsL_cons h
  cases e
  unfold Owns at h1
  obtain ⟨_, _, F1, _, e, rfl, h2, h⟩ := ownsL_cons h
  cases e
  unfold OwnsL at h
  refine ⟨F1, ?_, h2⟩
  rw [h0.2, h1.2, h.2]
  simp
theorem obD_mk {w : World} {b : Nat} {x : Ob} {u1 : Value} {F1 : List Nat} (h1 : Owns w b (vls x.f) u1 F1) : OwnsL w b (obD x) [.int .i64 x.i, .int .i64 x.c, u1] (F1) := by
  have := ownsL_mk (owns_val (w := w) (b := b) (u := .int .i64 x.i)) (ownsL_mk (owns_val (w := w) (b := b) (u := .int .i64 x.c)) (ownsL_mk h1 (ownsL_nil)))
  simp at this
  exact this
end Go.Proofs.YtelpdlhgjepgbaaGreat
