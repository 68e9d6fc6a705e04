/-
  Models as data: how they come in, how great they are, copies, comparison.
-/
import Derived.Test.YtelpdlhgjepgbaaPrgLaw
import Derived.Test.YtelpdlhgjepgbaaMmR
import Derived.Test.YtelpdlhgjepgbaaThR
import Derived.Test.YtelpdlhgjepgbaaIntR
namespace Go.Proofs.Ytelpdlhgjepgbaa
open Go.ChangeShapes Go.WideShapes Go.RowKit

structure Md where
  p : Pg
  m : Mm
  t : List Th
  o : List Int
instance : Inhabited Md := ⟨⟨default, default, [], []⟩⟩
def mdD (x : Md) : List Dt := [kins x.p.k, obs x.m.o, lks x.m.l, ths x.t, ints x.o]
def mdV (_x : Md) (u1 u2 u3 u4 u5 : Value) : Value := .agg #[u1, u2, u3, u4, u5]
structure MdR (x : Md) : Prop where
  p : PgR x.p
  m : MmR x.m
  t : thsR x.t
  o : intsR x.o
def mdW (x : Md) : Nat := pgW x.p + mmW x.m + thsW x.t + intsW x.o
structure MdG (x : Md) : Prop where
  p : PgG x.p
  m : MmG x.m
  t : thsG x.t
  o : intsG x.o
theorem mdG_of {x : Md} (hr : MdR x) (hw : mdW x ≤ 1048576) : MdG x := by
  unfold mdW at hw
  exact ⟨pgG_of hr.p (by omega), mmG_of hr.m (by omega), thsG_of hr.t (by omega), intsG_of hr.o (by omega)⟩
theorem mdD_own {w : World} {b hi : Nat} {x : Md} {u1 u2 u3 u4 u5 : Value} (h : OwnDL w b hi (mdD x) [u1, u2, u3, u4, u5]) : Reads w w.heap.size (kins x.p.k) u1 ∧ Reads w w.heap.size (obs x.m.o) u2 ∧ Reads w w.heap.size (lks x.m.l) u3 ∧ Reads w w.heap.size (ths x.t) u4 ∧ Reads w w.heap.size (ints x.o) u5 := by
  have h := h.rd (Nat.le_refl _)
  obtain ⟨_, _, e, h1, h⟩ := readsL_cons h
  cases e
  obtain ⟨_, _, e, h2, h⟩ := readsL_cons h
  cases e
  obtain ⟨_, _, e, h3, h⟩ := readsL_cons h
  cases e
  obtain ⟨_, _, e, h4, h⟩ := readsL_cons h
  cases e
  obtain ⟨_, _, e, h5, h⟩ := readsL_cons h
  cases e
  exact ⟨h1, h2, h3, h4, h5⟩
def pgC (x : Pg × Value) : List Value := [x.2]
def PgQ (W : World) (y : Pg × Value) : Prop := ReadsL W W.heap.size (pgD y.1) (pgC y) ∧ PgR y.1
set_option maxRecDepth 100000 in
theorem pg_cells {H : Type} {enc : TypeId × Value → H} {W : World} {fuel : Nat} {cs : List Value} {x : DataW H × List MemPlace}
    (h : DataW.trod enc Try.prog W 0 (fun _ => true) true fuel 24 cs = some x) : ∃ y, cs = pgC y ∧ PgQ W y := by
  have c0 : Try.prog.cellsOf 24 = 1 := by kernel_rfl
  have cc0 : Try.prog.cellsOf 22 = 1 := by kernel_rfl
  obtain ⟨xs, n, rfl, rfl, hlen, hxl, hf⟩ := DataW.trod_struct Try.underlying24 h
  rw [c0] at hlen
  match xs, hxl, cs, hlen with
  | [y0], _, [v0], _ =>
    have g0 := hf 0 _ rfl
    simp [cc0] at g0
    obtain ⟨z0, h0a, h0b, h0c⟩ := rd_open (sz := 5) (Q := KdQ W) (f := kdC) Try.underlying22 (by kernel_rfl) (by decide) (fun _ => rfl) (fun _ _ _ h => kd_cells h) ⟨_, g0⟩
    have q0 := all_of_getD h0c
    have r0 : Reads W W.heap.size (kins (z0.map Prod.fst)) v0 := reads_row (T := 95) (f := kdD) (m := Prod.fst) z0 h0a (fun y hy => (q0 y hy).1)
    exact ⟨(⟨z0.map Prod.fst⟩, v0), rfl, readsL_mk r0 (readsL_none), ⟨⟨by simpa using h0b, fun y hy => by
      obtain ⟨x, hx, rfl⟩ := List.mem_map.1 hy
      exact (q0 x hx).2⟩⟩⟩
def mmC (x : Mm × Value × Value) : List Value := [x.2.1, x.2.2]
def MmQ (W : World) (y : Mm × Value × Value) : Prop := ReadsL W W.heap.size (mmD y.1) (mmC y) ∧ MmR y.1
set_option maxRecDepth 100000 in
theorem mm_cells {H : Type} {enc : TypeId × Value → H} {W : World} {fuel : Nat} {cs : List Value} {x : DataW H × List MemPlace}
    (h : DataW.trod enc Try.prog W 0 (fun _ => true) true fuel 28 cs = some x) : ∃ y, cs = mmC y ∧ MmQ W y := by
  have c0 : Try.prog.cellsOf 28 = 2 := by kernel_rfl
  have cc0 : Try.prog.cellsOf 25 = 1 := by kernel_rfl
  have cc1 : Try.prog.cellsOf 26 = 1 := by kernel_rfl
  obtain ⟨xs, n, rfl, rfl, hlen, hxl, hf⟩ := DataW.trod_struct Try.underlying28 h
  rw [c0] at hlen
  match xs, hxl, cs, hlen with
  | [y0, y1], _, [v0, v1], _ =>
    have g0 := hf 0 _ rfl
    have g1 := hf 1 _ rfl
    simp [cc0, cc1] at g0 g1
    obtain ⟨z0, h0a, h0b, h0c⟩ := rd_open (sz := 3) (Q := ObQ W) (f := obC) Try.underlying25 (by kernel_rfl) (by decide) (fun _ => rfl) (fun _ _ _ h => ob_cells h) ⟨_, g0⟩
    have q0 := all_of_getD h0c
    have r0 : Reads W W.heap.size (obs (z0.map Prod.fst)) v0 := reads_row (T := 99) (f := obD) (m := Prod.fst) z0 h0a (fun y hy => (q0 y hy).1)
    obtain ⟨z1, h1a, h1b, h1c⟩ := rd_open (sz := 3) (Q := LkR) (f := lkC) Try.underlying26 (by kernel_rfl) (by decide) (fun _ => rfl) (fun _ _ _ h => lk_cells h) ⟨_, g1⟩
    have r1 : Reads W W.heap.size (lks z1) v1 := by
      have := reads_row (T := 102) (f := lkD) (m := id) z1 h1a (fun y _ => lk_reads y)
      rwa [List.map_id] at this
    exact ⟨(⟨z0.map Prod.fst, z1⟩, v0, v1), rfl, readsL_mk r0 (readsL_mk r1 (readsL_none)), ⟨⟨by simpa using h0b, fun y hy => by
      obtain ⟨x, hx, rfl⟩ := List.mem_map.1 hy
      exact (q0 x hx).2⟩, ⟨h1b, all_of_getD h1c⟩⟩⟩
def IsMd (W : World) (v : Value) : Prop := ∃ (x : Md) (u1 u2 u3 u4 u5 : Value), v = mdV x u1 u2 u3 u4 u5 ∧ Reads W W.heap.size (kins x.p.k) u1 ∧ Reads W W.heap.size (obs x.m.o) u2 ∧ Reads W W.heap.size (lks x.m.l) u3 ∧ Reads W W.heap.size (ths x.t) u4 ∧ Reads W W.heap.size (ints x.o) u5 ∧ MdR x
set_option maxRecDepth 100000 in
theorem openMd {H : Type} {enc : TypeId × Value → H} {W : World} {r : Reach} {base : Nat} {v : Value} {d : DataW H} {p : List MemPlace}
    (hv : Value.okWide Try.prog W r base 32 v) (h : DataW.Trod enc Try.prog W 0 (fun _ => true) true 32 v d p) : IsMd W v := by
  have c0 : Try.prog.cellsOf 32 = 5 := by kernel_rfl
  have cc0 : Try.prog.cellsOf 24 = 1 := by kernel_rfl
  have cc1 : Try.prog.cellsOf 28 = 2 := by kernel_rfl
  have cc2 : Try.prog.cellsOf 29 = 1 := by kernel_rfl
  have cc3 : Try.prog.cellsOf 30 = 1 := by kernel_rfl
  obtain ⟨cs, rfl, _⟩ := okWide_struct Try.underlying32 hv
  obtain ⟨fuel, h⟩ := h
  obtain ⟨xs, n, rfl, hd, hlen, hxl, hf⟩ := DataW.trod_struct Try.underlying32 h
  rw [c0] at hlen
  have hcs : (Value.agg cs).cells.toList = cs.toList := rfl
  rw [hcs] at hlen hf
  obtain ⟨l⟩ := cs
  match xs, hxl, l, hlen with
  | [y0, y1, y2, y3], _, [v0, v1, v2, v3, v4], _ =>
    have g0 := hf 0 _ rfl
    have g1 := hf 1 _ rfl
    have g2 := hf 2 _ rfl
    have g3 := hf 3 _ rfl
    simp [cc0, cc1, cc2, cc3] at g0 g1 g2 g3
    obtain ⟨y0', e0, q0⟩ := pg_cells g0
    unfold pgC at e0
    simp at e0
    subst e0
    obtain ⟨qa0, qb0⟩ := q0
    unfold pgC pgD at qa0
    obtain ⟨_, _, e, r0_0, qa0_0⟩ := readsL_cons qa0
    cases e
    obtain ⟨y1', e1, q1⟩ := mm_cells g1
    unfold mmC at e1
    simp at e1
    obtain ⟨rfl, rfl⟩ := e1
    obtain ⟨qa1, qb1⟩ := q1
    unfold mmC mmD at qa1
    obtain ⟨_, _, e, r1_0, qa1_0⟩ := readsL_cons qa1
    cases e
    obtain ⟨_, _, e, r1_1, qa1_1⟩ := readsL_cons qa1_0
    cases e
    obtain ⟨z2, h2a, h2b, h2c⟩ := rd_open (sz := 4) (Q := ThQ W) (f := thC) Try.underlying29 (by kernel_rfl) (by decide) (fun _ => rfl) (fun _ _ _ h => th_cells h) ⟨_, g2⟩
    have q2 := all_of_getD h2c
    have r2_0 : Reads W W.heap.size (ths (z2.map Prod.fst)) v3 := reads_row (T := 54) (f := thD) (m := Prod.fst) z2 h2a (fun y hy => (q2 y hy).1)
    obtain ⟨z3, h3a, h3b, h3c⟩ := rd_open (sz := 1) (Q := (fun y : Int => -9223372036854775808 ≤ y ∧ y ≤ 9223372036854775807)) (f := (fun y : Int => [Value.int .i64 y])) Try.underlying30 (by kernel_rfl) (by decide) (fun _ => rfl) (fun _ _ _ h => ni_cells h) ⟨_, g3⟩
    have r3_0 : Reads W W.heap.size (ints z3) v4 := by
      have := reads_row (T := 3) (f := niD) (m := id) z3 h3a (fun y _ => ni_reads y)
      rwa [List.map_id] at this
    exact ⟨⟨y0'.1, y1'.1, z2.map Prod.fst, z3⟩, _, _, _, _, _, rfl, r0_0, r1_0, r1_1, r2_0, r3_0, ⟨qb0, qb1, ⟨by simpa using h2b, fun y hy => by
      obtain ⟨x, hx, rfl⟩ := List.mem_map.1 hy
      exact (q2 x hx).2⟩, ⟨h3b, all_of_getD h3c⟩⟩⟩
set_option maxRecDepth 100000 in
set_option maxHeartbeats 8000000 in
theorem szMd (w : World) (x : Md) (v1 v2 v3 v4 v5 : Value) (left : Int) (h1 : Reads w w.heap.size (kins x.p.k) v1) (h2 : Reads w w.heap.size (obs x.m.o) v2) (h3 : Reads w w.heap.size (lks x.m.l) v3) (h4 : Reads w w.heap.size (ths x.t) v4) (h5 : Reads w w.heap.size (ints x.o) v5) (h0 : 0 ≤ left) (h9 : left ≤ 1048576) (hr : MdR x) :
    Calls Try.prog 4 #[mdV x v1 v2 v3 v4 v5, .int .i64 left] w fun e w' => e = .returned (.int .i64 (szR left (mdW x))) ∧ Below w.heap.size w w' := by
  obtain ⟨a1, c1, e1, _⟩ := h1.shape
  obtain ⟨a2, c2, e2, _⟩ := h2.shape
  obtain ⟨a3, c3, e3, _⟩ := h3.shape
  obtain ⟨a4, c4, e4, _⟩ := h4.shape
  obtain ⟨a5, c5, e5, _⟩ := h5.shape
  subst e1 e2 e3 e4 e5
  have b0 := (Below.refl w.heap.size w).alloc (Nat.le_refl _) (.cells #[.slice a1 x.p.k.length c1, .slice a2 x.m.o.length c2, .slice a3 x.m.l.length c3, .slice a4 x.t.length c4, .slice a5 x.o.length c5] 32)
  have H1 := hide (h1.at b0)
  have H2 := hide (h2.at b0)
  have H3 := hide (h3.at b0)
  have H4 := hide (h4.at b0)
  have H5 := hide (h5.at b0)
  have HB := hide b0
  have HX := hide (Box.new w #[.slice a1 x.p.k.length c1, .slice a2 x.m.o.length c2, .slice a3 x.m.l.length c3, .slice a4 x.t.length c4, .slice a5 x.o.length c5] 32)
  have hgs : Hid (w.heap.size < (w.alloc (.cells #[.slice a1 x.p.k.length c1, .slice a2 x.m.o.length c2, .slice a3 x.m.l.length c3, .slice a4 x.t.length c4, .slice a5 x.o.length c5] 32)).heap.size) := hide (by simp)
  have K1 := hide hr.p
  have K2 := hide hr.m
  have K3 := hide hr.t
  have K4 := hide hr.o
  obtain ⟨t1, ht1⟩ : ∃ t, pgW x.p = t := ⟨_, rfl⟩
  obtain ⟨t2, ht2⟩ : ∃ t, mmW x.m = t := ⟨_, rfl⟩
  obtain ⟨t3, ht3⟩ : ∃ t, thsW x.t = t := ⟨_, rfl⟩
  obtain ⟨t4, ht4⟩ : ∃ t, intsW x.o = t := ⟨_, rfl⟩
  obtain ⟨R, hR⟩ : ∃ R, szR left (mdW x) = R := ⟨_, rfl⟩
  rw [hR]
  unfold mdW at hR
  rw [ht1, ht2, ht3, ht4] at hR
  have HT1 := hide ht1
  have HT2 := hide ht2
  have HT3 := hide ht3
  have HT4 := hide ht4
  have HR := hide hR
  clear hR hr b0 h1 h2 h3 h4 h5 ht1 ht2 ht3 ht4
  unfold mdV
  go_enter Try.func4, Try.ntmps4
  go_wp2_with fail
  generalize w.alloc (.cells #[.slice a1 x.p.k.length c1, .slice a2 x.m.o.length c2, .slice a3 x.m.l.length c3, .slice a4 x.t.length c4, .slice a5 x.o.length c5] 32) = W at *
  refine (szPg _ x.p _ _ H1.out (by omega) (by omega) K1.out).mono ?_
  rintro e w1 ⟨rfl, b1⟩
  rw [HT1.out]
  by_cases g1 : left < (t1 : Int)
  · rw [szR_neg g1]
    replace HB := hide (HB.out.trans (b1.mono HB.out.size))
    clear b1
    go_wp2
    go_ret
    exact ⟨ret_int (by rw [← HR.out, szR_neg (by omega)]), HB.out⟩
  · rw [szR_pos g1]
    have g1' : ¬ left - (t1 : Int) < 0 := by omega
    replace HX := hide (HX.out.below hgs.out b1)
    replace hgs := hide (Nat.lt_of_lt_of_le hgs.out b1.size)
    replace H2 := hide (H2.out.at b1)
    replace H3 := hide (H3.out.at b1)
    replace H4 := hide (H4.out.at b1)
    replace H5 := hide (H5.out.at b1)
    replace HB := hide (HB.out.trans (b1.mono HB.out.size))
    clear b1
    have q0 := HX.out 0 _ rfl
    have q1 := HX.out 1 _ rfl
    have q2 := HX.out 2 _ rfl
    have q3 := HX.out 3 _ rfl
    have q4 := HX.out 4 _ rfl
    go_wp2_with fail
    clear q0 q1 q2 q3 q4
    refine (szMm _ x.m _ _ _ H2.out H3.out (by omega) (by omega) K2.out).mono ?_
    rintro e w2 ⟨rfl, b2⟩
    rw [HT2.out]
    by_cases g2 : left - (t1 : Int) < (t2 : Int)
    · rw [szR_neg g2]
      replace HB := hide (HB.out.trans (b2.mono HB.out.size))
      clear b2
      go_wp2
      go_ret
      exact ⟨ret_int (by rw [← HR.out, szR_neg (by omega)]), HB.out⟩
    · rw [szR_pos g2]
      have g2' : ¬ left - (t1 : Int) - (t2 : Int) < 0 := by omega
      replace HX := hide (HX.out.below hgs.out b2)
      replace hgs := hide (Nat.lt_of_lt_of_le hgs.out b2.size)
      replace H4 := hide (H4.out.at b2)
      replace H5 := hide (H5.out.at b2)
      replace HB := hide (HB.out.trans (b2.mono HB.out.size))
      clear b2
      have q0 := HX.out 0 _ rfl
      have q1 := HX.out 1 _ rfl
      have q2 := HX.out 2 _ rfl
      have q3 := HX.out 3 _ rfl
      have q4 := HX.out 4 _ rfl
      go_wp2_with fail
      clear q0 q1 q2 q3 q4
      refine (szThs _ _ x.t _ H4.out (by omega) (by omega) K3.out).mono ?_
      rintro e w3 ⟨rfl, b3⟩
      rw [HT3.out]
      by_cases g3 : left - (t1 : Int) - (t2 : Int) < (t3 : Int)
      · rw [szR_neg g3]
        replace HB := hide (HB.out.trans (b3.mono HB.out.size))
        clear b3
        go_wp2
        go_ret
        exact ⟨ret_int (by rw [← HR.out, szR_neg (by omega)]), HB.out⟩
      · rw [szR_pos g3]
        have g3' : ¬ left - (t1 : Int) - (t2 : Int) - (t3 : Int) < 0 := by omega
        replace HX := hide (HX.out.below hgs.out b3)
        replace hgs := hide (Nat.lt_of_lt_of_le hgs.out b3.size)
        replace H5 := hide (H5.out.at b3)
        replace HB := hide (HB.out.trans (b3.mono HB.out.size))
        clear b3
        have q0 := HX.out 0 _ rfl
        have q1 := HX.out 1 _ rfl
        have q2 := HX.out 2 _ rfl
        have q3 := HX.out 3 _ rfl
        have q4 := HX.out 4 _ rfl
        go_wp2_with fail
        clear q0 q1 q2 q3 q4
        refine (szInts _ _ x.o _ H5.out (by omega) (by omega) K4.out).mono ?_
        rintro e w4 ⟨rfl, b4⟩
        rw [HT4.out]
        by_cases g4 : left - (t1 : Int) - (t2 : Int) - (t3 : Int) < (t4 : Int)
        · rw [szR_neg g4]
          replace HB := hide (HB.out.trans (b4.mono HB.out.size))
          clear b4
          go_wp2
          go_ret
          exact ⟨ret_int (by rw [← HR.out, szR_neg (by omega)]), HB.out⟩
        · rw [szR_pos g4]
          have g4' : ¬ left - (t1 : Int) - (t2 : Int) - (t3 : Int) - (t4 : Int) < 0 := by omega
          replace HX := hide (HX.out.below hgs.out b4)
          replace hgs := hide (Nat.lt_of_lt_of_le hgs.out b4.size)
          replace HB := hide (HB.out.trans (b4.mono HB.out.size))
          clear b4
          go_wp2
          go_ret
          exact ⟨ret_int (by rw [← HR.out, szR_pos (by omega)] <;> omega), HB.out⟩
theorem loadMd {w : World} {g : Nat} {a0 a1 a2 a3 a4 : Value} (h : w.heap[g]? = some (.cells #[a0, a1, a2, a3, a4] 44 (0, 0))) : (loadVar 44 ⟨g, 0, none⟩).run Try.prog w = .ok (.agg #[a0, a1, a2, a3, a4]) w :=
  run_loadVar_row w g 44 44 #[a0, a1, a2, a3, a4] (0, 0) _ h Try.underlying44 rfl (by kernel_rfl)
set_option maxRecDepth 100000 in
set_option maxHeartbeats 8000000 in
theorem toMd (w : World) (x : Md) (v1 v2 v3 v4 v5 : Value) (h1 : Reads w w.heap.size (kins x.p.k) v1) (h2 : Reads w w.heap.size (obs x.m.o) v2) (h3 : Reads w w.heap.size (lks x.m.l) v3) (h4 : Reads w w.heap.size (ths x.t) v4) (h5 : Reads w w.heap.size (ints x.o) v5) (hg : MdG x) :
    Calls Try.prog 6 #[mdV x v1 v2 v3 v4 v5] w fun e w' => ∃ u1 u2 u3 u4 u5, e = .returned (mdV x u1 u2 u3 u4 u5) ∧ OwnDL w' w.heap.size w'.heap.size (mdD x) [u1, u2, u3, u4, u5] ∧ Below w.heap.size w w' := by
  obtain ⟨a1, c1, e1, _⟩ := h1.shape
  subst e1
  have H1 := hide h1
  clear h1
  obtain ⟨a2, c2, e2, _⟩ := h2.shape
  subst e2
  have H2 := hide h2
  clear h2
  obtain ⟨a3, c3, e3, _⟩ := h3.shape
  subst e3
  have H3 := hide h3
  clear h3
  obtain ⟨a4, c4, e4, _⟩ := h4.shape
  subst e4
  have H4 := hide h4
  clear h4
  obtain ⟨a5, c5, e5, _⟩ := h5.shape
  subst e5
  have H5 := hide h5
  clear h5
  unfold mdV
  go_enter Try.func6, Try.ntmps6
  go_wp2_with fail
  have G0 := heap_alloc_new w (.cells #[.slice a1 x.p.k.length c1, .slice a2 x.m.o.length c2, .slice a3 x.m.l.length c3, .slice a4 x.t.length c4, .slice a5 x.o.length c5] 32)
  have G1 := heap_alloc_new (w.alloc (.cells #[.slice a1 x.p.k.length c1, .slice a2 x.m.o.length c2, .slice a3 x.m.l.length c3, .slice a4 x.t.length c4, .slice a5 x.o.length c5] 32)) (.cells #[.slice none 0 0, .slice none 0 0, .slice none 0 0, .slice none 0 0, .slice none 0 0] 44)
  have G2 := heap_alloc_new ((w.alloc (.cells #[.slice a1 x.p.k.length c1, .slice a2 x.m.o.length c2, .slice a3 x.m.l.length c3, .slice a4 x.t.length c4, .slice a5 x.o.length c5] 32)).alloc (.cells #[.slice none 0 0, .slice none 0 0, .slice none 0 0, .slice none 0 0, .slice none 0 0] 44)) (.cells #[.slice none 0 0, .slice none 0 0, .slice none 0 0, .slice none 0 0, .slice none 0 0] 44)
  simp only [World.size_alloc] at G1 G2
  have bA := (((Below.refl w.heap.size w).alloc (Nat.le_refl _) (.cells #[.slice a1 x.p.k.length c1, .slice a2 x.m.o.length c2, .slice a3 x.m.l.length c3, .slice a4 x.t.length c4, .slice a5 x.o.length c5] 32)).alloc (by simp) (.cells #[.slice none 0 0, .slice none 0 0, .slice none 0 0, .slice none 0 0, .slice none 0 0] 44)).alloc (by simp; omega) (.cells #[.slice none 0 0, .slice none 0 0, .slice none 0 0, .slice none 0 0, .slice none 0 0] 44)
  refine (toPg _ x.p _ (H1.out.at bA) hg.p).mono ?_
  rintro e w1 ⟨u1, rfl, o1, b1⟩
  obtain ⟨p1, q1, f1, _⟩ := (pgD_own o1).shape
  subst f1
  unfold pgV
  have E0 := (b1.block w.heap.size (by simp; omega)).trans ((Below.heap_alloc _ _ _ (by simp; omega)).trans ((Below.heap_alloc _ _ _ (by simp)).trans G0))
  have E1 := (b1.block (w.heap.size + 1) (by simp)).trans ((Below.heap_alloc _ _ _ (by simp)).trans G1)
  have E2 := (b1.block (w.heap.size + 1 + 1) (by simp)).trans G2
  have HB := bA.trans (b1.mono (by simp; omega))
  have hs1 : w.heap.size + 1 + 1 + 1 ≤ w1.heap.size := by have := b1.size; simp only [World.size_alloc] at this; omega
  simp only [World.size_alloc] at o1
  clear b1 bA G0 G1 G2
  generalize hm1 : w1.heap.size = M1 at o1
  have k1 : w.heap.size + 1 + 1 + 1 ≤ M1 := by omega
  have l1 : M1 ≤ w1.heap.size := by omega
  clear hm1
  have O1 := hide o1
  clear o1
  have X0 := box_of E0
  have X1 := box_of E1
  have X2 := box_of E2
  have f0 := X0.1 0 _ rfl
  have g0 := X2.1 0 _ rfl
  have f1 := X0.1 1 _ rfl
  have g1 := X2.1 1 _ rfl
  have f2 := X0.1 2 _ rfl
  have g2 := X2.1 2 _ rfl
  have f3 := X0.1 3 _ rfl
  have g3 := X2.1 3 _ rfl
  have f4 := X0.1 4 _ rfl
  have g4 := X2.1 4 _ rfl
  have z2 := X2.2
  have HE0 := hide E0
  have HE1 := hide E1
  have HE2 := hide E2
  have HHB := hide HB
  clear X0 X1 X2 E0 E1 E2 HB
  go_wp2_with fail
  have E0 : (w1.setCell ⟨w.heap.size + 1 + 1, 0, none⟩ (.slice p1 x.p.k.length q1)).heap[w.heap.size]? = _ := (heap_setCell_other _ _ _ _ (by simp <;> omega)).trans (HE0.out)
  have E1 : (w1.setCell ⟨w.heap.size + 1 + 1, 0, none⟩ (.slice p1 x.p.k.length q1)).heap[w.heap.size + 1]? = _ := (heap_setCell_other _ _ _ _ (by simp <;> omega)).trans (HE1.out)
  have E2 : (w1.setCell ⟨w.heap.size + 1 + 1, 0, none⟩ (.slice p1 x.p.k.length q1)).heap[w.heap.size + 1 + 1]? = some (.cells #[.slice p1 x.p.k.length q1, .slice none 0 0, .slice none 0 0, .slice none 0 0, .slice none 0 0] 44 (0, 0)) := (heap_setCell_same _ _ 0 _ _ _ HE2.out)
  have HB : Below w.heap.size w (w1.setCell ⟨w.heap.size + 1 + 1, 0, none⟩ (.slice p1 x.p.k.length q1)) := (HHB.out.setCell (p := ⟨w.heap.size + 1 + 1, 0, none⟩) (by simp; omega) _)
  have o1 : OwnDL (w1.setCell ⟨w.heap.size + 1 + 1, 0, none⟩ (.slice p1 x.p.k.length q1)) _ _ _ _ := O1.out.same (fun q hq _ _ => by rw [heap_setCell_other _ _ _ _ (by simp; omega)])
  replace hs1 : w.heap.size + 1 + 1 + 1 ≤ (w1.setCell ⟨w.heap.size + 1 + 1, 0, none⟩ (.slice p1 x.p.k.length q1)).heap.size := by simp; omega
  replace l1 : M1 ≤ (w1.setCell ⟨w.heap.size + 1 + 1, 0, none⟩ (.slice p1 x.p.k.length q1)).heap.size := by simp; omega
  clear f0 g0 f1 g1 f2 g2 f3 g3 f4 g4 z2 HE0 HE1 HE2 HHB O1
  generalize (w1.setCell ⟨w.heap.size + 1 + 1, 0, none⟩ (.slice p1 x.p.k.length q1)) = W1 at *
  refine (toMm _ x.m _ _ (H2.out.at HB) (H3.out.at HB) hg.m).mono ?_
  rintro e w2 ⟨u2, u3, rfl, o2, b2⟩
  obtain ⟨p2, q2, f2, _⟩ := (mmD_own o2).1.shape
  obtain ⟨p3, q3, f3, _⟩ := (mmD_own o2).2.shape
  subst f2 f3
  unfold mmV
  replace E0 := (b2.block w.heap.size (by omega)).trans E0
  replace E1 := (b2.block (w.heap.size + 1) (by omega)).trans E1
  replace E2 := (b2.block (w.heap.size + 1 + 1) (by omega)).trans E2
  replace HB := HB.trans (b2.mono (by omega))
  replace o1 := o1.below b2
  have hs2 := b2.size
  generalize hm2 : w2.heap.size = M2 at o2
  replace o2 := o2.mono l1
  have k2 : M1 ≤ M2 := by omega
  have l2 : M2 ≤ w2.heap.size := by omega
  replace hs1 : w.heap.size + 1 + 1 + 1 ≤ w2.heap.size := by omega
  clear b2 hm2 hs2
  have O1 := hide o1
  clear o1
  have O2 := hide o2
  clear o2
  have X0 := box_of E0
  have X1 := box_of E1
  have X2 := box_of E2
  have f0 := X0.1 0 _ rfl
  have g0 := X2.1 0 _ rfl
  have f1 := X0.1 1 _ rfl
  have g1 := X2.1 1 _ rfl
  have f2 := X0.1 2 _ rfl
  have g2 := X2.1 2 _ rfl
  have f3 := X0.1 3 _ rfl
  have g3 := X2.1 3 _ rfl
  have f4 := X0.1 4 _ rfl
  have g4 := X2.1 4 _ rfl
  have z2 := X2.2
  have HE0 := hide E0
  have HE1 := hide E1
  have HE2 := hide E2
  have HHB := hide HB
  clear X0 X1 X2 E0 E1 E2 HB
  go_wp2_with fail
  have E0 : ((w2.setCell ⟨w.heap.size + 1 + 1, 1, none⟩ (.slice p2 x.m.o.length q2)).setCell ⟨w.heap.size + 1 + 1, 2, none⟩ (.slice p3 x.m.l.length q3)).heap[w.heap.size]? = _ := (heap_setCell_other _ _ _ _ (by simp <;> omega)).trans ((heap_setCell_other _ _ _ _ (by simp <;> omega)).trans (HE0.out))
  have E1 : ((w2.setCell ⟨w.heap.size + 1 + 1, 1, none⟩ (.slice p2 x.m.o.length q2)).setCell ⟨w.heap.size + 1 + 1, 2, none⟩ (.slice p3 x.m.l.length q3)).heap[w.heap.size + 1]? = _ := (heap_setCell_other _ _ _ _ (by simp <;> omega)).trans ((heap_setCell_other _ _ _ _ (by simp <;> omega)).trans (HE1.out))
  have E2 : ((w2.setCell ⟨w.heap.size + 1 + 1, 1, none⟩ (.slice p2 x.m.o.length q2)).setCell ⟨w.heap.size + 1 + 1, 2, none⟩ (.slice p3 x.m.l.length q3)).heap[w.heap.size + 1 + 1]? = some (.cells #[.slice p1 x.p.k.length q1, .slice p2 x.m.o.length q2, .slice p3 x.m.l.length q3, .slice none 0 0, .slice none 0 0] 44 (0, 0)) := (heap_setCell_same _ _ 2 _ _ _ (heap_setCell_same _ _ 1 _ _ _ HE2.out))
  have HB : Below w.heap.size w ((w2.setCell ⟨w.heap.size + 1 + 1, 1, none⟩ (.slice p2 x.m.o.length q2)).setCell ⟨w.heap.size + 1 + 1, 2, none⟩ (.slice p3 x.m.l.length q3)) := ((HHB.out.setCell (p := ⟨w.heap.size + 1 + 1, 1, none⟩) (by simp; omega) _).setCell (p := ⟨w.heap.size + 1 + 1, 2, none⟩) (by simp; omega) _)
  have o1 : OwnDL ((w2.setCell ⟨w.heap.size + 1 + 1, 1, none⟩ (.slice p2 x.m.o.length q2)).setCell ⟨w.heap.size + 1 + 1, 2, none⟩ (.slice p3 x.m.l.length q3)) _ _ _ _ := O1.out.same (fun q hq _ _ => by rw [heap_setCell_other _ _ _ _ (by simp; omega), heap_setCell_other _ _ _ _ (by simp; omega)])
  have o2 : OwnDL ((w2.setCell ⟨w.heap.size + 1 + 1, 1, none⟩ (.slice p2 x.m.o.length q2)).setCell ⟨w.heap.size + 1 + 1, 2, none⟩ (.slice p3 x.m.l.length q3)) _ _ _ _ := O2.out.same (fun q hq _ _ => by rw [heap_setCell_other _ _ _ _ (by simp; omega), heap_setCell_other _ _ _ _ (by simp; omega)])
  replace hs1 : w.heap.size + 1 + 1 + 1 ≤ ((w2.setCell ⟨w.heap.size + 1 + 1, 1, none⟩ (.slice p2 x.m.o.length q2)).setCell ⟨w.heap.size + 1 + 1, 2, none⟩ (.slice p3 x.m.l.length q3)).heap.size := by simp; omega
  replace l2 : M2 ≤ ((w2.setCell ⟨w.heap.size + 1 + 1, 1, none⟩ (.slice p2 x.m.o.length q2)).setCell ⟨w.heap.size + 1 + 1, 2, none⟩ (.slice p3 x.m.l.length q3)).heap.size := by simp; omega
  clear f0 g0 f1 g1 f2 g2 f3 g3 f4 g4 z2 HE0 HE1 HE2 HHB O1 O2
  generalize ((w2.setCell ⟨w.heap.size + 1 + 1, 1, none⟩ (.slice p2 x.m.o.length q2)).setCell ⟨w.heap.size + 1 + 1, 2, none⟩ (.slice p3 x.m.l.length q3)) = W2 at *
  refine (toThs _ _ x.t (H4.out.at HB) hg.t).mono ?_
  rintro e w3 ⟨u4, rfl, o3, b3⟩
  obtain ⟨p4, q4, rfl⟩ := o3.shape
  replace o3 := ownD_oneI o3
  replace E0 := (b3.block w.heap.size (by omega)).trans E0
  replace E1 := (b3.block (w.heap.size + 1) (by omega)).trans E1
  replace E2 := (b3.block (w.heap.size + 1 + 1) (by omega)).trans E2
  replace HB := HB.trans (b3.mono (by omega))
  replace o1 := o1.below b3
  replace o2 := o2.below b3
  have hs3 := b3.size
  generalize hm3 : w3.heap.size = M3 at o3
  replace o3 := o3.mono l2
  have k3 : M2 ≤ M3 := by omega
  have l3 : M3 ≤ w3.heap.size := by omega
  replace hs1 : w.heap.size + 1 + 1 + 1 ≤ w3.heap.size := by omega
  clear b3 hm3 hs3
  have O1 := hide o1
  clear o1
  have O2 := hide o2
  clear o2
  have O3 := hide o3
  clear o3
  have X0 := box_of E0
  have X1 := box_of E1
  have X2 := box_of E2
  have f0 := X0.1 0 _ rfl
  have g0 := X2.1 0 _ rfl
  have f1 := X0.1 1 _ rfl
  have g1 := X2.1 1 _ rfl
  have f2 := X0.1 2 _ rfl
  have g2 := X2.1 2 _ rfl
  have f3 := X0.1 3 _ rfl
  have g3 := X2.1 3 _ rfl
  have f4 := X0.1 4 _ rfl
  have g4 := X2.1 4 _ rfl
  have z2 := X2.2
  have HE0 := hide E0
  have HE1 := hide E1
  have HE2 := hide E2
  have HHB := hide HB
  clear X0 X1 X2 E0 E1 E2 HB
  go_wp2_with fail
  have E0 : (w3.setCell ⟨w.heap.size + 1 + 1, 3, none⟩ (.slice p4 x.t.length q4)).heap[w.heap.size]? = _ := (heap_setCell_other _ _ _ _ (by simp <;> omega)).trans (HE0.out)
  have E1 : (w3.setCell ⟨w.heap.size + 1 + 1, 3, none⟩ (.slice p4 x.t.length q4)).heap[w.heap.size + 1]? = _ := (heap_setCell_other _ _ _ _ (by simp <;> omega)).trans (HE1.out)
  have E2 : (w3.setCell ⟨w.heap.size + 1 + 1, 3, none⟩ (.slice p4 x.t.length q4)).heap[w.heap.size + 1 + 1]? = some (.cells #[.slice p1 x.p.k.length q1, .slice p2 x.m.o.length q2, .slice p3 x.m.l.length q3, .slice p4 x.t.length q4, .slice none 0 0] 44 (0, 0)) := (heap_setCell_same _ _ 3 _ _ _ HE2.out)
  have HB : Below w.heap.size w (w3.setCell ⟨w.heap.size + 1 + 1, 3, none⟩ (.slice p4 x.t.length q4)) := (HHB.out.setCell (p := ⟨w.heap.size + 1 + 1, 3, none⟩) (by simp; omega) _)
  have o1 : OwnDL (w3.setCell ⟨w.heap.size + 1 + 1, 3, none⟩ (.slice p4 x.t.length q4)) _ _ _ _ := O1.out.same (fun q hq _ _ => by rw [heap_setCell_other _ _ _ _ (by simp; omega)])
  have o2 : OwnDL (w3.setCell ⟨w.heap.size + 1 + 1, 3, none⟩ (.slice p4 x.t.length q4)) _ _ _ _ := O2.out.same (fun q hq _ _ => by rw [heap_setCell_other _ _ _ _ (by simp; omega)])
  have o3 : OwnDL (w3.setCell ⟨w.heap.size + 1 + 1, 3, none⟩ (.slice p4 x.t.length q4)) _ _ _ _ := O3.out.same (fun q hq _ _ => by rw [heap_setCell_other _ _ _ _ (by simp; omega)])
  replace hs1 : w.heap.size + 1 + 1 + 1 ≤ (w3.setCell ⟨w.heap.size + 1 + 1, 3, none⟩ (.slice p4 x.t.length q4)).heap.size := by simp; omega
  replace l3 : M3 ≤ (w3.setCell ⟨w.heap.size + 1 + 1, 3, none⟩ (.slice p4 x.t.length q4)).heap.size := by simp; omega
  clear f0 g0 f1 g1 f2 g2 f3 g3 f4 g4 z2 HE0 HE1 HE2 HHB O1 O2 O3
  generalize (w3.setCell ⟨w.heap.size + 1 + 1, 3, none⟩ (.slice p4 x.t.length q4)) = W3 at *
  refine (toInts _ _ x.o (H5.out.at HB) hg.o).mono ?_
  rintro e w4 ⟨u5, rfl, o4, b4⟩
  obtain ⟨p5, q5, rfl⟩ := o4.shape
  replace o4 := ownD_oneI o4
  replace E0 := (b4.block w.heap.size (by omega)).trans E0
  replace E1 := (b4.block (w.heap.size + 1) (by omega)).trans E1
  replace E2 := (b4.block (w.heap.size + 1 + 1) (by omega)).trans E2
  replace HB := HB.trans (b4.mono (by omega))
  replace o1 := o1.below b4
  replace o2 := o2.below b4
  replace o3 := o3.below b4
  have hs4 := b4.size
  generalize hm4 : w4.heap.size = M4 at o4
  replace o4 := o4.mono l3
  have k4 : M3 ≤ M4 := by omega
  have l4 : M4 ≤ w4.heap.size := by omega
  replace hs1 : w.heap.size + 1 + 1 + 1 ≤ w4.heap.size := by omega
  clear b4 hm4 hs4
  have O1 := hide o1
  clear o1
  have O2 := hide o2
  clear o2
  have O3 := hide o3
  clear o3
  have O4 := hide o4
  clear o4
  have X0 := box_of E0
  have X1 := box_of E1
  have X2 := box_of E2
  have f0 := X0.1 0 _ rfl
  have g0 := X2.1 0 _ rfl
  have f1 := X0.1 1 _ rfl
  have g1 := X2.1 1 _ rfl
  have f2 := X0.1 2 _ rfl
  have g2 := X2.1 2 _ rfl
  have f3 := X0.1 3 _ rfl
  have g3 := X2.1 3 _ rfl
  have f4 := X0.1 4 _ rfl
  have g4 := X2.1 4 _ rfl
  have r0 := X1.1 0 _ rfl
  have r1 := X1.1 1 _ rfl
  have r2 := X1.1 2 _ rfl
  have r3 := X1.1 3 _ rfl
  have r4 := X1.1 4 _ rfl
  have z1 := X1.2
  have z2 := X2.2
  have HE0 := hide E0
  have HE1 := hide E1
  have HE2 := hide E2
  have HHB := hide HB
  clear X0 X1 X2 E0 E1 E2 HB
  go_wp2
  refine bodyPost_ret (v := .agg #[.slice p1 x.p.k.length q1, .slice p2 x.m.o.length q2, .slice p3 x.m.l.length q3, .slice p4 x.t.length q4, .slice p5 x.o.length q5]) (results_one Try.results6 _ _ _ rfl (loadMd (putN5 ((heap_setCell_other _ _ _ _ (by simp <;> omega)).trans HE1.out) _ _ _ _ _))) rfl ⟨_, _, _, _, _, rfl, ?_, ?_⟩
  · refine (OwnDL.mono (b := w.heap.size + 1 + 1 + 1) (OwnDL.same (OwnDL.joinI (m := M1) O1.out (OwnDL.joinI (m := M2) O2.out (OwnDL.joinI (m := M3) O3.out O4.out (by omega) (by omega)) (by omega) (by omega)) (by omega) (by omega)) (fun q hq _ _ => ?_)) (by omega)).up (by simp; omega)
    rw [heap_setCell_other _ _ _ _ (by simp; omega), heap_setCell_other _ _ _ _ (by simp; omega), heap_setCell_other _ _ _ _ (by simp; omega), heap_setCell_other _ _ _ _ (by simp; omega), heap_setCell_other _ _ _ _ (by simp; omega), heap_setCell_other _ _ _ _ (by simp; omega)]
  · exact ((((((HHB.out.setCell (by simp <;> omega) _).setCell (by simp <;> omega) _).setCell (by simp <;> omega) _).setCell (by simp <;> omega) _).setCell (by simp <;> omega) _).setCell (by simp <;> omega) _)
set_option maxRecDepth 100000 in
set_option maxHeartbeats 8000000 in
theorem eqMd (w : World) (x : Md) (p1 p2 p3 p4 p5 q1 q2 q3 q4 q5 : Value) (hp1 : Reads w w.heap.size (kins x.p.k) p1) (hp2 : Reads w w.heap.size (obs x.m.o) p2) (hp3 : Reads w w.heap.size (lks x.m.l) p3) (hp4 : Reads w w.heap.size (ths x.t) p4) (hp5 : Reads w w.heap.size (ints x.o) p5) (hq1 : Reads w w.heap.size (kins x.p.k) q1) (hq2 : Reads w w.heap.size (obs x.m.o) q2) (hq3 : Reads w w.heap.size (lks x.m.l) q3) (hq4 : Reads w w.heap.size (ths x.t) q4) (hq5 : Reads w w.heap.size (ints x.o) q5) (hg : MdG x) :
    Calls Try.prog 8 #[mdV x p1 p2 p3 p4 p5, mdV x q1 q2 q3 q4 q5] w fun e w' => e = .returned (.bool true) ∧ Below w.heap.size w w' := by
  obtain ⟨a1, k1, e1, _⟩ := hp1.shape
  obtain ⟨b1, l1, f1, _⟩ := hq1.shape
  obtain ⟨a2, k2, e2, _⟩ := hp2.shape
  obtain ⟨b2, l2, f2, _⟩ := hq2.shape
  obtain ⟨a3, k3, e3, _⟩ := hp3.shape
  obtain ⟨b3, l3, f3, _⟩ := hq3.shape
  obtain ⟨a4, k4, e4, _⟩ := hp4.shape
  obtain ⟨b4, l4, f4, _⟩ := hq4.shape
  obtain ⟨a5, k5, e5, _⟩ := hp5.shape
  obtain ⟨b5, l5, f5, _⟩ := hq5.shape
  subst e1 f1 e2 f2 e3 f3 e4 f4 e5 f5
  have bA := ((Below.refl w.heap.size w).alloc (Nat.le_refl _) (.cells #[.slice a1 x.p.k.length k1, .slice a2 x.m.o.length k2, .slice a3 x.m.l.length k3, .slice a4 x.t.length k4, .slice a5 x.o.length k5] 44)).alloc (by simp) (.cells #[.slice b1 x.p.k.length l1, .slice b2 x.m.o.length l2, .slice b3 x.m.l.length l3, .slice b4 x.t.length l4, .slice b5 x.o.length l5] 44)
  have HP1 := hide (hp1.at bA)
  have HQ1 := hide (hq1.at bA)
  have HP2 := hide (hp2.at bA)
  have HQ2 := hide (hq2.at bA)
  have HP3 := hide (hp3.at bA)
  have HQ3 := hide (hq3.at bA)
  have HP4 := hide (hp4.at bA)
  have HQ4 := hide (hq4.at bA)
  have HP5 := hide (hp5.at bA)
  have HQ5 := hide (hq5.at bA)
  have G0 := heap_alloc_new w (.cells #[.slice a1 x.p.k.length k1, .slice a2 x.m.o.length k2, .slice a3 x.m.l.length k3, .slice a4 x.t.length k4, .slice a5 x.o.length k5] 44)
  have G1 := heap_alloc_new (w.alloc (.cells #[.slice a1 x.p.k.length k1, .slice a2 x.m.o.length k2, .slice a3 x.m.l.length k3, .slice a4 x.t.length k4, .slice a5 x.o.length k5] 44)) (.cells #[.slice b1 x.p.k.length l1, .slice b2 x.m.o.length l2, .slice b3 x.m.l.length l3, .slice b4 x.t.length l4, .slice b5 x.o.length l5] 44)
  simp only [World.size_alloc] at G1
  have E0 := hide ((Below.heap_alloc _ (.cells #[.slice b1 x.p.k.length l1, .slice b2 x.m.o.length l2, .slice b3 x.m.l.length l3, .slice b4 x.t.length l4, .slice b5 x.o.length l5] 44) _ (by simp)).trans G0)
  have E1 := hide G1
  have HB := hide bA
  have HG := hide hg
  have hsz : Hid (w.heap.size + 1 < ((w.alloc (.cells #[.slice a1 x.p.k.length k1, .slice a2 x.m.o.length k2, .slice a3 x.m.l.length k3, .slice a4 x.t.length k4, .slice a5 x.o.length k5] 44)).alloc (.cells #[.slice b1 x.p.k.length l1, .slice b2 x.m.o.length l2, .slice b3 x.m.l.length l3, .slice b4 x.t.length l4, .slice b5 x.o.length l5] 44)).heap.size) := hide (by simp)
  clear hp1 hq1 hp2 hq2 hp3 hq3 hp4 hq4 hp5 hq5 bA hg G0 G1
  unfold mdV
  go_enter Try.func8, Try.ntmps8
  go_wp2_with fail
  generalize (w.alloc (.cells #[.slice a1 x.p.k.length k1, .slice a2 x.m.o.length k2, .slice a3 x.m.l.length k3, .slice a4 x.t.length k4, .slice a5 x.o.length k5] 44)).alloc (.cells #[.slice b1 x.p.k.length l1, .slice b2 x.m.o.length l2, .slice b3 x.m.l.length l3, .slice b4 x.t.length l4, .slice b5 x.o.length l5] 44) = W at *
  refine (eqPg _ x.p _ _ HP1.out HQ1.out HG.out.p).mono ?_
  rintro e w1 ⟨rfl, z1⟩
  replace E0 := hide ((z1.block w.heap.size (by have := hsz.out; omega)).trans E0.out)
  replace E1 := hide ((z1.block (w.heap.size + 1) hsz.out).trans E1.out)
  replace hsz := hide (Nat.lt_of_lt_of_le hsz.out z1.size)
  replace HP2 := hide (HP2.out.at z1)
  replace HQ2 := hide (HQ2.out.at z1)
  replace HP3 := hide (HP3.out.at z1)
  replace HQ3 := hide (HQ3.out.at z1)
  replace HP4 := hide (HP4.out.at z1)
  replace HQ4 := hide (HQ4.out.at z1)
  replace HP5 := hide (HP5.out.at z1)
  replace HQ5 := hide (HQ5.out.at z1)
  replace HB := hide (HB.out.trans (z1.mono HB.out.size))
  clear z1
  have f0 := (box_of E0.out).1 0 _ rfl
  have f1 := (box_of E0.out).1 1 _ rfl
  have f2 := (box_of E0.out).1 2 _ rfl
  have f3 := (box_of E0.out).1 3 _ rfl
  have f4 := (box_of E0.out).1 4 _ rfl
  have g0 := (box_of E1.out).1 0 _ rfl
  have g1 := (box_of E1.out).1 1 _ rfl
  have g2 := (box_of E1.out).1 2 _ rfl
  have g3 := (box_of E1.out).1 3 _ rfl
  have g4 := (box_of E1.out).1 4 _ rfl
  go_wp2_with fail
  clear f0 g0 f1 g1 f2 g2 f3 g3 f4 g4
  refine (eqMm _ x.m _ _ _ _ HP2.out HP3.out HQ2.out HQ3.out HG.out.m).mono ?_
  rintro e w2 ⟨rfl, z2⟩
  replace E0 := hide ((z2.block w.heap.size (by have := hsz.out; omega)).trans E0.out)
  replace E1 := hide ((z2.block (w.heap.size + 1) hsz.out).trans E1.out)
  replace hsz := hide (Nat.lt_of_lt_of_le hsz.out z2.size)
  replace HP4 := hide (HP4.out.at z2)
  replace HQ4 := hide (HQ4.out.at z2)
  replace HP5 := hide (HP5.out.at z2)
  replace HQ5 := hide (HQ5.out.at z2)
  replace HB := hide (HB.out.trans (z2.mono HB.out.size))
  clear z2
  have f0 := (box_of E0.out).1 0 _ rfl
  have f1 := (box_of E0.out).1 1 _ rfl
  have f2 := (box_of E0.out).1 2 _ rfl
  have f3 := (box_of E0.out).1 3 _ rfl
  have f4 := (box_of E0.out).1 4 _ rfl
  have g0 := (box_of E1.out).1 0 _ rfl
  have g1 := (box_of E1.out).1 1 _ rfl
  have g2 := (box_of E1.out).1 2 _ rfl
  have g3 := (box_of E1.out).1 3 _ rfl
  have g4 := (box_of E1.out).1 4 _ rfl
  go_wp2_with fail
  clear f0 g0 f1 g1 f2 g2 f3 g3 f4 g4
  refine (eqThs _ _ _ x.t HP4.out HQ4.out HG.out.t).mono ?_
  rintro e w3 ⟨rfl, z3⟩
  replace E0 := hide ((z3.block w.heap.size (by have := hsz.out; omega)).trans E0.out)
  replace E1 := hide ((z3.block (w.heap.size + 1) hsz.out).trans E1.out)
  replace hsz := hide (Nat.lt_of_lt_of_le hsz.out z3.size)
  replace HP5 := hide (HP5.out.at z3)
  replace HQ5 := hide (HQ5.out.at z3)
  replace HB := hide (HB.out.trans (z3.mono HB.out.size))
  clear z3
  have f0 := (box_of E0.out).1 0 _ rfl
  have f1 := (box_of E0.out).1 1 _ rfl
  have f2 := (box_of E0.out).1 2 _ rfl
  have f3 := (box_of E0.out).1 3 _ rfl
  have f4 := (box_of E0.out).1 4 _ rfl
  have g0 := (box_of E1.out).1 0 _ rfl
  have g1 := (box_of E1.out).1 1 _ rfl
  have g2 := (box_of E1.out).1 2 _ rfl
  have g3 := (box_of E1.out).1 3 _ rfl
  have g4 := (box_of E1.out).1 4 _ rfl
  go_wp2_with fail
  clear f0 g0 f1 g1 f2 g2 f3 g3 f4 g4
  refine (eqInts _ _ _ x.o HP5.out HQ5.out HG.out.o).mono ?_
  rintro e w4 ⟨rfl, z4⟩
  replace HB := hide (HB.out.trans (z4.mono HB.out.size))
  clear z4
  go_wp2
  go_ret
  exact ⟨rfl, HB.out⟩
end Go.Proofs.Ytelpdlhgjepgbaa
