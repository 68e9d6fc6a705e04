/-
  Joined: ObR, LkR.
-/
import Derived.Test.YtelpdlhgjepgbaaGreatJ16
import Derived.Laws.StructEq
import Derived.Test.YtelpdlhgjepgbaaGreatJ17
/-
  Objects as data.
-/
namespace Go.Proofs.YtelpdlhgjepgbaaGreat
open Go.ChangeShapes Go.WideShapes Go.RowKit

structure Ob where
  i : Int
  c : Int
  f : List Vl
instance : Inhabited Ob := ⟨⟨0, 0, []⟩⟩
def obD (x : Ob) : List Dt := [.val (.int .i64 x.i), .val (.int .i64 x.c), vls x.f]
def obV (x : Ob) (u1 : Value) : Value := .agg #[.int .i64 x.i, .int .i64 x.c, u1]
def obs (xs : List Ob) : Dt := .row 54 3 xs.length (xs.flatMap obD)
theorem object_at {w : World} {B : Nat} {v : Value} {xs : List Ob} (h : Reads w B (obs xs) v) :
    ∃ a cap, v = .slice a xs.length cap ∧ xs.length ≤ cap ∧ (a = none → cap = 0) ∧ (0 < xs.length → ∃ b o, a = some ⟨b, o, none⟩ ∧ b < B ∧ ∀ j, j < xs.length → ∃ pv1, w.cell? ⟨b, o + j * 3, none⟩ = some (.int .i64 (xs.getD j default).i) ∧ w.cell? ⟨b, o + j * 3 + 1, none⟩ = some (.int .i64 (xs.getD j default).c) ∧ w.cell? ⟨b, o + j * 3 + 2, none⟩ = some (pv1) ∧ Reads w B (vls (xs.getD j default).f) pv1) := by
  obtain ⟨a, cap, rfl, h1, h2, h3⟩ := row_at (f := obD) (k := 3) (fun _ => rfl) rfl h
  refine ⟨a, cap, rfl, h1, h2, fun hp => ?_⟩
  obtain ⟨b, o, rfl, hb, hc⟩ := h3 hp
  refine ⟨b, o, rfl, hb, fun j hj => ?_⟩
  obtain ⟨vs, h4, h5⟩ := hc j hj
  obtain ⟨u0, vs0, rfl, q0, h4⟩ := readsL_cons h4
  obtain ⟨u1, vs1, rfl, q1, h4⟩ := readsL_cons h4
  obtain ⟨u2, vs2, rfl, q2, h4⟩ := readsL_cons h4
  obtain rfl := readsL_nil h4
  obtain rfl := reads_val q0
  obtain rfl := reads_val q1
  have c0 := h5 0 (by omega)
  have c1 := h5 1 (by omega)
  have c2 := h5 2 (by omega)
  rw [Nat.add_zero] at c0
  exact ⟨u2, c0, c1, c2, q2⟩
structure ObR (x : Ob) : Prop where
  i : -9223372036854775808 ≤ x.i ∧ x.i ≤ 9223372036854775807
  c : -9223372036854775808 ≤ x.c ∧ x.c ≤ 9223372036854775807
  f : vlsR x.f
def obW (x : Ob) : Nat := vlsW x.f
structure ObG (x : Ob) : Prop where
  i : -9223372036854775808 ≤ x.i ∧ x.i ≤ 9223372036854775807
  c : -9223372036854775808 ≤ x.c ∧ x.c ≤ 9223372036854775807
  f : vlsG x.f
theorem obG_of {x : Ob} (hr : ObR x) (hw : obW x ≤ 1048576) : ObG x := by
  unfold obW at hw
  exact ⟨hr.i, hr.c, vlsG_of hr.f (by omega)⟩
def obsR (xs : List Ob) : Prop := xs.length ≤ maxLen ∧ ∀ y ∈ xs, ObR y
def obsW (xs : List Ob) : Nat := xs.length + tot obW xs
def obsG (xs : List Ob) : Prop := xs.length ≤ 1048576 ∧ ∀ y ∈ xs, ObG y
theorem obsG_of {xs : List Ob} (hr : obsR xs) (hw : obsW xs ≤ 1048576) : obsG xs := by
  unfold obsW at hw
  exact ⟨by omega, fun y hy => obG_of (hr.2 y hy) (by have := tot_mem obW hy; omega)⟩
theorem obD_own {w : World} {b hi : Nat} {x : Ob} {u1 : Value} (h : OwnDL w b hi (obD x) [.int .i64 x.i, .int .i64 x.c, u1]) : Reads w w.heap.size (vls x.f) u1 := by
  have h := h.rd (Nat.le_refl _)
  obtain ⟨_, _, e, _, h⟩ := readsL_cons h
  cases e
  obtain ⟨_, _, e, _, h⟩ := readsL_cons h
  cases e
  obtain ⟨_, _, e, h1, h⟩ := readsL_cons h
  cases e
  exact h1
def obC (x : Ob × Value) : List Value := [.int .i64 x.1.i, .int .i64 x.1.c, x.2]
def ObQ (W : World) (y : Ob × Value) : Prop := ReadsL W W.heap.size (obD y.1) (obC y) ∧ ObR y.1
set_option maxRecDepth 100000 in
theorem ob_cells {H : Type} {enc : TypeId × Value → H} {W : World} {fuel : Nat} {cs : List Value} {x : DataW H × List MemPlace}
    (h : DataW.trod enc Tryz.prog W 0 (fun _ => true) true fuel 76 cs = some x) : ∃ y, cs = obC y ∧ ObQ W y := by
  have c0 : Tryz.prog.cellsOf 76 = 3 := by kernel_rfl
  have cc0 : Tryz.prog.cellsOf 3 = 1 := by kernel_rfl
  have cc1 : Tryz.prog.cellsOf 74 = 1 := by kernel_rfl
  obtain ⟨xs, n, rfl, rfl, hlen, hxl, hf⟩ := DataW.trod_struct Tryz.underlying76 h
  rw [c0] at hlen
  match xs, hxl, cs, hlen with
  | [y0, y1, y2], _, [v0, v1, v2], _ =>
    have g0 := hf 0 _ rfl
    have g1 := hf 1 _ rfl
    have g2 := hf 2 _ rfl
    simp [cc0, cc1] at g0 g1 g2
    obtain ⟨a0, e0, _, b0⟩ := DataW.trod_int Tryz.underlying3 g0
    obtain ⟨a1, e1, _, b1⟩ := DataW.trod_int Tryz.underlying3 g1
    simp at e0 e1
    subst e0 e1
    obtain ⟨z2, h2a, h2b, h2c⟩ := rd_open (sz := 2) (Q := VlR) (f := vlC) Tryz.underlying74 (by kernel_rfl) (by decide) (fun _ => rfl) (fun _ _ _ h => vl_cells h) ⟨_, g2⟩
    have r2 : Reads W W.heap.size (vls z2) v2 := by
      have := reads_row (T := 85) (f := vlD) (m := id) z2 h2a (fun y _ => vl_reads y)
      rwa [List.map_id] at this
    exact ⟨(⟨a0, a1, z2⟩, v2), rfl, readsL_mk reads_val' (readsL_mk reads_val' (readsL_mk r2 (readsL_none))), ⟨bounds_i64 b0, bounds_i64 b1, ⟨h2b, all_of_getD h2c⟩⟩⟩
def IsOb (W : World) (v : Value) : Prop := ∃ (x : Ob) (u1 : Value), v = obV x u1 ∧ Reads W W.heap.size (vls x.f) u1 ∧ ObR x
set_option maxRecDepth 100000 in
theorem openOb {H : Type} {enc : TypeId × Value → H} {W : World} {r : Reach} {base : Nat} {v : Value} {d : DataW H} {p : List MemPlace}
    (hv : Value.okWide Tryz.prog W r base 76 v) (h : DataW.Trod enc Tryz.prog W 0 (fun _ => true) true 76 v d p) : IsOb W v := by
  have c0 : Tryz.prog.cellsOf 76 = 3 := by kernel_rfl
  have cc0 : Tryz.prog.cellsOf 3 = 1 := by kernel_rfl
  have cc1 : Tryz.prog.cellsOf 74 = 1 := by kernel_rfl
  obtain ⟨cs, rfl, _⟩ := okWide_struct Tryz.underlying76 hv
  obtain ⟨fuel, h⟩ := h
  obtain ⟨xs, n, rfl, hd, hlen, hxl, hf⟩ := DataW.trod_struct Tryz.underlying76 h
  rw [c0] at hlen
  have hcs : (Value.agg cs).cells.toList = cs.toList := rfl
  rw [hcs] at hlen hf
  obtain ⟨l⟩ := cs
  match xs, hxl, l, hlen with
  | [y0, y1, y2], _, [v0, v1, v2], _ =>
    have g0 := hf 0 _ rfl
    have g1 := hf 1 _ rfl
    have g2 := hf 2 _ rfl
    simp [cc0, cc1] at g0 g1 g2
    obtain ⟨a0, e0, _, b0⟩ := DataW.trod_int Tryz.underlying3 g0
    obtain ⟨a1, e1, _, b1⟩ := DataW.trod_int Tryz.underlying3 g1
    simp at e0 e1
    subst e0 e1
    obtain ⟨z2, h2a, h2b, h2c⟩ := rd_open (sz := 2) (Q := VlR) (f := vlC) Tryz.underlying74 (by kernel_rfl) (by decide) (fun _ => rfl) (fun _ _ _ h => vl_cells h) ⟨_, g2⟩
    have r2 : Reads W W.heap.size (vls z2) v2 := by
      have := reads_row (T := 85) (f := vlD) (m := id) z2 h2a (fun y _ => vl_reads y)
      rwa [List.map_id] at this
    exact ⟨⟨a0, a1, z2⟩, v2, rfl, r2, ⟨bounds_i64 b0, bounds_i64 b1, ⟨h2b, all_of_getD h2c⟩⟩⟩
def IsObs (W : World) (v : Value) : Prop := ∃ (x : List Ob), Reads W W.heap.size (obs x) v ∧ obsR x
set_option maxRecDepth 100000 in
theorem openObs {H : Type} {enc : TypeId × Value → H} {W : World} {r : Reach} {base : Nat} {v : Value} {d : DataW H} {p : List MemPlace}
    (hv : Value.okWide Tryz.prog W r base 25 v) (h : DataW.Trod enc Tryz.prog W 0 (fun _ => true) true 25 v d p) : IsObs W v := by
  obtain ⟨a, len, cap, rfl⟩ := okWide_slice Tryz.underlying25 hv
  obtain ⟨z0, h0a, h0b, h0c⟩ := rd_open (sz := 3) (Q := ObQ W) (f := obC) Tryz.underlying25 (by kernel_rfl) (by decide) (fun _ => rfl) (fun _ _ _ h => ob_cells h) h
  have q0 := all_of_getD h0c
  have r0 : Reads W W.heap.size (obs (z0.map Prod.fst)) (.slice a len cap) := reads_row (T := 54) (f := obD) (m := Prod.fst) z0 h0a (fun y hy => (q0 y hy).1)
  exact ⟨z0.map Prod.fst, r0, ⟨by simpa using h0b, fun y hy => by
    obtain ⟨x, hx, rfl⟩ := List.mem_map.1 hy
    exact (q0 x hx).2⟩⟩
set_option maxRecDepth 100000 in
set_option maxHeartbeats 4000000 in
theorem szOb (w : World) (x : Ob) (v1 : Value) (left : Int) (h1 : Reads w w.heap.size (vls x.f) v1) (h0 : 0 ≤ left) (h9 : left ≤ 1048576) (hr : ObR x) :
    Calls Tryz.prog 37 #[obV x v1, .int .i64 left] w fun e w' => e = .returned (.int .i64 (szR left (obW x))) ∧ Below w.heap.size w w' := by
  obtain ⟨a1, c1, e1, _⟩ := h1.shape
  subst e1
  have b0 := (Below.refl w.heap.size w).alloc (Nat.le_refl _) (.cells #[.int .i64 x.i, .int .i64 x.c, .slice a1 x.f.length c1] 76)
  have H1 := hide (h1.at b0)
  have HB := hide b0
  have HX := hide (Box.new w #[.int .i64 x.i, .int .i64 x.c, .slice a1 x.f.length c1] 76)
  have hgs : Hid (w.heap.size < (w.alloc (.cells #[.int .i64 x.i, .int .i64 x.c, .slice a1 x.f.length c1] 76)).heap.size) := hide (by simp)
  have K1 := hide hr.f
  obtain ⟨t1, ht1⟩ : ∃ t, vlsW x.f = t := ⟨_, rfl⟩
  obtain ⟨R, hR⟩ : ∃ R, szR left (obW x) = R := ⟨_, rfl⟩
  rw [hR]
  unfold obW at hR
  rw [ht1] at hR
  have HT1 := hide ht1
  have HR := hide hR
  clear hR hr b0 h1 ht1
  unfold obV
  go_enter Tryz.func37, Tryz.ntmps37
  go_wp2_with fail
  generalize w.alloc (.cells #[.int .i64 x.i, .int .i64 x.c, .slice a1 x.f.length c1] 76) = W at *
  refine (szVls _ _ x.f _ H1.out (by omega) (by omega) K1.out).mono ?_
  rintro e w1 ⟨rfl, b1⟩
  rw [HT1.out]
  by_cases g1 : left < (t1 : Int)
  · rw [szR_neg g1]
    replace HB := hide (HB.out.trans (b1.mono HB.out.size))
    clear b1
    go_wp2
    go_ret
    exact ⟨ret_int (by rw [← HR.out, szR_neg (by omega)]), HB.out⟩
  · rw [szR_pos g1]
    have g1' : ¬ left - (t1 : Int) < 0 := by omega
    replace HX := hide (HX.out.below hgs.out b1)
    replace hgs := hide (Nat.lt_of_lt_of_le hgs.out b1.size)
    replace HB := hide (HB.out.trans (b1.mono HB.out.size))
    clear b1
    go_wp2
    go_ret
    exact ⟨ret_int (by rw [← HR.out, szR_pos (by omega)] <;> omega), HB.out⟩
set_option maxRecDepth 100000 in
set_option maxHeartbeats 4000000 in
theorem szObs (w : World) (v : Value) (xs : List Ob) (left : Int) (h : Reads w w.heap.size (obs xs) v) (h0 : 0 ≤ left) (h1 : left ≤ 1048576) (hr : obsR xs) :
    Calls Tryz.prog 16 #[v, .int .i64 left] w fun e w' => e = .returned (.int .i64 (szR left (obsW xs))) ∧ Below w.heap.size w w' := by
  obtain ⟨hm, hx⟩ := hr
  unfold obsW
  have HX : Hid (∀ wr, Below w.heap.size w wr → _) := hide (fun wr hb => object_at (h.at hb))
  have HR : Hid (∀ j, j < xs.length → ObR (xs.getD j default)) := hide (fun j hj => getD_mem hx j hj)
  have HS : Hid (∀ j, j < xs.length → tot obW (xs.take (j + 1)) = tot obW (xs.take j) + obW (xs.getD j default)) := hide (fun j hj => tot_step _ xs j hj)
  have HL : Hid (∀ j, tot obW (xs.take j) ≤ tot obW xs) := hide (tot_le _ xs)
  have HA : Hid (tot obW (xs.take xs.length) = tot obW xs) := hide (by rw [List.take_length])
  obtain ⟨a, cap, rfl, _⟩ := object_at h
  clear h hx
  generalize hn : xs.length = n at *
  unfold maxLen at hm
  have hw : IntKind.i64.wrap (left - (n : Int)) = left - (n : Int) := by rw [IntKind.wrap_i64]; omega
  by_cases hbig : left - (n : Int) < 0
  · rw [szR_neg (by omega)]
    go_enter Tryz.func16, Tryz.ntmps16
    go_wp2
    go_ret
    exact ⟨rfl, Below.refl _ _⟩
  · go_enter Tryz.func16, Tryz.ntmps16
    go_wp2
    go_loopw [1, 5] (fun q i wr => ∃ j : Nat, j ≤ n ∧ q = .int .i64 (left - (n : Int) - (tot obW (xs.take j) : Int)) ∧ i = .int .i64 (j : Int) ∧ 0 ≤ left - (n : Int) - (tot obW (xs.take j) : Int) ∧ Hid (Below w.heap.size w wr)) (fun _ i _ => n - (intOf i).toNat)
    case atStart => exact ⟨0, Nat.zero_le _, by simp [tot], rfl, by simp [tot]; omega, hide (Below.refl _ _)⟩
    case round =>
      obtain ⟨j, hj, rfl, rfl, hq, HB⟩ := hrel
      by_cases hlt : j < n
      · obtain ⟨a', cap', ea, _, _, hc⟩ := HX.out wr HB.out
        cases ea
        obtain ⟨b, o, rfl, _, hcell⟩ := hc (by omega)
        obtain ⟨pv1, e0, e1, e2, r1⟩ := hcell j hlt
        have hz := hide (HR.out j hlt)
        have hs := HS.out j hlt
        have hle := HL.out (j + 1)
        clear hcell hc
        generalize xs.getD j default = x at *
        have HZ := hide (szOb wr x pv1 _ r1 hq (by omega) hz.out)
        generalize obW x = t at *
        have HE : Hid (left - (n : Int) - (tot obW (xs.take j) : Int) - (t : Int) = left - (n : Int) - (tot obW (xs.take (j + 1)) : Int)) := hide (by rw [hs]; omega)
        have HN : Hid (left - (n : Int) - (tot obW (xs.take (j + 1)) : Int) < 0 → szR left (n + tot obW xs) = -1) := hide (fun h => szR_neg (by omega))
        clear hs hle hz HS HL
        by_cases g : left - (n : Int) - (tot obW (xs.take j) : Int) < (t : Int)
        · rw [szR_neg g] at HZ
          go_wp2_with fail
          refine (unhide HZ).mono ?_
          rintro e w1 ⟨rfl, b1⟩
          replace HB := hide (HB.out.trans (b1.mono HB.out.size))
          clear b1
          go_wp2
          go_ret
          exact ⟨by rw [HN.out (by rw [← HE.out]; omega)]; rfl, HB.out⟩
        · rw [szR_pos g] at HZ
          have g' : ¬ left - (n : Int) - (tot obW (xs.take j) : Int) - (t : Int) < 0 := by omega
          go_wp2_with fail
          refine (unhide HZ).mono ?_
          rintro e w1 ⟨rfl, b1⟩
          replace HB := hide (HB.out.trans (b1.mono HB.out.size))
          clear b1
          go_wp2
          exact ⟨⟨j + 1, by omega, by first | rfl | (rw [HE.out]), by go_num, by rw [← HE.out]; omega, HB⟩, by simp [intOf]; omega⟩
      · obtain rfl : j = n := by omega
        have HF : Hid (szR left (j + tot obW xs) = left - (j : Int) - (tot obW (xs.take j) : Int)) := hide (by rw [szR_pos (by rw [← HA.out]; omega), ← HA.out]; omega)
        go_wp2
        go_ret
        exact ⟨by rw [HF.out]; rfl, HB.out⟩
theorem loadOb {w : World} {g : Nat} {a0 a1 a2 : Value} (h : w.heap[g]? = some (.cells #[a0, a1, a2] 54 (0, 0))) : (loadVar 54 ⟨g, 0, none⟩).run Tryz.prog w = .ok (.agg #[a0, a1, a2]) w :=
  run_loadVar_row w g 54 54 #[a0, a1, a2] (0, 0) _ h Tryz.underlying54 rfl (by kernel_rfl)
set_option maxRecDepth 100000 in
set_option maxHeartbeats 4000000 in
theorem toOb (w : World) (x : Ob) (v1 : Value) (h1 : Reads w w.heap.size (vls x.f) v1) (hg : ObG x) :
    Calls Tryz.prog 39 #[obV x v1] w fun e w' => ∃ u1, e = .returned (obV x u1) ∧ OwnDL w' w.heap.size w'.heap.size (obD x) [.int .i64 x.i, .int .i64 x.c, u1] ∧ Below w.heap.size w w' := by
  obtain ⟨a1, c1, e1, _⟩ := h1.shape
  subst e1
  have H1 := hide h1
  clear h1
  unfold obV
  go_enter Tryz.func39, Tryz.ntmps39
  go_wp2_with fail
  have G0 := heap_alloc_new w (.cells #[.int .i64 x.i, .int .i64 x.c, .slice a1 (x.f.length) c1] 76)
  have G1 := heap_alloc_new (w.alloc (.cells #[.int .i64 x.i, .int .i64 x.c, .slice a1 (x.f.length) c1] 76)) (.cells #[.int .i64 0, .int .i64 0, .slice none 0 0] 54)
  have G2 := heap_alloc_new ((w.alloc (.cells #[.int .i64 x.i, .int .i64 x.c, .slice a1 (x.f.length) c1] 76)).alloc (.cells #[.int .i64 0, .int .i64 0, .slice none 0 0] 54)) (.cells #[.int .i64 x.i, .int .i64 x.c, .slice none 0 0] 54)
  simp only [World.size_alloc] at G1 G2
  have bA := (((Below.refl w.heap.size w).alloc (Nat.le_refl _) (.cells #[.int .i64 x.i, .int .i64 x.c, .slice a1 (x.f.length) c1] 76)).alloc (by simp) (.cells #[.int .i64 0, .int .i64 0, .slice none 0 0] 54)).alloc (by simp; omega) (.cells #[.int .i64 x.i, .int .i64 x.c, .slice none 0 0] 54)
  refine (toVls _ _ x.f (H1.out.at bA) hg.f).mono ?_
  rintro e w1 ⟨u1, rfl, o1, b1⟩
  obtain ⟨p1, q1, rfl⟩ := o1.shape
  have E0 := (b1.block w.heap.size (by simp; omega)).trans ((Below.heap_alloc _ _ _ (by simp; omega)).trans ((Below.heap_alloc _ _ _ (by simp)).trans G0))
  have E1 := (b1.block (w.heap.size + 1) (by simp)).trans ((Below.heap_alloc _ _ _ (by simp)).trans G1)
  have E2 := (b1.block (w.heap.size + 1 + 1) (by simp)).trans G2
  have HB := bA.trans (b1.mono (by simp; omega))
  have hs1 : w.heap.size + 1 + 1 + 1 ≤ w1.heap.size := by have := b1.size; simp only [World.size_alloc] at this; omega
  simp only [World.size_alloc] at o1
  have hM1 := hs1
  clear b1 bA G0 G1 G2
  generalize hm1 : w1.heap.size = M1 at o1
  have k1 : w.heap.size + 1 + 1 + 1 ≤ M1 := by omega
  have l1 : M1 ≤ w1.heap.size := by omega
  clear hm1
  have O1 := hide o1
  clear o1
  have X0 := box_of E0
  have X1 := box_of E1
  have X2 := box_of E2
  have f0 := X0.1 0 _ rfl
  have g0 := X2.1 0 _ rfl
  have f1 := X0.1 1 _ rfl
  have g1 := X2.1 1 _ rfl
  have f2 := X0.1 2 _ rfl
  have g2 := X2.1 2 _ rfl
  have r0 := X1.1 0 _ rfl
  have r1 := X1.1 1 _ rfl
  have r2 := X1.1 2 _ rfl
  have z1 := X1.2
  have z2 := X2.2
  have HE0 := hide E0
  have HE1 := hide E1
  have HE2 := hide E2
  have HHB := hide HB
  clear X0 X1 X2 E0 E1 E2 HB
  go_wp2
  refine bodyPost_ret (v := .agg #[.int .i64 x.i, .int .i64 x.c, .slice p1 (x.f.length) q1]) (results_one Tryz.results39 _ _ _ rfl (loadOb (putN3 ((heap_setCell_other _ _ _ _ (by simp <;> omega)).trans HE1.out) _ _ _))) rfl ⟨_, rfl, ?_, ?_⟩
  · refine (OwnDL.mono (b := w.heap.size + 1 + 1 + 1) (OwnDL.same (OwnDL.val (OwnDL.val (OwnDL.cons (m := M1) (O1.out) (ownDL_nil _ M1 _) (by omega) (by omega)))) (fun q hq _ _ => ?_)) (by omega)).up (by simp)
    rw [heap_setCell_other _ _ _ _ (by simp; omega), heap_setCell_other _ _ _ _ (by simp; omega), heap_setCell_other _ _ _ _ (by simp; omega), heap_setCell_other _ _ _ _ (by simp; omega)]
  · exact ((((HHB.out.setCell (by simp <;> omega) _).setCell (by simp <;> omega) _).setCell (by simp <;> omega) _).setCell (by simp <;> omega) _)
theorem Tryz.infoOb : (Tryz.prog.info? 54).map (fun i => (i.zero, i.size, i.bytes)) = some (some (.agg #[.int .i64 0, .int .i64 0, .slice none 0 0]), 3, 40) := by kernel_rfl
set_option maxRecDepth 100000 in
set_option maxHeartbeats 4000000 in
theorem toObs (w : World) (v : Value) (xs : List Ob) (h : Reads w w.heap.size (obs xs) v) (hg : obsG xs) :
    Calls Tryz.prog 24 #[v] w fun e w' => ∃ v', e = .returned v' ∧ OwnD w' w.heap.size w'.heap.size (obs xs) v' ∧ Below w.heap.size w w' := by
  obtain ⟨hm, hgd⟩ := hg
  have HX : Hid (∀ wr, Below w.heap.size w wr → _) := hide (fun wr hb => object_at (h.at hb))
  have HG : Hid (∀ j, j < xs.length → ObG (xs.getD j default)) := hide (fun j hj => getD_mem hgd j hj)
  clear hgd
  obtain ⟨a, cap, rfl, _⟩ := object_at h
  have HD : Hid (∀ W hi v, OwnD W w.heap.size hi (.row 54 3 xs.length (upTo obD [.int .i64 0, .int .i64 0, .slice none 0 0] xs xs.length)) v → OwnD W w.heap.size hi (obs xs) v) := hide (fun W hi v h => by unfold obs; rwa [upTo_all] at h)
  clear h
  obtain ⟨i0, hi, hz0, hz1, hz2⟩ := info_parts Tryz.infoOb
  generalize hn : xs.length = n at *
  go_enter Tryz.func24, Tryz.ntmps24
  go_wp2_with (at_make; refine wpList_make_full _ rfl _ _ 31 rfl w.heap.size 54 i0 (.agg #[.int .i64 0, .int .i64 0, .slice none 0 0]) 3 Tryz.underlying31 hi hz0 hz1 _ _ _ _ n rfl rfl rfl rfl (by rw [hz2]; omega) (by unfold maxLen; omega) (Nat.le_refl _) ?_; intro w1 ho1 hg1)
  have o1 : OwnD w1 w.heap.size w1.heap.size (.row 54 3 n (upTo obD [.int .i64 0, .int .i64 0, .slice none 0 0] xs 0)) (.slice (some ⟨w.heap.size, 0, none⟩) n n) := ownD_made hn rfl (by decide) rfl ho1 (fun q hq => (World.ownsRow.lt ho1 q hq).2)
  have hl1 : w.heap.size < w1.heap.size := (World.ownsRow.lt ho1 _ rfl).2
  have b1 : Below w.heap.size w w1 := (Below.refl _ _).grown hg1 (Nat.le_refl _) (fun k hk => by cases hk)
  clear ho1 hg1 hi hz0 hz1 hz2
  go_loopw [4] (fun i wr => ∃ (j : Nat), j ≤ n ∧ i = .int .i64 (j : Int) ∧ Hid (OwnD wr w.heap.size wr.heap.size (.row 54 3 n (upTo obD [.int .i64 0, .int .i64 0, .slice none 0 0] xs j)) (.slice (some ⟨w.heap.size, 0, none⟩) n n)) ∧ Hid (Below w.heap.size w wr) ∧ w.heap.size < wr.heap.size) (fun i _ => n - (intOf i).toNat)
  case atStart => exact ⟨0, Nat.zero_le _, rfl, hide o1, hide b1, hl1⟩
  case round =>
    clear o1 b1
    obtain ⟨j, hj, rfl, HO, HB, hlt0⟩ := hrel
    by_cases hlt : j < n
    · obtain ⟨a', cap', ea, _, _, hx⟩ := HX.out wr HB.out
      cases ea
      obtain ⟨b, o, rfl, _, hcell⟩ := hx (by omega)
      obtain ⟨pv1, e0, e1, e2, r1⟩ := hcell j hlt
      clear hcell hx
      have HL : Hid (xs.getD j default = xs.getD j default) := hide rfl
      have hgx := hide (HG.out j hlt)
      generalize hx9 : xs.getD j default = x at *
      have HX9 := hide hx9
      clear hx9 HL
      obtain ⟨aa1, cc1, ea1, _⟩ := r1.shape
      subst ea1
      have R1 := hide r1
      clear r1
      go_wp2_with fail
      refine (toOb _ x _ R1.out hgx.out).mono ?_
      rintro e w2 ⟨u1, rfl, ou, b2⟩
      obtain ⟨p1, q1, e1'⟩ : ∃ p1 q1, u1 = .slice p1 x.f.length q1 := by
        obtain ⟨_, h3, _, _⟩ := ou
        obtain ⟨_, _, _, _, h2, _, _, h3⟩ := ownsL_cons h3
        cases h2
        obtain ⟨_, _, _, _, h2, _, _, h3⟩ := ownsL_cons h3
        cases h2
        obtain ⟨_, _, _, _, h2, _, n2, h3⟩ := ownsL_cons h3
        cases h2
        obtain ⟨l1, m1, f1, _⟩ := (Owns.reads (Nat.le_refl _) _ _ _ n2).shape
        exact ⟨l1, m1, f1⟩
      subst e1'
      rw [← HX9.out] at ou
      have hs2 := b2.size
      obtain ⟨hc, hf, ho2⟩ := OwnD.fill (f := obD) (k := 3) (fun _ => rfl) rfl hn hlt (HO.out.below b2) ou (Nat.le_refl _) (Nat.le_of_lt hlt0) hs2
      rw [HX9.out] at ho2
      replace HB := hide (HB.out.trans (b2.mono HB.out.size))
      replace hlt0 : w.heap.size < w2.heap.size := by omega
      have OU := hide hs2
      clear b2 HO HX9 ou
      unfold obV
      obtain ⟨y0, d0⟩ := hc 0 (by omega)
      obtain ⟨y1, d1⟩ := hc 1 (by omega)
      obtain ⟨y2, d2⟩ := hc 2 (by omega)
      rw [Nat.add_zero]  at d0
      have hb2 := setRow_below [.int .i64 x.i, .int .i64 x.c, .slice p1 x.f.length q1] w2 (j * 3) HB.out (Nat.le_refl _)
      have hs9 : w2.heap.size = (setRow w2 w.heap.size (j * 3) [.int .i64 x.i, .int .i64 x.c, .slice p1 x.f.length q1]).heap.size := by simp [setRow]
      rw [hs9] at ho2
      clear hs9
      simp only [setRow, Nat.add_assoc, Nat.reduceAdd] at ho2 hb2
      replace HO := hide ho2
      have HB2 := hide hb2
      clear ho2 hb2 hc HB OU
      go_wp2
      exact ⟨⟨j + 1, by omega, by go_num, HO, HB2, by simp; omega⟩, by simp [intOf]; omega⟩
    · obtain rfl : j = n := by omega
      have HF := hide (HD.out _ _ _ HO.out)
      go_wp2
      go_ret
      exact ⟨_, rfl, HF.out, HB.out⟩
set_option maxRecDepth 100000 in
set_option maxHeartbeats 4000000 in
theorem eqOb (w : World) (x : Ob) (p1 q1 : Value) (hp1 : Reads w w.heap.size (vls x.f) p1) (hq1 : Reads w w.heap.size (vls x.f) q1) (hg : ObG x) :
    Calls Tryz.prog 50 #[obV x p1, obV x q1] w fun e w' => e = .returned (.bool true) ∧ Below w.heap.size w w' := by
  obtain ⟨a1, k1, e1, _⟩ := hp1.shape
  obtain ⟨b1, l1, f1, _⟩ := hq1.shape
  subst e1 f1
  have bA := ((Below.refl w.heap.size w).alloc (Nat.le_refl _) (.cells #[.int .i64 x.i, .int .i64 x.c, .slice a1 x.f.length k1] 54)).alloc (by simp) (.cells #[.int .i64 x.i, .int .i64 x.c, .slice b1 x.f.length l1] 54)
  have HP1 := hide (hp1.at bA)
  have HQ1 := hide (hq1.at bA)
  have G0 := heap_alloc_new w (.cells #[.int .i64 x.i, .int .i64 x.c, .slice a1 x.f.length k1] 54)
  have G1 := heap_alloc_new (w.alloc (.cells #[.int .i64 x.i, .int .i64 x.c, .slice a1 x.f.length k1] 54)) (.cells #[.int .i64 x.i, .int .i64 x.c, .slice b1 x.f.length l1] 54)
  simp only [World.size_alloc] at G1
  have E0 := hide ((Below.heap_alloc _ (.cells #[.int .i64 x.i, .int .i64 x.c, .slice b1 x.f.length l1] 54) _ (by simp)).trans G0)
  have E1 := hide G1
  have HB := hide bA
  have HG := hide hg
  have hsz : Hid (w.heap.size + 1 < ((w.alloc (.cells #[.int .i64 x.i, .int .i64 x.c, .slice a1 x.f.length k1] 54)).alloc (.cells #[.int .i64 x.i, .int .i64 x.c, .slice b1 x.f.length l1] 54)).heap.size) := hide (by simp)
  clear hp1 hq1 bA hg G0 G1
  have n_i : (x.i != x.i) = false := by simp
  have n_c : (x.c != x.c) = false := by simp
  unfold obV
  go_enter Tryz.func50, Tryz.ntmps50
  go_wp2_with fail
  generalize (w.alloc (.cells #[.int .i64 x.i, .int .i64 x.c, .slice a1 x.f.length k1] 54)).alloc (.cells #[.int .i64 x.i, .int .i64 x.c, .slice b1 x.f.length l1] 54) = W at *
  refine (eqVls _ _ _ x.f HP1.out HQ1.out HG.out.f).mono ?_
  rintro e w1 ⟨rfl, z1⟩
  replace HB := hide (HB.out.trans (z1.mono HB.out.size))
  clear z1
  go_wp2
  go_ret
  exact ⟨rfl, HB.out⟩
set_option maxRecDepth 100000 in
set_option maxHeartbeats 4000000 in
theorem eqObs (w : World) (v1 v2 : Value) (xs : List Ob) (h1 : Reads w w.heap.size (obs xs) v1) (h2 : Reads w w.heap.size (obs xs) v2) (hg : obsG xs) :
    Calls Tryz.prog 28 #[v1, v2] w fun e w' => e = .returned (.bool true) ∧ Below w.heap.size w w' := by
  obtain ⟨hm, hgd⟩ := hg
  have HX1 : Hid (∀ wr, Below w.heap.size w wr → _) := hide (fun wr hb => object_at (h1.at hb))
  have HX2 : Hid (∀ wr, Below w.heap.size w wr → _) := hide (fun wr hb => object_at (h2.at hb))
  have HG : Hid (∀ j, j < xs.length → ObG (xs.getD j default)) := hide (fun j hj => getD_mem hgd j hj)
  clear hgd
  obtain ⟨a1, cap1, rfl, _⟩ := object_at h1
  obtain ⟨a2, cap2, rfl, _⟩ := object_at h2
  clear h1 h2
  generalize hn : xs.length = n at *
  have hne : ((n : Int) != (n : Int)) = false := by simp
  go_enter Tryz.func28, Tryz.ntmps28
  go_wp2
  go_loopw [5] (fun i wr => ∃ j : Nat, j ≤ n ∧ i = .int .i64 (j : Int) ∧ Below w.heap.size w wr) (fun i _ => n - (intOf i).toNat)
  case atStart => exact ⟨0, Nat.zero_le _, rfl, Below.refl _ _⟩
  case round =>
    obtain ⟨j, hj, rfl, hb⟩ := hrel
    have HB := hide hb
    have hs := hb.size
    clear hb
    by_cases hlt : j < n
    · obtain ⟨a1', cap1', ea1, _, _, hx1⟩ := HX1.out wr HB.out
      cases ea1
      obtain ⟨b1, o1, rfl, hb1, hc1⟩ := hx1 (by omega)
      obtain ⟨a2', cap2', ea2, _, _, hx2⟩ := HX2.out wr HB.out
      cases ea2
      obtain ⟨b2, o2, rfl, hb2, hc2⟩ := hx2 (by omega)
      obtain ⟨pv1, e0, e1, e2, r1⟩ := hc1 j hlt
      obtain ⟨qv1, d0, d1, d2, s1⟩ := hc2 j hlt
      have R1 : Hid (Reads wr.drew wr.drew.heap.size _ _) := hide (r1.drewN 1)
      have S1 : Hid (Reads wr.drew wr.drew.heap.size _ _) := hide (s1.drewN 1)
      obtain ⟨x1, y1, z1, _⟩ := r1.shape
      obtain ⟨x19, y19, z19, _⟩ := s1.shape
      subst z1 z19
      have HGj := hide (HG.out j hlt)
      clear hx1 hx2 hc1 hc2 r1 s1
      generalize xs.getD j default = p at *
      go_wp2
      go_cut [26] from 11 to 26 (fun s wq => s = .bool false ∧ Below w.heap.size w wq)
      case first =>
        go_region_with (go_at_call 50; refine (eqOb _ p _ _ R1.out S1.out HGj.out).mono ?_; rintro e w1 ⟨rfl, b1⟩; have HB1 := hide (HB.out.trans (below_of_drew b1 |>.mono hs)); clear b1)
        all_goals (go_wp2_with fail; go_meet; exact ⟨rfl, HB1.out⟩)
      case rest =>
        obtain ⟨rfl, hB⟩ := hcut
        have HB2 := hide hB
        clear hB
        go_wp2
        exact ⟨⟨j + 1, hlt, by go_num, HB2.out⟩, by simp [intOf]; omega⟩
    · go_wp2
      go_ret
      exact ⟨rfl, HB.out⟩
end Go.Proofs.YtelpdlhgjepgbaaGreat
/-
  Locks as data.
-/
namespace Go.Proofs.YtelpdlhgjepgbaaGreat
open Go.ChangeShapes Go.WideShapes Go.RowKit

structure Lk where
  i : Int
  w : Int
  c : Int
instance : Inhabited Lk := ⟨⟨0, 0, 0⟩⟩
def lkD (x : Lk) : List Dt := [.val (.int .i64 x.i), .val (.int .i64 x.w), .val (.int .i64 x.c)]
def lkV (x : Lk) : Value := .agg #[.int .i64 x.i, .int .i64 x.w, .int .i64 x.c]
def lks (xs : List Lk) : Dt := .row 89 3 xs.length (xs.flatMap lkD)
theorem lock_at {w : World} {B : Nat} {v : Value} {xs : List Lk} (h : Reads w B (lks xs) v) :
    ∃ a cap, v = .slice a xs.length cap ∧ xs.length ≤ cap ∧ (a = none → cap = 0) ∧ (0 < xs.length → ∃ b o, a = some ⟨b, o, none⟩ ∧ b < B ∧ ∀ j, j < xs.length → w.cell? ⟨b, o + j * 3, none⟩ = some (.int .i64 (xs.getD j default).i) ∧ w.cell? ⟨b, o + j * 3 + 1, none⟩ = some (.int .i64 (xs.getD j default).w) ∧ w.cell? ⟨b, o + j * 3 + 2, none⟩ = some (.int .i64 (xs.getD j default).c)) := by
  obtain ⟨a, cap, rfl, h1, h2, h3⟩ := row_at (f := lkD) (k := 3) (fun _ => rfl) rfl h
  refine ⟨a, cap, rfl, h1, h2, fun hp => ?_⟩
  obtain ⟨b, o, rfl, hb, hc⟩ := h3 hp
  refine ⟨b, o, rfl, hb, fun j hj => ?_⟩
  obtain ⟨vs, h4, h5⟩ := hc j hj
  obtain ⟨u0, vs0, rfl, q0, h4⟩ := readsL_cons h4
  obtain ⟨u1, vs1, rfl, q1, h4⟩ := readsL_cons h4
  obtain ⟨u2, vs2, rfl, q2, h4⟩ := readsL_cons h4
  obtain rfl := readsL_nil h4
  obtain rfl := reads_val q0
  obtain rfl := reads_val q1
  obtain rfl := reads_val q2
  have c0 := h5 0 (by omega)
  have c1 := h5 1 (by omega)
  have c2 := h5 2 (by omega)
  rw [Nat.add_zero] at c0
  exact ⟨c0, c1, c2⟩
structure LkR (x : Lk) : Prop where
  i : -9223372036854775808 ≤ x.i ∧ x.i ≤ 9223372036854775807
  w : -9223372036854775808 ≤ x.w ∧ x.w ≤ 9223372036854775807
  c : -9223372036854775808 ≤ x.c ∧ x.c ≤ 9223372036854775807
def lkW (_x : Lk) : Nat := 0
structure LkG (x : Lk) : Prop where
  i : -9223372036854775808 ≤ x.i ∧ x.i ≤ 9223372036854775807
  w : -9223372036854775808 ≤ x.w ∧ x.w ≤ 9223372036854775807
  c : -9223372036854775808 ≤ x.c ∧ x.c ≤ 9223372036854775807
theorem lkG_of {x : Lk} (hr : LkR x) (_hw : lkW x ≤ 1048576) : LkG x := ⟨hr.i, hr.w, hr.c⟩
def lksR (xs : List Lk) : Prop := xs.length ≤ maxLen ∧ ∀ y ∈ xs, LkR y
def lksW (xs : List Lk) : Nat := xs.length
def lksG (xs : List Lk) : Prop := xs.length ≤ 1048576 ∧ ∀ y ∈ xs, LkG y
theorem lksG_of {xs : List Lk} (hr : lksR xs) (hw : lksW xs ≤ 1048576) : lksG xs := ⟨hw, fun y hy => lkG_of (hr.2 y hy) (Nat.zero_le _)⟩
def lkC (x : Lk) : List Value := [.int .i64 x.i, .int .i64 x.w, .int .i64 x.c]
theorem lk_reads {w : World} {B : Nat} (x : Lk) : ReadsL w B (lkD x) (lkC x) := readsL_mk reads_val' (readsL_mk reads_val' (readsL_mk reads_val' readsL_none))
set_option maxRecDepth 100000 in
theorem lk_cells {H : Type} {enc : TypeId × Value → H} {W : World} {fuel : Nat} {cs : List Value} {x : DataW H × List MemPlace}
    (h : DataW.trod enc Tryz.prog W 0 (fun _ => true) true fuel 91 cs = some x) : ∃ y, cs = lkC y ∧ LkR y := by
  have c0 : Tryz.prog.cellsOf 91 = 3 := by kernel_rfl
  have cc0 : Tryz.prog.cellsOf 3 = 1 := by kernel_rfl
  obtain ⟨xs, n, rfl, rfl, hlen, hxl, hf⟩ := DataW.trod_struct Tryz.underlying91 h
  rw [c0] at hlen
  match xs, hxl, cs, hlen with
  | [y0, y1, y2], _, [v0, v1, v2], _ =>
    have g0 := hf 0 _ rfl
    have g1 := hf 1 _ rfl
    have g2 := hf 2 _ rfl
    simp [cc0] at g0 g1 g2
    obtain ⟨a0, e0, _, b0⟩ := DataW.trod_int Tryz.underlying3 g0
    obtain ⟨a1, e1, _, b1⟩ := DataW.trod_int Tryz.underlying3 g1
    obtain ⟨a2, e2, _, b2⟩ := DataW.trod_int Tryz.underlying3 g2
    simp at e0 e1 e2
    subst e0 e1 e2
    exact ⟨⟨a0, a1, a2⟩, rfl, ⟨bounds_i64 b0, bounds_i64 b1, bounds_i64 b2⟩⟩
def IsLk (_W : World) (v : Value) : Prop := ∃ (x : Lk), v = lkV x ∧ LkR x
set_option maxRecDepth 100000 in
theorem openLk {H : Type} {enc : TypeId × Value → H} {W : World} {r : Reach} {base : Nat} {v : Value} {d : DataW H} {p : List MemPlace}
    (hv : Value.okWide Tryz.prog W r base 91 v) (h : DataW.Trod enc Tryz.prog W 0 (fun _ => true) true 91 v d p) : IsLk W v := by
  have c0 : Tryz.prog.cellsOf 91 = 3 := by kernel_rfl
  have cc0 : Tryz.prog.cellsOf 3 = 1 := by kernel_rfl
  obtain ⟨cs, rfl, _⟩ := okWide_struct Tryz.underlying91 hv
  obtain ⟨fuel, h⟩ := h
  obtain ⟨xs, n, rfl, hd, hlen, hxl, hf⟩ := DataW.trod_struct Tryz.underlying91 h
  rw [c0] at hlen
  have hcs : (Value.agg cs).cells.toList = cs.toList := rfl
  rw [hcs] at hlen hf
  obtain ⟨l⟩ := cs
  match xs, hxl, l, hlen with
  | [y0, y1, y2], _, [v0, v1, v2], _ =>
    have g0 := hf 0 _ rfl
    have g1 := hf 1 _ rfl
    have g2 := hf 2 _ rfl
    simp [cc0] at g0 g1 g2
    obtain ⟨a0, e0, _, b0⟩ := DataW.trod_int Tryz.underlying3 g0
    obtain ⟨a1, e1, _, b1⟩ := DataW.trod_int Tryz.underlying3 g1
    obtain ⟨a2, e2, _, b2⟩ := DataW.trod_int Tryz.underlying3 g2
    simp at e0 e1 e2
    subst e0 e1 e2
    exact ⟨⟨a0, a1, a2⟩, rfl, ⟨bounds_i64 b0, bounds_i64 b1, bounds_i64 b2⟩⟩
def IsLks (W : World) (v : Value) : Prop := ∃ (x : List Lk), Reads W W.heap.size (lks x) v ∧ lksR x
set_option maxRecDepth 100000 in
theorem openLks {H : Type} {enc : TypeId × Value → H} {W : World} {r : Reach} {base : Nat} {v : Value} {d : DataW H} {p : List MemPlace}
    (hv : Value.okWide Tryz.prog W r base 26 v) (h : DataW.Trod enc Tryz.prog W 0 (fun _ => true) true 26 v d p) : IsLks W v := by
  obtain ⟨a, len, cap, rfl⟩ := okWide_slice Tryz.underlying26 hv
  obtain ⟨z0, h0a, h0b, h0c⟩ := rd_open (sz := 3) (Q := LkR) (f := lkC) Tryz.underlying26 (by kernel_rfl) (by decide) (fun _ => rfl) (fun _ _ _ h => lk_cells h) h
  have r0 : Reads W W.heap.size (lks z0) (.slice a len cap) := by
    have := reads_row (T := 89) (f := lkD) (m := id) z0 h0a (fun y _ => lk_reads y)
    rwa [List.map_id] at this
  exact ⟨z0, r0, ⟨h0b, all_of_getD h0c⟩⟩
theorem szLks (w : World) (v : Value) (xs : List Lk) (left : Int) (h : Reads w w.heap.size (lks xs) v) (h0 : 0 ≤ left) (h1 : left ≤ 1048576) (hr : lksR xs) :
    Calls Tryz.prog 17 #[v, .int .i64 left] w fun e w' => e = .returned (.int .i64 (szR left (lksW xs))) ∧ Below w.heap.size w w' := by
  obtain ⟨a, c, e, _⟩ := h.shape
  subst e
  have hm := hr.1
  unfold maxLen at hm
  unfold lksW
  clear h hr
  generalize xs.length = len at *
  have hw : IntKind.i64.wrap (left - (len : Int)) = left - (len : Int) := by rw [IntKind.wrap_i64]; omega
  by_cases h : left - (len : Int) < 0
  · rw [szR_neg (by omega)]
    go_enter Tryz.func17, Tryz.ntmps17
    go_wp2
    go_ret
    exact ⟨rfl, Below.refl _ _⟩
  · rw [szR_pos (by omega)]
    go_enter Tryz.func17, Tryz.ntmps17
    go_wp2
    go_ret
    exact ⟨by first | rfl | (exact ret_int (by omega)), Below.refl _ _⟩
set_option maxRecDepth 100000 in
set_option maxHeartbeats 4000000 in
theorem toLk (w : World) (x : Lk) : Calls Tryz.prog 40 #[lkV x] w fun e w' => e = .returned (lkV x) ∧ Below w.heap.size w w' := by
  unfold lkV
  go_enter Tryz.func40, Tryz.ntmps40
  go_wp2
  exact bodyPost_ret (v := .agg #[.int .i64 x.i, .int .i64 x.w, .int .i64 x.c]) (by simp [results, Tryz.results40, go_sem]) rfl ⟨rfl, (((Below.refl _ _).alloc (Nat.le_refl _) _).alloc (by simp) _).alloc (by simp; omega) _⟩
theorem Tryz.infoLk : (Tryz.prog.info? 89).map (fun i => (i.zero, i.size, i.bytes)) = some (some (.agg #[.int .i64 0, .int .i64 0, .int .i64 0]), 3, 24) := by kernel_rfl
theorem loadLk {w : World} {g : Nat} {a0 a1 a2 : Value} (h : w.heap[g]? = some (.cells #[a0, a1, a2] 89 (0, 0))) : (loadVar 89 ⟨g, 0, none⟩).run Tryz.prog w = .ok (.agg #[a0, a1, a2]) w :=
  run_loadVar_row w g 89 89 #[a0, a1, a2] (0, 0) _ h Tryz.underlying89 rfl (by kernel_rfl)
set_option maxRecDepth 100000 in
set_option maxHeartbeats 4000000 in
theorem toLks (w : World) (v : Value) (xs : List Lk) (h : Reads w w.heap.size (lks xs) v) (hg : lksG xs) :
    Calls Tryz.prog 25 #[v] w fun e w' => ∃ v', e = .returned v' ∧ OwnD w' w.heap.size w'.heap.size (lks xs) v' ∧ Below w.heap.size w w' := by
  obtain ⟨hm, hgd⟩ := hg
  have HX : Hid (∀ wr, Below w.heap.size w wr → _) := hide (fun wr hb => lock_at (h.at hb))
  have HG : Hid (∀ j, j < xs.length → LkG (xs.getD j default)) := hide (fun j hj => getD_mem hgd j hj)
  clear hgd
  obtain ⟨a, cap, rfl, _⟩ := lock_at h
  have HD : Hid (∀ W hi v, OwnD W w.heap.size hi (.row 89 3 xs.length (upTo lkD [.int .i64 0, .int .i64 0, .int .i64 0] xs xs.length)) v → OwnD W w.heap.size hi (lks xs) v) := hide (fun W hi v h => by unfold lks; rwa [upTo_all] at h)
  clear h
  obtain ⟨i0, hi, hz0, hz1, hz2⟩ := info_parts Tryz.infoLk
  generalize hn : xs.length = n at *
  go_enter Tryz.func25, Tryz.ntmps25
  go_wp2_with (at_make; refine wpList_make_full _ rfl _ _ 32 rfl w.heap.size 89 i0 (.agg #[.int .i64 0, .int .i64 0, .int .i64 0]) 3 Tryz.underlying32 hi hz0 hz1 _ _ _ _ n rfl rfl rfl rfl (by rw [hz2]; omega) (by unfold maxLen; omega) (Nat.le_refl _) ?_; intro w1 ho1 hg1)
  have o1 : OwnD w1 w.heap.size w1.heap.size (.row 89 3 n (upTo lkD [.int .i64 0, .int .i64 0, .int .i64 0] xs 0)) (.slice (some ⟨w.heap.size, 0, none⟩) n n) := ownD_made hn rfl (by decide) rfl ho1 (fun q hq => (World.ownsRow.lt ho1 q hq).2)
  have hl1 : w.heap.size < w1.heap.size := (World.ownsRow.lt ho1 _ rfl).2
  have b1 : Below w.heap.size w w1 := (Below.refl _ _).grown hg1 (Nat.le_refl _) (fun k hk => by cases hk)
  clear ho1 hg1 hi hz0 hz1 hz2
  go_loopw [4] (fun i wr => ∃ (j : Nat), j ≤ n ∧ i = .int .i64 (j : Int) ∧ Hid (OwnD wr w.heap.size wr.heap.size (.row 89 3 n (upTo lkD [.int .i64 0, .int .i64 0, .int .i64 0] xs j)) (.slice (some ⟨w.heap.size, 0, none⟩) n n)) ∧ Hid (Below w.heap.size w wr) ∧ w.heap.size < wr.heap.size) (fun i _ => n - (intOf i).toNat)
  case atStart => exact ⟨0, Nat.zero_le _, rfl, hide o1, hide b1, hl1⟩
  case round =>
    clear o1 b1
    obtain ⟨j, hj, rfl, HO, HB, hlt0⟩ := hrel
    by_cases hlt : j < n
    · obtain ⟨a', cap', ea, _, _, hx⟩ := HX.out wr HB.out
      cases ea
      obtain ⟨b, o, rfl, _, hcell⟩ := hx (by omega)
      obtain ⟨e0, e1, e2⟩ := hcell j hlt
      clear hcell hx
      have HL : Hid (xs.getD j default = xs.getD j default) := hide rfl
      generalize hx9 : xs.getD j default = x at *
      have OU : Hid (∀ W : World, OwnDL W W.heap.size W.heap.size (lkD (xs.getD j default)) [.int .i64 x.i, .int .i64 x.w, .int .i64 x.c]) := hide (fun W => by rw [hx9]; exact OwnDL.val (OwnDL.val (OwnDL.val (ownDL_nil _ _ _))))
      clear hx9 HL
      go_wp2_with fail
      refine (toLk _ x).mono ?_
      rintro e w2 ⟨rfl, b2⟩
      have hs2 := b2.size
      replace HO := hide ((HO.out.below b2).up hs2)
      replace HB := hide (HB.out.trans (b2.mono HB.out.size))
      replace hlt0 : w.heap.size < w2.heap.size := by omega
      clear b2
      unfold lkV
      obtain ⟨hc, hf, ho2⟩ := OwnD.fill (f := lkD) (k := 3) (fun _ => rfl) rfl hn hlt HO.out (OU.out w2) (Nat.le_refl _) (Nat.le_of_lt hlt0) (Nat.le_refl _)
      obtain ⟨y0, d0⟩ := hc 0 (by omega)
      obtain ⟨y1, d1⟩ := hc 1 (by omega)
      obtain ⟨y2, d2⟩ := hc 2 (by omega)
      rw [Nat.add_zero]  at d0
      have hb2 := setRow_below [.int .i64 x.i, .int .i64 x.w, .int .i64 x.c] w2 (j * 3) HB.out (Nat.le_refl _)
      have hs9 : w2.heap.size = (setRow w2 w.heap.size (j * 3) [.int .i64 x.i, .int .i64 x.w, .int .i64 x.c]).heap.size := by simp [setRow]
      rw [hs9] at ho2
      clear hs9
      simp only [setRow, Nat.add_assoc, Nat.reduceAdd] at ho2 hb2
      replace HO := hide ho2
      have HB2 := hide hb2
      clear ho2 hb2 hc HB OU
      go_wp2
      exact ⟨⟨j + 1, by omega, by go_num, HO, HB2, by simp; omega⟩, by simp [intOf]; omega⟩
    · obtain rfl : j = n := by omega
      have HF := hide (HD.out _ _ _ HO.out)
      go_wp2
      go_ret
      exact ⟨_, rfl, HF.out, HB.out⟩
set_option maxRecDepth 100000 in
set_option maxHeartbeats 4000000 in
theorem eqLk (w : World) (x : Lk) : Calls Tryz.prog 51 #[lkV x, lkV x] w fun e w' => e = .returned (.bool true) ∧ Below w.heap.size w w' := by
  have n_i : (x.i != x.i) = false := by simp
  have n_w : (x.w != x.w) = false := by simp
  have n_c : (x.c != x.c) = false := by simp
  unfold lkV
  go_enter Tryz.func51, Tryz.ntmps51
  go_wp2
  go_ret
  exact ⟨rfl, ((Below.refl _ _).alloc (Nat.le_refl _) _).alloc (by simp) _⟩
set_option maxRecDepth 100000 in
set_option maxHeartbeats 4000000 in
theorem eqLks (w : World) (v1 v2 : Value) (xs : List Lk) (h1 : Reads w w.heap.size (lks xs) v1) (h2 : Reads w w.heap.size (lks xs) v2) (hg : lksG xs) :
    Calls Tryz.prog 29 #[v1, v2] w fun e w' => e = .returned (.bool true) ∧ Below w.heap.size w w' := by
  obtain ⟨hm, hgd⟩ := hg
  have HX1 : Hid (∀ wr, Below w.heap.size w wr → _) := hide (fun wr hb => lock_at (h1.at hb))
  have HX2 : Hid (∀ wr, Below w.heap.size w wr → _) := hide (fun wr hb => lock_at (h2.at hb))
  have HG : Hid (∀ j, j < xs.length → LkG (xs.getD j default)) := hide (fun j hj => getD_mem hgd j hj)
  clear hgd
  obtain ⟨a1, cap1, rfl, _⟩ := lock_at h1
  obtain ⟨a2, cap2, rfl, _⟩ := lock_at h2
  clear h1 h2
  generalize hn : xs.length = n at *
  have hne : ((n : Int) != (n : Int)) = false := by simp
  go_enter Tryz.func29, Tryz.ntmps29
  go_wp2
  go_loopw [5] (fun i wr => ∃ j : Nat, j ≤ n ∧ i = .int .i64 (j : Int) ∧ Below w.heap.size w wr) (fun i _ => n - (intOf i).toNat)
  case atStart => exact ⟨0, Nat.zero_le _, rfl, Below.refl _ _⟩
  case round =>
    obtain ⟨j, hj, rfl, hb⟩ := hrel
    have HB := hide hb
    have hs := hb.size
    clear hb
    by_cases hlt : j < n
    · obtain ⟨a1', cap1', ea1, _, _, hx1⟩ := HX1.out wr HB.out
      cases ea1
      obtain ⟨b1, o1, rfl, hb1, hc1⟩ := hx1 (by omega)
      obtain ⟨a2', cap2', ea2, _, _, hx2⟩ := HX2.out wr HB.out
      cases ea2
      obtain ⟨b2, o2, rfl, hb2, hc2⟩ := hx2 (by omega)
      obtain ⟨e0, e1, e2⟩ := hc1 j hlt
      obtain ⟨d0, d1, d2⟩ := hc2 j hlt
      have HGj := hide (HG.out j hlt)
      clear hx1 hx2 hc1 hc2
      generalize xs.getD j default = p at *
      go_wp2
      go_cut [26] from 11 to 26 (fun s wq => s = .bool false ∧ Below w.heap.size w wq)
      case first =>
        go_region_with (go_at_call 51; refine (eqLk _ p).mono ?_; rintro e w1 ⟨rfl, b1⟩; have HB1 := hide (HB.out.trans (below_of_drew b1 |>.mono hs)); clear b1)
        all_goals (go_wp2_with fail; go_meet; exact ⟨rfl, HB1.out⟩)
      case rest =>
        obtain ⟨rfl, hB⟩ := hcut
        have HB2 := hide hB
        clear hB
        go_wp2
        exact ⟨⟨j + 1, hlt, by go_num, HB2.out⟩, by simp [intOf]; omega⟩
    · go_wp2
      go_ret
      exact ⟨rfl, HB.out⟩
def lkCnt (_x : Lk) : Nat := 3
def mkLk (k : Nat) (_x : Lk) : Lk := ⟨((k : Nat) : Int), ((k : Nat) : Int) + 1, ((k : Nat) : Int) + 2⟩
def mkLks : Nat → List Lk → List Lk
  | _, [] => []
  | k, x :: xs => mkLk k x :: mkLks (k + lkCnt x) xs
def cntLks (xs : List Lk) : Nat := tot lkCnt xs
theorem mkLks_len : ∀ (k : Nat) (xs : List Lk), (mkLks k xs).length = xs.length
  | _, [] => rfl
  | k, x :: xs => by simp [mkLks, mkLks_len _ xs]
theorem mkLks_get : ∀ (k : Nat) (xs : List Lk) (j : Nat), j < xs.length → (mkLks k xs).getD j default = mkLk (k + tot lkCnt (xs.take j)) (xs.getD j default)
  | k, [], j, h => by simp at h
  | k, x :: xs, 0, h => by simp [mkLks, tot]
  | k, x :: xs, j + 1, h => by
    rw [mkLks, List.getD_cons_succ, mkLks_get _ xs j (by simpa using h), List.getD_cons_succ]
    congr 1
    unfold tot
    rw [List.take_succ_cons, List.map_cons, List.sum_cons]; omega
theorem cntLks_le (xs : List Lk) : cntLks xs ≤ 8 * lksW xs := tot_cnt0 lkCnt (fun _ => by unfold lkCnt; omega) xs
set_option maxRecDepth 100000 in
set_option maxHeartbeats 4000000 in
theorem mkLksR (w : World) (b K : Nat) (m : Int) (hmK : m = (K : Int)) (v : Value) (xs : List Lk) (F : List Nat) (h : Owns w b (lks xs) v F) (hnd : F.Nodup) (hK : 0 < K) (hm : K + cntLks xs ≤ 100000000) :
    Calls Tryz.prog 33 #[v, .int .i64 m] w fun e w' => e = .returned (.int .i64 ((K + cntLks xs : Nat) : Int)) ∧ Owns w' b (lks (mkLks K xs)) v F ∧ Chg F w w' := by
  subst hmK
  have HCN : Hid (cntLks xs = tot lkCnt xs) := hide rfl
  rw [HCN.out] at hm
  have HST : Hid (Owns w b (.row 89 3 xs.length ((mixR lkD (mkLks K xs) xs 0).flatten)) v F) := hide (by rw [mixR_zero]; exact h)
  have HEN : Hid (∀ W, Owns W b (.row 89 3 xs.length ((mixR lkD (mkLks K xs) xs xs.length).flatten)) v F → Owns W b (lks (mkLks K xs)) v F) := hide (fun W h => by rw [mixR_end _ (mkLks_len K _)] at h; unfold lks; rw [mkLks_len]; exact h)
  have hML := mkLks_len K xs
  have HTS : Hid (∀ j, j < xs.length → tot lkCnt (xs.take (j + 1)) = tot lkCnt (xs.take j) + lkCnt (xs.getD j default)) := hide (fun j hj => tot_step _ xs j hj)
  have HTL : Hid (∀ j, tot lkCnt (xs.take j) ≤ tot lkCnt xs) := hide (tot_le _ xs)
  have HTE : Hid (tot lkCnt (xs.take xs.length) = tot lkCnt xs) := hide (by rw [List.take_length])
  have HG : Hid (∀ j, j < xs.length → (mixR lkD (mkLks K xs) xs j).getD j [] = lkD (xs.getD j default)) := hide (fun j hj => mixR_get _ hML hj)
  have HS : Hid (∀ j, j < xs.length → (mixR lkD (mkLks K xs) xs j).set j (lkD (mkLk (K + tot lkCnt (xs.take j)) (xs.getD j default))) = mixR lkD (mkLks K xs) xs (j + 1)) := hide (fun j hj => by rw [← mkLks_get K xs j hj]; exact mixR_step _ hML hj)
  have HA : Hid (∀ j, ∀ r ∈ mixR lkD (mkLks K xs) xs j, r.length = 3) := hide (fun j => mixR_all (f := lkD) (k := 3) (fun _ => rfl) _ _ j)
  have HLn : Hid (∀ j, j ≤ xs.length → (mixR lkD (mkLks K xs) xs j).length = xs.length) := hide (fun j hj => mixR_len _ hML hj)
  have hxl : xs.length ≤ tot lkCnt xs := tot_one _ (fun _ => by unfold lkCnt; omega) xs
  have hsl := h.slice
  clear h hML
  rw [HCN.out]
  generalize hn : xs.length = n at *
  rcases hsl with ⟨rfl, rfl⟩ | ⟨g, c, rfl⟩
  · have hx0 : xs = [] := List.eq_nil_of_length_eq_zero hn
    have HX0 : Hid (tot lkCnt xs = 0) := hide (by rw [hx0]; rfl)
    go_enter Tryz.func33, Tryz.ntmps33
    go_wp2
    go_loopw [1, 5] (fun q i wr => q = .int .i64 (K : Int) ∧ i = .int .i64 0 ∧ wr = w) (fun _ _ _ => 0)
    case atStart => exact ⟨rfl, rfl, rfl⟩
    case round =>
      obtain ⟨rfl, rfl, rfl⟩ := hrel
      go_wp2
      go_ret
      exact ⟨by rw [HX0.out]; rfl, HEN.out _ HST.out, Chg.refl _ _⟩
  · go_enter Tryz.func33, Tryz.ntmps33
    go_wp2
    go_loopw [1, 5] (fun q i wr => ∃ j : Nat, j ≤ n ∧ q = .int .i64 ((K + tot lkCnt (xs.take j) : Nat) : Int) ∧ i = .int .i64 (j : Int) ∧ Hid (Owns wr b (.row 89 3 n ((mixR lkD (mkLks K xs) xs j).flatten)) (.slice (some ⟨g, 0, none⟩) n c) F) ∧ Hid (Chg F w wr)) (fun _ i _ => n - (intOf i).toNat)
    case atStart => exact ⟨0, Nat.zero_le _, by simp [tot], rfl, HST, hide (Chg.refl _ _)⟩
    case round =>
      clear HST
      obtain ⟨j, hj, rfl, rfl, HO, HC⟩ := hrel
      by_cases hlt : j < n
      · have hcap : n ≤ c := by
          have := HO.out
          unfold Owns at this
          obtain ⟨us, G, h2, _⟩ := this
          obtain ⟨_, a, cap, e, h3, _⟩ := rd_own h2 (Nat.le_refl _)
          cases e
          exact h3
        obtain ⟨q, hq⟩ : ∃ q, K + tot lkCnt (xs.take j) = q := ⟨_, rfl⟩
        have hq0 : 0 < q := by omega
        have hts := HTS.out j hlt
        have htl := HTL.out (j + 1)
        have HA1 := hide (HA.out j)
        have HL1 := hide (HLn.out j hj)
        have HG1 := HG.out j hlt
        have HS1 := HS.out j hlt
        obtain ⟨x, hx⟩ : ∃ x, xs.getD j default = x := ⟨_, rfl⟩
        rw [hx] at HG1 HS1 hts
        have hcm : lkCnt x = 3 := rfl
        have hqm : q + (3) ≤ 100000000 := by omega
        rw [hq] at HS1 ⊢
        have HG2 := hide HG1
        have HS2 := hide HS1
        have HQ := hide hq
        clear hx hq HG1 HS1
        obtain ⟨rs, hrs⟩ : ∃ rs, mixR lkD (mkLks K xs) xs j = rs := ⟨_, rfl⟩
        rw [hrs] at HO HA1 HL1 HG2 HS2
        clear hrs
        have h0 : ∀ i, i < 3 → rs.flatten[j * 3 + i]? = (lkD x)[i]? := fun i hi => by rw [rows_get rs j i HA1.out (by have := HL1.out; omega) hi, HG2.out]
        obtain ⟨d0, z0, hgF, ho⟩ := HO.out.cell hnd (i := j * 3) (z := .int .i64 x.i) (by rw [show j * 3 = j * 3 + 0 from rfl, h0 0 (by omega)]; rfl) (.int .i64 (q : Int))
        replace HO := hide ho
        replace HC := hide (HC.out.set hgF (j * 3) (.int .i64 (q : Int)))
        clear ho
        obtain ⟨d1, z1, hgF, ho⟩ := HO.out.cell hnd (i := j * 3 + 1) (z := .int .i64 x.w) (by rw [List.getElem?_set_ne (by omega), h0 1 (by omega)]; rfl) (.int .i64 ((q : Int) + 1))
        replace HO := hide ho
        replace HC := hide (HC.out.set hgF (j * 3 + 1) (.int .i64 ((q : Int) + 1)))
        clear ho
        obtain ⟨d2, z2, hgF, ho⟩ := HO.out.cell hnd (i := j * 3 + 2) (z := .int .i64 x.c) (by rw [List.getElem?_set_ne (by omega), List.getElem?_set_ne (by omega), h0 2 (by omega)]; rfl) (.int .i64 ((q : Int) + 2))
        replace HO := hide ho
        replace HC := hide (HC.out.set hgF (j * 3 + 2) (.int .i64 ((q : Int) + 2)))
        clear ho
        have HZ : Hid ((((rs.flatten.set (j * 3) (.val (.int .i64 (q : Int)))).set (j * 3 + 1) (.val (.int .i64 ((q : Int) + 1)))).set (j * 3 + 2) (.val (.int .i64 ((q : Int) + 2)))) = (rs.set j (lkD (mkLk q x))).flatten) := hide (by
          have hl := HL1.out
          have hlen : ∀ (rs' : List (List Dt)) (r : List Dt), (∀ r ∈ rs', r.length = 3) → r.length = 3 → ∀ r' ∈ rs'.set j r, r'.length = 3 := fun rs' r h1 h2 r' hr => by
            rcases List.mem_or_eq_of_mem_set hr with h | h
            · exact h1 r' h
            · rw [h]; exact h2
          rw [show j * 3 = j * 3 + 0 from rfl]
          rw [rows_set rs j 0 _ HA1.out (by omega) (by omega), HG2.out]
          rw [rows_set _ j 1 _ (hlen _ _ HA1.out rfl) (by rw [List.length_set]; omega) (by omega), List.getD_eq_getElem?_getD, List.getElem?_set_self (by omega), Option.getD_some, List.set_set]
          rw [rows_set _ j 2 _ (hlen _ _ HA1.out rfl) (by rw [List.length_set]; omega) (by omega), List.getD_eq_getElem?_getD, List.getElem?_set_self (by omega), Option.getD_some, List.set_set]
          unfold lkD mkLk
          rfl)
        rw [HZ.out, HS2.out] at HO
        go_wp2
        exact ⟨⟨j + 1, by omega, by have hh := HQ.out; congr 1; omega, by go_num, HO, HC⟩, by simp [intOf]; omega⟩
      · obtain rfl : j = n := by omega
        have HF := hide (HEN.out _ HO.out)
        go_wp2
        go_ret
        exact ⟨by rw [HTE.out]; rfl, HF.out, HC.out⟩
theorem mkLksI (w : World) (b hi K : Nat) (m : Int) (hmK : m = (K : Int)) (v : Value) (xs : List Lk) (h : OwnD w b hi (lks xs) v) (hK : 0 < K) (hm : K + cntLks xs ≤ 100000000) :
    Calls Tryz.prog 33 #[v, .int .i64 m] w fun e w' => e = .returned (.int .i64 ((K + cntLks xs : Nat) : Int)) ∧ OwnD w' b hi (lks (mkLks K xs)) v ∧ ChgI b hi w w' := by
  obtain ⟨F, h1, h2, h3⟩ := h
  have hl := Owns.lt _ _ _ h1
  refine (mkLksR w b K m hmK v xs F h1 h2 hK hm).mono ?_
  rintro e w1 ⟨rfl, o1, c1⟩
  exact ⟨rfl, ⟨F, o1, h2, h3⟩, c1.int (fun q hq => ⟨(hl q hq).1, h3 q hq⟩)⟩
set_option maxRecDepth 100000 in
set_option maxHeartbeats 8000000 in
theorem heldLksR (w : World) (K : Nat) (m : Int) (hmK : m = (K : Int)) (v : Value) (xs : List Lk) (h : Reads w w.heap.size (lks (mkLks K xs)) v) (hK : 0 < K) (hm : K + cntLks xs ≤ 100000000) :
    Calls Tryz.prog 35 #[v, .int .i64 m] w fun e w' => e = .returned (.int .i64 ((K + cntLks xs : Nat) : Int)) ∧ Below w.heap.size w w' := by
  subst hmK
  have HCN : Hid (cntLks xs = tot lkCnt xs) := hide rfl
  rw [HCN.out] at hm ⊢
  have HX : Hid (∀ wr, Below w.heap.size w wr → _) := hide (fun wr hb => lock_at (h.at hb))
  have HTS : Hid (∀ j, j < xs.length → tot lkCnt (xs.take (j + 1)) = tot lkCnt (xs.take j) + lkCnt (xs.getD j default)) := hide (fun j hj => tot_step _ xs j hj)
  have HTL : Hid (∀ j, tot lkCnt (xs.take j) ≤ tot lkCnt xs) := hide (fun j => tot_le _ xs j)
  have HGt : Hid (∀ j, j < xs.length → (mkLks K xs).getD j default = mkLk (K + tot lkCnt (xs.take j)) (xs.getD j default)) := hide (fun j hj => mkLks_get K xs j hj)
  have HTE : Hid (tot lkCnt (xs.take xs.length) = tot lkCnt xs) := hide (by rw [List.take_length])
  have HLe := hide (mkLks_len K xs)
  have hmx : xs.length ≤ tot lkCnt xs := tot_one _ (fun _ => by unfold lkCnt; omega) xs
  obtain ⟨a, cap, rfl, hlc, _⟩ := lock_at h
  rw [mkLks_len] at hlc ⊢
  clear h
  obtain ⟨n, hn⟩ : ∃ n, xs.length = n := ⟨_, rfl⟩
  rw [hn] at hlc hmx ⊢
  have HLn := hide hn
  clear hn
  go_enter Tryz.func35, Tryz.ntmps35
  go_wp2
  go_loopw [1, 5] (fun q i wr => ∃ j : Nat, j ≤ n ∧ q = .int .i64 ((K + tot lkCnt (xs.take j) : Nat) : Int) ∧ i = .int .i64 (j : Int) ∧ Hid (Below w.heap.size w wr)) (fun _ i _ => n - (intOf i).toNat)
  case atStart => exact ⟨0, Nat.zero_le _, by simp [tot], rfl, hide (Below.refl _ _)⟩
  case round =>
    obtain ⟨j, hj, rfl, rfl, HB⟩ := hrel
    by_cases hlt : j < n
    · have hlt' : j < xs.length := by have := HLn.out; omega
      have hts := HTS.out j hlt'
      have htl := HTL.out (j + 1)
      have hgt := HGt.out j hlt'
      obtain ⟨q, hq⟩ : ∃ q, K + tot lkCnt (xs.take j) = q := ⟨_, rfl⟩
      obtain ⟨y, hy⟩ : ∃ y, xs.getD j default = y := ⟨_, rfl⟩
      rw [hy] at hts hgt
      rw [hq] at hgt ⊢
      have hcm : lkCnt y = 3 := rfl
      have hq0 : 0 < q := by omega
      have hqm : q + (3) ≤ 100000000 := by omega
      have HEND : Hid (K + tot lkCnt (xs.take (j + 1)) = q + (3)) := hide (by omega)
      obtain ⟨b, o, ha, hbb, f0, f1, f2⟩ : ∃ b o, a = some ⟨b, o, none⟩ ∧ b < wr.heap.size ∧ wr.cell? ⟨b, o + j * 3, none⟩ = some (.int .i64 (((q : Nat) : Int))) ∧ wr.cell? ⟨b, o + j * 3 + 1, none⟩ = some (.int .i64 (((q : Nat) : Int) + 1)) ∧ wr.cell? ⟨b, o + j * 3 + 2, none⟩ = some (.int .i64 (((q : Nat) : Int) + 2)) := by
        obtain ⟨a', cap', e, _, _, hx⟩ := HX.out wr HB.out
        cases e
        obtain ⟨b, o, e, hb, hc⟩ := hx (by rw [HLe.out]; omega)
        obtain ⟨c0, c1, c2⟩ := hc j (by rw [HLe.out]; exact hlt')
        rw [hgt] at c0 c1 c2
        exact ⟨b, o, e, hb, c0, c1, c2⟩
      subst ha
      have HD : Hid (∀ wq, Below wr.heap.size wr wq → wq.cell? ⟨b, o + j * 3, none⟩ = some (.int .i64 (((q : Nat) : Int))) ∧ wq.cell? ⟨b, o + j * 3 + 1, none⟩ = some (.int .i64 (((q : Nat) : Int) + 1)) ∧ wq.cell? ⟨b, o + j * 3 + 2, none⟩ = some (.int .i64 (((q : Nat) : Int) + 2))) := hide (fun wq hb =>
        ⟨(hb.cell (p := ⟨b, o + j * 3, none⟩) hbb).trans f0, (hb.cell (p := ⟨b, o + j * 3 + 1, none⟩) hbb).trans f1, (hb.cell (p := ⟨b, o + j * 3 + 2, none⟩) hbb).trans f2⟩)
      have HR := hide (Below.refl wr.heap.size wr)
      have HQ := hide hq
      clear hq f0 f1 f2 hts htl hgt hcm
      have d0 := (HD.out wr HR.out).1
      have n0 : ((((q : Nat) : Int)) != (((q : Nat) : Int))) = false := by simp
      have d1 := (HD.out wr HR.out).2.1
      have n1 : ((((q : Nat) : Int) + 1) != (((q : Nat) : Int) + 1)) = false := by simp
      have d2 := (HD.out wr HR.out).2.2
      have n2 : ((((q : Nat) : Int) + 2) != (((q : Nat) : Int) + 2)) = false := by simp
      have HRZ := hide (HB.out.trans (HR.out.mono HB.out.size))
      go_wp2
      exact ⟨⟨j + 1, hlt, by rw [HEND.out]; exact congrArg (Value.int .i64) (by omega), by go_num, HRZ⟩, by simp [intOf]; omega⟩
    · obtain rfl : j = n := by omega
      have HE9 : Hid (K + tot lkCnt (xs.take j) = K + tot lkCnt xs) := hide (by rw [← HLn.out, HTE.out])
      go_wp2
      go_ret
      exact ⟨by rw [HE9.out]; rfl, HB.out⟩
end Go.Proofs.YtelpdlhgjepgbaaGreat
