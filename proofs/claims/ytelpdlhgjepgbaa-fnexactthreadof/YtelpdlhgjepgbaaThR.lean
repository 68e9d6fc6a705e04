/-
  Threads as data.
-/
import Derived.Test.YtelpdlhgjepgbaaDeepCh
import Derived.Laws.StructEq
import Derived.Test.YtelpdlhgjepgbaaFrR
namespace Go.Proofs.Ytelpdlhgjepgbaa
open Go.ChangeShapes Go.WideShapes Go.RowKit

structure Th where
  i : Int
  f : List Fr
  s : Int
  d : Int
instance : Inhabited Th := ⟨⟨0, [], 0, 0⟩⟩
def thD (x : Th) : List Dt := [.val (.int .i64 x.i), frs x.f, .val (.int .i64 x.s), .val (.int .i64 x.d)]
def thV (x : Th) (u1 : Value) : Value := .agg #[.int .i64 x.i, u1, .int .i64 x.s, .int .i64 x.d]
def ths (xs : List Th) : Dt := .row 54 4 xs.length (xs.flatMap thD)
theorem thread_at {w : World} {B : Nat} {v : Value} {xs : List Th} (h : Reads w B (ths xs) v) :
    ∃ a cap, v = .slice a xs.length cap ∧ xs.length ≤ cap ∧ (a = none → cap = 0) ∧ (0 < xs.length → ∃ b o, a = some ⟨b, o, none⟩ ∧ b < B ∧ ∀ j, j < xs.length → ∃ pv1, w.cell? ⟨b, o + j * 4, none⟩ = some (.int .i64 (xs.getD j default).i) ∧ w.cell? ⟨b, o + j * 4 + 1, none⟩ = some (pv1) ∧ w.cell? ⟨b, o + j * 4 + 2, none⟩ = some (.int .i64 (xs.getD j default).s) ∧ w.cell? ⟨b, o + j * 4 + 3, none⟩ = some (.int .i64 (xs.getD j default).d) ∧ Reads w B (frs (xs.getD j default).f) pv1) := by
  obtain ⟨a, cap, rfl, h1, h2, h3⟩ := row_at (f := thD) (k := 4) (fun _ => rfl) rfl h
  refine ⟨a, cap, rfl, h1, h2, fun hp => ?_⟩
  obtain ⟨b, o, rfl, hb, hc⟩ := h3 hp
  refine ⟨b, o, rfl, hb, fun j hj => ?_⟩
  obtain ⟨vs, h4, h5⟩ := hc j hj
  obtain ⟨u0, vs0, rfl, q0, h4⟩ := readsL_cons h4
  obtain ⟨u1, vs1, rfl, q1, h4⟩ := readsL_cons h4
  obtain ⟨u2, vs2, rfl, q2, h4⟩ := readsL_cons h4
  obtain ⟨u3, vs3, rfl, q3, h4⟩ := readsL_cons h4
  obtain rfl := readsL_nil h4
  obtain rfl := reads_val q0
  obtain rfl := reads_val q2
  obtain rfl := reads_val q3
  have c0 := h5 0 (by omega)
  have c1 := h5 1 (by omega)
  have c2 := h5 2 (by omega)
  have c3 := h5 3 (by omega)
  rw [Nat.add_zero] at c0
  exact ⟨u1, c0, c1, c2, c3, q1⟩
structure ThR (x : Th) : Prop where
  i : -9223372036854775808 ≤ x.i ∧ x.i ≤ 9223372036854775807
  f : frsR x.f
  s : -9223372036854775808 ≤ x.s ∧ x.s ≤ 9223372036854775807
  d : -9223372036854775808 ≤ x.d ∧ x.d ≤ 9223372036854775807
def thW (x : Th) : Nat := frsW x.f
structure ThG (x : Th) : Prop where
  i : -9223372036854775808 ≤ x.i ∧ x.i ≤ 9223372036854775807
  f : frsG x.f
  s : -9223372036854775808 ≤ x.s ∧ x.s ≤ 9223372036854775807
  d : -9223372036854775808 ≤ x.d ∧ x.d ≤ 9223372036854775807
theorem thG_of {x : Th} (hr : ThR x) (hw : thW x ≤ 1048576) : ThG x := by
  unfold thW at hw
  exact ⟨hr.i, frsG_of hr.f (by omega), hr.s, hr.d⟩
def thsR (xs : List Th) : Prop := xs.length ≤ maxLen ∧ ∀ y ∈ xs, ThR y
def thsW (xs : List Th) : Nat := xs.length + tot thW xs
def thsG (xs : List Th) : Prop := xs.length ≤ 1048576 ∧ ∀ y ∈ xs, ThG y
theorem thsG_of {xs : List Th} (hr : thsR xs) (hw : thsW xs ≤ 1048576) : thsG xs := by
  unfold thsW at hw
  exact ⟨by omega, fun y hy => thG_of (hr.2 y hy) (by have := tot_mem thW hy; omega)⟩
theorem thD_own {w : World} {b hi : Nat} {x : Th} {u1 : Value} (h : OwnDL w b hi (thD x) [.int .i64 x.i, u1, .int .i64 x.s, .int .i64 x.d]) : Reads w w.heap.size (frs x.f) u1 := by
  have h := h.rd (Nat.le_refl _)
  obtain ⟨_, _, e, _, h⟩ := readsL_cons h
  cases e
  obtain ⟨_, _, e, h1, h⟩ := readsL_cons h
  cases e
  obtain ⟨_, _, e, _, h⟩ := readsL_cons h
  cases e
  obtain ⟨_, _, e, _, h⟩ := readsL_cons h
  cases e
  exact h1
def thC (x : Th × Value) : List Value := [.int .i64 x.1.i, x.2, .int .i64 x.1.s, .int .i64 x.1.d]
def ThQ (W : World) (y : Th × Value) : Prop := ReadsL W W.heap.size (thD y.1) (thC y) ∧ ThR y.1
set_option maxRecDepth 100000 in
theorem th_cells {H : Type} {enc : TypeId × Value → H} {W : World} {fuel : Nat} {cs : List Value} {x : DataW H × List MemPlace}
    (h : DataW.trod enc Try.prog W 0 (fun _ => true) true fuel 71 cs = some x) : ∃ y, cs = thC y ∧ ThQ W y := by
  have c0 : Try.prog.cellsOf 71 = 4 := by kernel_rfl
  have cc0 : Try.prog.cellsOf 3 = 1 := by kernel_rfl
  have cc1 : Try.prog.cellsOf 69 = 1 := by kernel_rfl
  obtain ⟨xs, n, rfl, rfl, hlen, hxl, hf⟩ := DataW.trod_struct Try.underlying71 h
  rw [c0] at hlen
  match xs, hxl, cs, hlen with
  | [y0, y1, y2, y3], _, [v0, v1, v2, v3], _ =>
    have g0 := hf 0 _ rfl
    have g1 := hf 1 _ rfl
    have g2 := hf 2 _ rfl
    have g3 := hf 3 _ rfl
    simp [cc0, cc1] at g0 g1 g2 g3
    obtain ⟨a0, e0, _, b0⟩ := DataW.trod_int Try.underlying3 g0
    obtain ⟨a2, e2, _, b2⟩ := DataW.trod_int Try.underlying3 g2
    obtain ⟨a3, e3, _, b3⟩ := DataW.trod_int Try.underlying3 g3
    simp at e0 e2 e3
    subst e0 e2 e3
    obtain ⟨z1, h1a, h1b, h1c⟩ := rd_open (sz := 5) (Q := FrQ W) (f := frC) Try.underlying69 (by kernel_rfl) (by decide) (fun _ => rfl) (fun _ _ _ h => fr_cells h) ⟨_, g1⟩
    have q1 := all_of_getD h1c
    have r1 : Reads W W.heap.size (frs (z1.map Prod.fst)) v1 := reads_row (T := 122) (f := frD) (m := Prod.fst) z1 h1a (fun y hy => (q1 y hy).1)
    exact ⟨(⟨a0, z1.map Prod.fst, a2, a3⟩, v1), rfl, readsL_mk reads_val' (readsL_mk r1 (readsL_mk reads_val' (readsL_mk reads_val' (readsL_none)))), ⟨bounds_i64 b0, ⟨by simpa using h1b, fun y hy => by
      obtain ⟨x, hx, rfl⟩ := List.mem_map.1 hy
      exact (q1 x hx).2⟩, bounds_i64 b2, bounds_i64 b3⟩⟩
def IsTh (W : World) (v : Value) : Prop := ∃ (x : Th) (u1 : Value), v = thV x u1 ∧ Reads W W.heap.size (frs x.f) u1 ∧ ThR x
set_option maxRecDepth 100000 in
theorem openTh {H : Type} {enc : TypeId × Value → H} {W : World} {r : Reach} {base : Nat} {v : Value} {d : DataW H} {p : List MemPlace}
    (hv : Value.okWide Try.prog W r base 71 v) (h : DataW.Trod enc Try.prog W 0 (fun _ => true) true 71 v d p) : IsTh W v := by
  have c0 : Try.prog.cellsOf 71 = 4 := by kernel_rfl
  have cc0 : Try.prog.cellsOf 3 = 1 := by kernel_rfl
  have cc1 : Try.prog.cellsOf 69 = 1 := by kernel_rfl
  obtain ⟨cs, rfl, _⟩ := okWide_struct Try.underlying71 hv
  obtain ⟨fuel, h⟩ := h
  obtain ⟨xs, n, rfl, hd, hlen, hxl, hf⟩ := DataW.trod_struct Try.underlying71 h
  rw [c0] at hlen
  have hcs : (Value.agg cs).cells.toList = cs.toList := rfl
  rw [hcs] at hlen hf
  obtain ⟨l⟩ := cs
  match xs, hxl, l, hlen with
  | [y0, y1, y2, y3], _, [v0, v1, v2, v3], _ =>
    have g0 := hf 0 _ rfl
    have g1 := hf 1 _ rfl
    have g2 := hf 2 _ rfl
    have g3 := hf 3 _ rfl
    simp [cc0, cc1] at g0 g1 g2 g3
    obtain ⟨a0, e0, _, b0⟩ := DataW.trod_int Try.underlying3 g0
    obtain ⟨a2, e2, _, b2⟩ := DataW.trod_int Try.underlying3 g2
    obtain ⟨a3, e3, _, b3⟩ := DataW.trod_int Try.underlying3 g3
    simp at e0 e2 e3
    subst e0 e2 e3
    obtain ⟨z1, h1a, h1b, h1c⟩ := rd_open (sz := 5) (Q := FrQ W) (f := frC) Try.underlying69 (by kernel_rfl) (by decide) (fun _ => rfl) (fun _ _ _ h => fr_cells h) ⟨_, g1⟩
    have q1 := all_of_getD h1c
    have r1 : Reads W W.heap.size (frs (z1.map Prod.fst)) v1 := reads_row (T := 122) (f := frD) (m := Prod.fst) z1 h1a (fun y hy => (q1 y hy).1)
    exact ⟨⟨a0, z1.map Prod.fst, a2, a3⟩, v1, rfl, r1, ⟨bounds_i64 b0, ⟨by simpa using h1b, fun y hy => by
      obtain ⟨x, hx, rfl⟩ := List.mem_map.1 hy
      exact (q1 x hx).2⟩, bounds_i64 b2, bounds_i64 b3⟩⟩
def IsThs (W : World) (v : Value) : Prop := ∃ (x : List Th), Reads W W.heap.size (ths x) v ∧ thsR x
set_option maxRecDepth 100000 in
theorem openThs {H : Type} {enc : TypeId × Value → H} {W : World} {r : Reach} {base : Nat} {v : Value} {d : DataW H} {p : List MemPlace}
    (hv : Value.okWide Try.prog W r base 29 v) (h : DataW.Trod enc Try.prog W 0 (fun _ => true) true 29 v d p) : IsThs W v := by
  obtain ⟨a, len, cap, rfl⟩ := okWide_slice Try.underlying29 hv
  obtain ⟨z0, h0a, h0b, h0c⟩ := rd_open (sz := 4) (Q := ThQ W) (f := thC) Try.underlying29 (by kernel_rfl) (by decide) (fun _ => rfl) (fun _ _ _ h => th_cells h) h
  have q0 := all_of_getD h0c
  have r0 : Reads W W.heap.size (ths (z0.map Prod.fst)) (.slice a len cap) := reads_row (T := 54) (f := thD) (m := Prod.fst) z0 h0a (fun y hy => (q0 y hy).1)
  exact ⟨z0.map Prod.fst, r0, ⟨by simpa using h0b, fun y hy => by
    obtain ⟨x, hx, rfl⟩ := List.mem_map.1 hy
    exact (q0 x hx).2⟩⟩
set_option maxRecDepth 100000 in
set_option maxHeartbeats 4000000 in
theorem szTh (w : World) (x : Th) (v1 : Value) (left : Int) (h1 : Reads w w.heap.size (frs x.f) v1) (h0 : 0 ≤ left) (h9 : left ≤ 1048576) (hr : ThR x) :
    Calls Try.prog 26 #[thV x v1, .int .i64 left] w fun e w' => e = .returned (.int .i64 (szR left (thW x))) ∧ Below w.heap.size w w' := by
  obtain ⟨a1, c1, e1, _⟩ := h1.shape
  subst e1
  have b0 := (Below.refl w.heap.size w).alloc (Nat.le_refl _) (.cells #[.int .i64 x.i, .slice a1 x.f.length c1, .int .i64 x.s, .int .i64 x.d] 71)
  have H1 := hide (h1.at b0)
  have HB := hide b0
  have HX := hide (Box.new w #[.int .i64 x.i, .slice a1 x.f.length c1, .int .i64 x.s, .int .i64 x.d] 71)
  have hgs : Hid (w.heap.size < (w.alloc (.cells #[.int .i64 x.i, .slice a1 x.f.length c1, .int .i64 x.s, .int .i64 x.d] 71)).heap.size) := hide (by simp)
  have K1 := hide hr.f
  obtain ⟨t1, ht1⟩ : ∃ t, frsW x.f = t := ⟨_, rfl⟩
  obtain ⟨R, hR⟩ : ∃ R, szR left (thW x) = R := ⟨_, rfl⟩
  rw [hR]
  unfold thW at hR
  rw [ht1] at hR
  have HT1 := hide ht1
  have HR := hide hR
  clear hR hr b0 h1 ht1
  unfold thV
  go_enter Try.func26, Try.ntmps26
  go_wp2_with fail
  generalize w.alloc (.cells #[.int .i64 x.i, .slice a1 x.f.length c1, .int .i64 x.s, .int .i64 x.d] 71) = W at *
  refine (szFrs _ _ x.f _ H1.out (by omega) (by omega) K1.out).mono ?_
  rintro e w1 ⟨rfl, b1⟩
  rw [HT1.out]
  by_cases g1 : left < (t1 : Int)
  · rw [szR_neg g1]
    replace HB := hide (HB.out.trans (b1.mono HB.out.size))
    clear b1
    go_wp2
    go_ret
    exact ⟨ret_int (by rw [← HR.out, szR_neg (by omega)]), HB.out⟩
  · rw [szR_pos g1]
    have g1' : ¬ left - (t1 : Int) < 0 := by omega
    replace HX := hide (HX.out.below hgs.out b1)
    replace hgs := hide (Nat.lt_of_lt_of_le hgs.out b1.size)
    replace HB := hide (HB.out.trans (b1.mono HB.out.size))
    clear b1
    go_wp2
    go_ret
    exact ⟨ret_int (by rw [← HR.out, szR_pos (by omega)] <;> omega), HB.out⟩
set_option maxRecDepth 100000 in
set_option maxHeartbeats 4000000 in
theorem szThs (w : World) (v : Value) (xs : List Th) (left : Int) (h : Reads w w.heap.size (ths xs) v) (h0 : 0 ≤ left) (h1 : left ≤ 1048576) (hr : thsR xs) :
    Calls Try.prog 11 #[v, .int .i64 left] w fun e w' => e = .returned (.int .i64 (szR left (thsW xs))) ∧ Below w.heap.size w w' := by
  obtain ⟨hm, hx⟩ := hr
  unfold thsW
  have HX : Hid (∀ wr, Below w.heap.size w wr → _) := hide (fun wr hb => thread_at (h.at hb))
  have HR : Hid (∀ j, j < xs.length → ThR (xs.getD j default)) := hide (fun j hj => getD_mem hx j hj)
  have HS : Hid (∀ j, j < xs.length → tot thW (xs.take (j + 1)) = tot thW (xs.take j) + thW (xs.getD j default)) := hide (fun j hj => tot_step _ xs j hj)
  have HL : Hid (∀ j, tot thW (xs.take j) ≤ tot thW xs) := hide (tot_le _ xs)
  have HA : Hid (tot thW (xs.take xs.length) = tot thW xs) := hide (by rw [List.take_length])
  obtain ⟨a, cap, rfl, _⟩ := thread_at h
  clear h hx
  generalize hn : xs.length = n at *
  unfold maxLen at hm
  have hw : IntKind.i64.wrap (left - (n : Int)) = left - (n : Int) := by rw [IntKind.wrap_i64]; omega
  by_cases hbig : left - (n : Int) < 0
  · rw [szR_neg (by omega)]
    go_enter Try.func11, Try.ntmps11
    go_wp2
    go_ret
    exact ⟨rfl, Below.refl _ _⟩
  · go_enter Try.func11, Try.ntmps11
    go_wp2
    go_loopw [1, 5] (fun q i wr => ∃ j : Nat, j ≤ n ∧ q = .int .i64 (left - (n : Int) - (tot thW (xs.take j) : Int)) ∧ i = .int .i64 (j : Int) ∧ 0 ≤ left - (n : Int) - (tot thW (xs.take j) : Int) ∧ Hid (Below w.heap.size w wr)) (fun _ i _ => n - (intOf i).toNat)
    case atStart => exact ⟨0, Nat.zero_le _, by simp [tot], rfl, by simp [tot]; omega, hide (Below.refl _ _)⟩
    case round =>
      obtain ⟨j, hj, rfl, rfl, hq, HB⟩ := hrel
      by_cases hlt : j < n
      · obtain ⟨a', cap', ea, _, _, hc⟩ := HX.out wr HB.out
        cases ea
        obtain ⟨b, o, rfl, _, hcell⟩ := hc (by omega)
        obtain ⟨pv1, e0, e1, e2, e3, r1⟩ := hcell j hlt
        have hz := hide (HR.out j hlt)
        have hs := HS.out j hlt
        have hle := HL.out (j + 1)
        clear hcell hc
        generalize xs.getD j default = x at *
        have HZ := hide (szTh wr x pv1 _ r1 hq (by omega) hz.out)
        generalize thW x = t at *
        have HE : Hid (left - (n : Int) - (tot thW (xs.take j) : Int) - (t : Int) = left - (n : Int) - (tot thW (xs.take (j + 1)) : Int)) := hide (by rw [hs]; omega)
        have HN : Hid (left - (n : Int) - (tot thW (xs.take (j + 1)) : Int) < 0 → szR left (n + tot thW xs) = -1) := hide (fun h => szR_neg (by omega))
        clear hs hle hz HS HL
        by_cases g : left - (n : Int) - (tot thW (xs.take j) : Int) < (t : Int)
        · rw [szR_neg g] at HZ
          go_wp2_with fail
          refine (unhide HZ).mono ?_
          rintro e w1 ⟨rfl, b1⟩
          replace HB := hide (HB.out.trans (b1.mono HB.out.size))
          clear b1
          go_wp2
          go_ret
          exact ⟨by rw [HN.out (by rw [← HE.out]; omega)]; rfl, HB.out⟩
        · rw [szR_pos g] at HZ
          have g' : ¬ left - (n : Int) - (tot thW (xs.take j) : Int) - (t : Int) < 0 := by omega
          go_wp2_with fail
          refine (unhide HZ).mono ?_
          rintro e w1 ⟨rfl, b1⟩
          replace HB := hide (HB.out.trans (b1.mono HB.out.size))
          clear b1
          go_wp2
          exact ⟨⟨j + 1, by omega, by first | rfl | (rw [HE.out]), by go_num, by rw [← HE.out]; omega, HB⟩, by simp [intOf]; omega⟩
      · obtain rfl : j = n := by omega
        have HF : Hid (szR left (j + tot thW xs) = left - (j : Int) - (tot thW (xs.take j) : Int)) := hide (by rw [szR_pos (by rw [← HA.out]; omega), ← HA.out]; omega)
        go_wp2
        go_ret
        exact ⟨by rw [HF.out]; rfl, HB.out⟩
theorem loadTh {w : World} {g : Nat} {a0 a1 a2 a3 : Value} (h : w.heap[g]? = some (.cells #[a0, a1, a2, a3] 54 (0, 0))) : (loadVar 54 ⟨g, 0, none⟩).run Try.prog w = .ok (.agg #[a0, a1, a2, a3]) w :=
  run_loadVar_row w g 54 54 #[a0, a1, a2, a3] (0, 0) _ h Try.underlying54 rfl (by kernel_rfl)
set_option maxRecDepth 100000 in
set_option maxHeartbeats 4000000 in
theorem toTh (w : World) (x : Th) (v1 : Value) (h1 : Reads w w.heap.size (frs x.f) v1) (hg : ThG x) :
    Calls Try.prog 30 #[thV x v1] w fun e w' => ∃ u1, e = .returned (thV x u1) ∧ OwnDL w' w.heap.size w'.heap.size (thD x) [.int .i64 x.i, u1, .int .i64 x.s, .int .i64 x.d] ∧ Below w.heap.size w w' := by
  obtain ⟨a1, c1, e1, _⟩ := h1.shape
  subst e1
  have H1 := hide h1
  clear h1
  unfold thV
  go_enter Try.func30, Try.ntmps30
  go_wp2_with fail
  have G0 := heap_alloc_new w (.cells #[.int .i64 x.i, .slice a1 (x.f.length) c1, .int .i64 x.s, .int .i64 x.d] 71)
  have G1 := heap_alloc_new (w.alloc (.cells #[.int .i64 x.i, .slice a1 (x.f.length) c1, .int .i64 x.s, .int .i64 x.d] 71)) (.cells #[.int .i64 0, .slice none 0 0, .int .i64 0, .int .i64 0] 54)
  have G2 := heap_alloc_new ((w.alloc (.cells #[.int .i64 x.i, .slice a1 (x.f.length) c1, .int .i64 x.s, .int .i64 x.d] 71)).alloc (.cells #[.int .i64 0, .slice none 0 0, .int .i64 0, .int .i64 0] 54)) (.cells #[.int .i64 x.i, .slice none 0 0, .int .i64 0, .int .i64 0] 54)
  simp only [World.size_alloc] at G1 G2
  have bA := (((Below.refl w.heap.size w).alloc (Nat.le_refl _) (.cells #[.int .i64 x.i, .slice a1 (x.f.length) c1, .int .i64 x.s, .int .i64 x.d] 71)).alloc (by simp) (.cells #[.int .i64 0, .slice none 0 0, .int .i64 0, .int .i64 0] 54)).alloc (by simp; omega) (.cells #[.int .i64 x.i, .slice none 0 0, .int .i64 0, .int .i64 0] 54)
  refine (toFrs _ _ x.f (H1.out.at bA) hg.f).mono ?_
  rintro e w1 ⟨u1, rfl, o1, b1⟩
  obtain ⟨p1, q1, rfl⟩ := o1.shape
  have E0 := (b1.block w.heap.size (by simp; omega)).trans ((Below.heap_alloc _ _ _ (by simp; omega)).trans ((Below.heap_alloc _ _ _ (by simp)).trans G0))
  have E1 := (b1.block (w.heap.size + 1) (by simp)).trans ((Below.heap_alloc _ _ _ (by simp)).trans G1)
  have E2 := (b1.block (w.heap.size + 1 + 1) (by simp)).trans G2
  have HB := bA.trans (b1.mono (by simp; omega))
  have hs1 : w.heap.size + 1 + 1 + 1 ≤ w1.heap.size := by have := b1.size; simp only [World.size_alloc] at this; omega
  simp only [World.size_alloc] at o1
  have hM1 := hs1
  clear b1 bA G0 G1 G2
  generalize hm1 : w1.heap.size = M1 at o1
  have k1 : w.heap.size + 1 + 1 + 1 ≤ M1 := by omega
  have l1 : M1 ≤ w1.heap.size := by omega
  clear hm1
  have O1 := hide o1
  clear o1
  have X0 := box_of E0
  have X1 := box_of E1
  have X2 := box_of E2
  have f0 := X0.1 0 _ rfl
  have g0 := X2.1 0 _ rfl
  have f1 := X0.1 1 _ rfl
  have g1 := X2.1 1 _ rfl
  have f2 := X0.1 2 _ rfl
  have g2 := X2.1 2 _ rfl
  have f3 := X0.1 3 _ rfl
  have g3 := X2.1 3 _ rfl
  have r0 := X1.1 0 _ rfl
  have r1 := X1.1 1 _ rfl
  have r2 := X1.1 2 _ rfl
  have r3 := X1.1 3 _ rfl
  have z1 := X1.2
  have z2 := X2.2
  have HE0 := hide E0
  have HE1 := hide E1
  have HE2 := hide E2
  have HHB := hide HB
  clear X0 X1 X2 E0 E1 E2 HB
  go_wp2
  refine bodyPost_ret (v := .agg #[.int .i64 x.i, .slice p1 (x.f.length) q1, .int .i64 x.s, .int .i64 x.d]) (results_one Try.results30 _ _ _ rfl (loadTh (putN4 ((heap_setCell_other _ _ _ _ (by simp <;> omega)).trans ((heap_setCell_other _ _ _ _ (by simp <;> omega)).trans ((heap_setCell_other _ _ _ _ (by simp <;> omega)).trans HE1.out))) _ _ _ _))) rfl ⟨_, rfl, ?_, ?_⟩
  · refine (OwnDL.mono (b := w.heap.size + 1 + 1 + 1) (OwnDL.same (OwnDL.val (OwnDL.cons (m := M1) (O1.out) (OwnDL.val (OwnDL.val (ownDL_nil _ M1 _))) (by omega) (by omega))) (fun q hq _ _ => ?_)) (by omega)).up (by simp)
    rw [heap_setCell_other _ _ _ _ (by simp; omega), heap_setCell_other _ _ _ _ (by simp; omega), heap_setCell_other _ _ _ _ (by simp; omega), heap_setCell_other _ _ _ _ (by simp; omega), heap_setCell_other _ _ _ _ (by simp; omega), heap_setCell_other _ _ _ _ (by simp; omega), heap_setCell_other _ _ _ _ (by simp; omega)]
  · exact (((((((HHB.out.setCell (by simp <;> omega) _).setCell (by simp <;> omega) _).setCell (by simp <;> omega) _).setCell (by simp <;> omega) _).setCell (by simp <;> omega) _).setCell (by simp <;> omega) _).setCell (by simp <;> omega) _)
theorem Try.infoTh : (Try.prog.info? 54).map (fun i => (i.zero, i.size, i.bytes)) = some (some (.agg #[.int .i64 0, .slice none 0 0, .int .i64 0, .int .i64 0]), 4, 48) := by kernel_rfl
set_option maxRecDepth 100000 in
set_option maxHeartbeats 4000000 in
theorem toThs (w : World) (v : Value) (xs : List Th) (h : Reads w w.heap.size (ths xs) v) (hg : thsG xs) :
    Calls Try.prog 15 #[v] w fun e w' => ∃ v', e = .returned v' ∧ OwnD w' w.heap.size w'.heap.size (ths xs) v' ∧ Below w.heap.size w w' := by
  obtain ⟨hm, hgd⟩ := hg
  have HX : Hid (∀ wr, Below w.heap.size w wr → _) := hide (fun wr hb => thread_at (h.at hb))
  have HG : Hid (∀ j, j < xs.length → ThG (xs.getD j default)) := hide (fun j hj => getD_mem hgd j hj)
  clear hgd
  obtain ⟨a, cap, rfl, _⟩ := thread_at h
  have HD : Hid (∀ W hi v, OwnD W w.heap.size hi (.row 54 4 xs.length (upTo thD [.int .i64 0, .slice none 0 0, .int .i64 0, .int .i64 0] xs xs.length)) v → OwnD W w.heap.size hi (ths xs) v) := hide (fun W hi v h => by unfold ths; rwa [upTo_all] at h)
  clear h
  obtain ⟨i0, hi, hz0, hz1, hz2⟩ := info_parts Try.infoTh
  generalize hn : xs.length = n at *
  go_enter Try.func15, Try.ntmps15
  go_wp2_with (at_make; refine wpList_make_full _ rfl _ _ 42 rfl w.heap.size 54 i0 (.agg #[.int .i64 0, .slice none 0 0, .int .i64 0, .int .i64 0]) 4 Try.underlying42 hi hz0 hz1 _ _ _ _ n rfl rfl rfl rfl (by rw [hz2]; omega) (by unfold maxLen; omega) (Nat.le_refl _) ?_; intro w1 ho1 hg1)
  have o1 : OwnD w1 w.heap.size w1.heap.size (.row 54 4 n (upTo thD [.int .i64 0, .slice none 0 0, .int .i64 0, .int .i64 0] xs 0)) (.slice (some ⟨w.heap.size, 0, none⟩) n n) := ownD_made hn rfl (by decide) rfl ho1 (fun q hq => (World.ownsRow.lt ho1 q hq).2)
  have hl1 : w.heap.size < w1.heap.size := (World.ownsRow.lt ho1 _ rfl).2
  have b1 : Below w.heap.size w w1 := (Below.refl _ _).grown hg1 (Nat.le_refl _) (fun k hk => by cases hk)
  clear ho1 hg1 hi hz0 hz1 hz2
  go_loopw [4] (fun i wr => ∃ (j : Nat), j ≤ n ∧ i = .int .i64 (j : Int) ∧ Hid (OwnD wr w.heap.size wr.heap.size (.row 54 4 n (upTo thD [.int .i64 0, .slice none 0 0, .int .i64 0, .int .i64 0] xs j)) (.slice (some ⟨w.heap.size, 0, none⟩) n n)) ∧ Hid (Below w.heap.size w wr) ∧ w.heap.size < wr.heap.size) (fun i _ => n - (intOf i).toNat)
  case atStart => exact ⟨0, Nat.zero_le _, rfl, hide o1, hide b1, hl1⟩
  case round =>
    clear o1 b1
    obtain ⟨j, hj, rfl, HO, HB, hlt0⟩ := hrel
    by_cases hlt : j < n
    · obtain ⟨a', cap', ea, _, _, hx⟩ := HX.out wr HB.out
      cases ea
      obtain ⟨b, o, rfl, _, hcell⟩ := hx (by omega)
      obtain ⟨pv1, e0, e1, e2, e3, r1⟩ := hcell j hlt
      clear hcell hx
      have HL : Hid (xs.getD j default = xs.getD j default) := hide rfl
      have hgx := hide (HG.out j hlt)
      generalize hx9 : xs.getD j default = x at *
      have HX9 := hide hx9
      clear hx9 HL
      obtain ⟨aa1, cc1, ea1, _⟩ := r1.shape
      subst ea1
      have R1 := hide r1
      clear r1
      go_wp2_with fail
      refine (toTh _ x _ R1.out hgx.out).mono ?_
      rintro e w2 ⟨u1, rfl, ou, b2⟩
      obtain ⟨p1, q1, e1'⟩ : ∃ p1 q1, u1 = .slice p1 x.f.length q1 := by
        obtain ⟨_, h3, _, _⟩ := ou
        obtain ⟨_, _, _, _, h2, _, _, h3⟩ := ownsL_cons h3
        cases h2
        obtain ⟨_, _, _, _, h2, _, n1, h3⟩ := ownsL_cons h3
        cases h2
        obtain ⟨_, _, _, _, h2, _, _, h3⟩ := ownsL_cons h3
        cases h2
        obtain ⟨_, _, _, _, h2, _, _, h3⟩ := ownsL_cons h3
        cases h2
        obtain ⟨l1, m1, f1, _⟩ := (Owns.reads (Nat.le_refl _) _ _ _ n1).shape
        exact ⟨l1, m1, f1⟩
      subst e1'
      rw [← HX9.out] at ou
      have hs2 := b2.size
      obtain ⟨hc, hf, ho2⟩ := OwnD.fill (f := thD) (k := 4) (fun _ => rfl) rfl hn hlt (HO.out.below b2) ou (Nat.le_refl _) (Nat.le_of_lt hlt0) hs2
      rw [HX9.out] at ho2
      replace HB := hide (HB.out.trans (b2.mono HB.out.size))
      replace hlt0 : w.heap.size < w2.heap.size := by omega
      have OU := hide hs2
      clear b2 HO HX9 ou
      unfold thV
      obtain ⟨y0, d0⟩ := hc 0 (by omega)
      obtain ⟨y1, d1⟩ := hc 1 (by omega)
      obtain ⟨y2, d2⟩ := hc 2 (by omega)
      obtain ⟨y3, d3⟩ := hc 3 (by omega)
      rw [Nat.add_zero]  at d0
      have hb2 := setRow_below [.int .i64 x.i, .slice p1 x.f.length q1, .int .i64 x.s, .int .i64 x.d] w2 (j * 4) HB.out (Nat.le_refl _)
      have hs9 : w2.heap.size = (setRow w2 w.heap.size (j * 4) [.int .i64 x.i, .slice p1 x.f.length q1, .int .i64 x.s, .int .i64 x.d]).heap.size := by simp [setRow]
      rw [hs9] at ho2
      clear hs9
      simp only [setRow, Nat.add_assoc, Nat.reduceAdd] at ho2 hb2
      replace HO := hide ho2
      have HB2 := hide hb2
      clear ho2 hb2 hc HB OU
      go_wp2
      exact ⟨⟨j + 1, by omega, by go_num, HO, HB2, by simp; omega⟩, by simp [intOf]; omega⟩
    · obtain rfl : j = n := by omega
      have HF := hide (HD.out _ _ _ HO.out)
      go_wp2
      go_ret
      exact ⟨_, rfl, HF.out, HB.out⟩
set_option maxRecDepth 100000 in
set_option maxHeartbeats 4000000 in
theorem eqTh (w : World) (x : Th) (p1 q1 : Value) (hp1 : Reads w w.heap.size (frs x.f) p1) (hq1 : Reads w w.heap.size (frs x.f) q1) (hg : ThG x) :
    Calls Try.prog 34 #[thV x p1, thV x q1] w fun e w' => e = .returned (.bool true) ∧ Below w.heap.size w w' := by
  obtain ⟨a1, k1, e1, _⟩ := hp1.shape
  obtain ⟨b1, l1, f1, _⟩ := hq1.shape
  subst e1 f1
  have bA := ((Below.refl w.heap.size w).alloc (Nat.le_refl _) (.cells #[.int .i64 x.i, .slice a1 x.f.length k1, .int .i64 x.s, .int .i64 x.d] 54)).alloc (by simp) (.cells #[.int .i64 x.i, .slice b1 x.f.length l1, .int .i64 x.s, .int .i64 x.d] 54)
  have HP1 := hide (hp1.at bA)
  have HQ1 := hide (hq1.at bA)
  have G0 := heap_alloc_new w (.cells #[.int .i64 x.i, .slice a1 x.f.length k1, .int .i64 x.s, .int .i64 x.d] 54)
  have G1 := heap_alloc_new (w.alloc (.cells #[.int .i64 x.i, .slice a1 x.f.length k1, .int .i64 x.s, .int .i64 x.d] 54)) (.cells #[.int .i64 x.i, .slice b1 x.f.length l1, .int .i64 x.s, .int .i64 x.d] 54)
  simp only [World.size_alloc] at G1
  have E0 := hide ((Below.heap_alloc _ (.cells #[.int .i64 x.i, .slice b1 x.f.length l1, .int .i64 x.s, .int .i64 x.d] 54) _ (by simp)).trans G0)
  have E1 := hide G1
  have HB := hide bA
  have HG := hide hg
  have hsz : Hid (w.heap.size + 1 < ((w.alloc (.cells #[.int .i64 x.i, .slice a1 x.f.length k1, .int .i64 x.s, .int .i64 x.d] 54)).alloc (.cells #[.int .i64 x.i, .slice b1 x.f.length l1, .int .i64 x.s, .int .i64 x.d] 54)).heap.size) := hide (by simp)
  clear hp1 hq1 bA hg G0 G1
  have n_i : (x.i != x.i) = false := by simp
  have n_s : (x.s != x.s) = false := by simp
  have n_d : (x.d != x.d) = false := by simp
  unfold thV
  go_enter Try.func34, Try.ntmps34
  go_wp2_with fail
  generalize (w.alloc (.cells #[.int .i64 x.i, .slice a1 x.f.length k1, .int .i64 x.s, .int .i64 x.d] 54)).alloc (.cells #[.int .i64 x.i, .slice b1 x.f.length l1, .int .i64 x.s, .int .i64 x.d] 54) = W at *
  refine (eqFrs _ _ _ x.f HP1.out HQ1.out HG.out.f).mono ?_
  rintro e w1 ⟨rfl, z1⟩
  replace E0 := hide ((z1.block w.heap.size (by have := hsz.out; omega)).trans E0.out)
  replace E1 := hide ((z1.block (w.heap.size + 1) hsz.out).trans E1.out)
  replace hsz := hide (Nat.lt_of_lt_of_le hsz.out z1.size)
  replace HB := hide (HB.out.trans (z1.mono HB.out.size))
  clear z1
  have f0 := (box_of E0.out).1 0 _ rfl
  have f1 := (box_of E0.out).1 1 _ rfl
  have f2 := (box_of E0.out).1 2 _ rfl
  have f3 := (box_of E0.out).1 3 _ rfl
  have g0 := (box_of E1.out).1 0 _ rfl
  have g1 := (box_of E1.out).1 1 _ rfl
  have g2 := (box_of E1.out).1 2 _ rfl
  have g3 := (box_of E1.out).1 3 _ rfl
  go_wp2
  go_ret
  exact ⟨rfl, HB.out⟩
set_option maxRecDepth 100000 in
set_option maxHeartbeats 4000000 in
theorem eqThs (w : World) (v1 v2 : Value) (xs : List Th) (h1 : Reads w w.heap.size (ths xs) v1) (h2 : Reads w w.heap.size (ths xs) v2) (hg : thsG xs) :
    Calls Try.prog 21 #[v1, v2] w fun e w' => e = .returned (.bool true) ∧ Below w.heap.size w w' := by
  obtain ⟨hm, hgd⟩ := hg
  have HX1 : Hid (∀ wr, Below w.heap.size w wr → _) := hide (fun wr hb => thread_at (h1.at hb))
  have HX2 : Hid (∀ wr, Below w.heap.size w wr → _) := hide (fun wr hb => thread_at (h2.at hb))
  have HG : Hid (∀ j, j < xs.length → ThG (xs.getD j default)) := hide (fun j hj => getD_mem hgd j hj)
  clear hgd
  obtain ⟨a1, cap1, rfl, _⟩ := thread_at h1
  obtain ⟨a2, cap2, rfl, _⟩ := thread_at h2
  clear h1 h2
  generalize hn : xs.length = n at *
  have hne : ((n : Int) != (n : Int)) = false := by simp
  go_enter Try.func21, Try.ntmps21
  go_wp2
  go_loopw [5] (fun i wr => ∃ j : Nat, j ≤ n ∧ i = .int .i64 (j : Int) ∧ Below w.heap.size w wr) (fun i _ => n - (intOf i).toNat)
  case atStart => exact ⟨0, Nat.zero_le _, rfl, Below.refl _ _⟩
  case round =>
    obtain ⟨j, hj, rfl, hb⟩ := hrel
    have HB := hide hb
    have hs := hb.size
    clear hb
    by_cases hlt : j < n
    · obtain ⟨a1', cap1', ea1, _, _, hx1⟩ := HX1.out wr HB.out
      cases ea1
      obtain ⟨b1, o1, rfl, hb1, hc1⟩ := hx1 (by omega)
      obtain ⟨a2', cap2', ea2, _, _, hx2⟩ := HX2.out wr HB.out
      cases ea2
      obtain ⟨b2, o2, rfl, hb2, hc2⟩ := hx2 (by omega)
      obtain ⟨pv1, e0, e1, e2, e3, r1⟩ := hc1 j hlt
      obtain ⟨qv1, d0, d1, d2, d3, s1⟩ := hc2 j hlt
      have R1 : Hid (Reads wr.drew wr.drew.heap.size _ _) := hide (r1.drewN 1)
      have S1 : Hid (Reads wr.drew wr.drew.heap.size _ _) := hide (s1.drewN 1)
      obtain ⟨x1, y1, z1, _⟩ := r1.shape
      obtain ⟨x19, y19, z19, _⟩ := s1.shape
      subst z1 z19
      have HGj := hide (HG.out j hlt)
      clear hx1 hx2 hc1 hc2 r1 s1
      generalize xs.getD j default = p at *
      go_wp2
      go_cut [26] from 11 to 26 (fun s wq => s = .bool false ∧ Below w.heap.size w wq)
      case first =>
        go_region_with (go_at_call 34; refine (eqTh _ p _ _ R1.out S1.out HGj.out).mono ?_; rintro e w1 ⟨rfl, b1⟩; have HB1 := hide (HB.out.trans (below_of_drew b1 |>.mono hs)); clear b1)
        all_goals (go_wp2_with fail; go_meet; exact ⟨rfl, HB1.out⟩)
      case rest =>
        obtain ⟨rfl, hB⟩ := hcut
        have HB2 := hide hB
        clear hB
        go_wp2
        exact ⟨⟨j + 1, hlt, by go_num, HB2.out⟩, by simp [intOf]; omega⟩
    · go_wp2
      go_ret
      exact ⟨rfl, HB.out⟩
end Go.Proofs.Ytelpdlhgjepgbaa
