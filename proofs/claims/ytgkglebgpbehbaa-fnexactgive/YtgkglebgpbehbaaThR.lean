/-
  Threads as data.
-/
import Derived.Test.YtgkglebgpbehbaaDeepCh
import Derived.Laws.StructEq
import Derived.Test.YtgkglebgpbehbaaFrR
namespace Go.Proofs.Ytgkglebgpbehbaa
open Go.ChangeShapes Go.WideShapes Go.RowKit

structure Th where
  i : Int
  f : List Fr
  s : Int
  d : Int
instance : Inhabited Th := ⟨⟨0, [], 0, 0⟩⟩
def thD (x : Th) : List Dt := [.val (.int .i64 x.i), frs x.f, .val (.int .i64 x.s), .val (.int .i64 x.d)]
def thV (x : Th) (u1 : Value) : Value := .agg #[.int .i64 x.i, u1, .int .i64 x.s, .int .i64 x.d]
def ths (xs : List Th) : Dt := .row 37 4 xs.length (xs.flatMap thD)
theorem thread_at {w : World} {B : Nat} {v : Value} {xs : List Th} (h : Reads w B (ths xs) v) :
    ∃ a cap, v = .slice a xs.length cap ∧ xs.length ≤ cap ∧ (a = none → cap = 0) ∧ (0 < xs.length → ∃ b o, a = some ⟨b, o, none⟩ ∧ b < B ∧ ∀ j, j < xs.length → ∃ pv1, w.cell? ⟨b, o + j * 4, none⟩ = some (.int .i64 (xs.getD j default).i) ∧ w.cell? ⟨b, o + j * 4 + 1, none⟩ = some (pv1) ∧ w.cell? ⟨b, o + j * 4 + 2, none⟩ = some (.int .i64 (xs.getD j default).s) ∧ w.cell? ⟨b, o + j * 4 + 3, none⟩ = some (.int .i64 (xs.getD j default).d) ∧ Reads w B (frs (xs.getD j default).f) pv1) := by
  obtain ⟨a, cap, rfl, h1, h2, h3⟩ := row_at (f := thD) (k := 4) (fun _ => rfl) rfl h
  refine ⟨a, cap, rfl, h1, h2, fun hp => ?_⟩
  obtain ⟨b, o, rfl, hb, hc⟩ := h3 hp
  refine ⟨b, o, rfl, hb, fun j hj => ?_⟩
  obtain ⟨vs, h4, h5⟩ := hc j hj
  obtain ⟨u0, vs0, rfl, q0, h4⟩ := readsL_cons h4
  obtain ⟨u1, vs1, rfl, q1, h4⟩ := readsL_cons h4
  obtain ⟨u2, vs2, rfl, q2, h4⟩ := readsL_cons h4
  obtain ⟨u3, vs3, rfl, q3, h4⟩ := readsL_cons h4
  obtain rfl := readsL_nil h4
  obtain rfl := reads_val q0
  obtain rfl := reads_val q2
  obtain rfl := reads_val q3
  have c0 := h5 0 (by omega)
  have c1 := h5 1 (by omega)
  have c2 := h5 2 (by omega)
  have c3 := h5 3 (by omega)
  rw [Nat.add_zero] at c0
  exact ⟨u1, c0, c1, c2, c3, q1⟩
structure ThR (x : Th) : Prop where
  i : -9223372036854775808 ≤ x.i ∧ x.i ≤ 9223372036854775807
  f : frsR x.f
  s : -9223372036854775808 ≤ x.s ∧ x.s ≤ 9223372036854775807
  d : -9223372036854775808 ≤ x.d ∧ x.d ≤ 9223372036854775807
def thW (x : Th) : Nat := frsW x.f
structure ThG (x : Th) : Prop where
  i : -9223372036854775808 ≤ x.i ∧ x.i ≤ 9223372036854775807
  f : frsG x.f
  s : -9223372036854775808 ≤ x.s ∧ x.s ≤ 9223372036854775807
  d : -9223372036854775808 ≤ x.d ∧ x.d ≤ 9223372036854775807
theorem thG_of {x : Th} (hr : ThR x) (hw : thW x ≤ 1048576) : ThG x := by
  unfold thW at hw
  exact ⟨hr.i, frsG_of hr.f (by omega), hr.s, hr.d⟩
def thsR (xs : List Th) : Prop := xs.length ≤ maxLen ∧ ∀ y ∈ xs, ThR y
def thsW (xs : List Th) : Nat := xs.length + tot thW xs
def thsG (xs : List Th) : Prop := xs.length ≤ 1048576 ∧ ∀ y ∈ xs, ThG y
theorem thsG_of {xs : List Th} (hr : thsR xs) (hw : thsW xs ≤ 1048576) : thsG xs := by
  unfold thsW at hw
  exact ⟨by omega, fun y hy => thG_of (hr.2 y hy) (by have := tot_mem thW hy; omega)⟩
theorem thD_own {w : World} {b hi : Nat} {x : Th} {u1 : Value} (h : OwnDL w b hi (thD x) [.int .i64 x.i, u1, .int .i64 x.s, .int .i64 x.d]) : Reads w w.heap.size (frs x.f) u1 := by
  have h := h.rd (Nat.le_refl _)
  obtain ⟨_, _, e, _, h⟩ := readsL_cons h
  cases e
  obtain ⟨_, _, e, h1, h⟩ := readsL_cons h
  cases e
  obtain ⟨_, _, e, _, h⟩ := readsL_cons h
  cases e
  obtain ⟨_, _, e, _, h⟩ := readsL_cons h
  cases e
  exact h1
def IsTh (W : World) (v : Value) : Prop := ∃ (x : Th) (u1 : Value), v = thV x u1 ∧ Reads W W.heap.size (frs x.f) u1 ∧ ThR x
set_option maxRecDepth 100000 in
theorem openTh {H : Type} {enc : TypeId × Value → H} {W : World} {r : Reach} {base : Nat} {v : Value} {d : DataW H} {p : List MemPlace}
    (hv : Value.okWide Try.prog W r base 27 v) (h : DataW.Trod enc Try.prog W 0 (fun _ => true) true 27 v d p) : IsTh W v := by
  have c0 : Try.prog.cellsOf 27 = 4 := by kernel_rfl
  have cc0 : Try.prog.cellsOf 3 = 1 := by kernel_rfl
  have cc1 : Try.prog.cellsOf 25 = 1 := by kernel_rfl
  obtain ⟨cs, rfl, _⟩ := okWide_struct Try.underlying27 hv
  obtain ⟨fuel, h⟩ := h
  obtain ⟨xs, n, rfl, hd, hlen, hxl, hf⟩ := DataW.trod_struct Try.underlying27 h
  rw [c0] at hlen
  have hcs : (Value.agg cs).cells.toList = cs.toList := rfl
  rw [hcs] at hlen hf
  obtain ⟨l⟩ := cs
  match xs, hxl, l, hlen with
  | [y0, y1, y2, y3], _, [v0, v1, v2, v3], _ =>
    have g0 := hf 0 _ rfl
    have g1 := hf 1 _ rfl
    have g2 := hf 2 _ rfl
    have g3 := hf 3 _ rfl
    simp [cc0, cc1] at g0 g1 g2 g3
    obtain ⟨a0, e0, _, b0⟩ := DataW.trod_int Try.underlying3 g0
    obtain ⟨a2, e2, _, b2⟩ := DataW.trod_int Try.underlying3 g2
    obtain ⟨a3, e3, _, b3⟩ := DataW.trod_int Try.underlying3 g3
    simp at e0 e2 e3
    subst e0 e2 e3
    obtain ⟨z1, h1a, h1b, h1c⟩ := rd_open (sz := 5) (Q := FrQ W) (f := frC) Try.underlying25 (by kernel_rfl) (by decide) (fun _ => rfl) (fun _ _ _ h => fr_cells h) ⟨_, g1⟩
    have q1 := all_of_getD h1c
    have r1 : Reads W W.heap.size (frs (z1.map Prod.fst)) v1 := reads_row (T := 54) (f := frD) (m := Prod.fst) z1 h1a (fun y hy => (q1 y hy).1)
    exact ⟨⟨a0, z1.map Prod.fst, a2, a3⟩, v1, rfl, r1, ⟨bounds_i64 b0, ⟨by simpa using h1b, fun y hy => by
      obtain ⟨x, hx, rfl⟩ := List.mem_map.1 hy
      exact (q1 x hx).2⟩, bounds_i64 b2, bounds_i64 b3⟩⟩
set_option maxRecDepth 100000 in
set_option maxHeartbeats 4000000 in
theorem szTh (w : World) (x : Th) (v1 : Value) (left : Int) (h1 : Reads w w.heap.size (frs x.f) v1) (h0 : 0 ≤ left) (h9 : left ≤ 1048576) (hr : ThR x) :
    Calls Try.prog 6 #[thV x v1, .int .i64 left] w fun e w' => e = .returned (.int .i64 (szR left (thW x))) ∧ Below w.heap.size w w' := by
  obtain ⟨a1, c1, e1, _⟩ := h1.shape
  subst e1
  have b0 := (Below.refl w.heap.size w).alloc (Nat.le_refl _) (.cells #[.int .i64 x.i, .slice a1 x.f.length c1, .int .i64 x.s, .int .i64 x.d] 27)
  have H1 := hide (h1.at b0)
  have HB := hide b0
  have HX := hide (Box.new w #[.int .i64 x.i, .slice a1 x.f.length c1, .int .i64 x.s, .int .i64 x.d] 27)
  have hgs : Hid (w.heap.size < (w.alloc (.cells #[.int .i64 x.i, .slice a1 x.f.length c1, .int .i64 x.s, .int .i64 x.d] 27)).heap.size) := hide (by simp)
  have K1 := hide hr.f
  obtain ⟨t1, ht1⟩ : ∃ t, frsW x.f = t := ⟨_, rfl⟩
  obtain ⟨R, hR⟩ : ∃ R, szR left (thW x) = R := ⟨_, rfl⟩
  rw [hR]
  unfold thW at hR
  rw [ht1] at hR
  have HT1 := hide ht1
  have HR := hide hR
  clear hR hr b0 h1 ht1
  unfold thV
  go_enter Try.func6, Try.ntmps6
  go_wp2_with fail
  generalize w.alloc (.cells #[.int .i64 x.i, .slice a1 x.f.length c1, .int .i64 x.s, .int .i64 x.d] 27) = W at *
  refine (szFrs _ _ x.f _ H1.out (by omega) (by omega) K1.out).mono ?_
  rintro e w1 ⟨rfl, b1⟩
  rw [HT1.out]
  by_cases g1 : left < (t1 : Int)
  · rw [szR_neg g1]
    replace HB := hide (HB.out.trans (b1.mono HB.out.size))
    clear b1
    go_wp2
    go_ret
    exact ⟨ret_int (by rw [← HR.out, szR_neg (by omega)]), HB.out⟩
  · rw [szR_pos g1]
    have g1' : ¬ left - (t1 : Int) < 0 := by omega
    replace HX := hide (HX.out.below hgs.out b1)
    replace hgs := hide (Nat.lt_of_lt_of_le hgs.out b1.size)
    replace HB := hide (HB.out.trans (b1.mono HB.out.size))
    clear b1
    go_wp2
    go_ret
    exact ⟨ret_int (by rw [← HR.out, szR_pos (by omega)] <;> omega), HB.out⟩
theorem loadTh {w : World} {g : Nat} {a0 a1 a2 a3 : Value} (h : w.heap[g]? = some (.cells #[a0, a1, a2, a3] 37 (0, 0))) : (loadVar 37 ⟨g, 0, none⟩).run Try.prog w = .ok (.agg #[a0, a1, a2, a3]) w :=
  run_loadVar_row w g 37 37 #[a0, a1, a2, a3] (0, 0) _ h Try.underlying37 rfl (by kernel_rfl)
set_option maxRecDepth 100000 in
set_option maxHeartbeats 4000000 in
theorem toTh (w : World) (x : Th) (v1 : Value) (h1 : Reads w w.heap.size (frs x.f) v1) (hg : ThG x) :
    Calls Try.prog 9 #[thV x v1] w fun e w' => ∃ u1, e = .returned (thV x u1) ∧ OwnDL w' w.heap.size w'.heap.size (thD x) [.int .i64 x.i, u1, .int .i64 x.s, .int .i64 x.d] ∧ Below w.heap.size w w' := by
  obtain ⟨a1, c1, e1, _⟩ := h1.shape
  subst e1
  have H1 := hide h1
  clear h1
  unfold thV
  go_enter Try.func9, Try.ntmps9
  go_wp2_with fail
  have G0 := heap_alloc_new w (.cells #[.int .i64 x.i, .slice a1 (x.f.length) c1, .int .i64 x.s, .int .i64 x.d] 27)
  have G1 := heap_alloc_new (w.alloc (.cells #[.int .i64 x.i, .slice a1 (x.f.length) c1, .int .i64 x.s, .int .i64 x.d] 27)) (.cells #[.int .i64 0, .slice none 0 0, .int .i64 0, .int .i64 0] 37)
  have G2 := heap_alloc_new ((w.alloc (.cells #[.int .i64 x.i, .slice a1 (x.f.length) c1, .int .i64 x.s, .int .i64 x.d] 27)).alloc (.cells #[.int .i64 0, .slice none 0 0, .int .i64 0, .int .i64 0] 37)) (.cells #[.int .i64 x.i, .slice none 0 0, .int .i64 0, .int .i64 0] 37)
  simp only [World.size_alloc] at G1 G2
  have bA := (((Below.refl w.heap.size w).alloc (Nat.le_refl _) (.cells #[.int .i64 x.i, .slice a1 (x.f.length) c1, .int .i64 x.s, .int .i64 x.d] 27)).alloc (by simp) (.cells #[.int .i64 0, .slice none 0 0, .int .i64 0, .int .i64 0] 37)).alloc (by simp; omega) (.cells #[.int .i64 x.i, .slice none 0 0, .int .i64 0, .int .i64 0] 37)
  refine (toFrs _ _ x.f (H1.out.at bA) hg.f).mono ?_
  rintro e w1 ⟨u1, rfl, o1, b1⟩
  obtain ⟨p1, q1, rfl⟩ := o1.shape
  have E0 := (b1.block w.heap.size (by simp; omega)).trans ((Below.heap_alloc _ _ _ (by simp; omega)).trans ((Below.heap_alloc _ _ _ (by simp)).trans G0))
  have E1 := (b1.block (w.heap.size + 1) (by simp)).trans ((Below.heap_alloc _ _ _ (by simp)).trans G1)
  have E2 := (b1.block (w.heap.size + 1 + 1) (by simp)).trans G2
  have HB := bA.trans (b1.mono (by simp; omega))
  have hs1 : w.heap.size + 1 + 1 + 1 ≤ w1.heap.size := by have := b1.size; simp only [World.size_alloc] at this; omega
  simp only [World.size_alloc] at o1
  have hM1 := hs1
  clear b1 bA G0 G1 G2
  generalize hm1 : w1.heap.size = M1 at o1
  have k1 : w.heap.size + 1 + 1 + 1 ≤ M1 := by omega
  have l1 : M1 ≤ w1.heap.size := by omega
  clear hm1
  have O1 := hide o1
  clear o1
  have X0 := box_of E0
  have X1 := box_of E1
  have X2 := box_of E2
  have f0 := X0.1 0 _ rfl
  have g0 := X2.1 0 _ rfl
  have f1 := X0.1 1 _ rfl
  have g1 := X2.1 1 _ rfl
  have f2 := X0.1 2 _ rfl
  have g2 := X2.1 2 _ rfl
  have f3 := X0.1 3 _ rfl
  have g3 := X2.1 3 _ rfl
  have r0 := X1.1 0 _ rfl
  have r1 := X1.1 1 _ rfl
  have r2 := X1.1 2 _ rfl
  have r3 := X1.1 3 _ rfl
  have z1 := X1.2
  have z2 := X2.2
  have HE0 := hide E0
  have HE1 := hide E1
  have HE2 := hide E2
  have HHB := hide HB
  clear X0 X1 X2 E0 E1 E2 HB
  go_wp2
  refine bodyPost_ret (v := .agg #[.int .i64 x.i, .slice p1 (x.f.length) q1, .int .i64 x.s, .int .i64 x.d]) (results_one Try.results9 _ _ _ rfl (loadTh (putN4 ((heap_setCell_other _ _ _ _ (by simp <;> omega)).trans ((heap_setCell_other _ _ _ _ (by simp <;> omega)).trans ((heap_setCell_other _ _ _ _ (by simp <;> omega)).trans HE1.out))) _ _ _ _))) rfl ⟨_, rfl, ?_, ?_⟩
  · refine (OwnDL.mono (b := w.heap.size + 1 + 1 + 1) (OwnDL.same (OwnDL.val (OwnDL.cons (m := M1) (O1.out) (OwnDL.val (OwnDL.val (ownDL_nil _ M1 _))) (by omega) (by omega))) (fun q hq _ _ => ?_)) (by omega)).up (by simp)
    rw [heap_setCell_other _ _ _ _ (by simp; omega), heap_setCell_other _ _ _ _ (by simp; omega), heap_setCell_other _ _ _ _ (by simp; omega), heap_setCell_other _ _ _ _ (by simp; omega), heap_setCell_other _ _ _ _ (by simp; omega), heap_setCell_other _ _ _ _ (by simp; omega), heap_setCell_other _ _ _ _ (by simp; omega)]
  · exact (((((((HHB.out.setCell (by simp <;> omega) _).setCell (by simp <;> omega) _).setCell (by simp <;> omega) _).setCell (by simp <;> omega) _).setCell (by simp <;> omega) _).setCell (by simp <;> omega) _).setCell (by simp <;> omega) _)
set_option maxRecDepth 100000 in
set_option maxHeartbeats 4000000 in
theorem eqTh (w : World) (x : Th) (p1 q1 : Value) (hp1 : Reads w w.heap.size (frs x.f) p1) (hq1 : Reads w w.heap.size (frs x.f) q1) (hg : ThG x) :
    Calls Try.prog 12 #[thV x p1, thV x q1] w fun e w' => e = .returned (.bool true) ∧ Below w.heap.size w w' := by
  obtain ⟨a1, k1, e1, _⟩ := hp1.shape
  obtain ⟨b1, l1, f1, _⟩ := hq1.shape
  subst e1 f1
  have bA := ((Below.refl w.heap.size w).alloc (Nat.le_refl _) (.cells #[.int .i64 x.i, .slice a1 x.f.length k1, .int .i64 x.s, .int .i64 x.d] 37)).alloc (by simp) (.cells #[.int .i64 x.i, .slice b1 x.f.length l1, .int .i64 x.s, .int .i64 x.d] 37)
  have HP1 := hide (hp1.at bA)
  have HQ1 := hide (hq1.at bA)
  have G0 := heap_alloc_new w (.cells #[.int .i64 x.i, .slice a1 x.f.length k1, .int .i64 x.s, .int .i64 x.d] 37)
  have G1 := heap_alloc_new (w.alloc (.cells #[.int .i64 x.i, .slice a1 x.f.length k1, .int .i64 x.s, .int .i64 x.d] 37)) (.cells #[.int .i64 x.i, .slice b1 x.f.length l1, .int .i64 x.s, .int .i64 x.d] 37)
  simp only [World.size_alloc] at G1
  have E0 := hide ((Below.heap_alloc _ (.cells #[.int .i64 x.i, .slice b1 x.f.length l1, .int .i64 x.s, .int .i64 x.d] 37) _ (by simp)).trans G0)
  have E1 := hide G1
  have HB := hide bA
  have HG := hide hg
  have hsz : Hid (w.heap.size + 1 < ((w.alloc (.cells #[.int .i64 x.i, .slice a1 x.f.length k1, .int .i64 x.s, .int .i64 x.d] 37)).alloc (.cells #[.int .i64 x.i, .slice b1 x.f.length l1, .int .i64 x.s, .int .i64 x.d] 37)).heap.size) := hide (by simp)
  clear hp1 hq1 bA hg G0 G1
  have n_i : (x.i != x.i) = false := by simp
  have n_s : (x.s != x.s) = false := by simp
  have n_d : (x.d != x.d) = false := by simp
  unfold thV
  go_enter Try.func12, Try.ntmps12
  go_wp2_with fail
  generalize (w.alloc (.cells #[.int .i64 x.i, .slice a1 x.f.length k1, .int .i64 x.s, .int .i64 x.d] 37)).alloc (.cells #[.int .i64 x.i, .slice b1 x.f.length l1, .int .i64 x.s, .int .i64 x.d] 37) = W at *
  refine (eqFrs _ _ _ x.f HP1.out HQ1.out HG.out.f).mono ?_
  rintro e w1 ⟨rfl, z1⟩
  replace E0 := hide ((z1.block w.heap.size (by have := hsz.out; omega)).trans E0.out)
  replace E1 := hide ((z1.block (w.heap.size + 1) hsz.out).trans E1.out)
  replace hsz := hide (Nat.lt_of_lt_of_le hsz.out z1.size)
  replace HB := hide (HB.out.trans (z1.mono HB.out.size))
  clear z1
  have f0 := (box_of E0.out).1 0 _ rfl
  have f1 := (box_of E0.out).1 1 _ rfl
  have f2 := (box_of E0.out).1 2 _ rfl
  have f3 := (box_of E0.out).1 3 _ rfl
  have g0 := (box_of E1.out).1 0 _ rfl
  have g1 := (box_of E1.out).1 1 _ rfl
  have g2 := (box_of E1.out).1 2 _ rfl
  have g3 := (box_of E1.out).1 3 _ rfl
  go_wp2
  go_ret
  exact ⟨rfl, HB.out⟩
end Go.Proofs.Ytgkglebgpbehbaa
