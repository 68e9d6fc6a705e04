/-
  Locks as data.
-/
import Derived.Test.YtelpdlhgjepgbaaDeepCh
import Derived.Laws.StructEq
namespace Go.Proofs.Ytelpdlhgjepgbaa
open Go.ChangeShapes Go.WideShapes Go.RowKit

structure Lk where
  i : Int
  w : Int
  c : Int
instance : Inhabited Lk := ⟨⟨0, 0, 0⟩⟩
def lkD (x : Lk) : List Dt := [.val (.int .i64 x.i), .val (.int .i64 x.w), .val (.int .i64 x.c)]
def lkV (x : Lk) : Value := .agg #[.int .i64 x.i, .int .i64 x.w, .int .i64 x.c]
def lks (xs : List Lk) : Dt := .row 102 3 xs.length (xs.flatMap lkD)
theorem lock_at {w : World} {B : Nat} {v : Value} {xs : List Lk} (h : Reads w B (lks xs) v) :
    ∃ a cap, v = .slice a xs.length cap ∧ xs.length ≤ cap ∧ (a = none → cap = 0) ∧ (0 < xs.length → ∃ b o, a = some ⟨b, o, none⟩ ∧ b < B ∧ ∀ j, j < xs.length → w.cell? ⟨b, o + j * 3, none⟩ = some (.int .i64 (xs.getD j default).i) ∧ w.cell? ⟨b, o + j * 3 + 1, none⟩ = some (.int .i64 (xs.getD j default).w) ∧ w.cell? ⟨b, o + j * 3 + 2, none⟩ = some (.int .i64 (xs.getD j default).c)) := by
  obtain ⟨a, cap, rfl, h1, h2, h3⟩ := row_at (f := lkD) (k := 3) (fun _ => rfl) rfl h
  refine ⟨a, cap, rfl, h1, h2, fun hp => ?_⟩
  obtain ⟨b, o, rfl, hb, hc⟩ := h3 hp
  refine ⟨b, o, rfl, hb, fun j hj => ?_⟩
  obtain ⟨vs, h4, h5⟩ := hc j hj
  obtain ⟨u0, vs0, rfl, q0, h4⟩ := readsL_cons h4
  obtain ⟨u1, vs1, rfl, q1, h4⟩ := readsL_cons h4
  obtain ⟨u2, vs2, rfl, q2, h4⟩ := readsL_cons h4
  obtain rfl := readsL_nil h4
  obtain rfl := reads_val q0
  obtain rfl := reads_val q1
  obtain rfl := reads_val q2
  have c0 := h5 0 (by omega)
  have c1 := h5 1 (by omega)
  have c2 := h5 2 (by omega)
  rw [Nat.add_zero] at c0
  exact ⟨c0, c1, c2⟩
structure LkR (x : Lk) : Prop where
  i : -9223372036854775808 ≤ x.i ∧ x.i ≤ 9223372036854775807
  w : -9223372036854775808 ≤ x.w ∧ x.w ≤ 9223372036854775807
  c : -9223372036854775808 ≤ x.c ∧ x.c ≤ 9223372036854775807
def lkW (_x : Lk) : Nat := 0
structure LkG (x : Lk) : Prop where
  i : -9223372036854775808 ≤ x.i ∧ x.i ≤ 9223372036854775807
  w : -9223372036854775808 ≤ x.w ∧ x.w ≤ 9223372036854775807
  c : -9223372036854775808 ≤ x.c ∧ x.c ≤ 9223372036854775807
theorem lkG_of {x : Lk} (hr : LkR x) (_hw : lkW x ≤ 1048576) : LkG x := ⟨hr.i, hr.w, hr.c⟩
def lksR (xs : List Lk) : Prop := xs.length ≤ maxLen ∧ ∀ y ∈ xs, LkR y
def lksW (xs : List Lk) : Nat := xs.length
def lksG (xs : List Lk) : Prop := xs.length ≤ 1048576 ∧ ∀ y ∈ xs, LkG y
theorem lksG_of {xs : List Lk} (hr : lksR xs) (hw : lksW xs ≤ 1048576) : lksG xs := ⟨hw, fun y hy => lkG_of (hr.2 y hy) (Nat.zero_le _)⟩
def lkC (x : Lk) : List Value := [.int .i64 x.i, .int .i64 x.w, .int .i64 x.c]
theorem lk_reads {w : World} {B : Nat} (x : Lk) : ReadsL w B (lkD x) (lkC x) := readsL_mk reads_val' (readsL_mk reads_val' (readsL_mk reads_val' readsL_none))
set_option maxRecDepth 100000 in
theorem lk_cells {H : Type} {enc : TypeId × Value → H} {W : World} {fuel : Nat} {cs : List Value} {x : DataW H × List MemPlace}
    (h : DataW.trod enc Try.prog W 0 (fun _ => true) true fuel 104 cs = some x) : ∃ y, cs = lkC y ∧ LkR y := by
  have c0 : Try.prog.cellsOf 104 = 3 := by kernel_rfl
  have cc0 : Try.prog.cellsOf 3 = 1 := by kernel_rfl
  obtain ⟨xs, n, rfl, rfl, hlen, hxl, hf⟩ := DataW.trod_struct Try.underlying104 h
  rw [c0] at hlen
  match xs, hxl, cs, hlen with
  | [y0, y1, y2], _, [v0, v1, v2], _ =>
    have g0 := hf 0 _ rfl
    have g1 := hf 1 _ rfl
    have g2 := hf 2 _ rfl
    simp [cc0] at g0 g1 g2
    obtain ⟨a0, e0, _, b0⟩ := DataW.trod_int Try.underlying3 g0
    obtain ⟨a1, e1, _, b1⟩ := DataW.trod_int Try.underlying3 g1
    obtain ⟨a2, e2, _, b2⟩ := DataW.trod_int Try.underlying3 g2
    simp at e0 e1 e2
    subst e0 e1 e2
    exact ⟨⟨a0, a1, a2⟩, rfl, ⟨bounds_i64 b0, bounds_i64 b1, bounds_i64 b2⟩⟩
def IsLk (_W : World) (v : Value) : Prop := ∃ (x : Lk), v = lkV x ∧ LkR x
set_option maxRecDepth 100000 in
theorem openLk {H : Type} {enc : TypeId × Value → H} {W : World} {r : Reach} {base : Nat} {v : Value} {d : DataW H} {p : List MemPlace}
    (hv : Value.okWide Try.prog W r base 104 v) (h : DataW.Trod enc Try.prog W 0 (fun _ => true) true 104 v d p) : IsLk W v := by
  have c0 : Try.prog.cellsOf 104 = 3 := by kernel_rfl
  have cc0 : Try.prog.cellsOf 3 = 1 := by kernel_rfl
  obtain ⟨cs, rfl, _⟩ := okWide_struct Try.underlying104 hv
  obtain ⟨fuel, h⟩ := h
  obtain ⟨xs, n, rfl, hd, hlen, hxl, hf⟩ := DataW.trod_struct Try.underlying104 h
  rw [c0] at hlen
  have hcs : (Value.agg cs).cells.toList = cs.toList := rfl
  rw [hcs] at hlen hf
  obtain ⟨l⟩ := cs
  match xs, hxl, l, hlen with
  | [y0, y1, y2], _, [v0, v1, v2], _ =>
    have g0 := hf 0 _ rfl
    have g1 := hf 1 _ rfl
    have g2 := hf 2 _ rfl
    simp [cc0] at g0 g1 g2
    obtain ⟨a0, e0, _, b0⟩ := DataW.trod_int Try.underlying3 g0
    obtain ⟨a1, e1, _, b1⟩ := DataW.trod_int Try.underlying3 g1
    obtain ⟨a2, e2, _, b2⟩ := DataW.trod_int Try.underlying3 g2
    simp at e0 e1 e2
    subst e0 e1 e2
    exact ⟨⟨a0, a1, a2⟩, rfl, ⟨bounds_i64 b0, bounds_i64 b1, bounds_i64 b2⟩⟩
def IsLks (W : World) (v : Value) : Prop := ∃ (x : List Lk), Reads W W.heap.size (lks x) v ∧ lksR x
set_option maxRecDepth 100000 in
theorem openLks {H : Type} {enc : TypeId × Value → H} {W : World} {r : Reach} {base : Nat} {v : Value} {d : DataW H} {p : List MemPlace}
    (hv : Value.okWide Try.prog W r base 26 v) (h : DataW.Trod enc Try.prog W 0 (fun _ => true) true 26 v d p) : IsLks W v := by
  obtain ⟨a, len, cap, rfl⟩ := okWide_slice Try.underlying26 hv
  obtain ⟨z0, h0a, h0b, h0c⟩ := rd_open (sz := 3) (Q := LkR) (f := lkC) Try.underlying26 (by kernel_rfl) (by decide) (fun _ => rfl) (fun _ _ _ h => lk_cells h) h
  have r0 : Reads W W.heap.size (lks z0) (.slice a len cap) := by
    have := reads_row (T := 102) (f := lkD) (m := id) z0 h0a (fun y _ => lk_reads y)
    rwa [List.map_id] at this
  exact ⟨z0, r0, ⟨h0b, all_of_getD h0c⟩⟩
theorem szLks (w : World) (v : Value) (xs : List Lk) (left : Int) (h : Reads w w.heap.size (lks xs) v) (h0 : 0 ≤ left) (h1 : left ≤ 1048576) (hr : lksR xs) :
    Calls Try.prog 25 #[v, .int .i64 left] w fun e w' => e = .returned (.int .i64 (szR left (lksW xs))) ∧ Below w.heap.size w w' := by
  obtain ⟨a, c, e, _⟩ := h.shape
  subst e
  have hm := hr.1
  unfold maxLen at hm
  unfold lksW
  clear h hr
  generalize xs.length = len at *
  have hw : IntKind.i64.wrap (left - (len : Int)) = left - (len : Int) := by rw [IntKind.wrap_i64]; omega
  by_cases h : left - (len : Int) < 0
  · rw [szR_neg (by omega)]
    go_enter Try.func25, Try.ntmps25
    go_wp2
    go_ret
    exact ⟨rfl, Below.refl _ _⟩
  · rw [szR_pos (by omega)]
    go_enter Try.func25, Try.ntmps25
    go_wp2
    go_ret
    exact ⟨by first | rfl | (exact ret_int (by omega)), Below.refl _ _⟩
set_option maxRecDepth 100000 in
set_option maxHeartbeats 4000000 in
theorem toLk (w : World) (x : Lk) : Calls Try.prog 40 #[lkV x] w fun e w' => e = .returned (lkV x) ∧ Below w.heap.size w w' := by
  unfold lkV
  go_enter Try.func40, Try.ntmps40
  go_wp2
  exact bodyPost_ret (v := .agg #[.int .i64 x.i, .int .i64 x.w, .int .i64 x.c]) (by simp [results, Try.results40, go_sem]) rfl ⟨rfl, (((Below.refl _ _).alloc (Nat.le_refl _) _).alloc (by simp) _).alloc (by simp; omega) _⟩
theorem Try.infoLk : (Try.prog.info? 102).map (fun i => (i.zero, i.size, i.bytes)) = some (some (.agg #[.int .i64 0, .int .i64 0, .int .i64 0]), 3, 24) := by kernel_rfl
theorem loadLk {w : World} {g : Nat} {a0 a1 a2 : Value} (h : w.heap[g]? = some (.cells #[a0, a1, a2] 102 (0, 0))) : (loadVar 102 ⟨g, 0, none⟩).run Try.prog w = .ok (.agg #[a0, a1, a2]) w :=
  run_loadVar_row w g 102 102 #[a0, a1, a2] (0, 0) _ h Try.underlying102 rfl (by kernel_rfl)
set_option maxRecDepth 100000 in
set_option maxHeartbeats 4000000 in
theorem toLks (w : World) (v : Value) (xs : List Lk) (h : Reads w w.heap.size (lks xs) v) (hg : lksG xs) :
    Calls Try.prog 29 #[v] w fun e w' => ∃ v', e = .returned v' ∧ OwnD w' w.heap.size w'.heap.size (lks xs) v' ∧ Below w.heap.size w w' := by
  obtain ⟨hm, hgd⟩ := hg
  have HX : Hid (∀ wr, Below w.heap.size w wr → _) := hide (fun wr hb => lock_at (h.at hb))
  have HG : Hid (∀ j, j < xs.length → LkG (xs.getD j default)) := hide (fun j hj => getD_mem hgd j hj)
  clear hgd
  obtain ⟨a, cap, rfl, _⟩ := lock_at h
  have HD : Hid (∀ W hi v, OwnD W w.heap.size hi (.row 102 3 xs.length (upTo lkD [.int .i64 0, .int .i64 0, .int .i64 0] xs xs.length)) v → OwnD W w.heap.size hi (lks xs) v) := hide (fun W hi v h => by unfold lks; rwa [upTo_all] at h)
  clear h
  obtain ⟨i0, hi, hz0, hz1, hz2⟩ := info_parts Try.infoLk
  generalize hn : xs.length = n at *
  go_enter Try.func29, Try.ntmps29
  go_wp2_with (at_make; refine wpList_make_full _ rfl _ _ 39 rfl w.heap.size 102 i0 (.agg #[.int .i64 0, .int .i64 0, .int .i64 0]) 3 Try.underlying39 hi hz0 hz1 _ _ _ _ n rfl rfl rfl rfl (by rw [hz2]; omega) (by unfold maxLen; omega) (Nat.le_refl _) ?_; intro w1 ho1 hg1)
  have o1 : OwnD w1 w.heap.size w1.heap.size (.row 102 3 n (upTo lkD [.int .i64 0, .int .i64 0, .int .i64 0] xs 0)) (.slice (some ⟨w.heap.size, 0, none⟩) n n) := ownD_made hn rfl (by decide) rfl ho1 (fun q hq => (World.ownsRow.lt ho1 q hq).2)
  have hl1 : w.heap.size < w1.heap.size := (World.ownsRow.lt ho1 _ rfl).2
  have b1 : Below w.heap.size w w1 := (Below.refl _ _).grown hg1 (Nat.le_refl _) (fun k hk => by cases hk)
  clear ho1 hg1 hi hz0 hz1 hz2
  go_loopw [4] (fun i wr => ∃ (j : Nat), j ≤ n ∧ i = .int .i64 (j : Int) ∧ Hid (OwnD wr w.heap.size wr.heap.size (.row 102 3 n (upTo lkD [.int .i64 0, .int .i64 0, .int .i64 0] xs j)) (.slice (some ⟨w.heap.size, 0, none⟩) n n)) ∧ Hid (Below w.heap.size w wr) ∧ w.heap.size < wr.heap.size) (fun i _ => n - (intOf i).toNat)
  case atStart => exact ⟨0, Nat.zero_le _, rfl, hide o1, hide b1, hl1⟩
  case round =>
    clear o1 b1
    obtain ⟨j, hj, rfl, HO, HB, hlt0⟩ := hrel
    by_cases hlt : j < n
    · obtain ⟨a', cap', ea, _, _, hx⟩ := HX.out wr HB.out
      cases ea
      obtain ⟨b, o, rfl, _, hcell⟩ := hx (by omega)
      obtain ⟨e0, e1, e2⟩ := hcell j hlt
      clear hcell hx
      have HL : Hid (xs.getD j default = xs.getD j default) := hide rfl
      generalize hx9 : xs.getD j default = x at *
      have OU : Hid (∀ W : World, OwnDL W W.heap.size W.heap.size (lkD (xs.getD j default)) [.int .i64 x.i, .int .i64 x.w, .int .i64 x.c]) := hide (fun W => by rw [hx9]; exact OwnDL.val (OwnDL.val (OwnDL.val (ownDL_nil _ _ _))))
      clear hx9 HL
      go_wp2_with fail
      refine (toLk _ x).mono ?_
      rintro e w2 ⟨rfl, b2⟩
      have hs2 := b2.size
      replace HO := hide ((HO.out.below b2).up hs2)
      replace HB := hide (HB.out.trans (b2.mono HB.out.size))
      replace hlt0 : w.heap.size < w2.heap.size := by omega
      clear b2
      unfold lkV
      obtain ⟨hc, hf, ho2⟩ := OwnD.fill (f := lkD) (k := 3) (fun _ => rfl) rfl hn hlt HO.out (OU.out w2) (Nat.le_refl _) (Nat.le_of_lt hlt0) (Nat.le_refl _)
      obtain ⟨y0, d0⟩ := hc 0 (by omega)
      obtain ⟨y1, d1⟩ := hc 1 (by omega)
      obtain ⟨y2, d2⟩ := hc 2 (by omega)
      rw [Nat.add_zero]  at d0
      have hb2 := setRow_below [.int .i64 x.i, .int .i64 x.w, .int .i64 x.c] w2 (j * 3) HB.out (Nat.le_refl _)
      have hs9 : w2.heap.size = (setRow w2 w.heap.size (j * 3) [.int .i64 x.i, .int .i64 x.w, .int .i64 x.c]).heap.size := by simp [setRow]
      rw [hs9] at ho2
      clear hs9
      simp only [setRow, Nat.add_assoc, Nat.reduceAdd] at ho2 hb2
      replace HO := hide ho2
      have HB2 := hide hb2
      clear ho2 hb2 hc HB OU
      go_wp2
      exact ⟨⟨j + 1, by omega, by go_num, HO, HB2, by simp; omega⟩, by simp [intOf]; omega⟩
    · obtain rfl : j = n := by omega
      have HF := hide (HD.out _ _ _ HO.out)
      go_wp2
      go_ret
      exact ⟨_, rfl, HF.out, HB.out⟩
set_option maxRecDepth 100000 in
set_option maxHeartbeats 4000000 in
theorem eqLk (w : World) (x : Lk) : Calls Try.prog 44 #[lkV x, lkV x] w fun e w' => e = .returned (.bool true) ∧ Below w.heap.size w w' := by
  have n_i : (x.i != x.i) = false := by simp
  have n_w : (x.w != x.w) = false := by simp
  have n_c : (x.c != x.c) = false := by simp
  unfold lkV
  go_enter Try.func44, Try.ntmps44
  go_wp2
  go_ret
  exact ⟨rfl, ((Below.refl _ _).alloc (Nat.le_refl _) _).alloc (by simp) _⟩
set_option maxRecDepth 100000 in
set_option maxHeartbeats 4000000 in
theorem eqLks (w : World) (v1 v2 : Value) (xs : List Lk) (h1 : Reads w w.heap.size (lks xs) v1) (h2 : Reads w w.heap.size (lks xs) v2) (hg : lksG xs) :
    Calls Try.prog 33 #[v1, v2] w fun e w' => e = .returned (.bool true) ∧ Below w.heap.size w w' := by
  obtain ⟨hm, hgd⟩ := hg
  have HX1 : Hid (∀ wr, Below w.heap.size w wr → _) := hide (fun wr hb => lock_at (h1.at hb))
  have HX2 : Hid (∀ wr, Below w.heap.size w wr → _) := hide (fun wr hb => lock_at (h2.at hb))
  have HG : Hid (∀ j, j < xs.length → LkG (xs.getD j default)) := hide (fun j hj => getD_mem hgd j hj)
  clear hgd
  obtain ⟨a1, cap1, rfl, _⟩ := lock_at h1
  obtain ⟨a2, cap2, rfl, _⟩ := lock_at h2
  clear h1 h2
  generalize hn : xs.length = n at *
  have hne : ((n : Int) != (n : Int)) = false := by simp
  go_enter Try.func33, Try.ntmps33
  go_wp2
  go_loopw [5] (fun i wr => ∃ j : Nat, j ≤ n ∧ i = .int .i64 (j : Int) ∧ Below w.heap.size w wr) (fun i _ => n - (intOf i).toNat)
  case atStart => exact ⟨0, Nat.zero_le _, rfl, Below.refl _ _⟩
  case round =>
    obtain ⟨j, hj, rfl, hb⟩ := hrel
    have HB := hide hb
    have hs := hb.size
    clear hb
    by_cases hlt : j < n
    · obtain ⟨a1', cap1', ea1, _, _, hx1⟩ := HX1.out wr HB.out
      cases ea1
      obtain ⟨b1, o1, rfl, hb1, hc1⟩ := hx1 (by omega)
      obtain ⟨a2', cap2', ea2, _, _, hx2⟩ := HX2.out wr HB.out
      cases ea2
      obtain ⟨b2, o2, rfl, hb2, hc2⟩ := hx2 (by omega)
      obtain ⟨e0, e1, e2⟩ := hc1 j hlt
      obtain ⟨d0, d1, d2⟩ := hc2 j hlt
      have HGj := hide (HG.out j hlt)
      clear hx1 hx2 hc1 hc2
      generalize xs.getD j default = p at *
      go_wp2
      go_cut [26] from 11 to 26 (fun s wq => s = .bool false ∧ Below w.heap.size w wq)
      case first =>
        go_region_with (go_at_call 44; refine (eqLk _ p).mono ?_; rintro e w1 ⟨rfl, b1⟩; have HB1 := hide (HB.out.trans (below_of_drew b1 |>.mono hs)); clear b1)
        all_goals (go_wp2_with fail; go_meet; exact ⟨rfl, HB1.out⟩)
      case rest =>
        obtain ⟨rfl, hB⟩ := hcut
        have HB2 := hide hB
        clear hB
        go_wp2
        exact ⟨⟨j + 1, hlt, by go_num, HB2.out⟩, by simp [intOf]; omega⟩
    · go_wp2
      go_ret
      exact ⟨rfl, HB.out⟩
def lkCnt (_x : Lk) : Nat := 3
def mkLk (k : Nat) (_x : Lk) : Lk := ⟨((k : Nat) : Int), ((k : Nat) : Int) + 1, ((k : Nat) : Int) + 2⟩
def mkLks : Nat → List Lk → List Lk
  | _, [] => []
  | k, x :: xs => mkLk k x :: mkLks (k + lkCnt x) xs
def cntLks (xs : List Lk) : Nat := tot lkCnt xs
theorem mkLks_len : ∀ (k : Nat) (xs : List Lk), (mkLks k xs).length = xs.length
  | _, [] => rfl
  | k, x :: xs => by simp [mkLks, mkLks_len _ xs]
theorem mkLks_get : ∀ (k : Nat) (xs : List Lk) (j : Nat), j < xs.length → (mkLks k xs).getD j default = mkLk (k + tot lkCnt (xs.take j)) (xs.getD j default)
  | k, [], j, h => by simp at h
  | k, x :: xs, 0, h => by simp [mkLks, tot]
  | k, x :: xs, j + 1, h => by
    rw [mkLks, List.getD_cons_succ, mkLks_get _ xs j (by simpa using h), List.getD_cons_succ]
    congr 1
    unfold tot
    rw [List.take_succ_cons, List.map_cons, List.sum_cons]; omega
theorem cntLks_le (xs : List Lk) : cntLks xs ≤ 8 * lksW xs := tot_cnt0 lkCnt (fun _ => by unfold lkCnt; omega) xs
end Go.Proofs.Ytelpdlhgjepgbaa
