/-
  Cells as data: how they come in, how great they are, copies, comparison, marks.
-/
import Derived.Test.YtabeeppfgkeahaaVlR
import Derived.Test.YtabeeppfgkeahaaRowv
namespace Go.Proofs.Ytabeeppfgkeahaa
open Go.ChangeShapes Go.WideShapes Go.RowKit

structure Cel where
  a : Int
  r : Bool
  n : Int
instance : Inhabited Cel := ⟨⟨0, false, 0⟩⟩
def celD (x : Cel) : List Dt := [.val (.int .i64 x.a), .val (.bool x.r), .val (.int .i64 x.n)]
def celV (x : Cel) : Value := .agg #[.int .i64 x.a, .bool x.r, .int .i64 x.n]
def cels (xs : List Cel) : Dt := .row 50 3 xs.length (xs.flatMap celD)
theorem cel_at {w : World} {B : Nat} {v : Value} {xs : List Cel} (h : Reads w B (cels xs) v) :
    ∃ a cap, v = .slice a xs.length cap ∧ xs.length ≤ cap ∧ (a = none → cap = 0) ∧ (0 < xs.length → ∃ b o, a = some ⟨b, o, none⟩ ∧ b < B ∧ ∀ j, j < xs.length → w.cell? ⟨b, o + j * 3, none⟩ = some (.int .i64 (xs.getD j default).a) ∧ w.cell? ⟨b, o + j * 3 + 1, none⟩ = some (.bool (xs.getD j default).r) ∧ w.cell? ⟨b, o + j * 3 + 2, none⟩ = some (.int .i64 (xs.getD j default).n)) := by
  obtain ⟨a, cap, rfl, h1, h2, h3⟩ := row_at (f := celD) (k := 3) (fun _ => rfl) rfl h
  refine ⟨a, cap, rfl, h1, h2, fun hp => ?_⟩
  obtain ⟨b, o, rfl, hb, hc⟩ := h3 hp
  refine ⟨b, o, rfl, hb, fun j hj => ?_⟩
  obtain ⟨vs, h4, h5⟩ := hc j hj
  obtain ⟨u0, vs0, rfl, q0, h4⟩ := readsL_cons h4
  obtain ⟨u1, vs1, rfl, q1, h4⟩ := readsL_cons h4
  obtain ⟨u2, vs2, rfl, q2, h4⟩ := readsL_cons h4
  obtain rfl := readsL_nil h4
  obtain rfl := reads_val q0
  obtain rfl := reads_val q1
  obtain rfl := reads_val q2
  have c0 := h5 0 (by omega)
  have c1 := h5 1 (by omega)
  have c2 := h5 2 (by omega)
  rw [Nat.add_zero] at c0
  exact ⟨c0, c1, c2⟩
structure CelR (x : Cel) : Prop where
  a : -9223372036854775808 ≤ x.a ∧ x.a ≤ 9223372036854775807
  n : -9223372036854775808 ≤ x.n ∧ x.n ≤ 9223372036854775807
def celW (_x : Cel) : Nat := 0
structure CelG (x : Cel) : Prop where
  a : -9223372036854775808 ≤ x.a ∧ x.a ≤ 9223372036854775807
  n : -9223372036854775808 ≤ x.n ∧ x.n ≤ 9223372036854775807
theorem celG_of {x : Cel} (hr : CelR x) (_hw : celW x ≤ 1048576) : CelG x := ⟨hr.a, hr.n⟩
def celsR (xs : List Cel) : Prop := xs.length ≤ maxLen ∧ ∀ y ∈ xs, CelR y
def celsW (xs : List Cel) : Nat := xs.length
def celsG (xs : List Cel) : Prop := xs.length ≤ 1048576 ∧ ∀ y ∈ xs, CelG y
theorem celsG_of {xs : List Cel} (hr : celsR xs) (hw : celsW xs ≤ 1048576) : celsG xs := ⟨hw, fun y hy => celG_of (hr.2 y hy) (Nat.zero_le _)⟩
def celC (x : Cel) : List Value := [.int .i64 x.a, .bool x.r, .int .i64 x.n]
theorem cel_reads {w : World} {B : Nat} (x : Cel) : ReadsL w B (celD x) (celC x) := readsL_mk reads_val' (readsL_mk reads_val' (readsL_mk reads_val' readsL_none))
set_option maxRecDepth 100000 in
theorem cel_cells {H : Type} {enc : TypeId × Value → H} {W : World} {fuel : Nat} {cs : List Value} {x : DataW H × List MemPlace}
    (h : DataW.trod enc Try.prog W 0 (fun _ => true) true fuel 61 cs = some x) : ∃ y, cs = celC y ∧ CelR y := by
  have c0 : Try.prog.cellsOf 61 = 3 := by kernel_rfl
  have c1 : Try.prog.cellsOf 52 = 2 := by kernel_rfl
  have c3 : Try.prog.cellsOf 3 = 1 := by kernel_rfl
  obtain ⟨xs, n, rfl, rfl, hlen, hxl, hf⟩ := DataW.trod_struct Try.underlying61 h
  rw [c0] at hlen
  match xs, hxl, cs, hlen with
  | [y0, y1], _, [v0, v1, v2], _ =>
    have g0 := hf 0 _ rfl
    have g1 := hf 1 _ rfl
    simp [c3, c1] at g0 g1
    obtain ⟨m, e0, _, b0⟩ := DataW.trod_int Try.underlying3 g0
    obtain ⟨y, e1, b1⟩ := vl_cells g1
    simp [vlC] at e0 e1
    exact ⟨⟨m, y.r, y.n⟩, by rw [e0, e1.1, e1.2]; rfl, ⟨bounds_i64 b0, b1.n⟩⟩
def IsCels (W : World) (v : Value) : Prop := ∃ (x : List Cel), Reads W W.heap.size (cels x) v ∧ celsR x
set_option maxRecDepth 100000 in
theorem openCels {H : Type} {enc : TypeId × Value → H} {W : World} {r : Reach} {base : Nat} {v : Value} {d : DataW H} {p : List MemPlace}
    (hv : Value.okWide Try.prog W r base 33 v) (h : DataW.Trod enc Try.prog W 0 (fun _ => true) true 33 v d p) : IsCels W v := by
  obtain ⟨a, len, cap, rfl⟩ := okWide_slice Try.underlying33 hv
  obtain ⟨z0, h0a, h0b, h0c⟩ := rd_open (sz := 3) (Q := CelR) (f := celC) Try.underlying33 (by kernel_rfl) (by decide) (fun _ => rfl) (fun _ _ _ h => cel_cells h) h
  have r0 : Reads W W.heap.size (cels z0) (.slice a len cap) := by
    have := reads_row (T := 50) (f := celD) (m := id) z0 h0a (fun y _ => cel_reads y)
    rwa [List.map_id] at this
  exact ⟨z0, r0, ⟨h0b, all_of_getD h0c⟩⟩
theorem szCels (w : World) (v : Value) (xs : List Cel) (left : Int) (h : Reads w w.heap.size (cels xs) v) (h0 : 0 ≤ left) (h1 : left ≤ 1048576) (hr : celsR xs) :
    Calls Try.prog 16 #[v, .int .i64 left] w fun e w' => e = .returned (.int .i64 (szR left (celsW xs))) ∧ Below w.heap.size w w' := by
  obtain ⟨a, c, e, _⟩ := h.shape
  subst e
  have hm := hr.1
  unfold maxLen at hm
  unfold celsW
  clear h hr
  generalize xs.length = len at *
  have hw : IntKind.i64.wrap (left - (len : Int)) = left - (len : Int) := by rw [IntKind.wrap_i64]; omega
  by_cases h : left - (len : Int) < 0
  · rw [szR_neg (by omega)]
    go_enter Try.func16, Try.ntmps16
    go_wp2
    go_ret
    exact ⟨rfl, Below.refl _ _⟩
  · rw [szR_pos (by omega)]
    go_enter Try.func16, Try.ntmps16
    go_wp2
    go_ret
    exact ⟨by first | rfl | (exact ret_int (by omega)), Below.refl _ _⟩
set_option maxRecDepth 100000 in
set_option maxHeartbeats 4000000 in
theorem toCel (w : World) (x : Cel) : Calls Try.prog 35 #[celV x] w fun e w' => e = .returned (celV x) ∧ Below w.heap.size w w' := by
  unfold celV
  go_enter Try.func35, Try.ntmps35
  go_wp2_with fail
  refine (toVl _ ⟨x.r, x.n⟩).mono ?_
  rintro e w1 ⟨rfl, b1⟩
  have hs := b1.size
  simp only [World.size_alloc] at hs
  obtain ⟨hc, hf⟩ := bcell b1
  have HB := hide ((((((Below.refl w.heap.size w).alloc (Nat.le_refl _) _).alloc (by simp) _).alloc (by simp; omega) _)).trans (b1.mono (by simp; omega)))
  clear b1
  unfold vlV
  go_wp2
  exact bodyPost_ret (v := .agg #[.int .i64 x.a, .bool x.r, .int .i64 x.n]) (by simp [results, Try.results35, go_sem, hc]) rfl ⟨rfl, (((((HB.out.setCell (Nat.le_add_right _ 2) _).setCell (Nat.le_add_right _ 2) _).setCell (Nat.le_add_right _ 1) _).setCell (Nat.le_add_right _ 1) _).setCell (Nat.le_add_right _ 1) _)⟩
theorem Try.infoCel : (Try.prog.info? 50).map (fun i => (i.zero, i.size, i.bytes)) = some (some (.agg #[.int .i64 0, .bool false, .int .i64 0]), 3, 24) := by kernel_rfl
theorem loadCel {w : World} {g : Nat} {a0 a1 a2 : Value} (h : w.heap[g]? = some (.cells #[a0, a1, a2] 50 (0, 0))) : (loadVar 50 ⟨g, 0, none⟩).run Try.prog w = .ok (.agg #[a0, a1, a2]) w :=
  run_loadVar_row w g 50 50 #[a0, a1, a2] (0, 0) _ h Try.underlying50 rfl (by kernel_rfl)
set_option maxRecDepth 100000 in
set_option maxHeartbeats 4000000 in
theorem toCels (w : World) (v : Value) (xs : List Cel) (h : Reads w w.heap.size (cels xs) v) (hg : celsG xs) :
    Calls Try.prog 18 #[v] w fun e w' => ∃ v', e = .returned v' ∧ OwnD w' w.heap.size w'.heap.size (cels xs) v' ∧ Below w.heap.size w w' := by
  obtain ⟨hm, hgd⟩ := hg
  have HX : Hid (∀ wr, Below w.heap.size w wr → _) := hide (fun wr hb => cel_at (h.at hb))
  have HG : Hid (∀ j, j < xs.length → CelG (xs.getD j default)) := hide (fun j hj => getD_mem hgd j hj)
  clear hgd
  obtain ⟨a, cap, rfl, _⟩ := cel_at h
  have HD : Hid (∀ W hi v, OwnD W w.heap.size hi (.row 50 3 xs.length (upTo celD [.int .i64 0, .bool false, .int .i64 0] xs xs.length)) v → OwnD W w.heap.size hi (cels xs) v) := hide (fun W hi v h => by unfold cels; rwa [upTo_all] at h)
  clear h
  obtain ⟨i0, hi, hz0, hz1, hz2⟩ := info_parts Try.infoCel
  generalize hn : xs.length = n at *
  go_enter Try.func18, Try.ntmps18
  go_wp2_with (at_make; refine wpList_make_full _ rfl _ _ 24 rfl w.heap.size 50 i0 (.agg #[.int .i64 0, .bool false, .int .i64 0]) 3 Try.underlying24 hi hz0 hz1 _ _ _ _ n rfl rfl rfl rfl (by rw [hz2]; omega) (by unfold maxLen; omega) (Nat.le_refl _) ?_; intro w1 ho1 hg1)
  have o1 : OwnD w1 w.heap.size w1.heap.size (.row 50 3 n (upTo celD [.int .i64 0, .bool false, .int .i64 0] xs 0)) (.slice (some ⟨w.heap.size, 0, none⟩) n n) := ownD_made hn rfl (by decide) rfl ho1 (fun q hq => (World.ownsRow.lt ho1 q hq).2)
  have hl1 : w.heap.size < w1.heap.size := (World.ownsRow.lt ho1 _ rfl).2
  have b1 : Below w.heap.size w w1 := (Below.refl _ _).grown hg1 (Nat.le_refl _) (fun k hk => by cases hk)
  clear ho1 hg1 hi hz0 hz1 hz2
  go_loopw [4] (fun i wr => ∃ (j : Nat), j ≤ n ∧ i = .int .i64 (j : Int) ∧ Hid (OwnD wr w.heap.size wr.heap.size (.row 50 3 n (upTo celD [.int .i64 0, .bool false, .int .i64 0] xs j)) (.slice (some ⟨w.heap.size, 0, none⟩) n n)) ∧ Hid (Below w.heap.size w wr) ∧ w.heap.size < wr.heap.size) (fun i _ => n - (intOf i).toNat)
  case atStart => exact ⟨0, Nat.zero_le _, rfl, hide o1, hide b1, hl1⟩
  case round =>
    clear o1 b1
    obtain ⟨j, hj, rfl, HO, HB, hlt0⟩ := hrel
    by_cases hlt : j < n
    · obtain ⟨a', cap', ea, _, _, hx⟩ := HX.out wr HB.out
      cases ea
      obtain ⟨b, o, rfl, _, hcell⟩ := hx (by omega)
      obtain ⟨e0, e1, e2⟩ := hcell j hlt
      clear hcell hx
      have HL : Hid (xs.getD j default = xs.getD j default) := hide rfl
      generalize hx9 : xs.getD j default = x at *
      have OU : Hid (∀ W : World, OwnDL W W.heap.size W.heap.size (celD (xs.getD j default)) [.int .i64 x.a, .bool x.r, .int .i64 x.n]) := hide (fun W => by rw [hx9]; exact OwnDL.val (OwnDL.val (OwnDL.val (ownDL_nil _ _ _))))
      clear hx9 HL
      go_wp2_with fail
      refine (toCel _ x).mono ?_
      rintro e w2 ⟨rfl, b2⟩
      have hs2 := b2.size
      replace HO := hide ((HO.out.below b2).up hs2)
      replace HB := hide (HB.out.trans (b2.mono HB.out.size))
      replace hlt0 : w.heap.size < w2.heap.size := by omega
      clear b2
      unfold celV
      obtain ⟨hc, hf, ho2⟩ := OwnD.fill (f := celD) (k := 3) (fun _ => rfl) rfl hn hlt HO.out (OU.out w2) (Nat.le_refl _) (Nat.le_of_lt hlt0) (Nat.le_refl _)
      obtain ⟨y0, d0⟩ := hc 0 (by omega)
      obtain ⟨y1, d1⟩ := hc 1 (by omega)
      obtain ⟨y2, d2⟩ := hc 2 (by omega)
      rw [Nat.add_zero]  at d0
      have hb2 := setRow_below [.int .i64 x.a, .bool x.r, .int .i64 x.n] w2 (j * 3) HB.out (Nat.le_refl _)
      have hs9 : w2.heap.size = (setRow w2 w.heap.size (j * 3) [.int .i64 x.a, .bool x.r, .int .i64 x.n]).heap.size := by simp [setRow]
      rw [hs9] at ho2
      clear hs9
      simp only [setRow, Nat.add_assoc, Nat.reduceAdd] at ho2 hb2
      replace HO := hide ho2
      have HB2 := hide hb2
      clear ho2 hb2 hc HB OU
      go_wp2
      exact ⟨⟨j + 1, by omega, by go_num, HO, HB2, by simp; omega⟩, by simp [intOf]; omega⟩
    · obtain rfl : j = n := by omega
      have HF := hide (HD.out _ _ _ HO.out)
      go_wp2
      go_ret
      exact ⟨_, rfl, HF.out, HB.out⟩
set_option maxRecDepth 100000 in
set_option maxHeartbeats 4000000 in
theorem eqCel (w : World) (x : Cel) : Calls Try.prog 32 #[celV x, celV x] w fun e w' => e = .returned (.bool true) ∧ Below w.heap.size w w' := by
  have n_a : (x.a != x.a) = false := by simp
  unfold celV
  go_enter Try.func32, Try.ntmps32
  go_wp2_with fail
  refine (eqVl _ ⟨x.r, x.n⟩).mono ?_
  rintro e w1 ⟨rfl, b1⟩
  have HB := hide ((((Below.refl w.heap.size w).alloc (Nat.le_refl _) _).alloc (by simp) _).trans (b1.mono (by simp; omega)))
  clear b1
  go_wp2
  go_ret
  exact ⟨rfl, HB.out⟩
set_option maxRecDepth 100000 in
set_option maxHeartbeats 4000000 in
theorem eqCels (w : World) (v1 v2 : Value) (xs : List Cel) (h1 : Reads w w.heap.size (cels xs) v1) (h2 : Reads w w.heap.size (cels xs) v2) (hg : celsG xs) :
    Calls Try.prog 11 #[v1, v2] w fun e w' => e = .returned (.bool true) ∧ Below w.heap.size w w' := by
  obtain ⟨hm, hgd⟩ := hg
  have HX1 : Hid (∀ wr, Below w.heap.size w wr → _) := hide (fun wr hb => cel_at (h1.at hb))
  have HX2 : Hid (∀ wr, Below w.heap.size w wr → _) := hide (fun wr hb => cel_at (h2.at hb))
  have HG : Hid (∀ j, j < xs.length → CelG (xs.getD j default)) := hide (fun j hj => getD_mem hgd j hj)
  clear hgd
  obtain ⟨a1, cap1, rfl, _⟩ := cel_at h1
  obtain ⟨a2, cap2, rfl, _⟩ := cel_at h2
  clear h1 h2
  generalize hn : xs.length = n at *
  have hne : ((n : Int) != (n : Int)) = false := by simp
  go_enter Try.func11, Try.ntmps11
  go_wp2
  go_loopw [5] (fun i wr => ∃ j : Nat, j ≤ n ∧ i = .int .i64 (j : Int) ∧ Below w.heap.size w wr) (fun i _ => n - (intOf i).toNat)
  case atStart => exact ⟨0, Nat.zero_le _, rfl, Below.refl _ _⟩
  case round =>
    obtain ⟨j, hj, rfl, hb⟩ := hrel
    have HB := hide hb
    have hs := hb.size
    clear hb
    by_cases hlt : j < n
    · obtain ⟨a1', cap1', ea1, _, _, hx1⟩ := HX1.out wr HB.out
      cases ea1
      obtain ⟨b1, o1, rfl, hb1, hc1⟩ := hx1 (by omega)
      obtain ⟨a2', cap2', ea2, _, _, hx2⟩ := HX2.out wr HB.out
      cases ea2
      obtain ⟨b2, o2, rfl, hb2, hc2⟩ := hx2 (by omega)
      obtain ⟨e0, e1, e2⟩ := hc1 j hlt
      obtain ⟨d0, d1, d2⟩ := hc2 j hlt
      have HGj := hide (HG.out j hlt)
      clear hx1 hx2 hc1 hc2
      generalize xs.getD j default = p at *
      go_wp2
      go_cut [26] from 11 to 26 (fun s wq => s = .bool false ∧ Below w.heap.size w wq)
      case first =>
        go_region_with (go_at_call 32; refine (eqCel _ p).mono ?_; rintro e w1 ⟨rfl, b1⟩; have HB1 := hide (HB.out.trans (below_of_drew b1 |>.mono hs)); clear b1)
        all_goals (go_wp2_with fail; go_meet; exact ⟨rfl, HB1.out⟩)
      case rest =>
        obtain ⟨rfl, hB⟩ := hcut
        have HB2 := hide hB
        clear hB
        go_wp2
        exact ⟨⟨j + 1, hlt, by go_num, HB2.out⟩, by simp [intOf]; omega⟩
    · go_wp2
      go_ret
      exact ⟨rfl, HB.out⟩
def celCnt (_x : Cel) : Nat := 3
def mkCel (k : Nat) (_x : Cel) : Cel := ⟨((k : Nat) : Int), ((((k : Nat) : Int) + 1) % 3 == 0), ((k : Nat) : Int) + 2⟩
def mkCels : Nat → List Cel → List Cel
  | _, [] => []
  | k, x :: xs => mkCel k x :: mkCels (k + celCnt x) xs
def cntCels (xs : List Cel) : Nat := tot celCnt xs
theorem mkCels_len : ∀ (k : Nat) (xs : List Cel), (mkCels k xs).length = xs.length
  | _, [] => rfl
  | k, x :: xs => by simp [mkCels, mkCels_len _ xs]
theorem mkCels_get : ∀ (k : Nat) (xs : List Cel) (j : Nat), j < xs.length → (mkCels k xs).getD j default = mkCel (k + tot celCnt (xs.take j)) (xs.getD j default)
  | k, [], j, h => by simp at h
  | k, x :: xs, 0, h => by simp [mkCels, tot]
  | k, x :: xs, j + 1, h => by
    rw [mkCels, List.getD_cons_succ, mkCels_get _ xs j (by simpa using h), List.getD_cons_succ]
    congr 1
    unfold tot
    rw [List.take_succ_cons, List.map_cons, List.sum_cons]; omega
theorem cntCels_le (xs : List Cel) : cntCels xs ≤ 8 * celsW xs := tot_cnt0 celCnt (fun _ => by unfold celCnt; omega) xs
set_option maxRecDepth 100000 in
set_option maxHeartbeats 4000000 in
theorem mkCelsR (w : World) (b K : Nat) (m : Int) (hmK : m = (K : Int)) (v : Value) (xs : List Cel) (F : List Nat) (h : Owns w b (cels xs) v F) (hnd : F.Nodup) (hK : 0 < K) (hm : K + cntCels xs ≤ 100000000) :
    Calls Try.prog 14 #[v, .int .i64 m] w fun e w' => e = .returned (.int .i64 ((K + cntCels xs : Nat) : Int)) ∧ Owns w' b (cels (mkCels K xs)) v F ∧ Chg F w w' := by
  subst hmK
  have HCN : Hid (cntCels xs = tot celCnt xs) := hide rfl
  rw [HCN.out] at hm
  have HST : Hid (Owns w b (.row 50 3 xs.length ((mixR celD (mkCels K xs) xs 0).flatten)) v F) := hide (by rw [mixR_zero]; exact h)
  have HEN : Hid (∀ W, Owns W b (.row 50 3 xs.length ((mixR celD (mkCels K xs) xs xs.length).flatten)) v F → Owns W b (cels (mkCels K xs)) v F) := hide (fun W h => by rw [mixR_end _ (mkCels_len K _)] at h; unfold cels; rw [mkCels_len]; exact h)
  have hML := mkCels_len K xs
  have HTS : Hid (∀ j, j < xs.length → tot celCnt (xs.take (j + 1)) = tot celCnt (xs.take j) + celCnt (xs.getD j default)) := hide (fun j hj => tot_step _ xs j hj)
  have HTL : Hid (∀ j, tot celCnt (xs.take j) ≤ tot celCnt xs) := hide (tot_le _ xs)
  have HTE : Hid (tot celCnt (xs.take xs.length) = tot celCnt xs) := hide (by rw [List.take_length])
  have HG : Hid (∀ j, j < xs.length → (mixR celD (mkCels K xs) xs j).getD j [] = celD (xs.getD j default)) := hide (fun j hj => mixR_get _ hML hj)
  have HS : Hid (∀ j, j < xs.length → (mixR celD (mkCels K xs) xs j).set j (celD (mkCel (K + tot celCnt (xs.take j)) (xs.getD j default))) = mixR celD (mkCels K xs) xs (j + 1)) := hide (fun j hj => by rw [← mkCels_get K xs j hj]; exact mixR_step _ hML hj)
  have HA : Hid (∀ j, ∀ r ∈ mixR celD (mkCels K xs) xs j, r.length = 3) := hide (fun j => mixR_all (f := celD) (k := 3) (fun _ => rfl) _ _ j)
  have HLn : Hid (∀ j, j ≤ xs.length → (mixR celD (mkCels K xs) xs j).length = xs.length) := hide (fun j hj => mixR_len _ hML hj)
  have hxl : xs.length ≤ tot celCnt xs := tot_one _ (fun _ => by unfold celCnt; omega) xs
  have hsl := h.slice
  clear h hML
  rw [HCN.out]
  generalize hn : xs.length = n at *
  rcases hsl with ⟨rfl, rfl⟩ | ⟨g, c, rfl⟩
  · have hx0 : xs = [] := List.eq_nil_of_length_eq_zero hn
    have HX0 : Hid (tot celCnt xs = 0) := hide (by rw [hx0]; rfl)
    go_enter Try.func14, Try.ntmps14
    go_wp2
    go_loopw [1, 5] (fun q i wr => q = .int .i64 (K : Int) ∧ i = .int .i64 0 ∧ wr = w) (fun _ _ _ => 0)
    case atStart => exact ⟨rfl, rfl, rfl⟩
    case round =>
      obtain ⟨rfl, rfl, rfl⟩ := hrel
      go_wp2
      go_ret
      exact ⟨by rw [HX0.out]; rfl, HEN.out _ HST.out, Chg.refl _ _⟩
  · go_enter Try.func14, Try.ntmps14
    go_wp2
    go_loopw [1, 5] (fun q i wr => ∃ j : Nat, j ≤ n ∧ q = .int .i64 ((K + tot celCnt (xs.take j) : Nat) : Int) ∧ i = .int .i64 (j : Int) ∧ Hid (Owns wr b (.row 50 3 n ((mixR celD (mkCels K xs) xs j).flatten)) (.slice (some ⟨g, 0, none⟩) n c) F) ∧ Hid (Chg F w wr)) (fun _ i _ => n - (intOf i).toNat)
    case atStart => exact ⟨0, Nat.zero_le _, by simp [tot], rfl, HST, hide (Chg.refl _ _)⟩
    case round =>
      clear HST
      obtain ⟨j, hj, rfl, rfl, HO, HC⟩ := hrel
      by_cases hlt : j < n
      · have hcap : n ≤ c := by
          have := HO.out
          unfold Owns at this
          obtain ⟨us, G, h2, _⟩ := this
          obtain ⟨_, a, cap, e, h3, _⟩ := rd_own h2 (Nat.le_refl _)
          cases e
          exact h3
        obtain ⟨q, hq⟩ : ∃ q, K + tot celCnt (xs.take j) = q := ⟨_, rfl⟩
        have hq0 : 0 < q := by omega
        have hts := HTS.out j hlt
        have htl := HTL.out (j + 1)
        have HA1 := hide (HA.out j)
        have HL1 := hide (HLn.out j hj)
        have HG1 := HG.out j hlt
        have HS1 := HS.out j hlt
        obtain ⟨x, hx⟩ : ∃ x, xs.getD j default = x := ⟨_, rfl⟩
        rw [hx] at HG1 HS1 hts
        have hcm : celCnt x = 3 := rfl
        have hqm : q + (3) ≤ 100000000 := by omega
        rw [hq] at HS1 ⊢
        have HG2 := hide HG1
        have HS2 := hide HS1
        have HQ := hide hq
        clear hx hq HG1 HS1
        obtain ⟨rs, hrs⟩ : ∃ rs, mixR celD (mkCels K xs) xs j = rs := ⟨_, rfl⟩
        rw [hrs] at HO HA1 HL1 HG2 HS2
        clear hrs
        have h0 : ∀ i, i < 3 → rs.flatten[j * 3 + i]? = (celD x)[i]? := fun i hi => by rw [rows_get rs j i HA1.out (by have := HL1.out; omega) hi, HG2.out]
        obtain ⟨d0, z0, hgF, ho⟩ := HO.out.cell hnd (i := j * 3) (z := .int .i64 x.a) (by rw [show j * 3 = j * 3 + 0 from rfl, h0 0 (by omega)]; rfl) (.int .i64 (q : Int))
        replace HO := hide ho
        replace HC := hide (HC.out.set hgF (j * 3) (.int .i64 (q : Int)))
        clear ho
        obtain ⟨d1, z1, hgF, ho⟩ := HO.out.cell hnd (i := j * 3 + 1) (z := .bool x.r) (by rw [List.getElem?_set_ne (by omega), h0 1 (by omega)]; rfl) (.bool (((q : Int) + 1) % 3 == 0))
        replace HO := hide ho
        replace HC := hide (HC.out.set hgF (j * 3 + 1) (.bool (((q : Int) + 1) % 3 == 0)))
        clear ho
        obtain ⟨d2, z2, hgF, ho⟩ := HO.out.cell hnd (i := j * 3 + 2) (z := .int .i64 x.n) (by rw [List.getElem?_set_ne (by omega), List.getElem?_set_ne (by omega), h0 2 (by omega)]; rfl) (.int .i64 ((q : Int) + 1 + 1))
        replace HO := hide ho
        replace HC := hide (HC.out.set hgF (j * 3 + 2) (.int .i64 ((q : Int) + 1 + 1)))
        clear ho
        have HZ : Hid ((((rs.flatten.set (j * 3) (.val (.int .i64 (q : Int)))).set (j * 3 + 1) (.val (.bool (((q : Int) + 1) % 3 == 0)))).set (j * 3 + 2) (.val (.int .i64 ((q : Int) + 1 + 1)))) = (rs.set j (celD (mkCel q x))).flatten) := hide (by
          have hl := HL1.out
          have hlen : ∀ (rs' : List (List Dt)) (r : List Dt), (∀ r ∈ rs', r.length = 3) → r.length = 3 → ∀ r' ∈ rs'.set j r, r'.length = 3 := fun rs' r h1 h2 r' hr => by
            rcases List.mem_or_eq_of_mem_set hr with h | h
            · exact h1 r' h
            · rw [h]; exact h2
          rw [show j * 3 = j * 3 + 0 from rfl]
          rw [rows_set rs j 0 _ HA1.out (by omega) (by omega), HG2.out]
          rw [rows_set _ j 1 _ (hlen _ _ HA1.out rfl) (by rw [List.length_set]; omega) (by omega), List.getD_eq_getElem?_getD, List.getElem?_set_self (by omega), Option.getD_some, List.set_set]
          rw [rows_set _ j 2 _ (hlen _ _ HA1.out rfl) (by rw [List.length_set]; omega) (by omega), List.getD_eq_getElem?_getD, List.getElem?_set_self (by omega), Option.getD_some, List.set_set]
          unfold celD mkCel
          rfl)
        rw [HZ.out, HS2.out] at HO
        go_wp2
        exact ⟨⟨j + 1, by omega, by have hh := HQ.out; congr 1; omega, by go_num, HO, HC⟩, by simp [intOf]; omega⟩
      · obtain rfl : j = n := by omega
        have HF := hide (HEN.out _ HO.out)
        go_wp2
        go_ret
        exact ⟨by rw [HTE.out]; rfl, HF.out, HC.out⟩
theorem mkCelsI (w : World) (b hi K : Nat) (m : Int) (hmK : m = (K : Int)) (v : Value) (xs : List Cel) (h : OwnD w b hi (cels xs) v) (hK : 0 < K) (hm : K + cntCels xs ≤ 100000000) :
    Calls Try.prog 14 #[v, .int .i64 m] w fun e w' => e = .returned (.int .i64 ((K + cntCels xs : Nat) : Int)) ∧ OwnD w' b hi (cels (mkCels K xs)) v ∧ ChgI b hi w w' := by
  obtain ⟨F, h1, h2, h3⟩ := h
  have hl := Owns.lt _ _ _ h1
  refine (mkCelsR w b K m hmK v xs F h1 h2 hK hm).mono ?_
  rintro e w1 ⟨rfl, o1, c1⟩
  exact ⟨rfl, ⟨F, o1, h2, h3⟩, c1.int (fun q hq => ⟨(hl q hq).1, h3 q hq⟩)⟩
set_option maxRecDepth 100000 in
set_option maxHeartbeats 8000000 in
theorem heldCelsR (w : World) (K : Nat) (m : Int) (hmK : m = (K : Int)) (v : Value) (xs : List Cel) (h : Reads w w.heap.size (cels (mkCels K xs)) v) (hK : 0 < K) (hm : K + cntCels xs ≤ 100000000) :
    Calls Try.prog 15 #[v, .int .i64 m] w fun e w' => e = .returned (.int .i64 ((K + cntCels xs : Nat) : Int)) ∧ Below w.heap.size w w' := by
  subst hmK
  have HCN : Hid (cntCels xs = tot celCnt xs) := hide rfl
  rw [HCN.out] at hm ⊢
  have HX : Hid (∀ wr, Below w.heap.size w wr → _) := hide (fun wr hb => cel_at (h.at hb))
  have HTS : Hid (∀ j, j < xs.length → tot celCnt (xs.take (j + 1)) = tot celCnt (xs.take j) + celCnt (xs.getD j default)) := hide (fun j hj => tot_step _ xs j hj)
  have HTL : Hid (∀ j, tot celCnt (xs.take j) ≤ tot celCnt xs) := hide (fun j => tot_le _ xs j)
  have HGt : Hid (∀ j, j < xs.length → (mkCels K xs).getD j default = mkCel (K + tot celCnt (xs.take j)) (xs.getD j default)) := hide (fun j hj => mkCels_get K xs j hj)
  have HTE : Hid (tot celCnt (xs.take xs.length) = tot celCnt xs) := hide (by rw [List.take_length])
  have HLe := hide (mkCels_len K xs)
  have hmx : xs.length ≤ tot celCnt xs := tot_one _ (fun _ => by unfold celCnt; omega) xs
  obtain ⟨a, cap, rfl, hlc, _⟩ := cel_at h
  rw [mkCels_len] at hlc ⊢
  clear h
  obtain ⟨n, hn⟩ : ∃ n, xs.length = n := ⟨_, rfl⟩
  rw [hn] at hlc hmx ⊢
  have HLn := hide hn
  clear hn
  go_enter Try.func15, Try.ntmps15
  go_wp2
  go_loopw [1, 5] (fun q i wr => ∃ j : Nat, j ≤ n ∧ q = .int .i64 ((K + tot celCnt (xs.take j) : Nat) : Int) ∧ i = .int .i64 (j : Int) ∧ Hid (Below w.heap.size w wr)) (fun _ i _ => n - (intOf i).toNat)
  case atStart => exact ⟨0, Nat.zero_le _, by simp [tot], rfl, hide (Below.refl _ _)⟩
  case round =>
    obtain ⟨j, hj, rfl, rfl, HB⟩ := hrel
    by_cases hlt : j < n
    · have hlt' : j < xs.length := by have := HLn.out; omega
      have hts := HTS.out j hlt'
      have htl := HTL.out (j + 1)
      have hgt := HGt.out j hlt'
      obtain ⟨q, hq⟩ : ∃ q, K + tot celCnt (xs.take j) = q := ⟨_, rfl⟩
      obtain ⟨y, hy⟩ : ∃ y, xs.getD j default = y := ⟨_, rfl⟩
      rw [hy] at hts hgt
      rw [hq] at hgt ⊢
      have hcm : celCnt y = 3 := rfl
      have hq0 : 0 < q := by omega
      have hqm : q + (3) ≤ 100000000 := by omega
      have HEND : Hid (K + tot celCnt (xs.take (j + 1)) = q + (3)) := hide (by omega)
      obtain ⟨b, o, ha, hbb, f0, f1, f2⟩ : ∃ b o, a = some ⟨b, o, none⟩ ∧ b < wr.heap.size ∧ wr.cell? ⟨b, o + j * 3, none⟩ = some (.int .i64 (((q : Nat) : Int))) ∧ wr.cell? ⟨b, o + j * 3 + 1, none⟩ = some (.bool (((((q : Nat) : Int) + 1) % 3 == 0))) ∧ wr.cell? ⟨b, o + j * 3 + 2, none⟩ = some (.int .i64 (((q : Nat) : Int) + 2)) := by
        obtain ⟨a', cap', e, _, _, hx⟩ := HX.out wr HB.out
        cases e
        obtain ⟨b, o, e, hb, hc⟩ := hx (by rw [HLe.out]; omega)
        obtain ⟨c0, c1, c2⟩ := hc j (by rw [HLe.out]; exact hlt')
        rw [hgt] at c0 c1 c2
        exact ⟨b, o, e, hb, c0, c1, c2⟩
      subst ha
      have HD : Hid (∀ wq, Below wr.heap.size wr wq → wq.cell? ⟨b, o + j * 3, none⟩ = some (.int .i64 (((q : Nat) : Int))) ∧ wq.cell? ⟨b, o + j * 3 + 1, none⟩ = some (.bool (((((q : Nat) : Int) + 1) % 3 == 0))) ∧ wq.cell? ⟨b, o + j * 3 + 2, none⟩ = some (.int .i64 (((q : Nat) : Int) + 2))) := hide (fun wq hb =>
        ⟨(hb.cell (p := ⟨b, o + j * 3, none⟩) hbb).trans f0, (hb.cell (p := ⟨b, o + j * 3 + 1, none⟩) hbb).trans f1, (hb.cell (p := ⟨b, o + j * 3 + 2, none⟩) hbb).trans f2⟩)
      have HR := hide (Below.refl wr.heap.size wr)
      have HQ := hide hq
      clear hq f0 f1 f2 hts htl hgt hcm
      have d0 := (HD.out wr HR.out).1
      have n0 : ((((q : Nat) : Int)) != (((q : Nat) : Int))) = false := by simp
      have d1 := (HD.out wr HR.out).2.1
      have n1 : ((((((q : Nat) : Int) + 1) % 3 == 0)) != (((((q : Nat) : Int) + 1) % 3 == 0))) = false := by simp
      have d2 := (HD.out wr HR.out).2.2
      have n2 : ((((q : Nat) : Int) + 2) != (((q : Nat) : Int) + 2)) = false := by simp
      have HRZ := hide (HB.out.trans (HR.out.mono HB.out.size))
      go_wp2
      exact ⟨⟨j + 1, hlt, by rw [HEND.out]; exact congrArg (Value.int .i64) (by omega), by go_num, HRZ⟩, by simp [intOf]; omega⟩
    · obtain rfl : j = n := by omega
      have HE9 : Hid (K + tot celCnt (xs.take j) = K + tot celCnt xs) := hide (by rw [← HLn.out, HTE.out])
      go_wp2
      go_ret
      exact ⟨by rw [HE9.out]; rfl, HB.out⟩
end Go.Proofs.Ytabeeppfgkeahaa
