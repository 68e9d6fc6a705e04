/-
  Joined: VlR, CpR.
-/
import Derived.Test.YtofnpgheppgcaaaJ14
import Derived.Laws.StructEq
/-
  Values as data: how they come in, how great they are, copies, comparison, marks.
-/
namespace Go.Proofs.Ytofnpgheppgcaaa
open Go.ChangeShapes Go.WideShapes Go.RowKit

structure Vl where
  r : Bool
  n : Int
instance : Inhabited Vl := ⟨⟨false, 0⟩⟩
def vlD (x : Vl) : List Dt := [.val (.bool x.r), .val (.int .i64 x.n)]
def vlV (x : Vl) : Value := .agg #[.bool x.r, .int .i64 x.n]
def vls (xs : List Vl) : Dt := .row 48 2 xs.length (xs.flatMap vlD)
theorem val_at {w : World} {B : Nat} {v : Value} {xs : List Vl} (h : Reads w B (vls xs) v) :
    ∃ a cap, v = .slice a xs.length cap ∧ xs.length ≤ cap ∧ (a = none → cap = 0) ∧ (0 < xs.length → ∃ b o, a = some ⟨b, o, none⟩ ∧ b < B ∧ ∀ j, j < xs.length → w.cell? ⟨b, o + j * 2, none⟩ = some (.bool (xs.getD j default).r) ∧ w.cell? ⟨b, o + j * 2 + 1, none⟩ = some (.int .i64 (xs.getD j default).n)) := by
  obtain ⟨a, cap, rfl, h1, h2, h3⟩ := row_at (f := vlD) (k := 2) (fun _ => rfl) rfl h
  refine ⟨a, cap, rfl, h1, h2, fun hp => ?_⟩
  obtain ⟨b, o, rfl, hb, hc⟩ := h3 hp
  refine ⟨b, o, rfl, hb, fun j hj => ?_⟩
  obtain ⟨vs, h4, h5⟩ := hc j hj
  obtain ⟨u0, vs0, rfl, q0, h4⟩ := readsL_cons h4
  obtain ⟨u1, vs1, rfl, q1, h4⟩ := readsL_cons h4
  obtain rfl := readsL_nil h4
  obtain rfl := reads_val q0
  obtain rfl := reads_val q1
  have c0 := h5 0 (by omega)
  have c1 := h5 1 (by omega)
  rw [Nat.add_zero] at c0
  exact ⟨c0, c1⟩
structure VlR (x : Vl) : Prop where
  n : -9223372036854775808 ≤ x.n ∧ x.n ≤ 9223372036854775807
def vlW (_x : Vl) : Nat := 0
structure VlG (x : Vl) : Prop where
  n : -9223372036854775808 ≤ x.n ∧ x.n ≤ 9223372036854775807
theorem vlG_of {x : Vl} (hr : VlR x) (_hw : vlW x ≤ 1048576) : VlG x := ⟨hr.n⟩
def vlsR (xs : List Vl) : Prop := xs.length ≤ maxLen ∧ ∀ y ∈ xs, VlR y
def vlsW (xs : List Vl) : Nat := xs.length
def vlsG (xs : List Vl) : Prop := xs.length ≤ 1048576 ∧ ∀ y ∈ xs, VlG y
theorem vlsG_of {xs : List Vl} (hr : vlsR xs) (hw : vlsW xs ≤ 1048576) : vlsG xs := ⟨hw, fun y hy => vlG_of (hr.2 y hy) (Nat.zero_le _)⟩
def vlC (x : Vl) : List Value := [.bool x.r, .int .i64 x.n]
theorem vl_reads {w : World} {B : Nat} (x : Vl) : ReadsL w B (vlD x) (vlC x) := readsL_mk reads_val' (readsL_mk reads_val' readsL_none)
set_option maxRecDepth 100000 in
theorem vl_cells {H : Type} {enc : TypeId × Value → H} {W : World} {fuel : Nat} {cs : List Value} {x : DataW H × List MemPlace}
    (h : DataW.trod enc Try.prog W 0 (fun _ => true) true fuel 53 cs = some x) : ∃ y, cs = vlC y ∧ VlR y := by
  have c0 : Try.prog.cellsOf 53 = 2 := by kernel_rfl
  have cc0 : Try.prog.cellsOf 4 = 1 := by kernel_rfl
  have cc1 : Try.prog.cellsOf 3 = 1 := by kernel_rfl
  obtain ⟨xs, n, rfl, rfl, hlen, hxl, hf⟩ := DataW.trod_struct Try.underlying53 h
  rw [c0] at hlen
  match xs, hxl, cs, hlen with
  | [y0, y1], _, [v0, v1], _ =>
    have g0 := hf 0 _ rfl
    have g1 := hf 1 _ rfl
    simp [cc0, cc1] at g0 g1
    obtain ⟨a0, e0, _⟩ := DataW.trod_bool Try.underlying4 g0
    obtain ⟨a1, e1, _, b1⟩ := DataW.trod_int Try.underlying3 g1
    simp at e0 e1
    subst e0 e1
    exact ⟨⟨a0, a1⟩, rfl, ⟨bounds_i64 b1⟩⟩
def IsVl (_W : World) (v : Value) : Prop := ∃ (x : Vl), v = vlV x ∧ VlR x
set_option maxRecDepth 100000 in
theorem openVl {H : Type} {enc : TypeId × Value → H} {W : World} {r : Reach} {base : Nat} {v : Value} {d : DataW H} {p : List MemPlace}
    (hv : Value.okWide Try.prog W r base 53 v) (h : DataW.Trod enc Try.prog W 0 (fun _ => true) true 53 v d p) : IsVl W v := by
  have c0 : Try.prog.cellsOf 53 = 2 := by kernel_rfl
  have cc0 : Try.prog.cellsOf 4 = 1 := by kernel_rfl
  have cc1 : Try.prog.cellsOf 3 = 1 := by kernel_rfl
  obtain ⟨cs, rfl, _⟩ := okWide_struct Try.underlying53 hv
  obtain ⟨fuel, h⟩ := h
  obtain ⟨xs, n, rfl, hd, hlen, hxl, hf⟩ := DataW.trod_struct Try.underlying53 h
  rw [c0] at hlen
  have hcs : (Value.agg cs).cells.toList = cs.toList := rfl
  rw [hcs] at hlen hf
  obtain ⟨l⟩ := cs
  match xs, hxl, l, hlen with
  | [y0, y1], _, [v0, v1], _ =>
    have g0 := hf 0 _ rfl
    have g1 := hf 1 _ rfl
    simp [cc0, cc1] at g0 g1
    obtain ⟨a0, e0, _⟩ := DataW.trod_bool Try.underlying4 g0
    obtain ⟨a1, e1, _, b1⟩ := DataW.trod_int Try.underlying3 g1
    simp at e0 e1
    subst e0 e1
    exact ⟨⟨a0, a1⟩, rfl, ⟨bounds_i64 b1⟩⟩
def IsVls (W : World) (v : Value) : Prop := ∃ (x : List Vl), Reads W W.heap.size (vls x) v ∧ vlsR x
set_option maxRecDepth 100000 in
theorem openVls {H : Type} {enc : TypeId × Value → H} {W : World} {r : Reach} {base : Nat} {v : Value} {d : DataW H} {p : List MemPlace}
    (hv : Value.okWide Try.prog W r base 66 v) (h : DataW.Trod enc Try.prog W 0 (fun _ => true) true 66 v d p) : IsVls W v := by
  obtain ⟨a, len, cap, rfl⟩ := okWide_slice Try.underlying66 hv
  obtain ⟨z0, h0a, h0b, h0c⟩ := rd_open (sz := 2) (Q := VlR) (f := vlC) Try.underlying66 (by kernel_rfl) (by decide) (fun _ => rfl) (fun _ _ _ h => vl_cells h) h
  have r0 : Reads W W.heap.size (vls z0) (.slice a len cap) := by
    have := reads_row (T := 48) (f := vlD) (m := id) z0 h0a (fun y _ => vl_reads y)
    rwa [List.map_id] at this
  exact ⟨z0, r0, ⟨h0b, all_of_getD h0c⟩⟩
theorem szVls (w : World) (v : Value) (xs : List Vl) (left : Int) (h : Reads w w.heap.size (vls xs) v) (h0 : 0 ≤ left) (h1 : left ≤ 1048576) (hr : vlsR xs) :
    Calls Try.prog 62 #[v, .int .i64 left] w fun e w' => e = .returned (.int .i64 (szR left (vlsW xs))) ∧ Below w.heap.size w w' := by
  obtain ⟨a, c, e, _⟩ := h.shape
  subst e
  have hm := hr.1
  unfold maxLen at hm
  unfold vlsW
  clear h hr
  generalize xs.length = len at *
  have hw : IntKind.i64.wrap (left - (len : Int)) = left - (len : Int) := by rw [IntKind.wrap_i64]; omega
  by_cases h : left - (len : Int) < 0
  · rw [szR_neg (by omega)]
    go_enter Try.func62, Try.ntmps62
    go_wp2
    go_ret
    exact ⟨rfl, Below.refl _ _⟩
  · rw [szR_pos (by omega)]
    go_enter Try.func62, Try.ntmps62
    go_wp2
    go_ret
    exact ⟨by first | rfl | (exact ret_int (by omega)), Below.refl _ _⟩
set_option maxRecDepth 100000 in
set_option maxHeartbeats 4000000 in
theorem toVl (w : World) (x : Vl) : Calls Try.prog 27 #[vlV x] w fun e w' => e = .returned (vlV x) ∧ Below w.heap.size w w' := by
  unfold vlV
  go_enter Try.func27, Try.ntmps27
  go_wp2
  exact bodyPost_ret (v := .agg #[.bool x.r, .int .i64 x.n]) (by simp [results, Try.results27, go_sem]) rfl ⟨rfl, (((Below.refl _ _).alloc (Nat.le_refl _) _).alloc (by simp) _).alloc (by simp; omega) _⟩
theorem Try.infoVl : (Try.prog.info? 48).map (fun i => (i.zero, i.size, i.bytes)) = some (some (.agg #[.bool false, .int .i64 0]), 2, 16) := by kernel_rfl
theorem loadVl {w : World} {g : Nat} {a0 a1 : Value} (h : w.heap[g]? = some (.cells #[a0, a1] 48 (0, 0))) : (loadVar 48 ⟨g, 0, none⟩).run Try.prog w = .ok (.agg #[a0, a1]) w :=
  run_loadVar_row w g 48 48 #[a0, a1] (0, 0) _ h Try.underlying48 rfl (by kernel_rfl)
set_option maxRecDepth 100000 in
set_option maxHeartbeats 4000000 in
theorem toVls (w : World) (v : Value) (xs : List Vl) (h : Reads w w.heap.size (vls xs) v) (hg : vlsG xs) :
    Calls Try.prog 65 #[v] w fun e w' => ∃ v', e = .returned v' ∧ OwnD w' w.heap.size w'.heap.size (vls xs) v' ∧ Below w.heap.size w w' := by
  obtain ⟨hm, hgd⟩ := hg
  have HX : Hid (∀ wr, Below w.heap.size w wr → _) := hide (fun wr hb => val_at (h.at hb))
  have HG : Hid (∀ j, j < xs.length → VlG (xs.getD j default)) := hide (fun j hj => getD_mem hgd j hj)
  clear hgd
  obtain ⟨a, cap, rfl, _⟩ := val_at h
  have HD : Hid (∀ W hi v, OwnD W w.heap.size hi (.row 48 2 xs.length (upTo vlD [.bool false, .int .i64 0] xs xs.length)) v → OwnD W w.heap.size hi (vls xs) v) := hide (fun W hi v h => by unfold vls; rwa [upTo_all] at h)
  clear h
  obtain ⟨i0, hi, hz0, hz1, hz2⟩ := info_parts Try.infoVl
  generalize hn : xs.length = n at *
  go_enter Try.func65, Try.ntmps65
  go_wp2_with (at_make; refine wpList_make_full _ rfl _ _ 38 rfl w.heap.size 48 i0 (.agg #[.bool false, .int .i64 0]) 2 Try.underlying38 hi hz0 hz1 _ _ _ _ n rfl rfl rfl rfl (by rw [hz2]; omega) (by unfold maxLen; omega) (Nat.le_refl _) ?_; intro w1 ho1 hg1)
  have o1 : OwnD w1 w.heap.size w1.heap.size (.row 48 2 n (upTo vlD [.bool false, .int .i64 0] xs 0)) (.slice (some ⟨w.heap.size, 0, none⟩) n n) := ownD_made hn rfl (by decide) rfl ho1 (fun q hq => (World.ownsRow.lt ho1 q hq).2)
  have hl1 : w.heap.size < w1.heap.size := (World.ownsRow.lt ho1 _ rfl).2
  have b1 : Below w.heap.size w w1 := (Below.refl _ _).grown hg1 (Nat.le_refl _) (fun k hk => by cases hk)
  clear ho1 hg1 hi hz0 hz1 hz2
  go_loopw [4] (fun i wr => ∃ (j : Nat), j ≤ n ∧ i = .int .i64 (j : Int) ∧ Hid (OwnD wr w.heap.size wr.heap.size (.row 48 2 n (upTo vlD [.bool false, .int .i64 0] xs j)) (.slice (some ⟨w.heap.size, 0, none⟩) n n)) ∧ Hid (Below w.heap.size w wr) ∧ w.heap.size < wr.heap.size) (fun i _ => n - (intOf i).toNat)
  case atStart => exact ⟨0, Nat.zero_le _, rfl, hide o1, hide b1, hl1⟩
  case round =>
    clear o1 b1
    obtain ⟨j, hj, rfl, HO, HB, hlt0⟩ := hrel
    by_cases hlt : j < n
    · obtain ⟨a', cap', ea, _, _, hx⟩ := HX.out wr HB.out
      cases ea
      obtain ⟨b, o, rfl, _, hcell⟩ := hx (by omega)
      obtain ⟨e0, e1⟩ := hcell j hlt
      clear hcell hx
      have HL : Hid (xs.getD j default = xs.getD j default) := hide rfl
      generalize hx9 : xs.getD j default = x at *
      have OU : Hid (∀ W : World, OwnDL W W.heap.size W.heap.size (vlD (xs.getD j default)) [.bool x.r, .int .i64 x.n]) := hide (fun W => by rw [hx9]; exact OwnDL.val (OwnDL.val (ownDL_nil _ _ _)))
      clear hx9 HL
      go_wp2_with fail
      refine (toVl _ x).mono ?_
      rintro e w2 ⟨rfl, b2⟩
      have hs2 := b2.size
      replace HO := hide ((HO.out.below b2).up hs2)
      replace HB := hide (HB.out.trans (b2.mono HB.out.size))
      replace hlt0 : w.heap.size < w2.heap.size := by omega
      clear b2
      unfold vlV
      obtain ⟨hc, hf, ho2⟩ := OwnD.fill (f := vlD) (k := 2) (fun _ => rfl) rfl hn hlt HO.out (OU.out w2) (Nat.le_refl _) (Nat.le_of_lt hlt0) (Nat.le_refl _)
      obtain ⟨y0, d0⟩ := hc 0 (by omega)
      obtain ⟨y1, d1⟩ := hc 1 (by omega)
      rw [Nat.add_zero]  at d0
      have hb2 := setRow_below [.bool x.r, .int .i64 x.n] w2 (j * 2) HB.out (Nat.le_refl _)
      have hs9 : w2.heap.size = (setRow w2 w.heap.size (j * 2) [.bool x.r, .int .i64 x.n]).heap.size := by simp [setRow]
      rw [hs9] at ho2
      clear hs9
      simp only [setRow] at ho2 hb2
      replace HO := hide ho2
      have HB2 := hide hb2
      clear ho2 hb2 hc HB OU
      go_wp2
      exact ⟨⟨j + 1, by omega, by go_num, HO, HB2, by simp; omega⟩, by simp [intOf]; omega⟩
    · obtain rfl : j = n := by omega
      have HF := hide (HD.out _ _ _ HO.out)
      go_wp2
      go_ret
      exact ⟨_, rfl, HF.out, HB.out⟩
set_option maxRecDepth 100000 in
set_option maxHeartbeats 4000000 in
theorem eqVl (w : World) (x : Vl) : Calls Try.prog 25 #[vlV x, vlV x] w fun e w' => e = .returned (.bool true) ∧ Below w.heap.size w w' := by
  have n_r : (x.r != x.r) = false := by simp
  have n_n : (x.n != x.n) = false := by simp
  unfold vlV
  go_enter Try.func25, Try.ntmps25
  go_wp2
  go_ret
  exact ⟨rfl, ((Below.refl _ _).alloc (Nat.le_refl _) _).alloc (by simp) _⟩
set_option maxRecDepth 100000 in
set_option maxHeartbeats 4000000 in
theorem eqVls (w : World) (v1 v2 : Value) (xs : List Vl) (h1 : Reads w w.heap.size (vls xs) v1) (h2 : Reads w w.heap.size (vls xs) v2) (hg : vlsG xs) :
    Calls Try.prog 53 #[v1, v2] w fun e w' => e = .returned (.bool true) ∧ Below w.heap.size w w' := by
  obtain ⟨hm, hgd⟩ := hg
  have HX1 : Hid (∀ wr, Below w.heap.size w wr → _) := hide (fun wr hb => val_at (h1.at hb))
  have HX2 : Hid (∀ wr, Below w.heap.size w wr → _) := hide (fun wr hb => val_at (h2.at hb))
  have HG : Hid (∀ j, j < xs.length → VlG (xs.getD j default)) := hide (fun j hj => getD_mem hgd j hj)
  clear hgd
  obtain ⟨a1, cap1, rfl, _⟩ := val_at h1
  obtain ⟨a2, cap2, rfl, _⟩ := val_at h2
  clear h1 h2
  generalize hn : xs.length = n at *
  have hne : ((n : Int) != (n : Int)) = false := by simp
  go_enter Try.func53, Try.ntmps53
  go_wp2
  go_loopw [5] (fun i wr => ∃ j : Nat, j ≤ n ∧ i = .int .i64 (j : Int) ∧ Below w.heap.size w wr) (fun i _ => n - (intOf i).toNat)
  case atStart => exact ⟨0, Nat.zero_le _, rfl, Below.refl _ _⟩
  case round =>
    obtain ⟨j, hj, rfl, hb⟩ := hrel
    have HB := hide hb
    have hs := hb.size
    clear hb
    by_cases hlt : j < n
    · obtain ⟨a1', cap1', ea1, _, _, hx1⟩ := HX1.out wr HB.out
      cases ea1
      obtain ⟨b1, o1, rfl, hb1, hc1⟩ := hx1 (by omega)
      obtain ⟨a2', cap2', ea2, _, _, hx2⟩ := HX2.out wr HB.out
      cases ea2
      obtain ⟨b2, o2, rfl, hb2, hc2⟩ := hx2 (by omega)
      obtain ⟨e0, e1⟩ := hc1 j hlt
      obtain ⟨d0, d1⟩ := hc2 j hlt
      have HGj := hide (HG.out j hlt)
      clear hx1 hx2 hc1 hc2
      generalize xs.getD j default = p at *
      go_wp2
      go_cut [26] from 11 to 26 (fun s wq => s = .bool false ∧ Below w.heap.size w wq)
      case first =>
        go_region_with (go_at_call 25; refine (eqVl _ p).mono ?_; rintro e w1 ⟨rfl, b1⟩; have HB1 := hide (HB.out.trans (below_of_drew b1 |>.mono hs)); clear b1)
        all_goals (go_wp2_with fail; go_meet; exact ⟨rfl, HB1.out⟩)
      case rest =>
        obtain ⟨rfl, hB⟩ := hcut
        have HB2 := hide hB
        clear hB
        go_wp2
        exact ⟨⟨j + 1, hlt, by go_num, HB2.out⟩, by simp [intOf]; omega⟩
    · go_wp2
      go_ret
      exact ⟨rfl, HB.out⟩
def vlCnt (_x : Vl) : Nat := 2
def mkVl (k : Nat) (_x : Vl) : Vl := ⟨((((k : Nat) : Int)) % 3 == 0), ((k : Nat) : Int) + 1⟩
def mkVls : Nat → List Vl → List Vl
  | _, [] => []
  | k, x :: xs => mkVl k x :: mkVls (k + vlCnt x) xs
def cntVls (xs : List Vl) : Nat := tot vlCnt xs
theorem mkVls_len : ∀ (k : Nat) (xs : List Vl), (mkVls k xs).length = xs.length
  | _, [] => rfl
  | k, x :: xs => by simp [mkVls, mkVls_len _ xs]
theorem mkVls_get : ∀ (k : Nat) (xs : List Vl) (j : Nat), j < xs.length → (mkVls k xs).getD j default = mkVl (k + tot vlCnt (xs.take j)) (xs.getD j default)
  | k, [], j, h => by simp at h
  | k, x :: xs, 0, h => by simp [mkVls, tot]
  | k, x :: xs, j + 1, h => by
    rw [mkVls, List.getD_cons_succ, mkVls_get _ xs j (by simpa using h), List.getD_cons_succ]
    congr 1
    unfold tot
    rw [List.take_succ_cons, List.map_cons, List.sum_cons]; omega
theorem cntVls_le (xs : List Vl) : cntVls xs ≤ 8 * vlsW xs := tot_cnt0 vlCnt (fun _ => by unfold vlCnt; omega) xs
set_option maxRecDepth 100000 in
set_option maxHeartbeats 4000000 in
theorem mkVlsR (w : World) (b K : Nat) (m : Int) (hmK : m = (K : Int)) (v : Value) (xs : List Vl) (F : List Nat) (h : Owns w b (vls xs) v F) (hnd : F.Nodup) (hK : 0 < K) (hm : K + cntVls xs ≤ 100000000) :
    Calls Try.prog 54 #[v, .int .i64 m] w fun e w' => e = .returned (.int .i64 ((K + cntVls xs : Nat) : Int)) ∧ Owns w' b (vls (mkVls K xs)) v F ∧ Chg F w w' := by
  subst hmK
  have HCN : Hid (cntVls xs = tot vlCnt xs) := hide rfl
  rw [HCN.out] at hm
  have HST : Hid (Owns w b (.row 48 2 xs.length ((mixR vlD (mkVls K xs) xs 0).flatten)) v F) := hide (by rw [mixR_zero]; exact h)
  have HEN : Hid (∀ W, Owns W b (.row 48 2 xs.length ((mixR vlD (mkVls K xs) xs xs.length).flatten)) v F → Owns W b (vls (mkVls K xs)) v F) := hide (fun W h => by rw [mixR_end _ (mkVls_len K _)] at h; unfold vls; rw [mkVls_len]; exact h)
  have hML := mkVls_len K xs
  have HTS : Hid (∀ j, j < xs.length → tot vlCnt (xs.take (j + 1)) = tot vlCnt (xs.take j) + vlCnt (xs.getD j default)) := hide (fun j hj => tot_step _ xs j hj)
  have HTL : Hid (∀ j, tot vlCnt (xs.take j) ≤ tot vlCnt xs) := hide (tot_le _ xs)
  have HTE : Hid (tot vlCnt (xs.take xs.length) = tot vlCnt xs) := hide (by rw [List.take_length])
  have HG : Hid (∀ j, j < xs.length → (mixR vlD (mkVls K xs) xs j).getD j [] = vlD (xs.getD j default)) := hide (fun j hj => mixR_get _ hML hj)
  have HS : Hid (∀ j, j < xs.length → (mixR vlD (mkVls K xs) xs j).set j (vlD (mkVl (K + tot vlCnt (xs.take j)) (xs.getD j default))) = mixR vlD (mkVls K xs) xs (j + 1)) := hide (fun j hj => by rw [← mkVls_get K xs j hj]; exact mixR_step _ hML hj)
  have HA : Hid (∀ j, ∀ r ∈ mixR vlD (mkVls K xs) xs j, r.length = 2) := hide (fun j => mixR_all (f := vlD) (k := 2) (fun _ => rfl) _ _ j)
  have HLn : Hid (∀ j, j ≤ xs.length → (mixR vlD (mkVls K xs) xs j).length = xs.length) := hide (fun j hj => mixR_len _ hML hj)
  have hxl : xs.length ≤ tot vlCnt xs := tot_one _ (fun _ => by unfold vlCnt; omega) xs
  have hsl := h.slice
  clear h hML
  rw [HCN.out]
  generalize hn : xs.length = n at *
  rcases hsl with ⟨rfl, rfl⟩ | ⟨g, c, rfl⟩
  · have hx0 : xs = [] := List.eq_nil_of_length_eq_zero hn
    have HX0 : Hid (tot vlCnt xs = 0) := hide (by rw [hx0]; rfl)
    go_enter Try.func54, Try.ntmps54
    go_wp2
    go_loopw [1, 5] (fun q i wr => q = .int .i64 (K : Int) ∧ i = .int .i64 0 ∧ wr = w) (fun _ _ _ => 0)
    case atStart => exact ⟨rfl, rfl, rfl⟩
    case round =>
      obtain ⟨rfl, rfl, rfl⟩ := hrel
      go_wp2
      go_ret
      exact ⟨by rw [HX0.out]; rfl, HEN.out _ HST.out, Chg.refl _ _⟩
  · go_enter Try.func54, Try.ntmps54
    go_wp2
    go_loopw [1, 5] (fun q i wr => ∃ j : Nat, j ≤ n ∧ q = .int .i64 ((K + tot vlCnt (xs.take j) : Nat) : Int) ∧ i = .int .i64 (j : Int) ∧ Hid (Owns wr b (.row 48 2 n ((mixR vlD (mkVls K xs) xs j).flatten)) (.slice (some ⟨g, 0, none⟩) n c) F) ∧ Hid (Chg F w wr)) (fun _ i _ => n - (intOf i).toNat)
    case atStart => exact ⟨0, Nat.zero_le _, by simp [tot], rfl, HST, hide (Chg.refl _ _)⟩
    case round =>
      clear HST
      obtain ⟨j, hj, rfl, rfl, HO, HC⟩ := hrel
      by_cases hlt : j < n
      · have hcap : n ≤ c := by
          have := HO.out
          unfold Owns at this
          obtain ⟨us, G, h2, _⟩ := this
          obtain ⟨_, a, cap, e, h3, _⟩ := rd_own h2 (Nat.le_refl _)
          cases e
          exact h3
        obtain ⟨q, hq⟩ : ∃ q, K + tot vlCnt (xs.take j) = q := ⟨_, rfl⟩
        have hq0 : 0 < q := by omega
        have hts := HTS.out j hlt
        have htl := HTL.out (j + 1)
        have HA1 := hide (HA.out j)
        have HL1 := hide (HLn.out j hj)
        have HG1 := HG.out j hlt
        have HS1 := HS.out j hlt
        obtain ⟨x, hx⟩ : ∃ x, xs.getD j default = x := ⟨_, rfl⟩
        rw [hx] at HG1 HS1 hts
        have hcm : vlCnt x = 2 := rfl
        have hqm : q + (2) ≤ 100000000 := by omega
        rw [hq] at HS1 ⊢
        have HG2 := hide HG1
        have HS2 := hide HS1
        have HQ := hide hq
        clear hx hq HG1 HS1
        obtain ⟨rs, hrs⟩ : ∃ rs, mixR vlD (mkVls K xs) xs j = rs := ⟨_, rfl⟩
        rw [hrs] at HO HA1 HL1 HG2 HS2
        clear hrs
        have h0 : ∀ i, i < 2 → rs.flatten[j * 2 + i]? = (vlD x)[i]? := fun i hi => by rw [rows_get rs j i HA1.out (by have := HL1.out; omega) hi, HG2.out]
        obtain ⟨d0, z0, hgF, ho⟩ := HO.out.cell hnd (i := j * 2) (z := .bool x.r) (by rw [show j * 2 = j * 2 + 0 from rfl, h0 0 (by omega)]; rfl) (.bool ((q : Int) % 3 == 0))
        replace HO := hide ho
        replace HC := hide (HC.out.set hgF (j * 2) (.bool ((q : Int) % 3 == 0)))
        clear ho
        obtain ⟨d1, z1, hgF, ho⟩ := HO.out.cell hnd (i := j * 2 + 1) (z := .int .i64 x.n) (by rw [List.getElem?_set_ne (by omega), h0 1 (by omega)]; rfl) (.int .i64 ((q : Int) + 1))
        replace HO := hide ho
        replace HC := hide (HC.out.set hgF (j * 2 + 1) (.int .i64 ((q : Int) + 1)))
        clear ho
        have HZ : Hid (((rs.flatten.set (j * 2) (.val (.bool ((q : Int) % 3 == 0)))).set (j * 2 + 1) (.val (.int .i64 ((q : Int) + 1)))) = (rs.set j (vlD (mkVl q x))).flatten) := hide (by
          have hl := HL1.out
          have hlen : ∀ (rs' : List (List Dt)) (r : List Dt), (∀ r ∈ rs', r.length = 2) → r.length = 2 → ∀ r' ∈ rs'.set j r, r'.length = 2 := fun rs' r h1 h2 r' hr => by
            rcases List.mem_or_eq_of_mem_set hr with h | h
            · exact h1 r' h
            · rw [h]; exact h2
          rw [show j * 2 = j * 2 + 0 from rfl]
          rw [rows_set rs j 0 _ HA1.out (by omega) (by omega), HG2.out]
          rw [rows_set _ j 1 _ (hlen _ _ HA1.out rfl) (by rw [List.length_set]; omega) (by omega), List.getD_eq_getElem?_getD, List.getElem?_set_self (by omega), Option.getD_some, List.set_set]
          unfold vlD mkVl
          rfl)
        rw [HZ.out, HS2.out] at HO
        go_wp2
        exact ⟨⟨j + 1, by omega, by have hh := HQ.out; congr 1; omega, by go_num, HO, HC⟩, by simp [intOf]; omega⟩
      · obtain rfl : j = n := by omega
        have HF := hide (HEN.out _ HO.out)
        go_wp2
        go_ret
        exact ⟨by rw [HTE.out]; rfl, HF.out, HC.out⟩
theorem mkVlsI (w : World) (b hi K : Nat) (m : Int) (hmK : m = (K : Int)) (v : Value) (xs : List Vl) (h : OwnD w b hi (vls xs) v) (hK : 0 < K) (hm : K + cntVls xs ≤ 100000000) :
    Calls Try.prog 54 #[v, .int .i64 m] w fun e w' => e = .returned (.int .i64 ((K + cntVls xs : Nat) : Int)) ∧ OwnD w' b hi (vls (mkVls K xs)) v ∧ ChgI b hi w w' := by
  obtain ⟨F, h1, h2, h3⟩ := h
  have hl := Owns.lt _ _ _ h1
  refine (mkVlsR w b K m hmK v xs F h1 h2 hK hm).mono ?_
  rintro e w1 ⟨rfl, o1, c1⟩
  exact ⟨rfl, ⟨F, o1, h2, h3⟩, c1.int (fun q hq => ⟨(hl q hq).1, h3 q hq⟩)⟩
set_option maxRecDepth 100000 in
set_option maxHeartbeats 8000000 in
theorem heldVlsR (w : World) (K : Nat) (m : Int) (hmK : m = (K : Int)) (v : Value) (xs : List Vl) (h : Reads w w.heap.size (vls (mkVls K xs)) v) (hK : 0 < K) (hm : K + cntVls xs ≤ 100000000) :
    Calls Try.prog 55 #[v, .int .i64 m] w fun e w' => e = .returned (.int .i64 ((K + cntVls xs : Nat) : Int)) ∧ Below w.heap.size w w' := by
  subst hmK
  have HCN : Hid (cntVls xs = tot vlCnt xs) := hide rfl
  rw [HCN.out] at hm ⊢
  have HX : Hid (∀ wr, Below w.heap.size w wr → _) := hide (fun wr hb => val_at (h.at hb))
  have HTS : Hid (∀ j, j < xs.length → tot vlCnt (xs.take (j + 1)) = tot vlCnt (xs.take j) + vlCnt (xs.getD j default)) := hide (fun j hj => tot_step _ xs j hj)
  have HTL : Hid (∀ j, tot vlCnt (xs.take j) ≤ tot vlCnt xs) := hide (fun j => tot_le _ xs j)
  have HGt : Hid (∀ j, j < xs.length → (mkVls K xs).getD j default = mkVl (K + tot vlCnt (xs.take j)) (xs.getD j default)) := hide (fun j hj => mkVls_get K xs j hj)
  have HTE : Hid (tot vlCnt (xs.take xs.length) = tot vlCnt xs) := hide (by rw [List.take_length])
  have HLe := hide (mkVls_len K xs)
  have hmx : xs.length ≤ tot vlCnt xs := tot_one _ (fun _ => by unfold vlCnt; omega) xs
  obtain ⟨a, cap, rfl, hlc, _⟩ := val_at h
  rw [mkVls_len] at hlc ⊢
  clear h
  obtain ⟨n, hn⟩ : ∃ n, xs.length = n := ⟨_, rfl⟩
  rw [hn] at hlc hmx ⊢
  have HLn := hide hn
  clear hn
  go_enter Try.func55, Try.ntmps55
  go_wp2
  go_loopw [1, 5] (fun q i wr => ∃ j : Nat, j ≤ n ∧ q = .int .i64 ((K + tot vlCnt (xs.take j) : Nat) : Int) ∧ i = .int .i64 (j : Int) ∧ Hid (Below w.heap.size w wr)) (fun _ i _ => n - (intOf i).toNat)
  case atStart => exact ⟨0, Nat.zero_le _, by simp [tot], rfl, hide (Below.refl _ _)⟩
  case round =>
    obtain ⟨j, hj, rfl, rfl, HB⟩ := hrel
    by_cases hlt : j < n
    · have hlt' : j < xs.length := by have := HLn.out; omega
      have hts := HTS.out j hlt'
      have htl := HTL.out (j + 1)
      have hgt := HGt.out j hlt'
      obtain ⟨q, hq⟩ : ∃ q, K + tot vlCnt (xs.take j) = q := ⟨_, rfl⟩
      obtain ⟨y, hy⟩ : ∃ y, xs.getD j default = y := ⟨_, rfl⟩
      rw [hy] at hts hgt
      rw [hq] at hgt ⊢
      have hcm : vlCnt y = 2 := rfl
      have hq0 : 0 < q := by omega
      have hqm : q + (2) ≤ 100000000 := by omega
      have HEND : Hid (K + tot vlCnt (xs.take (j + 1)) = q + (2)) := hide (by omega)
      obtain ⟨b, o, ha, hbb, f0, f1⟩ : ∃ b o, a = some ⟨b, o, none⟩ ∧ b < wr.heap.size ∧ wr.cell? ⟨b, o + j * 2, none⟩ = some (.bool (((((q : Nat) : Int)) % 3 == 0))) ∧ wr.cell? ⟨b, o + j * 2 + 1, none⟩ = some (.int .i64 (((q : Nat) : Int) + 1)) := by
        obtain ⟨a', cap', e, _, _, hx⟩ := HX.out wr HB.out
        cases e
        obtain ⟨b, o, e, hb, hc⟩ := hx (by rw [HLe.out]; omega)
        obtain ⟨c0, c1⟩ := hc j (by rw [HLe.out]; exact hlt')
        rw [hgt] at c0 c1
        exact ⟨b, o, e, hb, c0, c1⟩
      subst ha
      have HD : Hid (∀ wq, Below wr.heap.size wr wq → wq.cell? ⟨b, o + j * 2, none⟩ = some (.bool (((((q : Nat) : Int)) % 3 == 0))) ∧ wq.cell? ⟨b, o + j * 2 + 1, none⟩ = some (.int .i64 (((q : Nat) : Int) + 1))) := hide (fun wq hb =>
        ⟨(hb.cell (p := ⟨b, o + j * 2, none⟩) hbb).trans f0, (hb.cell (p := ⟨b, o + j * 2 + 1, none⟩) hbb).trans f1⟩)
      have HR := hide (Below.refl wr.heap.size wr)
      have HQ := hide hq
      clear hq f0 f1 hts htl hgt hcm
      have d0 := (HD.out wr HR.out).1
      have n0 : ((((((q : Nat) : Int)) % 3 == 0)) != (((((q : Nat) : Int)) % 3 == 0))) = false := by simp
      have d1 := (HD.out wr HR.out).2
      have n1 : ((((q : Nat) : Int) + 1) != (((q : Nat) : Int) + 1)) = false := by simp
      have HRZ := hide (HB.out.trans (HR.out.mono HB.out.size))
      go_wp2
      exact ⟨⟨j + 1, hlt, by rw [HEND.out]; exact congrArg (Value.int .i64) (by omega), by go_num, HRZ⟩, by simp [intOf]; omega⟩
    · obtain rfl : j = n := by omega
      have HE9 : Hid (K + tot vlCnt (xs.take j) = K + tot vlCnt xs) := hide (by rw [← HLn.out, HTE.out])
      go_wp2
      go_ret
      exact ⟨by rw [HE9.out]; rfl, HB.out⟩
end Go.Proofs.Ytofnpgheppgcaaa
/-
  Copies as data.
-/
namespace Go.Proofs.Ytofnpgheppgcaaa
open Go.ChangeShapes Go.WideShapes Go.RowKit

structure Cpy where
  i : Int
  c : Int
  n : Int
  v : Bool
  f : List Vl
  t : List Vl
instance : Inhabited Cpy := ⟨⟨0, 0, 0, false, [], []⟩⟩
def cpyD (x : Cpy) : List Dt := [.val (.int .i64 x.i), .val (.int .i64 x.c), .val (.int .i64 x.n), .val (.bool x.v), vls x.f, vls x.t]
def cpyV (x : Cpy) (u1 u2 : Value) : Value := .agg #[.int .i64 x.i, .int .i64 x.c, .int .i64 x.n, .bool x.v, u1, u2]
def cpys (xs : List Cpy) : Dt := .row 40 6 xs.length (xs.flatMap cpyD)
theorem copy_at {w : World} {B : Nat} {v : Value} {xs : List Cpy} (h : Reads w B (cpys xs) v) :
    ∃ a cap, v = .slice a xs.length cap ∧ xs.length ≤ cap ∧ (a = none → cap = 0) ∧ (0 < xs.length → ∃ b o, a = some ⟨b, o, none⟩ ∧ b < B ∧ ∀ j, j < xs.length → ∃ pv1, ∃ pv2, w.cell? ⟨b, o + j * 6, none⟩ = some (.int .i64 (xs.getD j default).i) ∧ w.cell? ⟨b, o + j * 6 + 1, none⟩ = some (.int .i64 (xs.getD j default).c) ∧ w.cell? ⟨b, o + j * 6 + 2, none⟩ = some (.int .i64 (xs.getD j default).n) ∧ w.cell? ⟨b, o + j * 6 + 3, none⟩ = some (.bool (xs.getD j default).v) ∧ w.cell? ⟨b, o + j * 6 + 4, none⟩ = some (pv1) ∧ w.cell? ⟨b, o + j * 6 + 5, none⟩ = some (pv2) ∧ Reads w B (vls (xs.getD j default).f) pv1 ∧ Reads w B (vls (xs.getD j default).t) pv2) := by
  obtain ⟨a, cap, rfl, h1, h2, h3⟩ := row_at (f := cpyD) (k := 6) (fun _ => rfl) rfl h
  refine ⟨a, cap, rfl, h1, h2, fun hp => ?_⟩
  obtain ⟨b, o, rfl, hb, hc⟩ := h3 hp
  refine ⟨b, o, rfl, hb, fun j hj => ?_⟩
  obtain ⟨vs, h4, h5⟩ := hc j hj
  obtain ⟨u0, vs0, rfl, q0, h4⟩ := readsL_cons h4
  obtain ⟨u1, vs1, rfl, q1, h4⟩ := readsL_cons h4
  obtain ⟨u2, vs2, rfl, q2, h4⟩ := readsL_cons h4
  obtain ⟨u3, vs3, rfl, q3, h4⟩ := readsL_cons h4
  obtain ⟨u4, vs4, rfl, q4, h4⟩ := readsL_cons h4
  obtain ⟨u5, vs5, rfl, q5, h4⟩ := readsL_cons h4
  obtain rfl := readsL_nil h4
  obtain rfl := reads_val q0
  obtain rfl := reads_val q1
  obtain rfl := reads_val q2
  obtain rfl := reads_val q3
  have c0 := h5 0 (by omega)
  have c1 := h5 1 (by omega)
  have c2 := h5 2 (by omega)
  have c3 := h5 3 (by omega)
  have c4 := h5 4 (by omega)
  have c5 := h5 5 (by omega)
  rw [Nat.add_zero] at c0
  exact ⟨u4, u5, c0, c1, c2, c3, c4, c5, q4, q5⟩
structure CpyR (x : Cpy) : Prop where
  i : -9223372036854775808 ≤ x.i ∧ x.i ≤ 9223372036854775807
  c : -9223372036854775808 ≤ x.c ∧ x.c ≤ 9223372036854775807
  n : -9223372036854775808 ≤ x.n ∧ x.n ≤ 9223372036854775807
  f : vlsR x.f
  t : vlsR x.t
def cpyW (x : Cpy) : Nat := vlsW x.f + vlsW x.t
structure CpyG (x : Cpy) : Prop where
  i : -9223372036854775808 ≤ x.i ∧ x.i ≤ 9223372036854775807
  c : -9223372036854775808 ≤ x.c ∧ x.c ≤ 9223372036854775807
  n : -9223372036854775808 ≤ x.n ∧ x.n ≤ 9223372036854775807
  f : vlsG x.f
  t : vlsG x.t
theorem cpyG_of {x : Cpy} (hr : CpyR x) (hw : cpyW x ≤ 1048576) : CpyG x := by
  unfold cpyW at hw
  exact ⟨hr.i, hr.c, hr.n, vlsG_of hr.f (by omega), vlsG_of hr.t (by omega)⟩
def cpysR (xs : List Cpy) : Prop := xs.length ≤ maxLen ∧ ∀ y ∈ xs, CpyR y
def cpysW (xs : List Cpy) : Nat := xs.length + tot cpyW xs
def cpysG (xs : List Cpy) : Prop := xs.length ≤ 1048576 ∧ ∀ y ∈ xs, CpyG y
theorem cpysG_of {xs : List Cpy} (hr : cpysR xs) (hw : cpysW xs ≤ 1048576) : cpysG xs := by
  unfold cpysW at hw
  exact ⟨by omega, fun y hy => cpyG_of (hr.2 y hy) (by have := tot_mem cpyW hy; omega)⟩
theorem cpyD_own {w : World} {b hi : Nat} {x : Cpy} {u1 u2 : Value} (h : OwnDL w b hi (cpyD x) [.int .i64 x.i, .int .i64 x.c, .int .i64 x.n, .bool x.v, u1, u2]) : Reads w w.heap.size (vls x.f) u1 ∧ Reads w w.heap.size (vls x.t) u2 := by
  have h := h.rd (Nat.le_refl _)
  obtain ⟨_, _, e, _, h⟩ := readsL_cons h
  cases e
  obtain ⟨_, _, e, _, h⟩ := readsL_cons h
  cases e
  obtain ⟨_, _, e, _, h⟩ := readsL_cons h
  cases e
  obtain ⟨_, _, e, _, h⟩ := readsL_cons h
  cases e
  obtain ⟨_, _, e, h1, h⟩ := readsL_cons h
  cases e
  obtain ⟨_, _, e, h2, h⟩ := readsL_cons h
  cases e
  exact ⟨h1, h2⟩
def cpyC (x : Cpy × Value × Value) : List Value := [.int .i64 x.1.i, .int .i64 x.1.c, .int .i64 x.1.n, .bool x.1.v, x.2.1, x.2.2]
def CpyQ (W : World) (y : Cpy × Value × Value) : Prop := ReadsL W W.heap.size (cpyD y.1) (cpyC y) ∧ CpyR y.1
set_option maxRecDepth 100000 in
theorem cpy_cells {H : Type} {enc : TypeId × Value → H} {W : World} {fuel : Nat} {cs : List Value} {x : DataW H × List MemPlace}
    (h : DataW.trod enc Try.prog W 0 (fun _ => true) true fuel 68 cs = some x) : ∃ y, cs = cpyC y ∧ CpyQ W y := by
  have c0 : Try.prog.cellsOf 68 = 6 := by kernel_rfl
  have cc0 : Try.prog.cellsOf 3 = 1 := by kernel_rfl
  have cc1 : Try.prog.cellsOf 4 = 1 := by kernel_rfl
  have cc2 : Try.prog.cellsOf 66 = 1 := by kernel_rfl
  obtain ⟨xs, n, rfl, rfl, hlen, hxl, hf⟩ := DataW.trod_struct Try.underlying68 h
  rw [c0] at hlen
  match xs, hxl, cs, hlen with
  | [y0, y1, y2, y3, y4, y5], _, [v0, v1, v2, v3, v4, v5], _ =>
    have g0 := hf 0 _ rfl
    have g1 := hf 1 _ rfl
    have g2 := hf 2 _ rfl
    have g3 := hf 3 _ rfl
    have g4 := hf 4 _ rfl
    have g5 := hf 5 _ rfl
    simp [cc0, cc1, cc2] at g0 g1 g2 g3 g4 g5
    obtain ⟨a0, e0, _, b0⟩ := DataW.trod_int Try.underlying3 g0
    obtain ⟨a1, e1, _, b1⟩ := DataW.trod_int Try.underlying3 g1
    obtain ⟨a2, e2, _, b2⟩ := DataW.trod_int Try.underlying3 g2
    obtain ⟨a3, e3, _⟩ := DataW.trod_bool Try.underlying4 g3
    simp at e0 e1 e2 e3
    subst e0 e1 e2 e3
    obtain ⟨z4, h4a, h4b, h4c⟩ := rd_open (sz := 2) (Q := VlR) (f := vlC) Try.underlying66 (by kernel_rfl) (by decide) (fun _ => rfl) (fun _ _ _ h => vl_cells h) ⟨_, g4⟩
    have r4 : Reads W W.heap.size (vls z4) v4 := by
      have := reads_row (T := 48) (f := vlD) (m := id) z4 h4a (fun y _ => vl_reads y)
      rwa [List.map_id] at this
    obtain ⟨z5, h5a, h5b, h5c⟩ := rd_open (sz := 2) (Q := VlR) (f := vlC) Try.underlying66 (by kernel_rfl) (by decide) (fun _ => rfl) (fun _ _ _ h => vl_cells h) ⟨_, g5⟩
    have r5 : Reads W W.heap.size (vls z5) v5 := by
      have := reads_row (T := 48) (f := vlD) (m := id) z5 h5a (fun y _ => vl_reads y)
      rwa [List.map_id] at this
    exact ⟨(⟨a0, a1, a2, a3, z4, z5⟩, v4, v5), rfl, readsL_mk reads_val' (readsL_mk reads_val' (readsL_mk reads_val' (readsL_mk reads_val' (readsL_mk r4 (readsL_mk r5 (readsL_none)))))), ⟨bounds_i64 b0, bounds_i64 b1, bounds_i64 b2, ⟨h4b, all_of_getD h4c⟩, ⟨h5b, all_of_getD h5c⟩⟩⟩
def IsCpy (W : World) (v : Value) : Prop := ∃ (x : Cpy) (u1 u2 : Value), v = cpyV x u1 u2 ∧ Reads W W.heap.size (vls x.f) u1 ∧ Reads W W.heap.size (vls x.t) u2 ∧ CpyR x
set_option maxRecDepth 100000 in
theorem openCpy {H : Type} {enc : TypeId × Value → H} {W : World} {r : Reach} {base : Nat} {v : Value} {d : DataW H} {p : List MemPlace}
    (hv : Value.okWide Try.prog W r base 68 v) (h : DataW.Trod enc Try.prog W 0 (fun _ => true) true 68 v d p) : IsCpy W v := by
  have c0 : Try.prog.cellsOf 68 = 6 := by kernel_rfl
  have cc0 : Try.prog.cellsOf 3 = 1 := by kernel_rfl
  have cc1 : Try.prog.cellsOf 4 = 1 := by kernel_rfl
  have cc2 : Try.prog.cellsOf 66 = 1 := by kernel_rfl
  obtain ⟨cs, rfl, _⟩ := okWide_struct Try.underlying68 hv
  obtain ⟨fuel, h⟩ := h
  obtain ⟨xs, n, rfl, hd, hlen, hxl, hf⟩ := DataW.trod_struct Try.underlying68 h
  rw [c0] at hlen
  have hcs : (Value.agg cs).cells.toList = cs.toList := rfl
  rw [hcs] at hlen hf
  obtain ⟨l⟩ := cs
  match xs, hxl, l, hlen with
  | [y0, y1, y2, y3, y4, y5], _, [v0, v1, v2, v3, v4, v5], _ =>
    have g0 := hf 0 _ rfl
    have g1 := hf 1 _ rfl
    have g2 := hf 2 _ rfl
    have g3 := hf 3 _ rfl
    have g4 := hf 4 _ rfl
    have g5 := hf 5 _ rfl
    simp [cc0, cc1, cc2] at g0 g1 g2 g3 g4 g5
    obtain ⟨a0, e0, _, b0⟩ := DataW.trod_int Try.underlying3 g0
    obtain ⟨a1, e1, _, b1⟩ := DataW.trod_int Try.underlying3 g1
    obtain ⟨a2, e2, _, b2⟩ := DataW.trod_int Try.underlying3 g2
    obtain ⟨a3, e3, _⟩ := DataW.trod_bool Try.underlying4 g3
    simp at e0 e1 e2 e3
    subst e0 e1 e2 e3
    obtain ⟨z4, h4a, h4b, h4c⟩ := rd_open (sz := 2) (Q := VlR) (f := vlC) Try.underlying66 (by kernel_rfl) (by decide) (fun _ => rfl) (fun _ _ _ h => vl_cells h) ⟨_, g4⟩
    have r4 : Reads W W.heap.size (vls z4) v4 := by
      have := reads_row (T := 48) (f := vlD) (m := id) z4 h4a (fun y _ => vl_reads y)
      rwa [List.map_id] at this
    obtain ⟨z5, h5a, h5b, h5c⟩ := rd_open (sz := 2) (Q := VlR) (f := vlC) Try.underlying66 (by kernel_rfl) (by decide) (fun _ => rfl) (fun _ _ _ h => vl_cells h) ⟨_, g5⟩
    have r5 : Reads W W.heap.size (vls z5) v5 := by
      have := reads_row (T := 48) (f := vlD) (m := id) z5 h5a (fun y _ => vl_reads y)
      rwa [List.map_id] at this
    exact ⟨⟨a0, a1, a2, a3, z4, z5⟩, v4, v5, rfl, r4, r5, ⟨bounds_i64 b0, bounds_i64 b1, bounds_i64 b2, ⟨h4b, all_of_getD h4c⟩, ⟨h5b, all_of_getD h5c⟩⟩⟩
def IsCpys (W : World) (v : Value) : Prop := ∃ (x : List Cpy), Reads W W.heap.size (cpys x) v ∧ cpysR x
set_option maxRecDepth 100000 in
theorem openCpys {H : Type} {enc : TypeId × Value → H} {W : World} {r : Reach} {base : Nat} {v : Value} {d : DataW H} {p : List MemPlace}
    (hv : Value.okWide Try.prog W r base 25 v) (h : DataW.Trod enc Try.prog W 0 (fun _ => true) true 25 v d p) : IsCpys W v := by
  obtain ⟨a, len, cap, rfl⟩ := okWide_slice Try.underlying25 hv
  obtain ⟨z0, h0a, h0b, h0c⟩ := rd_open (sz := 6) (Q := CpyQ W) (f := cpyC) Try.underlying25 (by kernel_rfl) (by decide) (fun _ => rfl) (fun _ _ _ h => cpy_cells h) h
  have q0 := all_of_getD h0c
  have r0 : Reads W W.heap.size (cpys (z0.map Prod.fst)) (.slice a len cap) := reads_row (T := 40) (f := cpyD) (m := Prod.fst) z0 h0a (fun y hy => (q0 y hy).1)
  exact ⟨z0.map Prod.fst, r0, ⟨by simpa using h0b, fun y hy => by
    obtain ⟨x, hx, rfl⟩ := List.mem_map.1 hy
    exact (q0 x hx).2⟩⟩
set_option maxRecDepth 100000 in
set_option maxHeartbeats 4000000 in
theorem szCpy (w : World) (x : Cpy) (v1 v2 : Value) (left : Int) (h1 : Reads w w.heap.size (vls x.f) v1) (h2 : Reads w w.heap.size (vls x.t) v2) (h0 : 0 ≤ left) (h9 : left ≤ 1048576) (hr : CpyR x) :
    Calls Try.prog 38 #[cpyV x v1 v2, .int .i64 left] w fun e w' => e = .returned (.int .i64 (szR left (cpyW x))) ∧ Below w.heap.size w w' := by
  obtain ⟨a1, c1, e1, _⟩ := h1.shape
  obtain ⟨a2, c2, e2, _⟩ := h2.shape
  subst e1 e2
  have b0 := (Below.refl w.heap.size w).alloc (Nat.le_refl _) (.cells #[.int .i64 x.i, .int .i64 x.c, .int .i64 x.n, .bool x.v, .slice a1 x.f.length c1, .slice a2 x.t.length c2] 68)
  have H1 := hide (h1.at b0)
  have H2 := hide (h2.at b0)
  have HB := hide b0
  have HX := hide (Box.new w #[.int .i64 x.i, .int .i64 x.c, .int .i64 x.n, .bool x.v, .slice a1 x.f.length c1, .slice a2 x.t.length c2] 68)
  have hgs : Hid (w.heap.size < (w.alloc (.cells #[.int .i64 x.i, .int .i64 x.c, .int .i64 x.n, .bool x.v, .slice a1 x.f.length c1, .slice a2 x.t.length c2] 68)).heap.size) := hide (by simp)
  have K1 := hide hr.f
  have K2 := hide hr.t
  obtain ⟨t1, ht1⟩ : ∃ t, vlsW x.f = t := ⟨_, rfl⟩
  obtain ⟨t2, ht2⟩ : ∃ t, vlsW x.t = t := ⟨_, rfl⟩
  obtain ⟨R, hR⟩ : ∃ R, szR left (cpyW x) = R := ⟨_, rfl⟩
  rw [hR]
  unfold cpyW at hR
  rw [ht1, ht2] at hR
  have HT1 := hide ht1
  have HT2 := hide ht2
  have HR := hide hR
  clear hR hr b0 h1 ht1 h2 ht2
  unfold cpyV
  go_enter Try.func38, Try.ntmps38
  go_wp2_with fail
  generalize w.alloc (.cells #[.int .i64 x.i, .int .i64 x.c, .int .i64 x.n, .bool x.v, .slice a1 x.f.length c1, .slice a2 x.t.length c2] 68) = W at *
  refine (szVls _ _ x.f _ H1.out (by omega) (by omega) K1.out).mono ?_
  rintro e w1 ⟨rfl, b1⟩
  rw [HT1.out]
  by_cases g1 : left < (t1 : Int)
  · rw [szR_neg g1]
    replace HB := hide (HB.out.trans (b1.mono HB.out.size))
    clear b1
    go_wp2
    go_ret
    exact ⟨ret_int (by rw [← HR.out, szR_neg (by omega)]), HB.out⟩
  · rw [szR_pos g1]
    have g1' : ¬ left - (t1 : Int) < 0 := by omega
    replace HX := hide (HX.out.below hgs.out b1)
    replace hgs := hide (Nat.lt_of_lt_of_le hgs.out b1.size)
    replace H2 := hide (H2.out.at b1)
    replace HB := hide (HB.out.trans (b1.mono HB.out.size))
    clear b1
    have q0 := HX.out 0 _ rfl
    have q1 := HX.out 1 _ rfl
    have q2 := HX.out 2 _ rfl
    have q3 := HX.out 3 _ rfl
    have q4 := HX.out 4 _ rfl
    have q5 := HX.out 5 _ rfl
    go_wp2_with fail
    clear q0 q1 q2 q3 q4 q5
    refine (szVls _ _ x.t _ H2.out (by omega) (by omega) K2.out).mono ?_
    rintro e w2 ⟨rfl, b2⟩
    rw [HT2.out]
    by_cases g2 : left - (t1 : Int) < (t2 : Int)
    · rw [szR_neg g2]
      replace HB := hide (HB.out.trans (b2.mono HB.out.size))
      clear b2
      go_wp2
      go_ret
      exact ⟨ret_int (by rw [← HR.out, szR_neg (by omega)]), HB.out⟩
    · rw [szR_pos g2]
      have g2' : ¬ left - (t1 : Int) - (t2 : Int) < 0 := by omega
      replace HX := hide (HX.out.below hgs.out b2)
      replace hgs := hide (Nat.lt_of_lt_of_le hgs.out b2.size)
      replace HB := hide (HB.out.trans (b2.mono HB.out.size))
      clear b2
      go_wp2
      go_ret
      exact ⟨ret_int (by rw [← HR.out, szR_pos (by omega)] <;> omega), HB.out⟩
set_option maxRecDepth 100000 in
set_option maxHeartbeats 4000000 in
theorem szCpys (w : World) (v : Value) (xs : List Cpy) (left : Int) (h : Reads w w.heap.size (cpys xs) v) (h0 : 0 ≤ left) (h1 : left ≤ 1048576) (hr : cpysR xs) :
    Calls Try.prog 10 #[v, .int .i64 left] w fun e w' => e = .returned (.int .i64 (szR left (cpysW xs))) ∧ Below w.heap.size w w' := by
  obtain ⟨hm, hx⟩ := hr
  unfold cpysW
  have HX : Hid (∀ wr, Below w.heap.size w wr → _) := hide (fun wr hb => copy_at (h.at hb))
  have HR : Hid (∀ j, j < xs.length → CpyR (xs.getD j default)) := hide (fun j hj => getD_mem hx j hj)
  have HS : Hid (∀ j, j < xs.length → tot cpyW (xs.take (j + 1)) = tot cpyW (xs.take j) + cpyW (xs.getD j default)) := hide (fun j hj => tot_step _ xs j hj)
  have HL : Hid (∀ j, tot cpyW (xs.take j) ≤ tot cpyW xs) := hide (tot_le _ xs)
  have HA : Hid (tot cpyW (xs.take xs.length) = tot cpyW xs) := hide (by rw [List.take_length])
  obtain ⟨a, cap, rfl, _⟩ := copy_at h
  clear h hx
  generalize hn : xs.length = n at *
  unfold maxLen at hm
  have hw : IntKind.i64.wrap (left - (n : Int)) = left - (n : Int) := by rw [IntKind.wrap_i64]; omega
  by_cases hbig : left - (n : Int) < 0
  · rw [szR_neg (by omega)]
    go_enter Try.func10, Try.ntmps10
    go_wp2
    go_ret
    exact ⟨rfl, Below.refl _ _⟩
  · go_enter Try.func10, Try.ntmps10
    go_wp2
    go_loopw [1, 5] (fun q i wr => ∃ j : Nat, j ≤ n ∧ q = .int .i64 (left - (n : Int) - (tot cpyW (xs.take j) : Int)) ∧ i = .int .i64 (j : Int) ∧ 0 ≤ left - (n : Int) - (tot cpyW (xs.take j) : Int) ∧ Hid (Below w.heap.size w wr)) (fun _ i _ => n - (intOf i).toNat)
    case atStart => exact ⟨0, Nat.zero_le _, by simp [tot], rfl, by simp [tot]; omega, hide (Below.refl _ _)⟩
    case round =>
      obtain ⟨j, hj, rfl, rfl, hq, HB⟩ := hrel
      by_cases hlt : j < n
      · obtain ⟨a', cap', ea, _, _, hc⟩ := HX.out wr HB.out
        cases ea
        obtain ⟨b, o, rfl, _, hcell⟩ := hc (by omega)
        obtain ⟨pv1, pv2, e0, e1, e2, e3, e4, e5, r1, r2⟩ := hcell j hlt
        have hz := hide (HR.out j hlt)
        have hs := HS.out j hlt
        have hle := HL.out (j + 1)
        clear hcell hc
        generalize xs.getD j default = x at *
        have HZ := hide (szCpy wr x pv1 pv2 _ r1 r2 hq (by omega) hz.out)
        generalize cpyW x = t at *
        have HE : Hid (left - (n : Int) - (tot cpyW (xs.take j) : Int) - (t : Int) = left - (n : Int) - (tot cpyW (xs.take (j + 1)) : Int)) := hide (by rw [hs]; omega)
        have HN : Hid (left - (n : Int) - (tot cpyW (xs.take (j + 1)) : Int) < 0 → szR left (n + tot cpyW xs) = -1) := hide (fun h => szR_neg (by omega))
        clear hs hle hz HS HL
        by_cases g : left - (n : Int) - (tot cpyW (xs.take j) : Int) < (t : Int)
        · rw [szR_neg g] at HZ
          go_wp2_with fail
          refine (unhide HZ).mono ?_
          rintro e w1 ⟨rfl, b1⟩
          replace HB := hide (HB.out.trans (b1.mono HB.out.size))
          clear b1
          go_wp2
          go_ret
          exact ⟨by rw [HN.out (by rw [← HE.out]; omega)]; rfl, HB.out⟩
        · rw [szR_pos g] at HZ
          have g' : ¬ left - (n : Int) - (tot cpyW (xs.take j) : Int) - (t : Int) < 0 := by omega
          go_wp2_with fail
          refine (unhide HZ).mono ?_
          rintro e w1 ⟨rfl, b1⟩
          replace HB := hide (HB.out.trans (b1.mono HB.out.size))
          clear b1
          go_wp2
          exact ⟨⟨j + 1, by omega, by first | rfl | (rw [HE.out]), by go_num, by rw [← HE.out]; omega, HB⟩, by simp [intOf]; omega⟩
      · obtain rfl : j = n := by omega
        have HF : Hid (szR left (j + tot cpyW xs) = left - (j : Int) - (tot cpyW (xs.take j) : Int)) := hide (by rw [szR_pos (by rw [← HA.out]; omega), ← HA.out]; omega)
        go_wp2
        go_ret
        exact ⟨by rw [HF.out]; rfl, HB.out⟩
theorem loadCpy {w : World} {g : Nat} {a0 a1 a2 a3 a4 a5 : Value} (h : w.heap[g]? = some (.cells #[a0, a1, a2, a3, a4, a5] 40 (0, 0))) : (loadVar 40 ⟨g, 0, none⟩).run Try.prog w = .ok (.agg #[a0, a1, a2, a3, a4, a5]) w :=
  run_loadVar_row w g 40 40 #[a0, a1, a2, a3, a4, a5] (0, 0) _ h Try.underlying40 rfl (by kernel_rfl)
set_option maxRecDepth 100000 in
set_option maxHeartbeats 4000000 in
theorem toCpy (w : World) (x : Cpy) (v1 v2 : Value) (h1 : Reads w w.heap.size (vls x.f) v1) (h2 : Reads w w.heap.size (vls x.t) v2) (hg : CpyG x) :
    Calls Try.prog 42 #[cpyV x v1 v2] w fun e w' => ∃ u1 u2, e = .returned (cpyV x u1 u2) ∧ OwnDL w' w.heap.size w'.heap.size (cpyD x) [.int .i64 x.i, .int .i64 x.c, .int .i64 x.n, .bool x.v, u1, u2] ∧ Below w.heap.size w w' := by
  obtain ⟨a1, c1, e1, _⟩ := h1.shape
  subst e1
  have H1 := hide h1
  clear h1
  obtain ⟨a2, c2, e2, _⟩ := h2.shape
  subst e2
  have H2 := hide h2
  clear h2
  unfold cpyV
  go_enter Try.func42, Try.ntmps42
  go_wp2_with fail
  have G0 := heap_alloc_new w (.cells #[.int .i64 x.i, .int .i64 x.c, .int .i64 x.n, .bool x.v, .slice a1 (x.f.length) c1, .slice a2 (x.t.length) c2] 68)
  have G1 := heap_alloc_new (w.alloc (.cells #[.int .i64 x.i, .int .i64 x.c, .int .i64 x.n, .bool x.v, .slice a1 (x.f.length) c1, .slice a2 (x.t.length) c2] 68)) (.cells #[.int .i64 0, .int .i64 0, .int .i64 0, .bool false, .slice none 0 0, .slice none 0 0] 40)
  have G2 := heap_alloc_new ((w.alloc (.cells #[.int .i64 x.i, .int .i64 x.c, .int .i64 x.n, .bool x.v, .slice a1 (x.f.length) c1, .slice a2 (x.t.length) c2] 68)).alloc (.cells #[.int .i64 0, .int .i64 0, .int .i64 0, .bool false, .slice none 0 0, .slice none 0 0] 40)) (.cells #[.int .i64 x.i, .int .i64 x.c, .int .i64 x.n, .bool x.v, .slice none 0 0, .slice none 0 0] 40)
  simp only [World.size_alloc] at G1 G2
  have bA := (((Below.refl w.heap.size w).alloc (Nat.le_refl _) (.cells #[.int .i64 x.i, .int .i64 x.c, .int .i64 x.n, .bool x.v, .slice a1 (x.f.length) c1, .slice a2 (x.t.length) c2] 68)).alloc (by simp) (.cells #[.int .i64 0, .int .i64 0, .int .i64 0, .bool false, .slice none 0 0, .slice none 0 0] 40)).alloc (by simp; omega) (.cells #[.int .i64 x.i, .int .i64 x.c, .int .i64 x.n, .bool x.v, .slice none 0 0, .slice none 0 0] 40)
  refine (toVls _ _ x.f (H1.out.at bA) hg.f).mono ?_
  rintro e w1 ⟨u1, rfl, o1, b1⟩
  obtain ⟨p1, q1, rfl⟩ := o1.shape
  have E0 := (b1.block w.heap.size (by simp; omega)).trans ((Below.heap_alloc _ _ _ (by simp; omega)).trans ((Below.heap_alloc _ _ _ (by simp)).trans G0))
  have E1 := (b1.block (w.heap.size + 1) (by simp)).trans ((Below.heap_alloc _ _ _ (by simp)).trans G1)
  have E2 := (b1.block (w.heap.size + 1 + 1) (by simp)).trans G2
  have HB := bA.trans (b1.mono (by simp; omega))
  have hs1 : w.heap.size + 1 + 1 + 1 ≤ w1.heap.size := by have := b1.size; simp only [World.size_alloc] at this; omega
  simp only [World.size_alloc] at o1
  have hM1 := hs1
  clear b1 bA G0 G1 G2
  generalize hm1 : w1.heap.size = M1 at o1
  have k1 : w.heap.size + 1 + 1 + 1 ≤ M1 := by omega
  have l1 : M1 ≤ w1.heap.size := by omega
  clear hm1
  have O1 := hide o1
  clear o1
  have X0 := box_of E0
  have X1 := box_of E1
  have X2 := box_of E2
  have f0 := X0.1 0 _ rfl
  have g0 := X2.1 0 _ rfl
  have f1 := X0.1 1 _ rfl
  have g1 := X2.1 1 _ rfl
  have f2 := X0.1 2 _ rfl
  have g2 := X2.1 2 _ rfl
  have f3 := X0.1 3 _ rfl
  have g3 := X2.1 3 _ rfl
  have f4 := X0.1 4 _ rfl
  have g4 := X2.1 4 _ rfl
  have f5 := X0.1 5 _ rfl
  have g5 := X2.1 5 _ rfl
  have z2 := X2.2
  have HE0 := hide E0
  have HE1 := hide E1
  have HE2 := hide E2
  have HHB := hide HB
  clear X0 X1 X2 E0 E1 E2 HB
  go_wp2_with fail
  have E0 : (w1.setCell ⟨w.heap.size + 1 + 1, 4, none⟩ (.slice p1 (x.f.length) q1)).heap[w.heap.size]? = _ := (heap_setCell_other _ _ _ _ (by simp <;> omega)).trans (HE0.out)
  have E1 : (w1.setCell ⟨w.heap.size + 1 + 1, 4, none⟩ (.slice p1 (x.f.length) q1)).heap[w.heap.size + 1]? = _ := (heap_setCell_other _ _ _ _ (by simp <;> omega)).trans (HE1.out)
  have E2 : (w1.setCell ⟨w.heap.size + 1 + 1, 4, none⟩ (.slice p1 (x.f.length) q1)).heap[w.heap.size + 1 + 1]? = some (.cells #[.int .i64 x.i, .int .i64 x.c, .int .i64 x.n, .bool x.v, .slice p1 (x.f.length) q1, .slice none 0 0] 40 (0, 0)) := (heap_setCell_same _ _ 4 _ _ _ HE2.out)
  have HB : Below w.heap.size w (w1.setCell ⟨w.heap.size + 1 + 1, 4, none⟩ (.slice p1 (x.f.length) q1)) := (HHB.out.setCell (p := ⟨w.heap.size + 1 + 1, 4, none⟩) (by simp; omega) _)
  have o1 : OwnD (w1.setCell ⟨w.heap.size + 1 + 1, 4, none⟩ (.slice p1 (x.f.length) q1)) _ _ _ _ := O1.out.same (fun q hq _ _ => by rw [heap_setCell_other _ _ _ _ (by simp; omega)])
  replace hs1 : w.heap.size + 1 + 1 + 1 ≤ (w1.setCell ⟨w.heap.size + 1 + 1, 4, none⟩ (.slice p1 (x.f.length) q1)).heap.size := by simp; omega
  replace l1 : M1 ≤ (w1.setCell ⟨w.heap.size + 1 + 1, 4, none⟩ (.slice p1 (x.f.length) q1)).heap.size := by simp; omega
  clear f0 g0 f1 g1 f2 g2 f3 g3 f4 g4 f5 g5 z2 HE0 HE1 HE2 HHB O1
  generalize (w1.setCell ⟨w.heap.size + 1 + 1, 4, none⟩ (.slice p1 (x.f.length) q1)) = W1 at *
  refine (toVls _ _ x.t (H2.out.at HB) hg.t).mono ?_
  rintro e w2 ⟨u2, rfl, o2, b2⟩
  obtain ⟨p2, q2, rfl⟩ := o2.shape
  replace E0 := (b2.block w.heap.size (by omega)).trans E0
  replace E1 := (b2.block (w.heap.size + 1) (by omega)).trans E1
  replace E2 := (b2.block (w.heap.size + 1 + 1) (by omega)).trans E2
  replace HB := HB.trans (b2.mono (by omega))
  replace o1 := o1.below b2
  have hs2 := b2.size
  generalize hm2 : w2.heap.size = M2 at o2
  replace o2 := o2.mono l1
  have k2 : M1 ≤ M2 := by omega
  have l2 : M2 ≤ w2.heap.size := by omega
  replace hs1 : w.heap.size + 1 + 1 + 1 ≤ w2.heap.size := by omega
  clear b2 hm2 hs2
  have O1 := hide o1
  clear o1
  have O2 := hide o2
  clear o2
  have X0 := box_of E0
  have X1 := box_of E1
  have X2 := box_of E2
  have f0 := X0.1 0 _ rfl
  have g0 := X2.1 0 _ rfl
  have f1 := X0.1 1 _ rfl
  have g1 := X2.1 1 _ rfl
  have f2 := X0.1 2 _ rfl
  have g2 := X2.1 2 _ rfl
  have f3 := X0.1 3 _ rfl
  have g3 := X2.1 3 _ rfl
  have f4 := X0.1 4 _ rfl
  have g4 := X2.1 4 _ rfl
  have f5 := X0.1 5 _ rfl
  have g5 := X2.1 5 _ rfl
  have r0 := X1.1 0 _ rfl
  have r1 := X1.1 1 _ rfl
  have r2 := X1.1 2 _ rfl
  have r3 := X1.1 3 _ rfl
  have r4 := X1.1 4 _ rfl
  have r5 := X1.1 5 _ rfl
  have z1 := X1.2
  have z2 := X2.2
  have HE0 := hide E0
  have HE1 := hide E1
  have HE2 := hide E2
  have HHB := hide HB
  clear X0 X1 X2 E0 E1 E2 HB
  go_wp2
  refine bodyPost_ret (v := .agg #[.int .i64 x.i, .int .i64 x.c, .int .i64 x.n, .bool x.v, .slice p1 (x.f.length) q1, .slice p2 (x.t.length) q2]) (results_one Try.results42 _ _ _ rfl (loadCpy (putN6 ((heap_setCell_other _ _ _ _ (by simp <;> omega)).trans HE1.out) _ _ _ _ _ _))) rfl ⟨_, _, rfl, ?_, ?_⟩
  · refine (OwnDL.mono (b := w.heap.size + 1 + 1 + 1) (OwnDL.same (OwnDL.val (OwnDL.val (OwnDL.val (OwnDL.val (OwnDL.cons (m := M1) (O1.out) (OwnDL.cons (m := M2) (O2.out) (ownDL_nil _ M2 _) (by omega) (by omega)) (by omega) (by omega)))))) (fun q hq _ _ => ?_)) (by omega)).up (by simp)
    rw [heap_setCell_other _ _ _ _ (by simp; omega), heap_setCell_other _ _ _ _ (by simp; omega), heap_setCell_other _ _ _ _ (by simp; omega), heap_setCell_other _ _ _ _ (by simp; omega), heap_setCell_other _ _ _ _ (by simp; omega), heap_setCell_other _ _ _ _ (by simp; omega), heap_setCell_other _ _ _ _ (by simp; omega)]
  · exact (((((((HHB.out.setCell (by simp <;> omega) _).setCell (by simp <;> omega) _).setCell (by simp <;> omega) _).setCell (by simp <;> omega) _).setCell (by simp <;> omega) _).setCell (by simp <;> omega) _).setCell (by simp <;> omega) _)
theorem Try.infoCpy : (Try.prog.info? 40).map (fun i => (i.zero, i.size, i.bytes)) = some (some (.agg #[.int .i64 0, .int .i64 0, .int .i64 0, .bool false, .slice none 0 0, .slice none 0 0]), 6, 80) := by kernel_rfl
set_option maxRecDepth 100000 in
set_option maxHeartbeats 4000000 in
theorem toCpys (w : World) (v : Value) (xs : List Cpy) (h : Reads w w.heap.size (cpys xs) v) (hg : cpysG xs) :
    Calls Try.prog 13 #[v] w fun e w' => ∃ v', e = .returned v' ∧ OwnD w' w.heap.size w'.heap.size (cpys xs) v' ∧ Below w.heap.size w w' := by
  obtain ⟨hm, hgd⟩ := hg
  have HX : Hid (∀ wr, Below w.heap.size w wr → _) := hide (fun wr hb => copy_at (h.at hb))
  have HG : Hid (∀ j, j < xs.length → CpyG (xs.getD j default)) := hide (fun j hj => getD_mem hgd j hj)
  clear hgd
  obtain ⟨a, cap, rfl, _⟩ := copy_at h
  have HD : Hid (∀ W hi v, OwnD W w.heap.size hi (.row 40 6 xs.length (upTo cpyD [.int .i64 0, .int .i64 0, .int .i64 0, .bool false, .slice none 0 0, .slice none 0 0] xs xs.length)) v → OwnD W w.heap.size hi (cpys xs) v) := hide (fun W hi v h => by unfold cpys; rwa [upTo_all] at h)
  clear h
  obtain ⟨i0, hi, hz0, hz1, hz2⟩ := info_parts Try.infoCpy
  generalize hn : xs.length = n at *
  go_enter Try.func13, Try.ntmps13
  go_wp2_with (at_make; refine wpList_make_full _ rfl _ _ 33 rfl w.heap.size 40 i0 (.agg #[.int .i64 0, .int .i64 0, .int .i64 0, .bool false, .slice none 0 0, .slice none 0 0]) 6 Try.underlying33 hi hz0 hz1 _ _ _ _ n rfl rfl rfl rfl (by rw [hz2]; omega) (by unfold maxLen; omega) (Nat.le_refl _) ?_; intro w1 ho1 hg1)
  have o1 : OwnD w1 w.heap.size w1.heap.size (.row 40 6 n (upTo cpyD [.int .i64 0, .int .i64 0, .int .i64 0, .bool false, .slice none 0 0, .slice none 0 0] xs 0)) (.slice (some ⟨w.heap.size, 0, none⟩) n n) := ownD_made hn rfl (by decide) rfl ho1 (fun q hq => (World.ownsRow.lt ho1 q hq).2)
  have hl1 : w.heap.size < w1.heap.size := (World.ownsRow.lt ho1 _ rfl).2
  have b1 : Below w.heap.size w w1 := (Below.refl _ _).grown hg1 (Nat.le_refl _) (fun k hk => by cases hk)
  clear ho1 hg1 hi hz0 hz1 hz2
  go_loopw [4] (fun i wr => ∃ (j : Nat), j ≤ n ∧ i = .int .i64 (j : Int) ∧ Hid (OwnD wr w.heap.size wr.heap.size (.row 40 6 n (upTo cpyD [.int .i64 0, .int .i64 0, .int .i64 0, .bool false, .slice none 0 0, .slice none 0 0] xs j)) (.slice (some ⟨w.heap.size, 0, none⟩) n n)) ∧ Hid (Below w.heap.size w wr) ∧ w.heap.size < wr.heap.size) (fun i _ => n - (intOf i).toNat)
  case atStart => exact ⟨0, Nat.zero_le _, rfl, hide o1, hide b1, hl1⟩
  case round =>
    clear o1 b1
    obtain ⟨j, hj, rfl, HO, HB, hlt0⟩ := hrel
    by_cases hlt : j < n
    · obtain ⟨a', cap', ea, _, _, hx⟩ := HX.out wr HB.out
      cases ea
      obtain ⟨b, o, rfl, _, hcell⟩ := hx (by omega)
      obtain ⟨pv1, pv2, e0, e1, e2, e3, e4, e5, r1, r2⟩ := hcell j hlt
      clear hcell hx
      have HL : Hid (xs.getD j default = xs.getD j default) := hide rfl
      have hgx := hide (HG.out j hlt)
      generalize hx9 : xs.getD j default = x at *
      have HX9 := hide hx9
      clear hx9 HL
      obtain ⟨aa1, cc1, ea1, _⟩ := r1.shape
      obtain ⟨aa2, cc2, ea2, _⟩ := r2.shape
      subst ea1 ea2
      have R1 := hide r1
      clear r1
      have R2 := hide r2
      clear r2
      go_wp2_with fail
      refine (toCpy _ x _ _ R1.out R2.out hgx.out).mono ?_
      rintro e w2 ⟨u1, u2, rfl, ou, b2⟩
      obtain ⟨p1, q1, e1', p2, q2, e2'⟩ : ∃ p1 q1, u1 = .slice p1 x.f.length q1 ∧ ∃ p2 q2, u2 = .slice p2 x.t.length q2 := by
        obtain ⟨_, h3, _, _⟩ := ou
        obtain ⟨_, _, _, _, h2, _, _, h3⟩ := ownsL_cons h3
        cases h2
        obtain ⟨_, _, _, _, h2, _, _, h3⟩ := ownsL_cons h3
        cases h2
        obtain ⟨_, _, _, _, h2, _, _, h3⟩ := ownsL_cons h3
        cases h2
        obtain ⟨_, _, _, _, h2, _, _, h3⟩ := ownsL_cons h3
        cases h2
        obtain ⟨_, _, _, _, h2, _, n4, h3⟩ := ownsL_cons h3
        cases h2
        obtain ⟨_, _, _, _, h2, _, n5, h3⟩ := ownsL_cons h3
        cases h2
        obtain ⟨l1, m1, f1, _⟩ := (Owns.reads (Nat.le_refl _) _ _ _ n4).shape
        obtain ⟨l2, m2, f2, _⟩ := (Owns.reads (Nat.le_refl _) _ _ _ n5).shape
        exact ⟨l1, m1, f1, l2, m2, f2⟩
      subst e1' e2'
      rw [← HX9.out] at ou
      have hs2 := b2.size
      obtain ⟨hc, hf, ho2⟩ := OwnD.fill (f := cpyD) (k := 6) (fun _ => rfl) rfl hn hlt (HO.out.below b2) ou (Nat.le_refl _) (Nat.le_of_lt hlt0) hs2
      rw [HX9.out] at ho2
      replace HB := hide (HB.out.trans (b2.mono HB.out.size))
      replace hlt0 : w.heap.size < w2.heap.size := by omega
      have OU := hide hs2
      clear b2 HO HX9 ou
      unfold cpyV
      obtain ⟨y0, d0⟩ := hc 0 (by omega)
      obtain ⟨y1, d1⟩ := hc 1 (by omega)
      obtain ⟨y2, d2⟩ := hc 2 (by omega)
      obtain ⟨y3, d3⟩ := hc 3 (by omega)
      obtain ⟨y4, d4⟩ := hc 4 (by omega)
      obtain ⟨y5, d5⟩ := hc 5 (by omega)
      rw [Nat.add_zero]  at d0
      have hb2 := setRow_below [.int .i64 x.i, .int .i64 x.c, .int .i64 x.n, .bool x.v, .slice p1 x.f.length q1, .slice p2 x.t.length q2] w2 (j * 6) HB.out (Nat.le_refl _)
      have hs9 : w2.heap.size = (setRow w2 w.heap.size (j * 6) [.int .i64 x.i, .int .i64 x.c, .int .i64 x.n, .bool x.v, .slice p1 x.f.length q1, .slice p2 x.t.length q2]).heap.size := by simp [setRow]
      rw [hs9] at ho2
      clear hs9
      simp only [setRow, Nat.add_assoc, Nat.reduceAdd] at ho2 hb2
      replace HO := hide ho2
      have HB2 := hide hb2
      clear ho2 hb2 hc HB OU
      go_wp2
      exact ⟨⟨j + 1, by omega, by go_num, HO, HB2, by simp; omega⟩, by simp [intOf]; omega⟩
    · obtain rfl : j = n := by omega
      have HF := hide (HD.out _ _ _ HO.out)
      go_wp2
      go_ret
      exact ⟨_, rfl, HF.out, HB.out⟩
set_option maxRecDepth 100000 in
set_option maxHeartbeats 4000000 in
theorem eqCpy (w : World) (x : Cpy) (p1 p2 q1 q2 : Value) (hp1 : Reads w w.heap.size (vls x.f) p1) (hp2 : Reads w w.heap.size (vls x.t) p2) (hq1 : Reads w w.heap.size (vls x.f) q1) (hq2 : Reads w w.heap.size (vls x.t) q2) (hg : CpyG x) :
    Calls Try.prog 19 #[cpyV x p1 p2, cpyV x q1 q2] w fun e w' => e = .returned (.bool true) ∧ Below w.heap.size w w' := by
  obtain ⟨a1, k1, e1, _⟩ := hp1.shape
  obtain ⟨b1, l1, f1, _⟩ := hq1.shape
  obtain ⟨a2, k2, e2, _⟩ := hp2.shape
  obtain ⟨b2, l2, f2, _⟩ := hq2.shape
  subst e1 f1 e2 f2
  have bA := ((Below.refl w.heap.size w).alloc (Nat.le_refl _) (.cells #[.int .i64 x.i, .int .i64 x.c, .int .i64 x.n, .bool x.v, .slice a1 x.f.length k1, .slice a2 x.t.length k2] 40)).alloc (by simp) (.cells #[.int .i64 x.i, .int .i64 x.c, .int .i64 x.n, .bool x.v, .slice b1 x.f.length l1, .slice b2 x.t.length l2] 40)
  have HP1 := hide (hp1.at bA)
  have HQ1 := hide (hq1.at bA)
  have HP2 := hide (hp2.at bA)
  have HQ2 := hide (hq2.at bA)
  have G0 := heap_alloc_new w (.cells #[.int .i64 x.i, .int .i64 x.c, .int .i64 x.n, .bool x.v, .slice a1 x.f.length k1, .slice a2 x.t.length k2] 40)
  have G1 := heap_alloc_new (w.alloc (.cells #[.int .i64 x.i, .int .i64 x.c, .int .i64 x.n, .bool x.v, .slice a1 x.f.length k1, .slice a2 x.t.length k2] 40)) (.cells #[.int .i64 x.i, .int .i64 x.c, .int .i64 x.n, .bool x.v, .slice b1 x.f.length l1, .slice b2 x.t.length l2] 40)
  simp only [World.size_alloc] at G1
  have E0 := hide ((Below.heap_alloc _ (.cells #[.int .i64 x.i, .int .i64 x.c, .int .i64 x.n, .bool x.v, .slice b1 x.f.length l1, .slice b2 x.t.length l2] 40) _ (by simp)).trans G0)
  have E1 := hide G1
  have HB := hide bA
  have HG := hide hg
  have hsz : Hid (w.heap.size + 1 < ((w.alloc (.cells #[.int .i64 x.i, .int .i64 x.c, .int .i64 x.n, .bool x.v, .slice a1 x.f.length k1, .slice a2 x.t.length k2] 40)).alloc (.cells #[.int .i64 x.i, .int .i64 x.c, .int .i64 x.n, .bool x.v, .slice b1 x.f.length l1, .slice b2 x.t.length l2] 40)).heap.size) := hide (by simp)
  clear hp1 hq1 hp2 hq2 bA hg G0 G1
  have n_i : (x.i != x.i) = false := by simp
  have n_c : (x.c != x.c) = false := by simp
  have n_n : (x.n != x.n) = false := by simp
  have n_v : (x.v != x.v) = false := by simp
  unfold cpyV
  go_enter Try.func19, Try.ntmps19
  go_wp2_with fail
  generalize (w.alloc (.cells #[.int .i64 x.i, .int .i64 x.c, .int .i64 x.n, .bool x.v, .slice a1 x.f.length k1, .slice a2 x.t.length k2] 40)).alloc (.cells #[.int .i64 x.i, .int .i64 x.c, .int .i64 x.n, .bool x.v, .slice b1 x.f.length l1, .slice b2 x.t.length l2] 40) = W at *
  refine (eqVls _ _ _ x.f HP1.out HQ1.out HG.out.f).mono ?_
  rintro e w1 ⟨rfl, z1⟩
  replace E0 := hide ((z1.block w.heap.size (by have := hsz.out; omega)).trans E0.out)
  replace E1 := hide ((z1.block (w.heap.size + 1) hsz.out).trans E1.out)
  replace hsz := hide (Nat.lt_of_lt_of_le hsz.out z1.size)
  replace HP2 := hide (HP2.out.at z1)
  replace HQ2 := hide (HQ2.out.at z1)
  replace HB := hide (HB.out.trans (z1.mono HB.out.size))
  clear z1
  have f0 := (box_of E0.out).1 0 _ rfl
  have f1 := (box_of E0.out).1 1 _ rfl
  have f2 := (box_of E0.out).1 2 _ rfl
  have f3 := (box_of E0.out).1 3 _ rfl
  have f4 := (box_of E0.out).1 4 _ rfl
  have f5 := (box_of E0.out).1 5 _ rfl
  have g0 := (box_of E1.out).1 0 _ rfl
  have g1 := (box_of E1.out).1 1 _ rfl
  have g2 := (box_of E1.out).1 2 _ rfl
  have g3 := (box_of E1.out).1 3 _ rfl
  have g4 := (box_of E1.out).1 4 _ rfl
  have g5 := (box_of E1.out).1 5 _ rfl
  go_wp2_with fail
  clear f0 g0 f1 g1 f2 g2 f3 g3 f4 g4 f5 g5
  refine (eqVls _ _ _ x.t HP2.out HQ2.out HG.out.t).mono ?_
  rintro e w2 ⟨rfl, z2⟩
  replace HB := hide (HB.out.trans (z2.mono HB.out.size))
  clear z2
  go_wp2
  go_ret
  exact ⟨rfl, HB.out⟩
set_option maxRecDepth 100000 in
set_option maxHeartbeats 4000000 in
theorem eqCpys (w : World) (v1 v2 : Value) (xs : List Cpy) (h1 : Reads w w.heap.size (cpys xs) v1) (h2 : Reads w w.heap.size (cpys xs) v2) (hg : cpysG xs) :
    Calls Try.prog 16 #[v1, v2] w fun e w' => e = .returned (.bool true) ∧ Below w.heap.size w w' := by
  obtain ⟨hm, hgd⟩ := hg
  have HX1 : Hid (∀ wr, Below w.heap.size w wr → _) := hide (fun wr hb => copy_at (h1.at hb))
  have HX2 : Hid (∀ wr, Below w.heap.size w wr → _) := hide (fun wr hb => copy_at (h2.at hb))
  have HG : Hid (∀ j, j < xs.length → CpyG (xs.getD j default)) := hide (fun j hj => getD_mem hgd j hj)
  clear hgd
  obtain ⟨a1, cap1, rfl, _⟩ := copy_at h1
  obtain ⟨a2, cap2, rfl, _⟩ := copy_at h2
  clear h1 h2
  generalize hn : xs.length = n at *
  have hne : ((n : Int) != (n : Int)) = false := by simp
  go_enter Try.func16, Try.ntmps16
  go_wp2
  go_loopw [5] (fun i wr => ∃ j : Nat, j ≤ n ∧ i = .int .i64 (j : Int) ∧ Below w.heap.size w wr) (fun i _ => n - (intOf i).toNat)
  case atStart => exact ⟨0, Nat.zero_le _, rfl, Below.refl _ _⟩
  case round =>
    obtain ⟨j, hj, rfl, hb⟩ := hrel
    have HB := hide hb
    have hs := hb.size
    clear hb
    by_cases hlt : j < n
    · obtain ⟨a1', cap1', ea1, _, _, hx1⟩ := HX1.out wr HB.out
      cases ea1
      obtain ⟨b1, o1, rfl, hb1, hc1⟩ := hx1 (by omega)
      obtain ⟨a2', cap2', ea2, _, _, hx2⟩ := HX2.out wr HB.out
      cases ea2
      obtain ⟨b2, o2, rfl, hb2, hc2⟩ := hx2 (by omega)
      obtain ⟨pv1, pv2, e0, e1, e2, e3, e4, e5, r1, r2⟩ := hc1 j hlt
      obtain ⟨qv1, qv2, d0, d1, d2, d3, d4, d5, s1, s2⟩ := hc2 j hlt
      have R1 : Hid (Reads wr.drew wr.drew.heap.size _ _) := hide (r1.drewN 1)
      have S1 : Hid (Reads wr.drew wr.drew.heap.size _ _) := hide (s1.drewN 1)
      have R2 : Hid (Reads wr.drew wr.drew.heap.size _ _) := hide (r2.drewN 1)
      have S2 : Hid (Reads wr.drew wr.drew.heap.size _ _) := hide (s2.drewN 1)
      obtain ⟨x1, y1, z1, _⟩ := r1.shape
      obtain ⟨x19, y19, z19, _⟩ := s1.shape
      obtain ⟨x2, y2, z2, _⟩ := r2.shape
      obtain ⟨x29, y29, z29, _⟩ := s2.shape
      subst z1 z19 z2 z29
      have HGj := hide (HG.out j hlt)
      clear hx1 hx2 hc1 hc2 r1 s1 r2 s2
      generalize xs.getD j default = p at *
      go_wp2
      go_cut [26] from 11 to 26 (fun s wq => s = .bool false ∧ Below w.heap.size w wq)
      case first =>
        go_region_with (go_at_call 19; refine (eqCpy _ p _ _ _ _ R1.out R2.out S1.out S2.out HGj.out).mono ?_; rintro e w1 ⟨rfl, b1⟩; have HB1 := hide (HB.out.trans (below_of_drew b1 |>.mono hs)); clear b1)
        all_goals (go_wp2_with fail; go_meet; exact ⟨rfl, HB1.out⟩)
      case rest =>
        obtain ⟨rfl, hB⟩ := hcut
        have HB2 := hide hB
        clear hB
        go_wp2
        exact ⟨⟨j + 1, hlt, by go_num, HB2.out⟩, by simp [intOf]; omega⟩
    · go_wp2
      go_ret
      exact ⟨rfl, HB.out⟩
end Go.Proofs.Ytofnpgheppgcaaa
