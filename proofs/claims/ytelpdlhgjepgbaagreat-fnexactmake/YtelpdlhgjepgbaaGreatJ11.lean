/-
  Joined: InsTo, RecT.
-/
import Derived.Test.YtelpdlhgjepgbaaGreatJ5
import Derived.Test.YtelpdlhgjepgbaaGreatJ10
import Derived.Test.YtelpdlhgjepgbaaGreatJ4
import Derived.Test.YtelpdlhgjepgbaaGreatJ6
import Derived.Test.YtelpdlhgjepgbaaGreatJ9
/-
  Places of code that are copied, held against each other, marked.
-/
namespace Go.Proofs.YtelpdlhgjepgbaaGreat
open Go.RowKit

theorem Tryz.infoIn : (Tryz.prog.info? 158).map (fun i => (i.zero, i.size, i.bytes)) = some (some (.agg #[.int .i64 0, .int .i64 0]), 2, 16) := by kernel_rfl
set_option maxRecDepth 100000 in
set_option maxHeartbeats 4000000 in
theorem toIn (w : World) (x : Isn) : Calls Tryz.prog 102 #[inV x] w fun e w' => e = .returned (inV x) ∧ Below w.heap.size w w' := by
  unfold inV
  go_enter Tryz.func102, Tryz.ntmps102
  go_wp2
  exact bodyPost_ret (v := .agg #[.int .i64 x.o, .int .i64 x.n]) (by simp [results, Tryz.results102, go_sem]) rfl ⟨rfl, (((Below.refl _ _).alloc (Nat.le_refl _) _).alloc (by simp) _).alloc (by simp; omega) _⟩
set_option maxRecDepth 100000 in
set_option maxHeartbeats 4000000 in
theorem toIns (w : World) (v : Value) (xs : List Isn) (h : Reads w w.heap.size (inss xs) v) (hm : xs.length ≤ 1048576) :
    Calls Tryz.prog 98 #[v] w fun e w' => ∃ v', e = .returned v' ∧ OwnD w' w.heap.size w'.heap.size (inss xs) v' ∧ Below w.heap.size w w' := by
  have HX : Hid (∀ wr, Below w.heap.size w wr → _) := hide (fun wr hb => ins_at (h.at hb))
  obtain ⟨a, cap, rfl, _⟩ := ins_at h
  have HD : Hid (∀ W hi v, OwnD W w.heap.size hi (.row 158 2 xs.length (upTo inD [.int .i64 0, .int .i64 0] xs xs.length)) v → OwnD W w.heap.size hi (inss xs) v) := hide (fun W hi v h => by unfold inss; rwa [upTo_all] at h)
  clear h
  obtain ⟨i0, hi, hz0, hz1, hz2⟩ := info_parts Tryz.infoIn
  generalize hn : xs.length = n at *
  go_enter Tryz.func98, Tryz.ntmps98
  go_wp2_with (at_make; refine wpList_make_full _ rfl _ _ 134 rfl w.heap.size 158 i0 (.agg #[.int .i64 0, .int .i64 0]) 2 Tryz.underlying134 hi hz0 hz1 _ _ _ _ n rfl rfl rfl rfl (by rw [hz2]; omega) (by unfold maxLen; omega) (Nat.le_refl _) ?_; intro w1 ho1 hg1)
  have o1 : OwnD w1 w.heap.size w1.heap.size (.row 158 2 n (upTo inD [.int .i64 0, .int .i64 0] xs 0)) (.slice (some ⟨w.heap.size, 0, none⟩) n n) := ownD_made hn rfl (by decide) rfl ho1 (fun q hq => (World.ownsRow.lt ho1 q hq).2)
  have hl1 : w.heap.size < w1.heap.size := (World.ownsRow.lt ho1 _ rfl).2
  have b1 : Below w.heap.size w w1 := (Below.refl _ _).grown hg1 (Nat.le_refl _) (fun k hk => by cases hk)
  clear ho1 hg1 hi hz0 hz1 hz2
  go_loopw [4] (fun i wr => ∃ (j : Nat), j ≤ n ∧ i = .int .i64 (j : Int) ∧ Hid (OwnD wr w.heap.size wr.heap.size (.row 158 2 n (upTo inD [.int .i64 0, .int .i64 0] xs j)) (.slice (some ⟨w.heap.size, 0, none⟩) n n)) ∧ Hid (Below w.heap.size w wr) ∧ w.heap.size < wr.heap.size) (fun i _ => n - (intOf i).toNat)
  case atStart => exact ⟨0, Nat.zero_le _, rfl, hide o1, hide b1, hl1⟩
  case round =>
    clear o1 b1
    obtain ⟨j, hj, rfl, HO, HB, hlt0⟩ := hrel
    by_cases hlt : j < n
    · obtain ⟨a', cap', ea, _, _, hx⟩ := HX.out wr HB.out
      cases ea
      obtain ⟨b, o, rfl, _, hcell⟩ := hx (by omega)
      obtain ⟨e0, e1⟩ := hcell j hlt
      clear hcell hx
      have HL : Hid (xs.getD j default = xs.getD j default) := hide rfl
      generalize hx9 : xs.getD j default = x at *
      have OU : Hid (∀ W : World, OwnDL W W.heap.size W.heap.size (inD (xs.getD j default)) [.int .i64 x.o, .int .i64 x.n]) := hide (fun W => by rw [hx9]; exact OwnDL.val (OwnDL.val (ownDL_nil _ _ _)))
      clear hx9 HL
      go_wp2_with fail
      refine (toIn _ x).mono ?_
      rintro e w2 ⟨rfl, b2⟩
      have hs2 := b2.size
      replace HO := hide ((HO.out.below b2).up hs2)
      replace HB := hide (HB.out.trans (b2.mono HB.out.size))
      replace hlt0 : w.heap.size < w2.heap.size := by omega
      clear b2
      unfold inV
      obtain ⟨hc, hf, ho2⟩ := OwnD.fill (f := inD) (k := 2) (fun _ => rfl) rfl hn hlt HO.out (OU.out w2) (Nat.le_refl _) (Nat.le_of_lt hlt0) (Nat.le_refl _)
      obtain ⟨y0, d0⟩ := hc 0 (by omega)
      obtain ⟨y1, d1⟩ := hc 1 (by omega)
      rw [Nat.add_zero]  at d0
      have hb2 := setRow_below [.int .i64 x.o, .int .i64 x.n] w2 (j * 2) HB.out (Nat.le_refl _)
      have hs9 : w2.heap.size = (setRow w2 w.heap.size (j * 2) [.int .i64 x.o, .int .i64 x.n]).heap.size := by simp [setRow]
      rw [hs9] at ho2
      clear hs9
      simp only [setRow] at ho2 hb2
      replace HO := hide ho2
      have HB2 := hide hb2
      clear ho2 hb2 hc HB OU
      go_wp2
      exact ⟨⟨j + 1, by omega, by go_num, HO, HB2, by simp; omega⟩, by simp [intOf]; omega⟩
    · obtain rfl : j = n := by omega
      have HF := hide (HD.out _ _ _ HO.out)
      go_wp2
      go_ret
      exact ⟨_, rfl, HF.out, HB.out⟩
set_option maxRecDepth 100000 in
set_option maxHeartbeats 4000000 in
theorem eqIn (w : World) (x : Isn) : Calls Tryz.prog 104 #[inV x, inV x] w fun e w' => e = .returned (.bool true) ∧ Below w.heap.size w w' := by
  have e1 : (x.o != x.o) = false := by simp
  have e2 : (x.n != x.n) = false := by simp
  unfold inV
  go_enter Tryz.func104, Tryz.ntmps104
  go_wp2
  go_ret
  exact ⟨rfl, ((Below.refl _ _).alloc (Nat.le_refl _) _).alloc (by simp) _⟩
set_option maxRecDepth 100000 in
set_option maxHeartbeats 4000000 in
theorem eqInss (w : World) (v1 v2 : Value) (xs : List Isn) (h1 : Reads w w.heap.size (inss xs) v1) (h2 : Reads w w.heap.size (inss xs) v2) (hm : xs.length ≤ 1048576) :
    Calls Tryz.prog 101 #[v1, v2] w fun e w' => e = .returned (.bool true) ∧ Below w.heap.size w w' := by
  have HX1 : Hid (∀ wr, Below w.heap.size w wr → _) := hide (fun wr hb => ins_at (h1.at hb))
  have HX2 : Hid (∀ wr, Below w.heap.size w wr → _) := hide (fun wr hb => ins_at (h2.at hb))
  obtain ⟨a1, cap1, rfl, _⟩ := ins_at h1
  obtain ⟨a2, cap2, rfl, _⟩ := ins_at h2
  clear h1 h2
  generalize hn : xs.length = n at *
  have hne : ((n : Int) != (n : Int)) = false := by simp
  go_enter Tryz.func101, Tryz.ntmps101
  go_wp2
  go_loopw [5] (fun i wr => ∃ j : Nat, j ≤ n ∧ i = .int .i64 (j : Int) ∧ Below w.heap.size w wr) (fun i _ => n - (intOf i).toNat)
  case atStart => exact ⟨0, Nat.zero_le _, rfl, Below.refl _ _⟩
  case round =>
    obtain ⟨j, hj, rfl, hb⟩ := hrel
    have HB := hide hb
    have hs := hb.size
    clear hb
    by_cases hlt : j < n
    · obtain ⟨a1', cap1', ea1, _, _, hx1⟩ := HX1.out wr HB.out
      cases ea1
      obtain ⟨b1, o1, rfl, hb1, hc1⟩ := hx1 (by omega)
      obtain ⟨a2', cap2', ea2, _, _, hx2⟩ := HX2.out wr HB.out
      cases ea2
      obtain ⟨b2, o2, rfl, hb2, hc2⟩ := hx2 (by omega)
      obtain ⟨e0, e1⟩ := hc1 j hlt
      obtain ⟨d0, d1⟩ := hc2 j hlt
      clear hx1 hx2 hc1 hc2
      generalize xs.getD j default = p at *
      go_wp2
      go_cut [26] from 11 to 26 (fun s wq => s = .bool false ∧ Below w.heap.size w wq)
      case first =>
        go_region_with (go_at_call 104; refine (eqIn _ p).mono ?_; rintro e w1 ⟨rfl, b1⟩; have HB1 := hide (HB.out.trans (below_of_drew b1 |>.mono hs)); clear b1)
        all_goals (go_wp2_with fail; go_meet; exact ⟨rfl, HB1.out⟩)
      case rest =>
        obtain ⟨rfl, hB⟩ := hcut
        have HB2 := hide hB
        clear hB
        go_wp2
        exact ⟨⟨j + 1, hlt, by go_num, HB2.out⟩, by simp [intOf]; omega⟩
    · go_wp2
      go_ret
      exact ⟨rfl, HB.out⟩
def mkIn (k : Nat) : Isn := ⟨(k : Int), ((k + 1 : Nat) : Int)⟩
def mkIs (k n : Nat) : List Isn := (List.range n).map fun i => mkIn (k + 2 * i)
theorem mkIs_len (k n : Nat) : (mkIs k n).length = n := by simp [mkIs]
theorem mkIs_get (k n j : Nat) (h : j < n) : (mkIs k n).getD j default = mkIn (k + 2 * j) := by simp [mkIs, h]
set_option maxRecDepth 100000 in
set_option maxHeartbeats 4000000 in
theorem mkIns (w : World) (b K : Nat) (v : Value) (xs : List Isn) (F : List Nat) (h : Owns w b (inss xs) v F) (hnd : F.Nodup) (hm : K + 2 * xs.length ≤ 100000000) :
    Calls Tryz.prog 80 #[v, .int .i64 (K : Int)] w fun e w' => e = .returned (.int .i64 ((K + 2 * xs.length : Nat) : Int)) ∧ Owns w' b (inss (mkIs K xs.length)) v F ∧ Chg F w w' := by
  have HST : Hid (Owns w b (.row 158 2 xs.length ((mixR inD (mkIs K xs.length) xs 0).flatten)) v F) := hide (by rw [mixR_zero]; exact h)
  have HEN : Hid (∀ W, Owns W b (.row 158 2 xs.length ((mixR inD (mkIs K xs.length) xs xs.length).flatten)) v F → Owns W b (inss (mkIs K xs.length)) v F) := hide (fun W h => by rw [mixR_end _ (mkIs_len K _)] at h; unfold inss; rw [mkIs_len]; exact h)
  have hML := mkIs_len K xs.length
  have HG : Hid (∀ j, j < xs.length → (mixR inD (mkIs K xs.length) xs j).getD j [] = inD (xs.getD j default)) := hide (fun j hj => mixR_get _ hML hj)
  have HS : Hid (∀ j, j < xs.length → (mixR inD (mkIs K xs.length) xs j).set j (inD (mkIn (K + 2 * j))) = mixR inD (mkIs K xs.length) xs (j + 1)) := hide (fun j hj => by rw [← mkIs_get K _ j hj]; exact mixR_step _ hML hj)
  have HA : Hid (∀ j, ∀ r ∈ mixR inD (mkIs K xs.length) xs j, r.length = 2) := hide (fun j => mixR_all (f := inD) (k := 2) (fun _ => rfl) _ _ j)
  have HLn : Hid (∀ j, j ≤ xs.length → (mixR inD (mkIs K xs.length) xs j).length = xs.length) := hide (fun j hj => mixR_len _ hML hj)
  have hsl := h.slice
  clear h hML
  generalize hn : xs.length = n at *
  rcases hsl with ⟨rfl, rfl⟩ | ⟨g, c, rfl⟩
  · go_enter Tryz.func80, Tryz.ntmps80
    go_wp2
    go_loopw [1, 5] (fun q i wr => q = .int .i64 (K : Int) ∧ i = .int .i64 0 ∧ wr = w) (fun _ _ _ => 0)
    case atStart => exact ⟨rfl, rfl, rfl⟩
    case round =>
      obtain ⟨rfl, rfl, rfl⟩ := hrel
      go_wp2
      go_ret
      exact ⟨by simp, HEN.out _ HST.out, Chg.refl _ _⟩
  · go_enter Tryz.func80, Tryz.ntmps80
    go_wp2
    go_loopw [1, 5] (fun q i wr => ∃ j : Nat, j ≤ n ∧ q = .int .i64 ((K + 2 * j : Nat) : Int) ∧ i = .int .i64 (j : Int) ∧ Hid (Owns wr b (.row 158 2 n ((mixR inD (mkIs K n) xs j).flatten)) (.slice (some ⟨g, 0, none⟩) n c) F) ∧ Hid (Chg F w wr)) (fun _ i _ => n - (intOf i).toNat)
    case atStart => exact ⟨0, Nat.zero_le _, by simp, rfl, HST, hide (Chg.refl _ _)⟩
    case round =>
      clear HST
      obtain ⟨j, hj, rfl, rfl, HO, HC⟩ := hrel
      by_cases hlt : j < n
      · have hcap : n ≤ c := by
          have := HO.out
          unfold Owns at this
          obtain ⟨us, G, h2, _⟩ := this
          obtain ⟨_, a, cap, e, h3, _⟩ := rd_own h2 (Nat.le_refl _)
          cases e
          exact h3
        obtain ⟨q, hq⟩ : ∃ q, K + 2 * j = q := ⟨_, rfl⟩
        have hqm : q + 2 ≤ 100000000 := by omega
        have HA1 := hide (HA.out j)
        have HL1 := hide (HLn.out j hj)
        have HG1 := HG.out j hlt
        have HS1 := HS.out j hlt
        obtain ⟨x, hx⟩ : ∃ x, xs.getD j default = x := ⟨_, rfl⟩
        rw [hx] at HG1
        rw [hq] at HS1 ⊢
        have HG2 := hide HG1
        have HS2 := hide HS1
        have HQ := hide hq
        clear hx hq HG1 HS1
        obtain ⟨rs, hrs⟩ : ∃ rs, mixR inD (mkIs K n) xs j = rs := ⟨_, rfl⟩
        rw [hrs] at HO HA1 HL1 HG2 HS2
        clear hrs
        have h0 : ∀ i, i < 2 → rs.flatten[j * 2 + i]? = (inD x)[i]? := fun i hi => by rw [rows_get rs j i HA1.out (by have := HL1.out; omega) hi, HG2.out]
        obtain ⟨d0, z0, hgF, ho⟩ := HO.out.cell hnd (i := j * 2) (z := .int .i64 x.o) (by rw [show j * 2 = j * 2 + 0 from rfl, h0 0 (by omega)]; rfl) (.int .i64 (q : Int))
        replace HO := hide ho
        replace HC := hide (HC.out.set hgF (j * 2) (.int .i64 (q : Int)))
        clear ho
        obtain ⟨d1, z1, hgF, ho⟩ := HO.out.cell hnd (i := j * 2 + 1) (z := .int .i64 x.n) (by rw [List.getElem?_set_ne (by omega), h0 1 (by omega)]; rfl) (.int .i64 ((q : Int) + 1))
        replace HO := hide ho
        replace HC := hide (HC.out.set hgF (j * 2 + 1) (.int .i64 ((q : Int) + 1)))
        clear ho
        have HZ : Hid (((rs.flatten.set (j * 2) (.val (.int .i64 (q : Int)))).set (j * 2 + 1) (.val (.int .i64 ((q : Int) + 1)))) = (rs.set j (inD (mkIn q))).flatten) := hide (by
          have hl := HL1.out
          have hlen : ∀ (rs' : List (List Dt)) (r : List Dt), (∀ r ∈ rs', r.length = 2) → r.length = 2 → ∀ r' ∈ rs'.set j r, r'.length = 2 := fun rs' r h1 h2 r' hr => by
            rcases List.mem_or_eq_of_mem_set hr with h | h
            · exact h1 r' h
            · rw [h]; exact h2
          rw [show j * 2 = j * 2 + 0 from rfl]
          rw [rows_set rs j 0 _ HA1.out (by omega) (by omega), HG2.out]
          rw [rows_set _ j 1 _ (hlen _ _ HA1.out rfl) (by rw [List.length_set]; omega) (by omega), List.getD_eq_getElem?_getD, List.getElem?_set_self (by omega), Option.getD_some, List.set_set]
          unfold mkIn inD
          simp only [Int.natCast_add]
          rfl)
        rw [HZ.out, HS2.out] at HO
        go_wp2
        exact ⟨⟨j + 1, by omega, by have hh := HQ.out; congr 1; omega, by go_num, HO, HC⟩, by simp [intOf]; omega⟩
      · obtain rfl : j = n := by omega
        have HF := hide (HEN.out _ HO.out)
        go_wp2
        go_ret
        exact ⟨rfl, HF.out, HC.out⟩
def szZ (m : Int) (len : Nat) : Prop := m < 0 ∨ (0 ≤ m ∧ m ≤ 1048576 ∧ len ≤ 1048576)
theorem szIns (a : Option Addr) (len cap : Nat) (w : World) (hm : len ≤ maxLen) :
    Calls Tryz.prog 96 #[.slice a len cap, .int .i64 1048576] w fun e w' => ∃ m, e = .returned (.int .i64 m) ∧ w' = w ∧ szZ m len := by
  unfold maxLen at hm
  go_enter Tryz.func96, Tryz.ntmps96
  by_cases hl : len ≤ 1048576
  · have h0 : ¬ (1048576 : Int) - (len : Int) < 0 := by omega
    have HL := hide hl
    clear hl
    go_wp2
    go_ret
    exact ⟨_, rfl, rfl, .inr ⟨by omega, by omega, HL.out⟩⟩
  · have h0 : (1048576 : Int) - (len : Int) < 0 := by omega
    go_wp2
    go_ret
    exact ⟨_, rfl, rfl, .inl (by omega)⟩
end Go.Proofs.YtelpdlhgjepgbaaGreat
/-
  Rows of texts, places, consts and fields copied, in one form.
-/
namespace Go.Proofs.YtelpdlhgjepgbaaGreat
open Go.ChangeShapes Go.WideShapes Go.RowKit

theorem toStrsR (w : World) (v : Value) (xs : List ByteArray) (h : Reads w w.heap.size (strs xs) v) (hg : strsG xs) :
    Calls Tryz.prog 97 #[v] w fun e w' => ∃ v', e = .returned v' ∧ OwnD w' w.heap.size w'.heap.size (strs xs) v' ∧ Below w.heap.size w w' := toStrs w v xs h hg.1
theorem toInssR (w : World) (v : Value) (xs : List Isn) (h : Reads w w.heap.size (inss xs) v) (hg : inssG xs) :
    Calls Tryz.prog 98 #[v] w fun e w' => ∃ v', e = .returned v' ∧ OwnD w' w.heap.size w'.heap.size (inss xs) v' ∧ Below w.heap.size w w' := toIns w v xs h hg.1
theorem toPoolR (w : World) (v : Value) (xs : List Kc) (h : Reads w w.heap.size (pool xs) v) (hg : poolG xs) :
    Calls Tryz.prog 63 #[v] w fun e w' => ∃ v', e = .returned v' ∧ OwnD w' w.heap.size w'.heap.size (pool xs) v' ∧ Below w.heap.size w w' := toKcs w v xs h hg.1
theorem toFldsR (w : World) (v : Value) (xs : List Fd) (h : Reads w w.heap.size (flds xs) v) (hg : fldsG xs) :
    Calls Tryz.prog 64 #[v] w fun e w' => ∃ v', e = .returned v' ∧ OwnD w' w.heap.size w'.heap.size (flds xs) v' ∧ Below w.heap.size w w' := toFds w v xs h hg.1
end Go.Proofs.YtelpdlhgjepgbaaGreat
