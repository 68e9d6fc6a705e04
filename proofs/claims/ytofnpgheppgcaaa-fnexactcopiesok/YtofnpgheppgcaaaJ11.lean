/-
  Joined: InsTo, RecT.
-/
import Derived.Test.YtofnpgheppgcaaaJ5
import Derived.Test.YtofnpgheppgcaaaJ10
import Derived.Test.YtofnpgheppgcaaaJ4
import Derived.Test.YtofnpgheppgcaaaJ6
import Derived.Test.YtofnpgheppgcaaaJ9
/-
  Places of code that are copied, held against each other, marked.
-/
namespace Go.Proofs.Ytofnpgheppgcaaa
open Go.RowKit

theorem Try.infoIn : (Try.prog.info? 148).map (fun i => (i.zero, i.size, i.bytes)) = some (some (.agg #[.int .i64 0, .int .i64 0]), 2, 16) := by kernel_rfl
set_option maxRecDepth 100000 in
set_option maxHeartbeats 4000000 in
theorem toIn (w : World) (x : Isn) : Calls Try.prog 104 #[inV x] w fun e w' => e = .returned (inV x) ∧ Below w.heap.size w w' := by
  unfold inV
  go_enter Try.func104, Try.ntmps104
  go_wp2
  exact bodyPost_ret (v := .agg #[.int .i64 x.o, .int .i64 x.n]) (by simp [results, Try.results104, go_sem]) rfl ⟨rfl, (((Below.refl _ _).alloc (Nat.le_refl _) _).alloc (by simp) _).alloc (by simp; omega) _⟩
set_option maxRecDepth 100000 in
set_option maxHeartbeats 4000000 in
theorem toIns (w : World) (v : Value) (xs : List Isn) (h : Reads w w.heap.size (inss xs) v) (hm : xs.length ≤ 1048576) :
    Calls Try.prog 100 #[v] w fun e w' => ∃ v', e = .returned v' ∧ OwnD w' w.heap.size w'.heap.size (inss xs) v' ∧ Below w.heap.size w w' := by
  have HX : Hid (∀ wr, Below w.heap.size w wr → _) := hide (fun wr hb => ins_at (h.at hb))
  obtain ⟨a, cap, rfl, _⟩ := ins_at h
  have HD : Hid (∀ W hi v, OwnD W w.heap.size hi (.row 148 2 xs.length (upTo inD [.int .i64 0, .int .i64 0] xs xs.length)) v → OwnD W w.heap.size hi (inss xs) v) := hide (fun W hi v h => by unfold inss; rwa [upTo_all] at h)
  clear h
  obtain ⟨i0, hi, hz0, hz1, hz2⟩ := info_parts Try.infoIn
  generalize hn : xs.length = n at *
  go_enter Try.func100, Try.ntmps100
  go_wp2_with (at_make; refine wpList_make_full _ rfl _ _ 133 rfl w.heap.size 148 i0 (.agg #[.int .i64 0, .int .i64 0]) 2 Try.underlying133 hi hz0 hz1 _ _ _ _ n rfl rfl rfl rfl (by rw [hz2]; omega) (by unfold maxLen; omega) (Nat.le_refl _) ?_; intro w1 ho1 hg1)
  have o1 : OwnD w1 w.heap.size w1.heap.size (.row 148 2 n (upTo inD [.int .i64 0, .int .i64 0] xs 0)) (.slice (some ⟨w.heap.size, 0, none⟩) n n) := ownD_made hn rfl (by decide) rfl ho1 (fun q hq => (World.ownsRow.lt ho1 q hq).2)
  have hl1 : w.heap.size < w1.heap.size := (World.ownsRow.lt ho1 _ rfl).2
  have b1 : Below w.heap.size w w1 := (Below.refl _ _).grown hg1 (Nat.le_refl _) (fun k hk => by cases hk)
  clear ho1 hg1 hi hz0 hz1 hz2
  go_loopw [4] (fun i wr => ∃ (j : Nat), j ≤ n ∧ i = .int .i64 (j : Int) ∧ Hid (OwnD wr w.heap.size wr.heap.size (.row 148 2 n (upTo inD [.int .i64 0, .int .i64 0] xs j)) (.slice (some ⟨w.heap.size, 0, none⟩) n n)) ∧ Hid (Below w.heap.size w wr) ∧ w.heap.size < wr.heap.size) (fun i _ => n - (intOf i).toNat)
  case atStart => exact ⟨0, Nat.zero_le _, rfl, hide o1, hide b1, hl1⟩
  case round =>
    clear o1 b1
    obtain ⟨j, hj, rfl, HO, HB, hlt0⟩ := hrel
    by_cases hlt : j < n
    · obtain ⟨a', cap', ea, _, _, hx⟩ := HX.out wr HB.out
      cases ea
      obtain ⟨b, o, rfl, _, hcell⟩ := hx (by omega)
      obtain ⟨e0, e1⟩ := hcell j hlt
      clear hcell hx
      have HL : Hid (xs.getD j default = xs.getD j default) := hide rfl
      generalize hx9 : xs.getD j default = x at *
      have OU : Hid (∀ W : World, OwnDL W W.heap.size W.heap.size (inD (xs.getD j default)) [.int .i64 x.o, .int .i64 x.n]) := hide (fun W => by rw [hx9]; exact OwnDL.val (OwnDL.val (ownDL_nil _ _ _)))
      clear hx9 HL
      go_wp2_with fail
      refine (toIn _ x).mono ?_
      rintro e w2 ⟨rfl, b2⟩
      have hs2 := b2.size
      replace HO := hide ((HO.out.below b2).up hs2)
      replace HB := hide (HB.out.trans (b2.mono HB.out.size))
      replace hlt0 : w.heap.size < w2.heap.size := by omega
      clear b2
      unfold inV
      obtain ⟨hc, hf, ho2⟩ := OwnD.fill (f := inD) (k := 2) (fun _ => rfl) rfl hn hlt HO.out (OU.out w2) (Nat.le_refl _) (Nat.le_of_lt hlt0) (Nat.le_refl _)
      obtain ⟨y0, d0⟩ := hc 0 (by omega)
      obtain ⟨y1, d1⟩ := hc 1 (by omega)
      rw [Nat.add_zero]  at d0
      have hb2 := setRow_below [.int .i64 x.o, .int .i64 x.n] w2 (j * 2) HB.out (Nat.le_refl _)
      have hs9 : w2.heap.size = (setRow w2 w.heap.size (j * 2) [.int .i64 x.o, .int .i64 x.n]).heap.size := by simp [setRow]
      rw [hs9] at ho2
      clear hs9
      simp only [setRow] at ho2 hb2
      replace HO := hide ho2
      have HB2 := hide hb2
      clear ho2 hb2 hc HB OU
      go_wp2
      exact ⟨⟨j + 1, by omega, by go_num, HO, HB2, by simp; omega⟩, by simp [intOf]; omega⟩
    · obtain rfl : j = n := by omega
      have HF := hide (HD.out _ _ _ HO.out)
      go_wp2
      go_ret
      exact ⟨_, rfl, HF.out, HB.out⟩
set_option maxRecDepth 100000 in
set_option maxHeartbeats 4000000 in
theorem eqIn (w : World) (x : Isn) : Calls Try.prog 105 #[inV x, inV x] w fun e w' => e = .returned (.bool true) ∧ Below w.heap.size w w' := by
  have e1 : (x.o != x.o) = false := by simp
  have e2 : (x.n != x.n) = false := by simp
  unfold inV
  go_enter Try.func105, Try.ntmps105
  go_wp2
  go_ret
  exact ⟨rfl, ((Below.refl _ _).alloc (Nat.le_refl _) _).alloc (by simp) _⟩
set_option maxRecDepth 100000 in
set_option maxHeartbeats 4000000 in
theorem eqInss (w : World) (v1 v2 : Value) (xs : List Isn) (h1 : Reads w w.heap.size (inss xs) v1) (h2 : Reads w w.heap.size (inss xs) v2) (hm : xs.length ≤ 1048576) :
    Calls Try.prog 103 #[v1, v2] w fun e w' => e = .returned (.bool true) ∧ Below w.heap.size w w' := by
  have HX1 : Hid (∀ wr, Below w.heap.size w wr → _) := hide (fun wr hb => ins_at (h1.at hb))
  have HX2 : Hid (∀ wr, Below w.heap.size w wr → _) := hide (fun wr hb => ins_at (h2.at hb))
  obtain ⟨a1, cap1, rfl, _⟩ := ins_at h1
  obtain ⟨a2, cap2, rfl, _⟩ := ins_at h2
  clear h1 h2
  generalize hn : xs.length = n at *
  have hne : ((n : Int) != (n : Int)) = false := by simp
  go_enter Try.func103, Try.ntmps103
  go_wp2
  go_loopw [5] (fun i wr => ∃ j : Nat, j ≤ n ∧ i = .int .i64 (j : Int) ∧ Below w.heap.size w wr) (fun i _ => n - (intOf i).toNat)
  case atStart => exact ⟨0, Nat.zero_le _, rfl, Below.refl _ _⟩
  case round =>
    obtain ⟨j, hj, rfl, hb⟩ := hrel
    have HB := hide hb
    have hs := hb.size
    clear hb
    by_cases hlt : j < n
    · obtain ⟨a1', cap1', ea1, _, _, hx1⟩ := HX1.out wr HB.out
      cases ea1
      obtain ⟨b1, o1, rfl, hb1, hc1⟩ := hx1 (by omega)
      obtain ⟨a2', cap2', ea2, _, _, hx2⟩ := HX2.out wr HB.out
      cases ea2
      obtain ⟨b2, o2, rfl, hb2, hc2⟩ := hx2 (by omega)
      obtain ⟨e0, e1⟩ := hc1 j hlt
      obtain ⟨d0, d1⟩ := hc2 j hlt
      clear hx1 hx2 hc1 hc2
      generalize xs.getD j default = p at *
      go_wp2
      go_cut [26] from 11 to 26 (fun s wq => s = .bool false ∧ Below w.heap.size w wq)
      case first =>
        go_region_with (go_at_call 105; refine (eqIn _ p).mono ?_; rintro e w1 ⟨rfl, b1⟩; have HB1 := hide (HB.out.trans (below_of_drew b1 |>.mono hs)); clear b1)
        all_goals (go_wp2_with fail; go_meet; exact ⟨rfl, HB1.out⟩)
      case rest =>
        obtain ⟨rfl, hB⟩ := hcut
        have HB2 := hide hB
        clear hB
        go_wp2
        exact ⟨⟨j + 1, hlt, by go_num, HB2.out⟩, by simp [intOf]; omega⟩
    · go_wp2
      go_ret
      exact ⟨rfl, HB.out⟩
def mkIn (k : Nat) : Isn := ⟨(k : Int), ((k + 1 : Nat) : Int)⟩
def mkIs (k n : Nat) : List Isn := (List.range n).map fun i => mkIn (k + 2 * i)
theorem mkIs_len (k n : Nat) : (mkIs k n).length = n := by simp [mkIs]
theorem mkIs_get (k n j : Nat) (h : j < n) : (mkIs k n).getD j default = mkIn (k + 2 * j) := by simp [mkIs, h]
def szZ (m : Int) (len : Nat) : Prop := m < 0 ∨ (0 ≤ m ∧ m ≤ 1048576 ∧ len ≤ 1048576)
theorem szIns (a : Option Addr) (len cap : Nat) (w : World) (hm : len ≤ maxLen) :
    Calls Try.prog 98 #[.slice a len cap, .int .i64 1048576] w fun e w' => ∃ m, e = .returned (.int .i64 m) ∧ w' = w ∧ szZ m len := by
  unfold maxLen at hm
  go_enter Try.func98, Try.ntmps98
  by_cases hl : len ≤ 1048576
  · have h0 : ¬ (1048576 : Int) - (len : Int) < 0 := by omega
    have HL := hide hl
    clear hl
    go_wp2
    go_ret
    exact ⟨_, rfl, rfl, .inr ⟨by omega, by omega, HL.out⟩⟩
  · have h0 : (1048576 : Int) - (len : Int) < 0 := by omega
    go_wp2
    go_ret
    exact ⟨_, rfl, rfl, .inl (by omega)⟩
end Go.Proofs.Ytofnpgheppgcaaa
/-
  Rows of texts, places, consts and fields copied, in one form.
-/
namespace Go.Proofs.Ytofnpgheppgcaaa
open Go.ChangeShapes Go.WideShapes Go.RowKit

theorem toStrsR (w : World) (v : Value) (xs : List ByteArray) (h : Reads w w.heap.size (strs xs) v) (hg : strsG xs) :
    Calls Try.prog 99 #[v] w fun e w' => ∃ v', e = .returned v' ∧ OwnD w' w.heap.size w'.heap.size (strs xs) v' ∧ Below w.heap.size w w' := toStrs w v xs h hg.1
theorem toInssR (w : World) (v : Value) (xs : List Isn) (h : Reads w w.heap.size (inss xs) v) (hg : inssG xs) :
    Calls Try.prog 100 #[v] w fun e w' => ∃ v', e = .returned v' ∧ OwnD w' w.heap.size w'.heap.size (inss xs) v' ∧ Below w.heap.size w w' := toIns w v xs h hg.1
theorem toPoolR (w : World) (v : Value) (xs : List Kc) (h : Reads w w.heap.size (pool xs) v) (hg : poolG xs) :
    Calls Try.prog 77 #[v] w fun e w' => ∃ v', e = .returned v' ∧ OwnD w' w.heap.size w'.heap.size (pool xs) v' ∧ Below w.heap.size w w' := toKcs w v xs h hg.1
theorem toFldsR (w : World) (v : Value) (xs : List Fd) (h : Reads w w.heap.size (flds xs) v) (hg : fldsG xs) :
    Calls Try.prog 78 #[v] w fun e w' => ∃ v', e = .returned v' ∧ OwnD w' w.heap.size w'.heap.size (flds xs) v' ∧ Below w.heap.size w w' := toFds w v xs h hg.1
end Go.Proofs.Ytofnpgheppgcaaa
