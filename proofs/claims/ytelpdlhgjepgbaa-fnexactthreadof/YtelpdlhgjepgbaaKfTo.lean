/-
  Texts, consts and fields copied into new memory.
-/
import Derived.Test.YtelpdlhgjepgbaaKfD
import Derived.Test.YtelpdlhgjepgbaaDeepTo
import Derived.Deep.RegionWith
import Derived.Deep.CutRange
import Derived.BigRegion
namespace Go.Proofs.Ytelpdlhgjepgbaa
open Go.RowKit

theorem Try.infoKc : (Try.prog.info? 140).map (fun i => (i.zero, i.size, i.bytes)) = some (some (.agg #[.int .i64 0, .int .i64 0, .string ByteArray.empty, .string ByteArray.empty]), 4, 48) := by kernel_rfl
theorem Try.infoFd : (Try.prog.info? 142).map (fun i => (i.zero, i.size, i.bytes)) = some (some (.agg #[.string ByteArray.empty, .string ByteArray.empty]), 2, 32) := by kernel_rfl
theorem Try.infoSt : (Try.prog.info? 9).map (fun i => (i.zero, i.size, i.bytes)) = some (some (.string ByteArray.empty), 1, 16) := by kernel_rfl
theorem loadKc {w : World} {g : Nat} {a0 a1 a2 a3 : Value} (h : w.heap[g]? = some (.cells #[a0, a1, a2, a3] 140 (0, 0))) : (loadVar 140 ⟨g, 0, none⟩).run Try.prog w = .ok (.agg #[a0, a1, a2, a3]) w :=
  run_loadVar_row w g 140 140 #[a0, a1, a2, a3] (0, 0) _ h Try.underlying140 rfl (by kernel_rfl)
theorem loadFd {w : World} {g : Nat} {a0 a1 : Value} (h : w.heap[g]? = some (.cells #[a0, a1] 142 (0, 0))) : (loadVar 142 ⟨g, 0, none⟩).run Try.prog w = .ok (.agg #[a0, a1]) w :=
  run_loadVar_row w g 142 142 #[a0, a1] (0, 0) _ h Try.underlying142 rfl (by kernel_rfl)
set_option maxRecDepth 100000 in
set_option maxHeartbeats 1000000 in
theorem toKc (w : World) (x : Kc) : Calls Try.prog 64 #[kcV x] w fun e w' => e = .returned (kcV x) ∧ Below w.heap.size w w' := by
  unfold kcV
  go_enter Try.func64, Try.ntmps64
  go_wp2
  exact bodyPost_ret (v := .agg #[.int .i64 x.k, .int .i64 x.n, .string x.a, .string x.b]) (by simp [results, Try.results64, go_sem]) rfl ⟨rfl, (((Below.refl _ _).alloc (Nat.le_refl _) _).alloc (by simp) _).alloc (by simp; omega) _⟩
set_option maxRecDepth 100000 in
set_option maxHeartbeats 1000000 in
theorem toFd (w : World) (x : Fd) : Calls Try.prog 65 #[fdV x] w fun e w' => e = .returned (fdV x) ∧ Below w.heap.size w w' := by
  unfold fdV
  go_enter Try.func65, Try.ntmps65
  go_wp2
  exact bodyPost_ret (v := .agg #[.string x.n, .string x.t]) (by simp [results, Try.results65, go_sem]) rfl ⟨rfl, (((Below.refl _ _).alloc (Nat.le_refl _) _).alloc (by simp) _).alloc (by simp; omega) _⟩
set_option maxRecDepth 100000 in
set_option maxHeartbeats 4000000 in
theorem toStrs (w : World) (v : Value) (xs : List ByteArray) (h : Reads w w.heap.size (strs xs) v) (hm : xs.length ≤ 1048576) :
    Calls Try.prog 74 #[v] w fun e w' => ∃ v', e = .returned v' ∧ OwnD w' w.heap.size w'.heap.size (strs xs) v' ∧ Below w.heap.size w w' := by
  have HX : Hid (∀ wr, Below w.heap.size w wr → _) := hide (fun wr hb => str_at (h.at hb))
  obtain ⟨a, cap, rfl, _⟩ := str_at h
  have HD : Hid (∀ W hi v, OwnD W w.heap.size hi (.row 9 1 xs.length (upTo txD [.string ByteArray.empty] xs xs.length)) v → OwnD W w.heap.size hi (strs xs) v) := hide (fun W hi v h => by unfold strs; rwa [upTo_all] at h)
  clear h
  obtain ⟨i0, hi, hz0, hz1, hz2⟩ := info_parts Try.infoSt
  generalize hn : xs.length = n at *
  go_enter Try.func74, Try.ntmps74
  go_wp2_with (at_make; refine wpList_make_full _ rfl _ _ 136 rfl w.heap.size 9 i0 (.string ByteArray.empty) 1 Try.underlying136 hi hz0 hz1 _ _ _ _ n rfl rfl rfl rfl (by rw [hz2]; omega) (by unfold maxLen; omega) (Nat.le_refl _) ?_; intro w1 ho1 hg1)
  have o1 : OwnD w1 w.heap.size w1.heap.size (.row 9 1 n (upTo txD [.string ByteArray.empty] xs 0)) (.slice (some ⟨w.heap.size, 0, none⟩) n n) := ownD_made hn rfl (by decide) rfl ho1 (fun q hq => (World.ownsRow.lt ho1 q hq).2)
  have hl1 : w.heap.size < w1.heap.size := (World.ownsRow.lt ho1 _ rfl).2
  have b1 : Below w.heap.size w w1 := (Below.refl _ _).grown hg1 (Nat.le_refl _) (fun k hk => by cases hk)
  clear ho1 hg1 hi hz0 hz1 hz2
  go_loopw [4] (fun i wr => ∃ (j : Nat), j ≤ n ∧ i = .int .i64 (j : Int) ∧ Hid (OwnD wr w.heap.size wr.heap.size (.row 9 1 n (upTo txD [.string ByteArray.empty] xs j)) (.slice (some ⟨w.heap.size, 0, none⟩) n n)) ∧ Hid (Below w.heap.size w wr) ∧ w.heap.size < wr.heap.size) (fun i _ => n - (intOf i).toNat)
  case atStart => exact ⟨0, Nat.zero_le _, rfl, hide o1, hide b1, hl1⟩
  case round =>
    clear o1 b1
    obtain ⟨j, hj, rfl, HO, HB, hlt0⟩ := hrel
    by_cases hlt : j < n
    · obtain ⟨a', cap', ea, _, _, hx⟩ := HX.out wr HB.out
      cases ea
      obtain ⟨b, o, rfl, _, hcell⟩ := hx (by omega)
      obtain e0 := hcell j hlt
      clear hcell hx
      have HL : Hid (xs.getD j default = xs.getD j default) := hide rfl
      generalize hx9 : xs.getD j default = x at *
      have OU : Hid (∀ W : World, OwnDL W W.heap.size W.heap.size (txD (xs.getD j default)) [.string x]) := hide (fun W => by rw [hx9]; exact OwnDL.val (ownDL_nil _ _ _))
      clear hx9 HL
      obtain ⟨hc, hf, ho2⟩ := OwnD.fill (f := txD) (k := 1) (fun _ => rfl) rfl hn hlt HO.out (OU.out wr) (Nat.le_refl _) (Nat.le_of_lt hlt0) (Nat.le_refl _)
      obtain ⟨y0, d0⟩ := hc 0 (by omega)
      simp only [Nat.mul_one, Nat.add_zero] at d0
      have hb2 := setRow_below [.string x] wr (j * 1) HB.out (Nat.le_refl _)
      have hs9 : wr.heap.size = (setRow wr w.heap.size (j * 1) [.string x]).heap.size := by simp [setRow]
      rw [hs9] at ho2
      clear hs9
      simp only [setRow, Nat.mul_one] at ho2 hb2
      replace HO := hide ho2
      have HB2 := hide hb2
      clear ho2 hb2 hc HB OU
      go_wp2
      exact ⟨⟨j + 1, by omega, by go_num, HO, HB2, by simp; omega⟩, by simp [intOf]; omega⟩
    · obtain rfl : j = n := by omega
      have HF := hide (HD.out _ _ _ HO.out)
      go_wp2
      go_ret
      exact ⟨_, rfl, HF.out, HB.out⟩
set_option maxRecDepth 100000 in
set_option maxHeartbeats 4000000 in
theorem toKcs (w : World) (v : Value) (xs : List Kc) (h : Reads w w.heap.size (pool xs) v) (hm : xs.length ≤ 1048576) :
    Calls Try.prog 51 #[v] w fun e w' => ∃ v', e = .returned v' ∧ OwnD w' w.heap.size w'.heap.size (pool xs) v' ∧ Below w.heap.size w w' := by
  have HX : Hid (∀ wr, Below w.heap.size w wr → _) := hide (fun wr hb => const_at (h.at hb))
  obtain ⟨a, cap, rfl, _⟩ := const_at h
  have HD : Hid (∀ W hi v, OwnD W w.heap.size hi (.row 140 4 xs.length (upTo kcD [.int .i64 0, .int .i64 0, .string ByteArray.empty, .string ByteArray.empty] xs xs.length)) v → OwnD W w.heap.size hi (pool xs) v) := hide (fun W hi v h => by unfold pool; rwa [upTo_all] at h)
  clear h
  obtain ⟨i0, hi, hz0, hz1, hz2⟩ := info_parts Try.infoKc
  generalize hn : xs.length = n at *
  go_enter Try.func51, Try.ntmps51
  go_wp2_with (at_make; refine wpList_make_full _ rfl _ _ 91 rfl w.heap.size 140 i0 (.agg #[.int .i64 0, .int .i64 0, .string ByteArray.empty, .string ByteArray.empty]) 4 Try.underlying91 hi hz0 hz1 _ _ _ _ n rfl rfl rfl rfl (by rw [hz2]; omega) (by unfold maxLen; omega) (Nat.le_refl _) ?_; intro w1 ho1 hg1)
  have o1 : OwnD w1 w.heap.size w1.heap.size (.row 140 4 n (upTo kcD [.int .i64 0, .int .i64 0, .string ByteArray.empty, .string ByteArray.empty] xs 0)) (.slice (some ⟨w.heap.size, 0, none⟩) n n) := ownD_made hn rfl (by decide) rfl ho1 (fun q hq => (World.ownsRow.lt ho1 q hq).2)
  have hl1 : w.heap.size < w1.heap.size := (World.ownsRow.lt ho1 _ rfl).2
  have b1 : Below w.heap.size w w1 := (Below.refl _ _).grown hg1 (Nat.le_refl _) (fun k hk => by cases hk)
  clear ho1 hg1 hi hz0 hz1 hz2
  go_loopw [4] (fun i wr => ∃ (j : Nat), j ≤ n ∧ i = .int .i64 (j : Int) ∧ Hid (OwnD wr w.heap.size wr.heap.size (.row 140 4 n (upTo kcD [.int .i64 0, .int .i64 0, .string ByteArray.empty, .string ByteArray.empty] xs j)) (.slice (some ⟨w.heap.size, 0, none⟩) n n)) ∧ Hid (Below w.heap.size w wr) ∧ w.heap.size < wr.heap.size) (fun i _ => n - (intOf i).toNat)
  case atStart => exact ⟨0, Nat.zero_le _, rfl, hide o1, hide b1, hl1⟩
  case round =>
    clear o1 b1
    obtain ⟨j, hj, rfl, HO, HB, hlt0⟩ := hrel
    by_cases hlt : j < n
    · obtain ⟨a', cap', ea, _, _, hx⟩ := HX.out wr HB.out
      cases ea
      obtain ⟨b, o, rfl, _, hcell⟩ := hx (by omega)
      obtain ⟨e0, e1, e2, e3⟩ := hcell j hlt
      clear hcell hx
      have HL : Hid (xs.getD j default = xs.getD j default) := hide rfl
      generalize hx9 : xs.getD j default = x at *
      have OU : Hid (∀ W : World, OwnDL W W.heap.size W.heap.size (kcD (xs.getD j default)) [.int .i64 x.k, .int .i64 x.n, .string x.a, .string x.b]) := hide (fun W => by rw [hx9]; exact OwnDL.val (OwnDL.val (OwnDL.val (OwnDL.val (ownDL_nil _ _ _)))))
      clear hx9 HL
      go_wp2_with fail
      refine (toKc _ x).mono ?_
      rintro e w2 ⟨rfl, b2⟩
      have hs2 := b2.size
      replace HO := hide ((HO.out.below b2).up hs2)
      replace HB := hide (HB.out.trans (b2.mono HB.out.size))
      replace hlt0 : w.heap.size < w2.heap.size := by omega
      clear b2
      unfold kcV
      obtain ⟨hc, hf, ho2⟩ := OwnD.fill (f := kcD) (k := 4) (fun _ => rfl) rfl hn hlt HO.out (OU.out w2) (Nat.le_refl _) (Nat.le_of_lt hlt0) (Nat.le_refl _)
      obtain ⟨y0, d0⟩ := hc 0 (by omega)
      obtain ⟨y1, d1⟩ := hc 1 (by omega)
      obtain ⟨y2, d2⟩ := hc 2 (by omega)
      obtain ⟨y3, d3⟩ := hc 3 (by omega)
      rw [Nat.add_zero]  at d0
      have hb2 := setRow_below [.int .i64 x.k, .int .i64 x.n, .string x.a, .string x.b] w2 (j * 4) HB.out (Nat.le_refl _)
      have hs9 : w2.heap.size = (setRow w2 w.heap.size (j * 4) [.int .i64 x.k, .int .i64 x.n, .string x.a, .string x.b]).heap.size := by simp [setRow]
      rw [hs9] at ho2
      clear hs9
      simp only [setRow, Nat.add_assoc, Nat.reduceAdd] at ho2 hb2
      replace HO := hide ho2
      have HB2 := hide hb2
      clear ho2 hb2 hc HB OU
      go_wp2
      exact ⟨⟨j + 1, by omega, by go_num, HO, HB2, by simp; omega⟩, by simp [intOf]; omega⟩
    · obtain rfl : j = n := by omega
      have HF := hide (HD.out _ _ _ HO.out)
      go_wp2
      go_ret
      exact ⟨_, rfl, HF.out, HB.out⟩
set_option maxRecDepth 100000 in
set_option maxHeartbeats 4000000 in
theorem toFds (w : World) (v : Value) (xs : List Fd) (h : Reads w w.heap.size (flds xs) v) (hm : xs.length ≤ 1048576) :
    Calls Try.prog 52 #[v] w fun e w' => ∃ v', e = .returned v' ∧ OwnD w' w.heap.size w'.heap.size (flds xs) v' ∧ Below w.heap.size w w' := by
  have HX : Hid (∀ wr, Below w.heap.size w wr → _) := hide (fun wr hb => field_at (h.at hb))
  obtain ⟨a, cap, rfl, _⟩ := field_at h
  have HD : Hid (∀ W hi v, OwnD W w.heap.size hi (.row 142 2 xs.length (upTo fdD [.string ByteArray.empty, .string ByteArray.empty] xs xs.length)) v → OwnD W w.heap.size hi (flds xs) v) := hide (fun W hi v h => by unfold flds; rwa [upTo_all] at h)
  clear h
  obtain ⟨i0, hi, hz0, hz1, hz2⟩ := info_parts Try.infoFd
  generalize hn : xs.length = n at *
  go_enter Try.func52, Try.ntmps52
  go_wp2_with (at_make; refine wpList_make_full _ rfl _ _ 92 rfl w.heap.size 142 i0 (.agg #[.string ByteArray.empty, .string ByteArray.empty]) 2 Try.underlying92 hi hz0 hz1 _ _ _ _ n rfl rfl rfl rfl (by rw [hz2]; omega) (by unfold maxLen; omega) (Nat.le_refl _) ?_; intro w1 ho1 hg1)
  have o1 : OwnD w1 w.heap.size w1.heap.size (.row 142 2 n (upTo fdD [.string ByteArray.empty, .string ByteArray.empty] xs 0)) (.slice (some ⟨w.heap.size, 0, none⟩) n n) := ownD_made hn rfl (by decide) rfl ho1 (fun q hq => (World.ownsRow.lt ho1 q hq).2)
  have hl1 : w.heap.size < w1.heap.size := (World.ownsRow.lt ho1 _ rfl).2
  have b1 : Below w.heap.size w w1 := (Below.refl _ _).grown hg1 (Nat.le_refl _) (fun k hk => by cases hk)
  clear ho1 hg1 hi hz0 hz1 hz2
  go_loopw [4] (fun i wr => ∃ (j : Nat), j ≤ n ∧ i = .int .i64 (j : Int) ∧ Hid (OwnD wr w.heap.size wr.heap.size (.row 142 2 n (upTo fdD [.string ByteArray.empty, .string ByteArray.empty] xs j)) (.slice (some ⟨w.heap.size, 0, none⟩) n n)) ∧ Hid (Below w.heap.size w wr) ∧ w.heap.size < wr.heap.size) (fun i _ => n - (intOf i).toNat)
  case atStart => exact ⟨0, Nat.zero_le _, rfl, hide o1, hide b1, hl1⟩
  case round =>
    clear o1 b1
    obtain ⟨j, hj, rfl, HO, HB, hlt0⟩ := hrel
    by_cases hlt : j < n
    · obtain ⟨a', cap', ea, _, _, hx⟩ := HX.out wr HB.out
      cases ea
      obtain ⟨b, o, rfl, _, hcell⟩ := hx (by omega)
      obtain ⟨e0, e1⟩ := hcell j hlt
      clear hcell hx
      have HL : Hid (xs.getD j default = xs.getD j default) := hide rfl
      generalize hx9 : xs.getD j default = x at *
      have OU : Hid (∀ W : World, OwnDL W W.heap.size W.heap.size (fdD (xs.getD j default)) [.string x.n, .string x.t]) := hide (fun W => by rw [hx9]; exact OwnDL.val (OwnDL.val (ownDL_nil _ _ _)))
      clear hx9 HL
      go_wp2_with fail
      refine (toFd _ x).mono ?_
      rintro e w2 ⟨rfl, b2⟩
      have hs2 := b2.size
      replace HO := hide ((HO.out.below b2).up hs2)
      replace HB := hide (HB.out.trans (b2.mono HB.out.size))
      replace hlt0 : w.heap.size < w2.heap.size := by omega
      clear b2
      unfold fdV
      obtain ⟨hc, hf, ho2⟩ := OwnD.fill (f := fdD) (k := 2) (fun _ => rfl) rfl hn hlt HO.out (OU.out w2) (Nat.le_refl _) (Nat.le_of_lt hlt0) (Nat.le_refl _)
      obtain ⟨y0, d0⟩ := hc 0 (by omega)
      obtain ⟨y1, d1⟩ := hc 1 (by omega)
      rw [Nat.add_zero]  at d0
      have hb2 := setRow_below [.string x.n, .string x.t] w2 (j * 2) HB.out (Nat.le_refl _)
      have hs9 : w2.heap.size = (setRow w2 w.heap.size (j * 2) [.string x.n, .string x.t]).heap.size := by simp [setRow]
      rw [hs9] at ho2
      clear hs9
      simp only [setRow] at ho2 hb2
      replace HO := hide ho2
      have HB2 := hide hb2
      clear ho2 hb2 hc HB OU
      go_wp2
      exact ⟨⟨j + 1, by omega, by go_num, HO, HB2, by simp; omega⟩, by simp [intOf]; omega⟩
    · obtain rfl : j = n := by omega
      have HF := hide (HD.out _ _ _ HO.out)
      go_wp2
      go_ret
      exact ⟨_, rfl, HF.out, HB.out⟩
end Go.Proofs.Ytelpdlhgjepgbaa
