/-
  How great classes are that come in.
-/
import Derived.Test.YthagfdcfpffaoaaClsD
import Derived.Test.YthagfdcfpffaoaaKfSz
namespace Go.Proofs.Ythagfdcfpffaoaa
open Go.RowKit

def meW (x : Me) : Nat := x.n.size + (x.ps.length + tot ByteArray.size x.ps) + x.r.size + x.c.length
def clW (x : Cl) : Nat := x.n.size + x.s.size + (x.p.length + tot kcW x.p) + (x.f.length + tot fdW x.f) + (x.m.length + tot meW x.m)

set_option maxRecDepth 100000 in
set_option maxHeartbeats 2000000 in
theorem szMe (w : World) (x : Me) (pv cv : Value) (left : Int) (hp : Reads w w.heap.size (strs x.ps) pv) (hc : Reads w w.heap.size (byts x.c) cv) (h0 : 0 ≤ left) (h1 : left ≤ 1048576) (hr : MeR x) :
    Calls Try.prog 48 #[meV x pv cv, .int .i64 left] w fun e w' => e = .returned (.int .i64 (szR left (meW x))) ∧ Below w.heap.size w w' := by
  obtain ⟨h2, h3, h4, h5, h6, _, _⟩ := hr
  obtain ⟨a1, c1, e1, _⟩ := hp.shape
  obtain ⟨a2, c2, e2, _⟩ := hc.shape
  subst e1 e2
  have HP := hide (hp.at ((Below.refl w.heap.size w).alloc (Nat.le_refl _) (.cells #[.string x.n, .slice a1 x.ps.length c1, .string x.r, .int .i64 x.l, .slice a2 x.c.length c2] 79)))
  have H5 := hide h5
  have H4 := hide h4
  have H6 := hide h6
  clear hp hc h5
  unfold meV meW
  unfold maxLen at h2 h3 h4 h6
  generalize hT : x.ps.length + tot ByteArray.size x.ps = T at *
  have HT := hide hT
  clear hT
  have hw : IntKind.i64.wrap (left - (x.n.size : Int)) = left - (x.n.size : Int) := by rw [IntKind.wrap_i64]; omega
  by_cases g1 : left - (x.n.size : Int) < 0
  · rw [szR_neg (by omega)]
    go_enter Try.func48, Try.ntmps48
    go_wp2
    go_ret
    exact ⟨rfl, (Below.refl _ _).alloc (Nat.le_refl _) _⟩
  · have HS := hide (szSt _ _ _ x.ps (left - (x.n.size : Int)) HP.out (by omega) (by omega) H5.out H4.out)
    rw [HT.out] at HS
    by_cases g2 : left - (x.n.size : Int) - (T : Int) < 0
    · rw [szR_neg (by omega)]
      rw [szR_neg (by omega)] at HS
      go_enter Try.func48, Try.ntmps48
      go_wp2_with fail
      refine (unhide HS).mono ?_
      rintro e w1 ⟨rfl, rfl⟩
      go_wp2
      go_ret
      exact ⟨rfl, (Below.refl _ _).alloc (Nat.le_refl _) _⟩
    · rw [szR_pos (by omega)] at HS
      have hw3 : IntKind.i64.wrap (left - (x.n.size : Int) - (T : Int) - (x.r.size : Int)) = left - (x.n.size : Int) - (T : Int) - (x.r.size : Int) := by rw [IntKind.wrap_i64]; omega
      by_cases g3 : left - (x.n.size : Int) - (T : Int) - (x.r.size : Int) < 0
      · rw [szR_neg (by omega)]
        go_enter Try.func48, Try.ntmps48
        go_wp2_with fail
        refine (unhide HS).mono ?_
        rintro e w1 ⟨rfl, rfl⟩
        go_wp2
        go_ret
        exact ⟨rfl, (Below.refl _ _).alloc (Nat.le_refl _) _⟩
      · have HC := hide (szBy a2 x.c.length c2 (left - (x.n.size : Int) - (T : Int) - (x.r.size : Int)) (w.alloc (.cells #[.string x.n, .slice a1 x.ps.length c1, .string x.r, .int .i64 x.l, .slice a2 x.c.length c2] 79)) (by omega) (by omega) H6.out)
        by_cases g4 : left - (x.n.size : Int) - (T : Int) - (x.r.size : Int) - (x.c.length : Int) < 0
        · rw [szR_neg (by omega)]
          rw [szR_neg (by omega)] at HC
          go_enter Try.func48, Try.ntmps48
          go_wp2_with fail
          refine (unhide HS).mono ?_
          rintro e w1 ⟨rfl, rfl⟩
          go_wp2_with fail
          refine (unhide HC).mono ?_
          rintro e w1 ⟨rfl, rfl⟩
          go_wp2
          go_ret
          exact ⟨rfl, (Below.refl _ _).alloc (Nat.le_refl _) _⟩
        · rw [szR_pos (by omega)]
          rw [szR_pos (by omega)] at HC
          go_enter Try.func48, Try.ntmps48
          go_wp2_with fail
          refine (unhide HS).mono ?_
          rintro e w1 ⟨rfl, rfl⟩
          go_wp2_with fail
          refine (unhide HC).mono ?_
          rintro e w1 ⟨rfl, rfl⟩
          go_wp2
          go_ret
          exact ⟨ret_int (by omega), (Below.refl _ _).alloc (Nat.le_refl _) _⟩
set_option maxRecDepth 100000 in
set_option maxHeartbeats 4000000 in
theorem szMes (w : World) (v : Value) (xs : List Me) (left : Int) (h : Reads w w.heap.size (mets xs) v) (h0 : 0 ≤ left) (h1 : left ≤ 1048576) (hx : ∀ x ∈ xs, MeR x) (hm : xs.length ≤ maxLen) :
    Calls Try.prog 18 #[v, .int .i64 left] w fun e w' => e = .returned (.int .i64 (szR left (xs.length + tot meW xs))) ∧ Below w.heap.size w w' := by
  have HX : Hid (∀ wr, Below w.heap.size w wr → _) := hide (fun wr hb => meth_at (h.at hb))
  have HR : Hid (∀ j, j < xs.length → MeR (xs.getD j default)) := hide (fun j hj => getD_mem hx j hj)
  have HS : Hid (∀ j, j < xs.length → tot meW (xs.take (j + 1)) = tot meW (xs.take j) + meW (xs.getD j default)) := hide (fun j hj => tot_step _ xs j hj)
  have HL : Hid (∀ j, tot meW (xs.take j) ≤ tot meW xs) := hide (tot_le _ xs)
  have HA : Hid (tot meW (xs.take xs.length) = tot meW xs) := hide (by rw [List.take_length])
  obtain ⟨a, cap, rfl, _⟩ := meth_at h
  clear h hx
  generalize hn : xs.length = n at *
  unfold maxLen at hm
  have hw : IntKind.i64.wrap (left - (n : Int)) = left - (n : Int) := by rw [IntKind.wrap_i64]; omega
  by_cases hbig : left - (n : Int) < 0
  · rw [szR_neg (by omega)]
    go_enter Try.func18, Try.ntmps18
    go_wp2
    go_ret
    exact ⟨rfl, Below.refl _ _⟩
  · go_enter Try.func18, Try.ntmps18
    go_wp2
    go_loopw [1, 5] (fun q i wr => ∃ j : Nat, j ≤ n ∧ q = .int .i64 (left - (n : Int) - (tot meW (xs.take j) : Int)) ∧ i = .int .i64 (j : Int) ∧ 0 ≤ left - (n : Int) - (tot meW (xs.take j) : Int) ∧ Hid (Below w.heap.size w wr)) (fun _ i _ => n - (intOf i).toNat)
    case atStart => exact ⟨0, Nat.zero_le _, by simp [tot], rfl, by simp [tot]; omega, hide (Below.refl _ _)⟩
    case round =>
      obtain ⟨j, hj, rfl, rfl, hq, HB⟩ := hrel
      by_cases hlt : j < n
      · obtain ⟨a', cap', ea, _, _, hc⟩ := HX.out wr HB.out
        cases ea
        obtain ⟨b, o, rfl, _, hcell⟩ := hc (by omega)
        obtain ⟨pv, cv, e0, e1, e2, e3, e4, r1, r2⟩ := hcell j hlt
        have hz := hide (HR.out j hlt)
        have hs := HS.out j hlt
        have hle := HL.out (j + 1)
        clear hcell hc
        generalize xs.getD j default = x at *
        have HZ := hide (szMe wr x pv cv _ r1 r2 hq (by omega) hz.out)
        generalize meW x = t at *
        have HE : Hid (left - (n : Int) - (tot meW (xs.take j) : Int) - (t : Int) = left - (n : Int) - (tot meW (xs.take (j + 1)) : Int)) := hide (by rw [hs]; omega)
        have HN : Hid (left - (n : Int) - (tot meW (xs.take (j + 1)) : Int) < 0 → szR left (n + tot meW xs) = -1) := hide (fun h => szR_neg (by omega))
        clear hs hle hz HS HL
        by_cases g : left - (n : Int) - (tot meW (xs.take j) : Int) < (t : Int)
        · rw [szR_neg g] at HZ
          go_wp2_with fail
          refine (unhide HZ).mono ?_
          rintro e w1 ⟨rfl, b1⟩
          replace HB := hide (HB.out.trans (b1.mono HB.out.size))
          clear b1
          go_wp2
          go_ret
          exact ⟨by rw [HN.out (by rw [← HE.out]; omega)]; rfl, HB.out⟩
        · rw [szR_pos g] at HZ
          have g' : ¬ left - (n : Int) - (tot meW (xs.take j) : Int) - (t : Int) < 0 := by omega
          go_wp2_with fail
          refine (unhide HZ).mono ?_
          rintro e w1 ⟨rfl, b1⟩
          replace HB := hide (HB.out.trans (b1.mono HB.out.size))
          clear b1
          go_wp2
          exact ⟨⟨j + 1, by omega, by first | rfl | (rw [HE.out]), by go_num, by rw [← HE.out]; omega, HB⟩, by simp [intOf]; omega⟩
      · obtain rfl : j = n := by omega
        have HF : Hid (szR left (j + tot meW xs) = left - (j : Int) - (tot meW (xs.take j) : Int)) := hide (by rw [szR_pos (by rw [← HA.out]; omega), ← HA.out]; omega)
        go_wp2
        go_ret
        exact ⟨by rw [HF.out]; rfl, HB.out⟩
set_option maxRecDepth 100000 in
set_option maxHeartbeats 4000000 in
/-- Of a class that came in: how great it is. -/
theorem szCls (w : World) (x : Cl) (pv fv mv : Value) (hp : Reads w w.heap.size (pool x.p) pv) (hf : Reads w w.heap.size (flds x.f) fv) (hme : Reads w w.heap.size (mets x.m) mv) (hr : ClR x) :
    Calls Try.prog 5 #[clV x pv fv mv, .int .i64 1048576] w fun e w' => ∃ m : Int, e = .returned (.int .i64 m) ∧ (m < 0 ∨ (0 ≤ m ∧ clW x ≤ 1048576)) ∧ Below w.heap.size w w' := by
  obtain ⟨h2, h3, h4, h5, h6, h7, h8, h9⟩ := hr
  obtain ⟨a1, c1, e1, _⟩ := hp.shape
  obtain ⟨a2, c2, e2, _⟩ := hf.shape
  obtain ⟨a3, c3, e3, _⟩ := hme.shape
  subst e1 e2 e3
  have b0 := (Below.refl w.heap.size w).alloc (Nat.le_refl _) (.cells #[.string x.n, .string x.s, .slice a1 x.p.length c1, .slice a2 x.f.length c2, .slice a3 x.m.length c3] 26)
  have HP := hide (hp.at b0)
  have HF := hide (hf.at b0)
  have HM := hide (hme.at b0)
  have HB := hide b0
  have H4 := hide h4
  have H5 := hide h5
  have H6 := hide h6
  have H7 := hide h7
  have H8 := hide h8
  have H9 := hide h9
  have HX := hide (Box.new w #[.string x.n, .string x.s, .slice a1 x.p.length c1, .slice a2 x.f.length c2, .slice a3 x.m.length c3] 26)
  have hgs : Hid (w.heap.size < (w.alloc (.cells #[.string x.n, .string x.s, .slice a1 x.p.length c1, .slice a2 x.f.length c2, .slice a3 x.m.length c3] 26)).heap.size) := hide (by simp)
  clear hp hf hme h4 h5 h6 h7 h8 h9 b0
  unfold clV clW
  unfold maxLen at h2 h3
  have hw : IntKind.i64.wrap (1048576 - (x.n.size : Int)) = 1048576 - (x.n.size : Int) := by rw [IntKind.wrap_i64]; omega
  by_cases g1 : 1048576 - (x.n.size : Int) < 0
  · go_enter Try.func5, Try.ntmps5
    go_wp2
    go_ret
    exact ⟨_, rfl, .inl (by omega), HB.out⟩
  · have hw3 : IntKind.i64.wrap (1048576 - (x.n.size : Int) - (x.s.size : Int)) = 1048576 - (x.n.size : Int) - (x.s.size : Int) := by rw [IntKind.wrap_i64]; omega
    by_cases g2 : 1048576 - (x.n.size : Int) - (x.s.size : Int) < 0
    · go_enter Try.func5, Try.ntmps5
      go_wp2
      go_ret
      exact ⟨_, rfl, .inl (by omega), HB.out⟩
    · go_enter Try.func5, Try.ntmps5
      go_wp2_with fail
      generalize w.alloc (.cells #[.string x.n, .string x.s, .slice a1 x.p.length c1, .slice a2 x.f.length c2, .slice a3 x.m.length c3] 26) = W at *
      refine (szKcs _ _ x.p _ HP.out (by omega) (by omega) H7.out H4.out).mono ?_
      rintro e w1 ⟨rfl, b1⟩
      obtain ⟨t1, ht1⟩ : ∃ t, x.p.length + tot kcW x.p = t := ⟨_, rfl⟩
      rw [ht1]
      have HT1 := hide ht1
      clear ht1
      by_cases g3 : 1048576 - (x.n.size : Int) - (x.s.size : Int) < (t1 : Int)
      · rw [szR_neg g3]
        replace HB := hide (HB.out.trans (b1.mono HB.out.size))
        clear b1
        go_wp2
        go_ret
        exact ⟨_, rfl, .inl (by omega), HB.out⟩
      · rw [szR_pos g3]
        have g3' : ¬ 1048576 - (x.n.size : Int) - (x.s.size : Int) - (t1 : Int) < 0 := by omega
        replace HX := hide (HX.out.below hgs.out b1)
        replace hgs := hide (Nat.lt_of_lt_of_le hgs.out b1.size)
        replace HF := hide (HF.out.at b1)
        replace HM := hide (HM.out.at b1)
        replace HB := hide (HB.out.trans (b1.mono HB.out.size))
        clear b1
        have q0 := HX.out 0 _ rfl
        have q1 := HX.out 1 _ rfl
        have q2 := HX.out 2 _ rfl
        have q3 := HX.out 3 _ rfl
        have q4 := HX.out 4 _ rfl
        go_wp2_with fail
        clear q0 q1 q2 q3 q4
        refine (szFds _ _ x.f _ HF.out (by omega) (by omega) H8.out H5.out).mono ?_
        rintro e w2 ⟨rfl, b2⟩
        obtain ⟨t2, ht2⟩ : ∃ t, x.f.length + tot fdW x.f = t := ⟨_, rfl⟩
        rw [ht2]
        have HT2 := hide ht2
        clear ht2
        by_cases g4 : 1048576 - (x.n.size : Int) - (x.s.size : Int) - (t1 : Int) < (t2 : Int)
        · rw [szR_neg g4]
          replace HB := hide (HB.out.trans (b2.mono HB.out.size))
          clear b2
          go_wp2
          go_ret
          exact ⟨_, rfl, .inl (by omega), HB.out⟩
        · rw [szR_pos g4]
          have g4' : ¬ 1048576 - (x.n.size : Int) - (x.s.size : Int) - (t1 : Int) - (t2 : Int) < 0 := by omega
          replace HX := hide (HX.out.below hgs.out b2)
          replace hgs := hide (Nat.lt_of_lt_of_le hgs.out b2.size)
          replace HM := hide (HM.out.at b2)
          replace HB := hide (HB.out.trans (b2.mono HB.out.size))
          clear b2
          have q0 := HX.out 0 _ rfl
          have q1 := HX.out 1 _ rfl
          have q2 := HX.out 2 _ rfl
          have q3 := HX.out 3 _ rfl
          have q4 := HX.out 4 _ rfl
          go_wp2_with fail
          clear q0 q1 q2 q3 q4
          refine (szMes _ _ x.m _ HM.out (by omega) (by omega) H9.out H6.out).mono ?_
          rintro e w3 ⟨rfl, b3⟩
          replace HB := hide (HB.out.trans (b3.mono HB.out.size))
          clear b3
          obtain ⟨t3, ht3⟩ : ∃ t, x.m.length + tot meW x.m = t := ⟨_, rfl⟩
          rw [ht3]
          have HT3 := hide ht3
          clear ht3
          by_cases g5 : 1048576 - (x.n.size : Int) - (x.s.size : Int) - (t1 : Int) - (t2 : Int) < (t3 : Int)
          · rw [szR_neg g5]
            go_wp2
            go_ret
            exact ⟨_, rfl, .inl (by omega), HB.out⟩
          · rw [szR_pos g5]
            have g5' : ¬ 1048576 - (x.n.size : Int) - (x.s.size : Int) - (t1 : Int) - (t2 : Int) - (t3 : Int) < 0 := by omega
            go_wp2
            go_ret
            exact ⟨_, rfl, .inr ⟨by omega, by have := HT1.out; have := HT2.out; have := HT3.out; omega⟩, HB.out⟩
end Go.Proofs.Ythagfdcfpffaoaa
