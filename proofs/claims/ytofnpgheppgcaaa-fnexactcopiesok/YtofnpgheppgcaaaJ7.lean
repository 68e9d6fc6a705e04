/-
  Joined: RecS, PrgSz.
-/
import Derived.Test.YtofnpgheppgcaaaJ6
/-
  How great rows of texts, places, consts and fields are, in one form.
-/
namespace Go.Proofs.Ytofnpgheppgcaaa
open Go.ChangeShapes Go.WideShapes Go.RowKit

theorem szInA (a : Option Addr) (len cap : Nat) (left : Int) (w : World) (h0 : 0 ≤ left) (h1 : left ≤ 1048576) (hm : len ≤ maxLen) :
    Calls Try.prog 98 #[.slice a len cap, .int .i64 left] w fun e w' => e = .returned (.int .i64 (szR left len)) ∧ w' = w := by
  unfold maxLen at hm
  have hw : IntKind.i64.wrap (left - (len : Int)) = left - (len : Int) := by rw [IntKind.wrap_i64]; omega
  by_cases h : left - (len : Int) < 0
  · rw [szR_neg (by omega)]
    go_enter Try.func98, Try.ntmps98
    go_wp2
    go_ret
    exact ⟨rfl, rfl⟩
  · rw [szR_pos (by omega)]
    go_enter Try.func98, Try.ntmps98
    go_wp2
    go_ret
    exact ⟨by first | rfl | (exact ret_int (by omega)), rfl⟩
theorem szStrsR (w : World) (v : Value) (xs : List ByteArray) (left : Int) (h : Reads w w.heap.size (strs xs) v) (h0 : 0 ≤ left) (h1 : left ≤ 1048576) (hr : strsR xs) :
    Calls Try.prog 97 #[v, .int .i64 left] w fun e w' => e = .returned (.int .i64 (szR left (strsW xs))) ∧ Below w.heap.size w w' := (szSt w _ v xs left h h0 h1 hr.2 hr.1).mono (by rintro e w1 ⟨a, rfl⟩; exact ⟨a, Below.refl _ _⟩)
theorem szInssR (w : World) (v : Value) (xs : List Isn) (left : Int) (h : Reads w w.heap.size (inss xs) v) (h0 : 0 ≤ left) (h1 : left ≤ 1048576) (hr : inssR xs) :
    Calls Try.prog 98 #[v, .int .i64 left] w fun e w' => e = .returned (.int .i64 (szR left (inssW xs))) ∧ Below w.heap.size w w' := by
  obtain ⟨a, c, rfl, _⟩ := h.shape
  exact (szInA a _ c left w h0 h1 hr.1).mono (by rintro e w1 ⟨a, rfl⟩; exact ⟨a, Below.refl _ _⟩)
theorem szPoolR (w : World) (v : Value) (xs : List Kc) (left : Int) (h : Reads w w.heap.size (pool xs) v) (h0 : 0 ≤ left) (h1 : left ≤ 1048576) (hr : poolR xs) :
    Calls Try.prog 73 #[v, .int .i64 left] w fun e w' => e = .returned (.int .i64 (szR left (poolW xs))) ∧ Below w.heap.size w w' := szKcs w v xs left h h0 h1 hr.2 hr.1
theorem szFldsR (w : World) (v : Value) (xs : List Fd) (left : Int) (h : Reads w w.heap.size (flds xs) v) (h0 : 0 ≤ left) (h1 : left ≤ 1048576) (hr : fldsR xs) :
    Calls Try.prog 74 #[v, .int .i64 left] w fun e w' => e = .returned (.int .i64 (szR left (fldsW xs))) ∧ Below w.heap.size w w' := szFds w v xs left h h0 h1 hr.2 hr.1
end Go.Proofs.Ytofnpgheppgcaaa
/-
  How great programs are that come in.
-/
namespace Go.Proofs.Ytofnpgheppgcaaa
open Go.ChangeShapes Go.WideShapes Go.RowKit

set_option maxRecDepth 100000 in
set_option maxHeartbeats 4000000 in
theorem szCo (w : World) (x : Co) (v1 v2 : Value) (left : Int) (h1 : Reads w w.heap.size (strs x.ps) v1) (h2 : Reads w w.heap.size (inss x.is) v2) (h0 : 0 ≤ left) (h9 : left ≤ 1048576) (hr : CoR x) :
    Calls Try.prog 87 #[coV x v1 v2, .int .i64 left] w fun e w' => e = .returned (.int .i64 (szR left (coW x))) ∧ Below w.heap.size w w' := by
  obtain ⟨a1, c1, e1, _⟩ := h1.shape
  obtain ⟨a2, c2, e2, _⟩ := h2.shape
  subst e1 e2
  have b0 := (Below.refl w.heap.size w).alloc (Nat.le_refl _) (.cells #[.string x.n, .int .i64 x.o, .slice a1 x.ps.length c1, .string x.r, .int .i64 x.l, .slice a2 x.is.length c2] 129)
  have H1 := hide (h1.at b0)
  have H2 := hide (h2.at b0)
  have HB := hide b0
  have HX := hide (Box.new w #[.string x.n, .int .i64 x.o, .slice a1 x.ps.length c1, .string x.r, .int .i64 x.l, .slice a2 x.is.length c2] 129)
  have hgs : Hid (w.heap.size < (w.alloc (.cells #[.string x.n, .int .i64 x.o, .slice a1 x.ps.length c1, .string x.r, .int .i64 x.l, .slice a2 x.is.length c2] 129)).heap.size) := hide (by simp)
  have K1 := hide hr.ps
  have K2 := hide hr.is
  have s_n := hr.n
  unfold maxLen at s_n
  have s_r := hr.r
  unfold maxLen at s_r
  obtain ⟨t1, ht1⟩ : ∃ t, strsW x.ps = t := ⟨_, rfl⟩
  obtain ⟨t2, ht2⟩ : ∃ t, inssW x.is = t := ⟨_, rfl⟩
  obtain ⟨R, hR⟩ : ∃ R, szR left (coW x) = R := ⟨_, rfl⟩
  rw [hR]
  unfold coW at hR
  rw [ht1, ht2] at hR
  have HT1 := hide ht1
  have HT2 := hide ht2
  have HR := hide hR
  clear hR hr b0 h1 ht1 h2 ht2
  unfold coV
  have hw1 : IntKind.i64.wrap (left - (x.n.size : Int)) = left - (x.n.size : Int) := by rw [IntKind.wrap_i64]; omega
  by_cases g1 : left - (x.n.size : Int) < 0
  · go_enter Try.func87, Try.ntmps87
    go_wp2
    go_ret
    exact ⟨ret_int (by rw [← HR.out, szR_neg (by omega)]), HB.out⟩
  · skip
    go_enter Try.func87, Try.ntmps87
    go_wp2_with fail
    generalize w.alloc (.cells #[.string x.n, .int .i64 x.o, .slice a1 x.ps.length c1, .string x.r, .int .i64 x.l, .slice a2 x.is.length c2] 129) = W at *
    refine (szStrsR _ _ x.ps _ H1.out (by omega) (by omega) K1.out).mono ?_
    rintro e w1 ⟨rfl, b1⟩
    rw [HT1.out]
    by_cases g2 : left - (x.n.size : Int) < (t1 : Int)
    · rw [szR_neg g2]
      replace HB := hide (HB.out.trans (b1.mono HB.out.size))
      clear b1
      go_wp2
      go_ret
      exact ⟨ret_int (by rw [← HR.out, szR_neg (by omega)]), HB.out⟩
    · rw [szR_pos g2]
      have g2' : ¬ left - (x.n.size : Int) - (t1 : Int) < 0 := by omega
      replace HX := hide (HX.out.below hgs.out b1)
      replace hgs := hide (Nat.lt_of_lt_of_le hgs.out b1.size)
      replace H2 := hide (H2.out.at b1)
      replace HB := hide (HB.out.trans (b1.mono HB.out.size))
      clear b1
      have hw3 : IntKind.i64.wrap (left - (x.n.size : Int) - (t1 : Int) - (x.r.size : Int)) = left - (x.n.size : Int) - (t1 : Int) - (x.r.size : Int) := by rw [IntKind.wrap_i64]; omega
      by_cases g3 : left - (x.n.size : Int) - (t1 : Int) - (x.r.size : Int) < 0
      · skip
        have q0 := HX.out 0 _ rfl
        have q1 := HX.out 1 _ rfl
        have q2 := HX.out 2 _ rfl
        have q3 := HX.out 3 _ rfl
        have q4 := HX.out 4 _ rfl
        have q5 := HX.out 5 _ rfl
        go_wp2
        go_ret
        exact ⟨ret_int (by rw [← HR.out, szR_neg (by omega)]), HB.out⟩
      · skip
        have q0 := HX.out 0 _ rfl
        have q1 := HX.out 1 _ rfl
        have q2 := HX.out 2 _ rfl
        have q3 := HX.out 3 _ rfl
        have q4 := HX.out 4 _ rfl
        have q5 := HX.out 5 _ rfl
        go_wp2_with fail
        clear q0 q1 q2 q3 q4 q5
        refine (szInssR _ _ x.is _ H2.out (by omega) (by omega) K2.out).mono ?_
        rintro e w2 ⟨rfl, b2⟩
        rw [HT2.out]
        by_cases g4 : left - (x.n.size : Int) - (t1 : Int) - (x.r.size : Int) < (t2 : Int)
        · rw [szR_neg g4]
          replace HB := hide (HB.out.trans (b2.mono HB.out.size))
          clear b2
          go_wp2
          go_ret
          exact ⟨ret_int (by rw [← HR.out, szR_neg (by omega)]), HB.out⟩
        · rw [szR_pos g4]
          have g4' : ¬ left - (x.n.size : Int) - (t1 : Int) - (x.r.size : Int) - (t2 : Int) < 0 := by omega
          replace HX := hide (HX.out.below hgs.out b2)
          replace hgs := hide (Nat.lt_of_lt_of_le hgs.out b2.size)
          replace HB := hide (HB.out.trans (b2.mono HB.out.size))
          clear b2
          go_wp2
          go_ret
          exact ⟨ret_int (by rw [← HR.out, szR_pos (by omega)] <;> omega), HB.out⟩
set_option maxRecDepth 100000 in
set_option maxHeartbeats 4000000 in
theorem szCods (w : World) (v : Value) (xs : List Co) (left : Int) (h : Reads w w.heap.size (cods xs) v) (h0 : 0 ≤ left) (h1 : left ≤ 1048576) (hr : codsR xs) :
    Calls Try.prog 75 #[v, .int .i64 left] w fun e w' => e = .returned (.int .i64 (szR left (codsW xs))) ∧ Below w.heap.size w w' := by
  obtain ⟨hm, hx⟩ := hr
  unfold codsW
  have HX : Hid (∀ wr, Below w.heap.size w wr → _) := hide (fun wr hb => code_at (h.at hb))
  have HR : Hid (∀ j, j < xs.length → CoR (xs.getD j default)) := hide (fun j hj => getD_mem hx j hj)
  have HS : Hid (∀ j, j < xs.length → tot coW (xs.take (j + 1)) = tot coW (xs.take j) + coW (xs.getD j default)) := hide (fun j hj => tot_step _ xs j hj)
  have HL : Hid (∀ j, tot coW (xs.take j) ≤ tot coW xs) := hide (tot_le _ xs)
  have HA : Hid (tot coW (xs.take xs.length) = tot coW xs) := hide (by rw [List.take_length])
  obtain ⟨a, cap, rfl, _⟩ := code_at h
  clear h hx
  generalize hn : xs.length = n at *
  unfold maxLen at hm
  have hw : IntKind.i64.wrap (left - (n : Int)) = left - (n : Int) := by rw [IntKind.wrap_i64]; omega
  by_cases hbig : left - (n : Int) < 0
  · rw [szR_neg (by omega)]
    go_enter Try.func75, Try.ntmps75
    go_wp2
    go_ret
    exact ⟨rfl, Below.refl _ _⟩
  · go_enter Try.func75, Try.ntmps75
    go_wp2
    go_loopw [1, 5] (fun q i wr => ∃ j : Nat, j ≤ n ∧ q = .int .i64 (left - (n : Int) - (tot coW (xs.take j) : Int)) ∧ i = .int .i64 (j : Int) ∧ 0 ≤ left - (n : Int) - (tot coW (xs.take j) : Int) ∧ Hid (Below w.heap.size w wr)) (fun _ i _ => n - (intOf i).toNat)
    case atStart => exact ⟨0, Nat.zero_le _, by simp [tot], rfl, by simp [tot]; omega, hide (Below.refl _ _)⟩
    case round =>
      obtain ⟨j, hj, rfl, rfl, hq, HB⟩ := hrel
      by_cases hlt : j < n
      · obtain ⟨a', cap', ea, _, _, hc⟩ := HX.out wr HB.out
        cases ea
        obtain ⟨b, o, rfl, _, hcell⟩ := hc (by omega)
        obtain ⟨pv1, pv2, e0, e1, e2, e3, e4, e5, r1, r2⟩ := hcell j hlt
        have hz := hide (HR.out j hlt)
        have hs := HS.out j hlt
        have hle := HL.out (j + 1)
        clear hcell hc
        generalize xs.getD j default = x at *
        have HZ := hide (szCo wr x pv1 pv2 _ r1 r2 hq (by omega) hz.out)
        generalize coW x = t at *
        have HE : Hid (left - (n : Int) - (tot coW (xs.take j) : Int) - (t : Int) = left - (n : Int) - (tot coW (xs.take (j + 1)) : Int)) := hide (by rw [hs]; omega)
        have HN : Hid (left - (n : Int) - (tot coW (xs.take (j + 1)) : Int) < 0 → szR left (n + tot coW xs) = -1) := hide (fun h => szR_neg (by omega))
        clear hs hle hz HS HL
        by_cases g : left - (n : Int) - (tot coW (xs.take j) : Int) < (t : Int)
        · rw [szR_neg g] at HZ
          go_wp2_with fail
          refine (unhide HZ).mono ?_
          rintro e w1 ⟨rfl, b1⟩
          replace HB := hide (HB.out.trans (b1.mono HB.out.size))
          clear b1
          go_wp2
          go_ret
          exact ⟨by rw [HN.out (by rw [← HE.out]; omega)]; rfl, HB.out⟩
        · rw [szR_pos g] at HZ
          have g' : ¬ left - (n : Int) - (tot coW (xs.take j) : Int) - (t : Int) < 0 := by omega
          go_wp2_with fail
          refine (unhide HZ).mono ?_
          rintro e w1 ⟨rfl, b1⟩
          replace HB := hide (HB.out.trans (b1.mono HB.out.size))
          clear b1
          go_wp2
          exact ⟨⟨j + 1, by omega, by first | rfl | (rw [HE.out]), by go_num, by rw [← HE.out]; omega, HB⟩, by simp [intOf]; omega⟩
      · obtain rfl : j = n := by omega
        have HF : Hid (szR left (j + tot coW xs) = left - (j : Int) - (tot coW (xs.take j) : Int)) := hide (by rw [szR_pos (by rw [← HA.out]; omega), ← HA.out]; omega)
        go_wp2
        go_ret
        exact ⟨by rw [HF.out]; rfl, HB.out⟩
set_option maxRecDepth 100000 in
set_option maxHeartbeats 4000000 in
theorem szKd (w : World) (x : Kd) (v1 v2 v3 : Value) (left : Int) (h1 : Reads w w.heap.size (pool x.p) v1) (h2 : Reads w w.heap.size (flds x.f) v2) (h3 : Reads w w.heap.size (cods x.m) v3) (h0 : 0 ≤ left) (h9 : left ≤ 1048576) (hr : KdR x) :
    Calls Try.prog 61 #[kdV x v1 v2 v3, .int .i64 left] w fun e w' => e = .returned (.int .i64 (szR left (kdW x))) ∧ Below w.heap.size w w' := by
  obtain ⟨a1, c1, e1, _⟩ := h1.shape
  obtain ⟨a2, c2, e2, _⟩ := h2.shape
  obtain ⟨a3, c3, e3, _⟩ := h3.shape
  subst e1 e2 e3
  have b0 := (Below.refl w.heap.size w).alloc (Nat.le_refl _) (.cells #[.string x.n, .int .i64 x.s, .slice a1 x.p.length c1, .slice a2 x.f.length c2, .slice a3 x.m.length c3] 92)
  have H1 := hide (h1.at b0)
  have H2 := hide (h2.at b0)
  have H3 := hide (h3.at b0)
  have HB := hide b0
  have HX := hide (Box.new w #[.string x.n, .int .i64 x.s, .slice a1 x.p.length c1, .slice a2 x.f.length c2, .slice a3 x.m.length c3] 92)
  have hgs : Hid (w.heap.size < (w.alloc (.cells #[.string x.n, .int .i64 x.s, .slice a1 x.p.length c1, .slice a2 x.f.length c2, .slice a3 x.m.length c3] 92)).heap.size) := hide (by simp)
  have K1 := hide hr.p
  have K2 := hide hr.f
  have K3 := hide hr.m
  have s_n := hr.n
  unfold maxLen at s_n
  obtain ⟨t1, ht1⟩ : ∃ t, poolW x.p = t := ⟨_, rfl⟩
  obtain ⟨t2, ht2⟩ : ∃ t, fldsW x.f = t := ⟨_, rfl⟩
  obtain ⟨t3, ht3⟩ : ∃ t, codsW x.m = t := ⟨_, rfl⟩
  obtain ⟨R, hR⟩ : ∃ R, szR left (kdW x) = R := ⟨_, rfl⟩
  rw [hR]
  unfold kdW at hR
  rw [ht1, ht2, ht3] at hR
  have HT1 := hide ht1
  have HT2 := hide ht2
  have HT3 := hide ht3
  have HR := hide hR
  clear hR hr b0 h1 ht1 h2 ht2 h3 ht3
  unfold kdV
  have hw1 : IntKind.i64.wrap (left - (x.n.size : Int)) = left - (x.n.size : Int) := by rw [IntKind.wrap_i64]; omega
  by_cases g1 : left - (x.n.size : Int) < 0
  · go_enter Try.func61, Try.ntmps61
    go_wp2
    go_ret
    exact ⟨ret_int (by rw [← HR.out, szR_neg (by omega)]), HB.out⟩
  · skip
    go_enter Try.func61, Try.ntmps61
    go_wp2_with fail
    generalize w.alloc (.cells #[.string x.n, .int .i64 x.s, .slice a1 x.p.length c1, .slice a2 x.f.length c2, .slice a3 x.m.length c3] 92) = W at *
    refine (szPoolR _ _ x.p _ H1.out (by omega) (by omega) K1.out).mono ?_
    rintro e w1 ⟨rfl, b1⟩
    rw [HT1.out]
    by_cases g2 : left - (x.n.size : Int) < (t1 : Int)
    · rw [szR_neg g2]
      replace HB := hide (HB.out.trans (b1.mono HB.out.size))
      clear b1
      go_wp2
      go_ret
      exact ⟨ret_int (by rw [← HR.out, szR_neg (by omega)]), HB.out⟩
    · rw [szR_pos g2]
      have g2' : ¬ left - (x.n.size : Int) - (t1 : Int) < 0 := by omega
      replace HX := hide (HX.out.below hgs.out b1)
      replace hgs := hide (Nat.lt_of_lt_of_le hgs.out b1.size)
      replace H2 := hide (H2.out.at b1)
      replace H3 := hide (H3.out.at b1)
      replace HB := hide (HB.out.trans (b1.mono HB.out.size))
      clear b1
      have q0 := HX.out 0 _ rfl
      have q1 := HX.out 1 _ rfl
      have q2 := HX.out 2 _ rfl
      have q3 := HX.out 3 _ rfl
      have q4 := HX.out 4 _ rfl
      go_wp2_with fail
      clear q0 q1 q2 q3 q4
      refine (szFldsR _ _ x.f _ H2.out (by omega) (by omega) K2.out).mono ?_
      rintro e w2 ⟨rfl, b2⟩
      rw [HT2.out]
      by_cases g3 : left - (x.n.size : Int) - (t1 : Int) < (t2 : Int)
      · rw [szR_neg g3]
        replace HB := hide (HB.out.trans (b2.mono HB.out.size))
        clear b2
        go_wp2
        go_ret
        exact ⟨ret_int (by rw [← HR.out, szR_neg (by omega)]), HB.out⟩
      · rw [szR_pos g3]
        have g3' : ¬ left - (x.n.size : Int) - (t1 : Int) - (t2 : Int) < 0 := by omega
        replace HX := hide (HX.out.below hgs.out b2)
        replace hgs := hide (Nat.lt_of_lt_of_le hgs.out b2.size)
        replace H3 := hide (H3.out.at b2)
        replace HB := hide (HB.out.trans (b2.mono HB.out.size))
        clear b2
        have q0 := HX.out 0 _ rfl
        have q1 := HX.out 1 _ rfl
        have q2 := HX.out 2 _ rfl
        have q3 := HX.out 3 _ rfl
        have q4 := HX.out 4 _ rfl
        go_wp2_with fail
        clear q0 q1 q2 q3 q4
        refine (szCods _ _ x.m _ H3.out (by omega) (by omega) K3.out).mono ?_
        rintro e w3 ⟨rfl, b3⟩
        rw [HT3.out]
        by_cases g4 : left - (x.n.size : Int) - (t1 : Int) - (t2 : Int) < (t3 : Int)
        · rw [szR_neg g4]
          replace HB := hide (HB.out.trans (b3.mono HB.out.size))
          clear b3
          go_wp2
          go_ret
          exact ⟨ret_int (by rw [← HR.out, szR_neg (by omega)]), HB.out⟩
        · rw [szR_pos g4]
          have g4' : ¬ left - (x.n.size : Int) - (t1 : Int) - (t2 : Int) - (t3 : Int) < 0 := by omega
          replace HX := hide (HX.out.below hgs.out b3)
          replace hgs := hide (Nat.lt_of_lt_of_le hgs.out b3.size)
          replace HB := hide (HB.out.trans (b3.mono HB.out.size))
          clear b3
          go_wp2
          go_ret
          exact ⟨ret_int (by rw [← HR.out, szR_pos (by omega)] <;> omega), HB.out⟩
set_option maxRecDepth 100000 in
set_option maxHeartbeats 4000000 in
theorem szKins (w : World) (v : Value) (xs : List Kd) (left : Int) (h : Reads w w.heap.size (kins xs) v) (h0 : 0 ≤ left) (h1 : left ≤ 1048576) (hr : kinsR xs) :
    Calls Try.prog 37 #[v, .int .i64 left] w fun e w' => e = .returned (.int .i64 (szR left (kinsW xs))) ∧ Below w.heap.size w w' := by
  obtain ⟨hm, hx⟩ := hr
  unfold kinsW
  have HX : Hid (∀ wr, Below w.heap.size w wr → _) := hide (fun wr hb => kind_at (h.at hb))
  have HR : Hid (∀ j, j < xs.length → KdR (xs.getD j default)) := hide (fun j hj => getD_mem hx j hj)
  have HS : Hid (∀ j, j < xs.length → tot kdW (xs.take (j + 1)) = tot kdW (xs.take j) + kdW (xs.getD j default)) := hide (fun j hj => tot_step _ xs j hj)
  have HL : Hid (∀ j, tot kdW (xs.take j) ≤ tot kdW xs) := hide (tot_le _ xs)
  have HA : Hid (tot kdW (xs.take xs.length) = tot kdW xs) := hide (by rw [List.take_length])
  obtain ⟨a, cap, rfl, _⟩ := kind_at h
  clear h hx
  generalize hn : xs.length = n at *
  unfold maxLen at hm
  have hw : IntKind.i64.wrap (left - (n : Int)) = left - (n : Int) := by rw [IntKind.wrap_i64]; omega
  by_cases hbig : left - (n : Int) < 0
  · rw [szR_neg (by omega)]
    go_enter Try.func37, Try.ntmps37
    go_wp2
    go_ret
    exact ⟨rfl, Below.refl _ _⟩
  · go_enter Try.func37, Try.ntmps37
    go_wp2
    go_loopw [1, 5] (fun q i wr => ∃ j : Nat, j ≤ n ∧ q = .int .i64 (left - (n : Int) - (tot kdW (xs.take j) : Int)) ∧ i = .int .i64 (j : Int) ∧ 0 ≤ left - (n : Int) - (tot kdW (xs.take j) : Int) ∧ Hid (Below w.heap.size w wr)) (fun _ i _ => n - (intOf i).toNat)
    case atStart => exact ⟨0, Nat.zero_le _, by simp [tot], rfl, by simp [tot]; omega, hide (Below.refl _ _)⟩
    case round =>
      obtain ⟨j, hj, rfl, rfl, hq, HB⟩ := hrel
      by_cases hlt : j < n
      · obtain ⟨a', cap', ea, _, _, hc⟩ := HX.out wr HB.out
        cases ea
        obtain ⟨b, o, rfl, _, hcell⟩ := hc (by omega)
        obtain ⟨pv1, pv2, pv3, e0, e1, e2, e3, e4, r1, r2, r3⟩ := hcell j hlt
        have hz := hide (HR.out j hlt)
        have hs := HS.out j hlt
        have hle := HL.out (j + 1)
        clear hcell hc
        generalize xs.getD j default = x at *
        have HZ := hide (szKd wr x pv1 pv2 pv3 _ r1 r2 r3 hq (by omega) hz.out)
        generalize kdW x = t at *
        have HE : Hid (left - (n : Int) - (tot kdW (xs.take j) : Int) - (t : Int) = left - (n : Int) - (tot kdW (xs.take (j + 1)) : Int)) := hide (by rw [hs]; omega)
        have HN : Hid (left - (n : Int) - (tot kdW (xs.take (j + 1)) : Int) < 0 → szR left (n + tot kdW xs) = -1) := hide (fun h => szR_neg (by omega))
        clear hs hle hz HS HL
        by_cases g : left - (n : Int) - (tot kdW (xs.take j) : Int) < (t : Int)
        · rw [szR_neg g] at HZ
          go_wp2_with fail
          refine (unhide HZ).mono ?_
          rintro e w1 ⟨rfl, b1⟩
          replace HB := hide (HB.out.trans (b1.mono HB.out.size))
          clear b1
          go_wp2
          go_ret
          exact ⟨by rw [HN.out (by rw [← HE.out]; omega)]; rfl, HB.out⟩
        · rw [szR_pos g] at HZ
          have g' : ¬ left - (n : Int) - (tot kdW (xs.take j) : Int) - (t : Int) < 0 := by omega
          go_wp2_with fail
          refine (unhide HZ).mono ?_
          rintro e w1 ⟨rfl, b1⟩
          replace HB := hide (HB.out.trans (b1.mono HB.out.size))
          clear b1
          go_wp2
          exact ⟨⟨j + 1, by omega, by first | rfl | (rw [HE.out]), by go_num, by rw [← HE.out]; omega, HB⟩, by simp [intOf]; omega⟩
      · obtain rfl : j = n := by omega
        have HF : Hid (szR left (j + tot kdW xs) = left - (j : Int) - (tot kdW (xs.take j) : Int)) := hide (by rw [szR_pos (by rw [← HA.out]; omega), ← HA.out]; omega)
        go_wp2
        go_ret
        exact ⟨by rw [HF.out]; rfl, HB.out⟩
set_option maxRecDepth 100000 in
set_option maxHeartbeats 4000000 in
theorem szPg (w : World) (x : Pg) (v1 : Value) (left : Int) (h1 : Reads w w.heap.size (kins x.k) v1) (h0 : 0 ≤ left) (h9 : left ≤ 1048576) (hr : PgR x) :
    Calls Try.prog 9 #[pgV x v1, .int .i64 left] w fun e w' => e = .returned (.int .i64 (szR left (pgW x))) ∧ Below w.heap.size w w' := by
  obtain ⟨a1, c1, e1, _⟩ := h1.shape
  subst e1
  have b0 := (Below.refl w.heap.size w).alloc (Nat.le_refl _) (.cells #[.slice a1 x.k.length c1] 24)
  have H1 := hide (h1.at b0)
  have HB := hide b0
  have HX := hide (Box.new w #[.slice a1 x.k.length c1] 24)
  have hgs : Hid (w.heap.size < (w.alloc (.cells #[.slice a1 x.k.length c1] 24)).heap.size) := hide (by simp)
  have K1 := hide hr.k
  obtain ⟨t1, ht1⟩ : ∃ t, kinsW x.k = t := ⟨_, rfl⟩
  obtain ⟨R, hR⟩ : ∃ R, szR left (pgW x) = R := ⟨_, rfl⟩
  rw [hR]
  unfold pgW at hR
  rw [ht1] at hR
  have HT1 := hide ht1
  have HR := hide hR
  clear hR hr b0 h1 ht1
  unfold pgV
  go_enter Try.func9, Try.ntmps9
  go_wp2_with fail
  generalize w.alloc (.cells #[.slice a1 x.k.length c1] 24) = W at *
  refine (szKins _ _ x.k _ H1.out (by omega) (by omega) K1.out).mono ?_
  rintro e w1 ⟨rfl, b1⟩
  rw [HT1.out]
  by_cases g1 : left < (t1 : Int)
  · rw [szR_neg g1]
    replace HB := hide (HB.out.trans (b1.mono HB.out.size))
    clear b1
    go_wp2
    go_ret
    exact ⟨ret_int (by rw [← HR.out, szR_neg (by omega)]), HB.out⟩
  · rw [szR_pos g1]
    have g1' : ¬ left - (t1 : Int) < 0 := by omega
    replace HX := hide (HX.out.below hgs.out b1)
    replace hgs := hide (Nat.lt_of_lt_of_le hgs.out b1.size)
    replace HB := hide (HB.out.trans (b1.mono HB.out.size))
    clear b1
    go_wp2
    go_ret
    exact ⟨ret_int (by rw [← HR.out, szR_pos (by omega)] <;> omega), HB.out⟩
end Go.Proofs.Ytofnpgheppgcaaa
