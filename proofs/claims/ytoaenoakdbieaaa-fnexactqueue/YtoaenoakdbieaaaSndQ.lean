/-
  What Queue does, in the program and in its model.
-/
import Derived.Test.YtoaenoakdbieaaaSndForg
import Derived.Deep.RegionHeldLaw
import Derived.Deep.Upon
namespace Go.Proofs.Ytoaenoakdbieaaa
open Go.RowKit

/-- What Queue answers. -/
def quR (base : Int) (ms : List Ms) (m : Ms) : (Int × List Ms) × Bool := bif sOk base (ms ++ [m]) then ((base, ms ++ [m]), true) else ((base, ms), false)
def ansQ (w : World) (R : (Int × List Ms) × Bool) (e : Ending) (w' : World) : Prop := ∃ v, e = .returned (.tuple #[sndV R.1.1 v, .bool R.2]) ∧ OwnS w' w.heap.size w'.heap.size v R.1.2 ∧ Below w.heap.size w w'
theorem sOk_snoc (base : Int) (ms : List Ms) (m : Ms) : sOk base (ms ++ [m]) = (sOk base ms && msOk m && !decide (ms.length = 40) && !decide (base + (ms.length : Int) = 16777215)) := by
  unfold sOk
  rw [List.all_append, List.length_append]
  simp only [List.all_cons, List.all_nil, Bool.and_true, List.length_cons, List.length_nil]
  rcases Bool.eq_false_or_eq_true (inB base 0 16777215) with h1 | h1
  · rcases Bool.eq_false_or_eq_true (ms.all msOk) with h2 | h2
    · rcases Bool.eq_false_or_eq_true (msOk m) with h3 | h3
      · simp only [h1, h2, h3, Bool.true_and, Bool.and_true]
        rw [Bool.eq_iff_iff]
        simp
        omega
      · simp [h3]
    · simp [h2]
  · simp [h1]
theorem goodS_snoc {ms : List Ms} {m : Ms} (h : GoodS ms) (hm : GoodM m) : GoodS (ms ++ [m]) := fun x hx => by
  rcases List.mem_append.1 hx with hx | hx
  · exact h x hx
  · obtain rfl := List.mem_singleton.1 hx
    exact hm
theorem totS_snoc (ms : List Ms) (m : Ms) : totS (ms ++ [m]) = totS ms + (m.cs.length + m.ns.length + 1) := by
  unfold totS
  rw [List.foldr_append, List.length_append]
  simp only [List.foldr_cons, List.foldr_nil, List.length_cons, List.length_nil]
  rw [foldS_add, foldS_add ms ms.length]; omega
theorem quR_good {base : Int} {ms : List Ms} {m : Ms} (h : GoodS ms) (hm : GoodM m) : GoodS (quR base ms m).1.2 ∧ totS (quR base ms m).1.2 ≤ totS ms + (m.cs.length + m.ns.length + 1) ∧ (quR base ms m).1.2.length ≤ ms.length + 1 := by
  unfold quR
  cases sOk base (ms ++ [m])
  · exact ⟨h, Nat.le_add_right _ _, Nat.le_add_right _ _⟩
  · exact ⟨goodS_snoc h hm, Nat.le_of_eq (totS_snoc ms m), by simp⟩

theorem step_callQ {P : Program} {ops : Array Oper} {o : Oper} {a : Act} {w : World} {K : Act → World → Prop} {Q : Exit → Act → World → Prop} {E : Prop} {R : Ending → World → Prop} (d : Option Tmp) (hd : o.dst = d) (hgd : o.guard = none)
    (f : FuncId) (xs : Array Operand) (ts : Array TypeId) (ho : o.op = .call { callee := .value (.func f), args := xs, argTypes := ts }) (args : Array Value) (hrun : (execOp a.eval o).run P w = .ok (.enter f args) w) (hc : Calls P f args w R) (h : ∀ e w', R e w' → ∃ v, e = .returned v ∧ K (a.put d v) w') :
    if Region.wanted o (yielded ops a.tmps) = true then Oper.wp P o a w K Q else E := by
  subst hd
  exact step_callM hgd f xs ts ho args hrun hc h

set_option maxRecDepth 100000 in
set_option maxHeartbeats 4000000 in
theorem queueWith (w : World) (base : Int) (v : Value) (ms : List Ms) (m : Ms) (cv nv : Value) (h : RdS w w.heap.size v ms) (hmt : Mt w w.heap.size (m, cv, nv)) (hm : ms.length ≤ 1048576) :
    Calls Try.prog 73 #[sndV base v, msV m cv nv] w fun e w' => ∃ v', e = .returned (sndV base v') ∧ RdS w' w'.heap.size v' (ms ++ [m]) ∧ Below w.heap.size w w' := by
  obtain ⟨xs, rfl, hrd, hmts⟩ := h
  have HR := hide hrd
  have HM := hide hmts
  have HX := hide hmt
  obtain ⟨hfl, a, cap, rfl, _⟩ := hrd
  rw [List.length_map] at hm
  obtain ⟨a5, c5, e5, _⟩ := cells_at hmt.1
  obtain ⟨a6, c6, e6, _⟩ := notes_at hmt.2
  simp only at e5 e6
  subst e5 e6
  have H1C := hide (one_msCs HM.out)
  clear hmts hmt
  obtain ⟨i0, hi, hz0, hz1, hz2⟩ := info_parts Try.infoMs
  have HSZ : Hid ((Try.prog.info? 65).map (·.size) = some 7) := hide (by rw [hi]; simp [hz1])
  have HSS : Hid (((Try.prog.info? 65).map (·.size)).isSome = true) := hide (by rw [hi]; rfl)
  unfold sndV msV msgV
  have HE0 := hide (heap_alloc_new w (.cells #[.int .i64 base, .slice a xs.length cap] 96))
  have HE1 := hide (heap_alloc_new (w.alloc (.cells #[.int .i64 base, .slice a xs.length cap] 96)) (.cells #[.int .i64 m.k, .int .i64 m.i, .int .i64 m.u, .int .i64 m.c, .int .i64 m.n, .slice a5 m.cs.length c5, .slice a6 m.ns.length c6] 65))
  have HE2 := hide (heap_alloc_new ((w.alloc (.cells #[.int .i64 base, .slice a xs.length cap] 96)).alloc (.cells #[.int .i64 m.k, .int .i64 m.i, .int .i64 m.u, .int .i64 m.c, .int .i64 m.n, .slice a5 m.cs.length c5, .slice a6 m.ns.length c6] 65)) (.cells #[.int .i64 0, .slice none 0 0] 96))
  have bA := (((Below.refl w.heap.size w).alloc (Nat.le_refl _) (.cells #[.int .i64 base, .slice a xs.length cap] 96)).alloc (by simp) (.cells #[.int .i64 m.k, .int .i64 m.i, .int .i64 m.u, .int .i64 m.c, .int .i64 m.n, .slice a5 m.cs.length c5, .slice a6 m.ns.length c6] 65)).alloc (by simp; omega) (.cells #[.int .i64 0, .slice none 0 0] 96)
  have hsz : (((w.alloc (.cells #[.int .i64 base, .slice a xs.length cap] 96)).alloc (.cells #[.int .i64 m.k, .int .i64 m.i, .int .i64 m.u, .int .i64 m.c, .int .i64 m.n, .slice a5 m.cs.length c5, .slice a6 m.ns.length c6] 65)).alloc (.cells #[.int .i64 0, .slice none 0 0] 96)).heap.size = w.heap.size + 1 + 1 + 1 := by simp
  replace HE0 := hide ((Below.heap_alloc _ (.cells #[.int .i64 0, .slice none 0 0] 96) w.heap.size (by simp; omega)).trans ((Below.heap_alloc _ (.cells #[.int .i64 m.k, .int .i64 m.i, .int .i64 m.u, .int .i64 m.c, .int .i64 m.n, .slice a5 m.cs.length c5, .slice a6 m.ns.length c6] 65) w.heap.size (by simp)).trans HE0.out))
  simp only [World.size_alloc] at HE1 HE2
  replace HE1 := hide ((Below.heap_alloc _ (.cells #[.int .i64 0, .slice none 0 0] 96) (w.heap.size + 1) (by simp)).trans HE1.out)
  have HB := hide bA
  have HZ := hide hsz
  clear bA hsz
  go_enter Try.func73, Try.ntmps73
  go_upto_region 1 with fail
  generalize ((w.alloc (.cells #[.int .i64 base, .slice a xs.length cap] 96)).alloc (.cells #[.int .i64 m.k, .int .i64 m.i, .int .i64 m.u, .int .i64 m.c, .int .i64 m.n, .slice a5 m.cs.length c5, .slice a6 m.ns.length c6] 65)).alloc (.cells #[.int .i64 0, .slice none 0 0] 96) = W at *
  have f0 := (box_of HE0.out).1 0 _ rfl
  have f1 := (box_of HE0.out).1 1 _ rfl
  have HRW := hide (HR.out.at HB.out)
  have hW : w.heap.size + 1 + 1 < W.heap.size := by rw [HZ.out]; omega
  have HMADE : Hid ((madeCells (Value.agg #[.int .i64 0, .int .i64 0, .int .i64 0, .int .i64 0, .int .i64 0, .slice none 0 0, .slice none 0 0]).cells ((xs.length + 1) * 7)).toList = (List.replicate (xs.length + 1) zeroY).flatMap msC) := hide (made_flat msC 7 msC_len (by omega) zeroY _ rfl (xs.length + 1))
  have HFIN : Hid (∀ (W2 : World), W2.ownsRow W.heap.size 65 7 (.slice (some ⟨W.heap.size, 0, none⟩) (xs.length + 1) (xs.length + 1)) (xs.length + 1) ((xs ++ [zeroY]).flatMap msC) →
      (∀ r, r < 7 → ∃ y, W2.cell? ⟨W.heap.size, xs.length * 7 + r, none⟩ = some y) ∧ (∀ r, W2.frozen? ⟨W.heap.size, r, none⟩ = false) ∧
      (((((((W2.setCell ⟨W.heap.size, xs.length * 7, none⟩ (.int .i64 m.k)).setCell ⟨W.heap.size, xs.length * 7 + 1, none⟩ (.int .i64 m.i)).setCell ⟨W.heap.size, xs.length * 7 + 2, none⟩ (.int .i64 m.u)).setCell ⟨W.heap.size, xs.length * 7 + 3, none⟩ (.int .i64 m.c)).setCell ⟨W.heap.size, xs.length * 7 + 4, none⟩ (.int .i64 m.n)).setCell ⟨W.heap.size, xs.length * 7 + 5, none⟩ (.slice a5 m.cs.length c5)).setCell ⟨W.heap.size, xs.length * 7 + 6, none⟩ (.slice a6 m.ns.length c6)).ownsRow W.heap.size 65 7 (.slice (some ⟨W.heap.size, 0, none⟩) (xs.length + 1) (xs.length + 1)) (xs.length + 1) ((xs ++ [(m, Value.slice a5 m.cs.length c5, Value.slice a6 m.ns.length c6)]).flatMap msC)) := hide (fun W2 h0 => by
    have hl : ((xs ++ [zeroY]).flatMap msC).length = (xs.length + 1) * 7 := by rw [flat_len msC 7 msC_len]; simp
    refine ⟨fun r hr => ?_, fun r => World.ownsRow.frozenAt h0 r, ?_⟩
    · rw [World.ownsRow.cellAt h0 _ (by omega)]; exact ⟨_, List.getElem?_eq_getElem (by omega)⟩
    · have s0 := World.ownsRow.stored h0 (xs.length * 7) (.int .i64 m.k)
      have s1 := World.ownsRow.stored s0.1 (xs.length * 7 + 1) (.int .i64 m.i)
      have s2 := World.ownsRow.stored s1.1 (xs.length * 7 + 2) (.int .i64 m.u)
      have s3 := World.ownsRow.stored s2.1 (xs.length * 7 + 3) (.int .i64 m.c)
      have s4 := World.ownsRow.stored s3.1 (xs.length * 7 + 4) (.int .i64 m.n)
      have s5 := World.ownsRow.stored s4.1 (xs.length * 7 + 5) (.slice a5 m.cs.length c5)
      have s6 := World.ownsRow.stored s5.1 (xs.length * 7 + 6) (.slice a6 m.ns.length c6)
      have hfin := s6.1
      rw [flat_ms (xs ++ [zeroY]) xs.length (m, Value.slice a5 m.cs.length c5, Value.slice a6 m.ns.length c6) (by simp), List.set_append_right _ _ (Nat.le_refl _), Nat.sub_self, List.set_cons_zero] at hfin
      exact hfin)
  generalize hn : xs.length = n at *
  have HN := hide hn
  have e1 : ((n : Int) + 1).toNat = n + 1 := by omega
  clear hn hfl
  by_cases h0 : n = 0
  · have hnil : xs = [] := List.eq_nil_of_length_eq_zero (by rw [HN.out]; exact h0)
    subst hnil
    subst h0
    have HO3pre : Hid True := hide trivial
    clear HO3pre
    go_upto_region 3 with (first
      | (at_make; refine wpList_make_full _ rfl _ _ 49 rfl W.heap.size 65 i0 (.agg #[.int .i64 0, .int .i64 0, .int .i64 0, .int .i64 0, .int .i64 0, .slice none 0 0, .slice none 0 0]) 7 Try.underlying49 hi hz0 hz1 _ _ _ _ (0 + 1) rfl rfl rfl rfl (by rw [hz2]; omega) (by unfold maxLen; omega) (Nat.le_refl _) ?_; intro w2 ho1 hg1; have HO1 := hide ho1; have HG1 := hide hg1; have q1 := (World.cell?_of_block (a := ⟨w.heap.size, 1, none⟩) (hg1.block w.heap.size (by omega) (by simp))).trans f1; clear ho1 hg1)
      | (refine wpList_copy_zero rfl _ _ 49 49 rfl 65 Try.underlying49 HSS.out ⟨W.heap.size, 0, none⟩ (0 + 1) (0 + 1) rfl a cap rfl ?_))
    have HO3 : Hid (w2.ownsRow W.heap.size 65 7 (.slice (some ⟨W.heap.size, 0, none⟩) (0 + 1) (0 + 1)) (0 + 1) (([] ++ [zeroY]).flatMap msC)) := hide (by
      have h2 := HO1.out
      rw [HMADE.out] at h2
      exact h2)
    have HGB := hide ((Below.refl W.heap.size W).grown HG1.out (Nat.le_refl _) (fun k hk => by cases hk))
    clear HO1 HG1 q1 f0 f1
    obtain ⟨hc, hz, hfin⟩ := HFIN.out w2 HO3.out
    simp only [Nat.zero_mul, Nat.zero_add] at hc hfin
    obtain ⟨y0, d0⟩ := hc 0 (by omega)
    obtain ⟨y1, d1⟩ := hc 1 (by omega)
    obtain ⟨y2, d2⟩ := hc 2 (by omega)
    obtain ⟨y3, d3⟩ := hc 3 (by omega)
    obtain ⟨y4, d4⟩ := hc 4 (by omega)
    obtain ⟨y5, d5⟩ := hc 5 (by omega)
    obtain ⟨y6, d6⟩ := hc 6 (by omega)
    have HF := hide hfin
    have Q0 := (HGB.out.block w.heap.size (by omega)).trans HE0.out
    have Q1 := (HGB.out.block (w.heap.size + 1) (by omega)).trans HE1.out
    have Q2 := (HGB.out.block (w.heap.size + 1 + 1) (by omega)).trans HE2.out
    have HX1 := hide (box_of Q1).1
    have x0 := HX1.out 0 _ rfl
    have x1 := HX1.out 1 _ rfl
    have x2 := HX1.out 2 _ rfl
    have x3 := HX1.out 3 _ rfl
    have x4 := HX1.out 4 _ rfl
    have x5 := HX1.out 5 _ rfl
    have x6 := HX1.out 6 _ rfl
    have f0 := (box_of Q0).1 0 _ rfl
    have f1 := (box_of Q0).1 1 _ rfl
    have r0 := (box_of Q2).1 0 _ rfl
    have r1 := (box_of Q2).1 1 _ rfl
    have z1 := (box_of Q2).2
    have HQ2 := hide Q2
    have hW2 := HGB.out.size
    have m0 : ¬ w.heap.size = W.heap.size := by omega
    have m1 : ¬ w.heap.size + 1 = W.heap.size := by omega
    have m2 : ¬ w.heap.size + 1 + 1 = W.heap.size := by omega
    clear hc hfin Q0 Q1 Q2 HX1 HO3
    go_wp2
    refine bodyPost_ret (v := .agg #[.int .i64 base, .slice (some ⟨W.heap.size, 0, none⟩) 1 1]) (results_one Try.results73 _ _ _ rfl (loadQ (put2 ((heap_setCell_other _ _ _ _ (by simp; omega)).trans ((heap_setCell_other _ _ _ _ (by simp; omega)).trans ((heap_setCell_other _ _ _ _ (by simp; omega)).trans ((heap_setCell_other _ _ _ _ (by simp; omega)).trans ((heap_setCell_other _ _ _ _ (by simp; omega)).trans ((heap_setCell_other _ _ _ _ (by simp; omega)).trans ((heap_setCell_other _ _ _ _ (by simp; omega)).trans HQ2.out))))))) _ _))) rfl ?_
    have hfb := ((((((((HB.out.trans (HGB.out.mono HB.out.size)).setCell (p := ⟨W.heap.size, 0, none⟩) (by dsimp only; omega) (.int .i64 m.k)).setCell (p := ⟨W.heap.size, 1, none⟩) (by dsimp only; omega) (.int .i64 m.i)).setCell (p := ⟨W.heap.size, 2, none⟩) (by dsimp only; omega) (.int .i64 m.u)).setCell (p := ⟨W.heap.size, 3, none⟩) (by dsimp only; omega) (.int .i64 m.c)).setCell (p := ⟨W.heap.size, 4, none⟩) (by dsimp only; omega) (.int .i64 m.n)).setCell (p := ⟨W.heap.size, 5, none⟩) (by dsimp only; omega) (.slice a5 m.cs.length c5)).setCell (p := ⟨W.heap.size, 6, none⟩) (by dsimp only; omega) (.slice a6 m.ns.length c6))
    have hfb2 := (hfb.setCell (p := ⟨w.heap.size + 1 + 1, 0, none⟩) (by dsimp only; omega) (.int .i64 base)).setCell (p := ⟨w.heap.size + 1 + 1, 1, none⟩) (by dsimp only; omega) (.slice (some ⟨W.heap.size, 0, none⟩) 1 1)
    have hrw := own_set (own_set HF.out (g := w.heap.size + 1 + 1) (by omega) 0 (.int .i64 base)) (g := w.heap.size + 1 + 1) (by omega) 1 (.slice (some ⟨W.heap.size, 0, none⟩) 1 1)
    refine ⟨_, rfl, ⟨[] ++ [(m, Value.slice a5 m.cs.length c5, Value.slice a6 m.ns.length c6)], by simp, ?_, fun x hx => ?_⟩, hfb2⟩
    · exact rd_own hrw (Nat.le_refl _)
    · rcases List.mem_append.1 hx with hx | hx
      · simp at hx
      · obtain rfl := List.mem_singleton.1 hx
        exact HX.out.at hfb2
  · obtain ⟨ad, rfl, hsrc⟩ := rd_src HRW.out (by omega)
    have HSRC := hide hsrc
    obtain ⟨CS, hCS⟩ : ∃ CS, xs.flatMap msC = CS := ⟨_, rfl⟩
    have HFL : Hid (CS.length = n * 7) := hide (by rw [← hCS, flat_len msC 7 msC_len, HN.out])
    have HCS := hide hCS
    rw [hCS] at HSRC H1C
    clear hsrc hCS
    go_upto_region 3 with (first
      | (at_make; refine wpList_make_full _ rfl _ _ 49 rfl W.heap.size 65 i0 (.agg #[.int .i64 0, .int .i64 0, .int .i64 0, .int .i64 0, .int .i64 0, .slice none 0 0, .slice none 0 0]) 7 Try.underlying49 hi hz0 hz1 _ _ _ _ (n + 1) rfl rfl rfl rfl (by rw [hz2]; omega) (by unfold maxLen; omega) (Nat.le_refl _) ?_; intro w1 ho1 hg1; have HO1 := hide ho1; have HG1 := hide hg1; have HSR1 : Hid (∀ (j : Nat) (u : Value), CS[j]? = some u → w1.cell? (ad.add j) = some u) := hide (fun j u hu => (((Below.refl W.heap.size W).grown HG1.out (Nat.le_refl _) (fun k hk => by cases hk)).cell (World.block_lt_of_cell? W _ (HSRC.out j u hu))).trans (HSRC.out j u hu)); have q1 := (World.cell?_of_block (a := ⟨w.heap.size, 1, none⟩) (hg1.block w.heap.size (by omega) (by simp))).trans f1; clear ho1 hg1)
      | (refine wpList_copy_rows rfl _ _ 49 49 rfl 65 Try.underlying49 7 HSZ.out W.heap.size W.heap.size (n + 1) (n + 1) _ rfl HO1.out ad n cap rfl (by omega) CS HFL.out HSR1.out H1C.out ?_; intro w2 ho2 hg2; have HO2 := hide ho2; have HG2 := hide hg2; clear ho2 hg2))
    have HO3 : Hid (w2.ownsRow W.heap.size 65 7 (.slice (some ⟨W.heap.size, 0, none⟩) (n + 1) (n + 1)) (n + 1) ((xs ++ [zeroY]).flatMap msC)) := hide (by
      have h2 := HO2.out
      rw [HMADE.out, HFL.out, flat_drop msC 7 msC_len, List.drop_replicate, show n + 1 - n = 1 by omega, ← HCS.out, ← List.flatMap_append] at h2
      exact h2)
    have HGB := hide (((Below.refl W.heap.size W).grown HG1.out (Nat.le_refl _) (fun k hk => by cases hk)).grown HG2.out ((Below.refl W.heap.size W).grown HG1.out (Nat.le_refl _) (fun k hk => by cases hk)).size (fun k hk => by cases hk; exact Nat.le_refl _))
    clear HO1 HO2 HG1 HG2 HSR1 q1 f0 f1
    obtain ⟨hc, hz, hfin⟩ := HFIN.out w2 HO3.out
    obtain ⟨y0, d0⟩ := hc 0 (by omega)
    obtain ⟨y1, d1⟩ := hc 1 (by omega)
    obtain ⟨y2, d2⟩ := hc 2 (by omega)
    obtain ⟨y3, d3⟩ := hc 3 (by omega)
    obtain ⟨y4, d4⟩ := hc 4 (by omega)
    obtain ⟨y5, d5⟩ := hc 5 (by omega)
    obtain ⟨y6, d6⟩ := hc 6 (by omega)
    rw [Nat.add_zero] at d0
    have HF := hide hfin
    have Q0 := (HGB.out.block w.heap.size (by omega)).trans HE0.out
    have Q1 := (HGB.out.block (w.heap.size + 1) (by omega)).trans HE1.out
    have Q2 := (HGB.out.block (w.heap.size + 1 + 1) (by omega)).trans HE2.out
    have HX1 := hide (box_of Q1).1
    have x0 := HX1.out 0 _ rfl
    have x1 := HX1.out 1 _ rfl
    have x2 := HX1.out 2 _ rfl
    have x3 := HX1.out 3 _ rfl
    have x4 := HX1.out 4 _ rfl
    have x5 := HX1.out 5 _ rfl
    have x6 := HX1.out 6 _ rfl
    have f0 := (box_of Q0).1 0 _ rfl
    have f1 := (box_of Q0).1 1 _ rfl
    have r0 := (box_of Q2).1 0 _ rfl
    have r1 := (box_of Q2).1 1 _ rfl
    have z1 := (box_of Q2).2
    have HQ2 := hide Q2
    have hW2 := HGB.out.size
    have m0 : ¬ w.heap.size = W.heap.size := by omega
    have m1 : ¬ w.heap.size + 1 = W.heap.size := by omega
    have m2 : ¬ w.heap.size + 1 + 1 = W.heap.size := by omega
    clear hc hfin Q0 Q1 Q2 HX1 HO3
    go_wp2
    refine bodyPost_ret (v := .agg #[.int .i64 base, .slice (some ⟨W.heap.size, 0, none⟩) (n + 1) (n + 1)]) (results_one Try.results73 _ _ _ rfl (loadQ (put2 ((heap_setCell_other _ _ _ _ (by simp; omega)).trans ((heap_setCell_other _ _ _ _ (by simp; omega)).trans ((heap_setCell_other _ _ _ _ (by simp; omega)).trans ((heap_setCell_other _ _ _ _ (by simp; omega)).trans ((heap_setCell_other _ _ _ _ (by simp; omega)).trans ((heap_setCell_other _ _ _ _ (by simp; omega)).trans ((heap_setCell_other _ _ _ _ (by simp; omega)).trans HQ2.out))))))) _ _))) rfl ?_
    have hfb := ((((((((HB.out.trans (HGB.out.mono HB.out.size)).setCell (p := ⟨W.heap.size, n * 7, none⟩) (by dsimp only; omega) (.int .i64 m.k)).setCell (p := ⟨W.heap.size, n * 7 + 1, none⟩) (by dsimp only; omega) (.int .i64 m.i)).setCell (p := ⟨W.heap.size, n * 7 + 2, none⟩) (by dsimp only; omega) (.int .i64 m.u)).setCell (p := ⟨W.heap.size, n * 7 + 3, none⟩) (by dsimp only; omega) (.int .i64 m.c)).setCell (p := ⟨W.heap.size, n * 7 + 4, none⟩) (by dsimp only; omega) (.int .i64 m.n)).setCell (p := ⟨W.heap.size, n * 7 + 5, none⟩) (by dsimp only; omega) (.slice a5 m.cs.length c5)).setCell (p := ⟨W.heap.size, n * 7 + 6, none⟩) (by dsimp only; omega) (.slice a6 m.ns.length c6))
    have hfb2 := (hfb.setCell (p := ⟨w.heap.size + 1 + 1, 0, none⟩) (by dsimp only; omega) (.int .i64 base)).setCell (p := ⟨w.heap.size + 1 + 1, 1, none⟩) (by dsimp only; omega) (.slice (some ⟨W.heap.size, 0, none⟩) (n + 1) (n + 1))
    have hrw := own_set (own_set HF.out (g := w.heap.size + 1 + 1) (by omega) 0 (.int .i64 base)) (g := w.heap.size + 1 + 1) (by omega) 1 (.slice (some ⟨W.heap.size, 0, none⟩) (n + 1) (n + 1))
    refine ⟨_, rfl, ⟨xs ++ [(m, Value.slice a5 m.cs.length c5, Value.slice a6 m.ns.length c6)], by simp, ?_, fun x hx => ?_⟩, hfb2⟩
    · rw [show (xs ++ [(m, Value.slice a5 m.cs.length c5, Value.slice a6 m.ns.length c6)]).length = n + 1 by rw [List.length_append, HN.out]; rfl]
      exact rd_own hrw (Nat.le_refl _)
    · rcases List.mem_append.1 hx with hx | hx
      · exact (HM.out x hx).at hfb2
      · obtain rfl := List.mem_singleton.1 hx
        exact HX.out.at hfb2
set_option maxRecDepth 100000 in
set_option maxHeartbeats 8000000 in
theorem queueImpl (w : World) (base : Int) (v : Value) (ms : List Ms) (m : Ms) (cv nv : Value) (h : RdS w w.heap.size v ms) (hmt : Mt w w.heap.size (m, cv, nv)) (hm : ms.length ≤ 1048576) (hgd : GoodS ms) (hgm : GoodM m) :
    Calls Try.prog 31 #[sndV base v, msV m cv nv] w (ansQ w (quR base ms m)) := by
  have HR := hide h
  have HX := hide hmt
  obtain ⟨a, cap, rfl, _⟩ := ms_at h
  obtain ⟨a5, c5, e5, _⟩ := cells_at hmt.1
  obtain ⟨a6, c6, e6, _⟩ := notes_at hmt.2
  simp only at e5 e6
  subst e5 e6
  clear h hmt
  have HGS := hide (goodS_snoc hgd hgm)
  have HLE : Hid ((ms ++ [m]).length = ms.length + 1) := hide (by simp)
  have HLN : Hid ((ms ++ [m]).length ≤ 2000000) := hide (by simp; omega)
  have hE0 := heap_alloc_new w (.cells #[.int .i64 base, .slice a ms.length cap] 51)
  have hE1 := heap_alloc_new (w.alloc (.cells #[.int .i64 base, .slice a ms.length cap] 51)) (.cells #[.int .i64 m.k, .int .i64 m.i, .int .i64 m.u, .int .i64 m.c, .int .i64 m.n, .slice a5 m.cs.length c5, .slice a6 m.ns.length c6] 65)
  have hE2 := heap_alloc_new ((w.alloc (.cells #[.int .i64 base, .slice a ms.length cap] 51)).alloc (.cells #[.int .i64 m.k, .int .i64 m.i, .int .i64 m.u, .int .i64 m.c, .int .i64 m.n, .slice a5 m.cs.length c5, .slice a6 m.ns.length c6] 65)) (.cells #[.int .i64 0, .slice none 0 0] 51)
  have bA := (((Below.refl w.heap.size w).alloc (Nat.le_refl _) (.cells #[.int .i64 base, .slice a ms.length cap] 51)).alloc (by simp) (.cells #[.int .i64 m.k, .int .i64 m.i, .int .i64 m.u, .int .i64 m.c, .int .i64 m.n, .slice a5 m.cs.length c5, .slice a6 m.ns.length c6] 65)).alloc (by simp; omega) (.cells #[.int .i64 0, .slice none 0 0] 51)
  have hsz : (((w.alloc (.cells #[.int .i64 base, .slice a ms.length cap] 51)).alloc (.cells #[.int .i64 m.k, .int .i64 m.i, .int .i64 m.u, .int .i64 m.c, .int .i64 m.n, .slice a5 m.cs.length c5, .slice a6 m.ns.length c6] 65)).alloc (.cells #[.int .i64 0, .slice none 0 0] 51)).heap.size = w.heap.size + 1 + 1 + 1 := by simp
  simp only [World.size_alloc] at hE1 hE2
  have H0 := hide ((Below.heap_alloc _ (.cells #[.int .i64 0, .slice none 0 0] 51) w.heap.size (by simp; omega)).trans ((Below.heap_alloc _ (.cells #[.int .i64 m.k, .int .i64 m.i, .int .i64 m.u, .int .i64 m.c, .int .i64 m.n, .slice a5 m.cs.length c5, .slice a6 m.ns.length c6] 65) w.heap.size (by simp)).trans hE0))
  have H1 := hide ((Below.heap_alloc _ (.cells #[.int .i64 0, .slice none 0 0] 51) (w.heap.size + 1) (by simp)).trans hE1)
  have H2 := hide hE2
  have HB := hide bA
  have hW : w.heap.size + 1 + 1 < (((w.alloc (.cells #[.int .i64 base, .slice a ms.length cap] 51)).alloc (.cells #[.int .i64 m.k, .int .i64 m.i, .int .i64 m.u, .int .i64 m.c, .int .i64 m.n, .slice a5 m.cs.length c5, .slice a6 m.ns.length c6] 65)).alloc (.cells #[.int .i64 0, .slice none 0 0] 51)).heap.size := by rw [hsz]; omega
  clear bA hE0 hE1 hE2 hsz
  unfold sndV msV msgV
  go_enter Try.func31, Try.ntmps31
  go_upto_region 1 with fail
  generalize ((w.alloc (.cells #[.int .i64 base, .slice a ms.length cap] 51)).alloc (.cells #[.int .i64 m.k, .int .i64 m.i, .int .i64 m.u, .int .i64 m.c, .int .i64 m.n, .slice a5 m.cs.length c5, .slice a6 m.ns.length c6] 65)).alloc (.cells #[.int .i64 0, .slice none 0 0] 51) = w1 at *
  have HS : Hid (∀ w', Below w1.heap.size w1 w' → w'.cell? ⟨w.heap.size, 0, none⟩ = some (.int .i64 base) ∧ w'.cell? ⟨w.heap.size, 1, none⟩ = some (.slice a ms.length cap) ∧ w'.cell? ⟨w.heap.size + 1, 0, none⟩ = some (.int .i64 m.k) ∧ w'.cell? ⟨w.heap.size + 1, 1, none⟩ = some (.int .i64 m.i) ∧ w'.cell? ⟨w.heap.size + 1, 2, none⟩ = some (.int .i64 m.u) ∧ w'.cell? ⟨w.heap.size + 1, 3, none⟩ = some (.int .i64 m.c) ∧ w'.cell? ⟨w.heap.size + 1, 4, none⟩ = some (.int .i64 m.n) ∧ w'.cell? ⟨w.heap.size + 1, 5, none⟩ = some (.slice a5 m.cs.length c5) ∧ w'.cell? ⟨w.heap.size + 1, 6, none⟩ = some (.slice a6 m.ns.length c6)) := hide (fun w' hw => ⟨(hw.cell (p := ⟨w.heap.size, 0, none⟩) (by dsimp only; omega)).trans ((box_of H0.out).1 0 _ rfl), (hw.cell (p := ⟨w.heap.size, 1, none⟩) (by dsimp only; omega)).trans ((box_of H0.out).1 1 _ rfl), (hw.cell (p := ⟨w.heap.size + 1, 0, none⟩) (by dsimp only; omega)).trans ((box_of H1.out).1 0 _ rfl), (hw.cell (p := ⟨w.heap.size + 1, 1, none⟩) (by dsimp only; omega)).trans ((box_of H1.out).1 1 _ rfl), (hw.cell (p := ⟨w.heap.size + 1, 2, none⟩) (by dsimp only; omega)).trans ((box_of H1.out).1 2 _ rfl), (hw.cell (p := ⟨w.heap.size + 1, 3, none⟩) (by dsimp only; omega)).trans ((box_of H1.out).1 3 _ rfl), (hw.cell (p := ⟨w.heap.size + 1, 4, none⟩) (by dsimp only; omega)).trans ((box_of H1.out).1 4 _ rfl), (hw.cell (p := ⟨w.heap.size + 1, 5, none⟩) (by dsimp only; omega)).trans ((box_of H1.out).1 5 _ rfl), (hw.cell (p := ⟨w.heap.size + 1, 6, none⟩) (by dsimp only; omega)).trans ((box_of H1.out).1 6 _ rfl)⟩)
  have HD0 : Hid (Below w1.heap.size w1 w1.drew) := hide (Below.refl w1.heap.size w1).drew
  go_cut [6] from 7 to 11 (fun s wq => ∃ g a3 c3, s = .pointer (some ⟨g, 0, none⟩) ∧ Hid (w1.heap.size ≤ g ∧ wq.heap[g]? = some (.cells #[.int .i64 base, .slice a3 (ms.length + 1) c3] 51 (0, 0))) ∧ Hid (OwnS wq w1.heap.size wq.heap.size (.slice a3 (ms.length + 1) c3) (ms ++ [m])) ∧ Hid (Below w1.heap.size w1 wq))
  case first =>
    go_region_held_law (fun w' => w'.cell? ⟨w.heap.size, 0, none⟩ = some (.int .i64 base) ∧ w'.cell? ⟨w.heap.size, 1, none⟩ = some (.slice a ms.length cap) ∧ w'.cell? ⟨w.heap.size + 1, 0, none⟩ = some (.int .i64 m.k) ∧ w'.cell? ⟨w.heap.size + 1, 1, none⟩ = some (.int .i64 m.i) ∧ w'.cell? ⟨w.heap.size + 1, 2, none⟩ = some (.int .i64 m.u) ∧ w'.cell? ⟨w.heap.size + 1, 3, none⟩ = some (.int .i64 m.c) ∧ w'.cell? ⟨w.heap.size + 1, 4, none⟩ = some (.int .i64 m.n) ∧ w'.cell? ⟨w.heap.size + 1, 5, none⟩ = some (.slice a5 m.cs.length c5) ∧ w'.cell? ⟨w.heap.size + 1, 6, none⟩ = some (.slice a6 m.ns.length c6))
      (first | exact HS.out _ HD3.out | exact HS.out _ HD2.out | exact HS.out _ HD1.out | exact HS.out _ HD0.out | exact HS.out _ (HD3.out.alloc HD3.out.size _) | exact HS.out _ (HD2.out.alloc HD2.out.size _) | exact HS.out _ (HD1.out.alloc HD1.out.size _) | exact HS.out _ (HD0.out.alloc HD0.out.size _) | exact HS.out _ F3.out)
      (first
        | (refine step_callQ (w := w1.drew.alloc (.cells #[.int .i64 0, .slice none 0 0] 51)) (some 8) rfl rfl 62 _ _ rfl #[.agg #[.int .i64 base, .slice a ms.length cap]] (by kernel_rfl) (queueOf _ base a ms.length cap) ?_; rintro e x1 ⟨rfl, b1⟩; refine ⟨_, rfl, ?_⟩; have bq := HD0.out.alloc HD0.out.size (.cells #[.int .i64 0, .slice none 0 0] 51); have HD1 : Hid (Below w1.heap.size w1 x1) := hide (bq.trans (b1.mono bq.size)); have HG1 : Hid (x1.heap[w1.heap.size]? = some (.cells #[.int .i64 0, .slice none 0 0] 51 (0, 0)) ∧ w1.heap.size < x1.heap.size) := hide ⟨(b1.block w1.heap.size (by simp)).trans (heap_alloc_new w1.drew (.cells #[.int .i64 0, .slice none 0 0] 51)), Nat.lt_of_lt_of_le (by simp) b1.size⟩; clear b1 bq)
        | (refine step_callQ (some 8) rfl rfl 62 _ _ rfl #[.agg #[.int .i64 base, .slice a ms.length cap]] (by kernel_rfl) (queueOf _ base a ms.length cap) ?_; rintro e x1 ⟨rfl, b1⟩; refine ⟨_, rfl, ?_⟩; have HD1 : Hid (Below w1.heap.size w1 x1) := hide (HD0.out.trans (b1.mono HD0.out.size)); clear b1)
        | (refine step_callQ (w := x1) (some 10) rfl rfl 73 _ _ rfl #[sndV base (.slice a ms.length cap), msV m (.slice a5 m.cs.length c5) (.slice a6 m.ns.length c6)] (by kernel_rfl) (queueWith _ base _ ms m _ _ (HR.out.at (HB.out.trans (HD1.out.mono HB.out.size))) (HX.out.at (HB.out.trans (HD1.out.mono HB.out.size))) hm) ?_; rintro e x2 ⟨v2, rfl, r2, b2⟩; refine ⟨_, rfl, ?_⟩; have HG2 : Hid (x2.heap[w1.heap.size]? = some (.cells #[.int .i64 0, .slice none 0 0] 51 (0, 0)) ∧ w1.heap.size < x2.heap.size ∧ w1.heap.size ≤ w1.heap.size) := hide ⟨(b2.block w1.heap.size HG1.out.2).trans HG1.out.1, Nat.lt_of_lt_of_le HG1.out.2 b2.size, Nat.le_refl _⟩; have HD2 : Hid (Below w1.heap.size w1 x2) := hide (HD1.out.trans (b2.mono HD1.out.size)); have HR2 := hide r2; clear b2 r2)
        | (refine step_callQ (w := x1.alloc (.cells #[.int .i64 0, .slice none 0 0] 51)) (some 10) rfl rfl 73 _ _ rfl #[sndV base (.slice a ms.length cap), msV m (.slice a5 m.cs.length c5) (.slice a6 m.ns.length c6)] (by kernel_rfl) (queueWith _ base _ ms m _ _ (HR.out.at (HB.out.trans ((HD1.out.alloc HD1.out.size (.cells #[.int .i64 0, .slice none 0 0] 51)).mono HB.out.size))) (HX.out.at (HB.out.trans ((HD1.out.alloc HD1.out.size (.cells #[.int .i64 0, .slice none 0 0] 51)).mono HB.out.size))) hm) ?_; rintro e x2 ⟨v2, rfl, r2, b2⟩; refine ⟨_, rfl, ?_⟩; have HG2 : Hid (x2.heap[x1.heap.size]? = some (.cells #[.int .i64 0, .slice none 0 0] 51 (0, 0)) ∧ x1.heap.size < x2.heap.size ∧ w1.heap.size ≤ x1.heap.size) := hide ⟨(b2.block x1.heap.size (by simp)).trans (heap_alloc_new x1 (.cells #[.int .i64 0, .slice none 0 0] 51)), Nat.lt_of_lt_of_le (by simp) b2.size, HD1.out.size⟩; have HD2 : Hid (Below w1.heap.size w1 x2) := hide ((HD1.out.alloc HD1.out.size (.cells #[.int .i64 0, .slice none 0 0] 51)).trans (b2.mono (HD1.out.alloc HD1.out.size (.cells #[.int .i64 0, .slice none 0 0] 51)).size)); have HR2 := hide r2; clear b2 r2)
        | (refine step_callQ (w := x1) (some 10) rfl rfl 73 _ _ rfl #[sndV base (.slice a ms.length cap), msV m (.slice a5 m.cs.length c5) (.slice a6 m.ns.length c6)] (by kernel_rfl) (queueWith _ base _ ms m _ _ (HR.out.at (HB.out.trans (HD1.out.mono HB.out.size))) (HX.out.at (HB.out.trans (HD1.out.mono HB.out.size))) hm) ?_; rintro e x2 ⟨v2, rfl, r2, b2⟩; refine ⟨_, rfl, ?_⟩; have HD2 : Hid (Below w1.heap.size w1 x2) := hide (HD1.out.trans (b2.mono HD1.out.size)); have HR2 := hide r2; clear b2 r2)
        | (refine step_callQ (w := x2) (some 11) rfl rfl 72 _ _ rfl #[sndV base v2] (by kernel_rfl) (senderOf _ base _ (ms ++ [m]) HR2.out HLN.out HGS.out) ?_; rintro e x3 ⟨v3, rfl, o3, b3⟩; refine ⟨_, rfl, ?_⟩; have HD3 : Hid (Below w1.heap.size w1 x3) := hide (HD2.out.trans (b3.mono HD2.out.size)); obtain ⟨a3, c3, e3⟩ := o3.shape; rw [HLE.out] at e3; subst e3; have hd2 := HD2.out.size; have hd3 := HD3.out.size; have hb3 := b3.size; have hgl : w1.heap.size < x2.heap.size := HG2.out.2.1; have hgw : w1.heap.size ≤ w1.heap.size := HG2.out.2.2; have E3 : x3.heap[w1.heap.size]? = some (.cells #[.int .i64 0, .slice none 0 0] 51 (0, 0)) := (b3.block w1.heap.size hgl).trans HG2.out.1; have k0 := (box_of E3).1 0 _ rfl; have k1 := (box_of E3).1 1 _ rfl; have kz := (box_of E3).2; have F1 : Hid (w1.heap.size ≤ w1.heap.size ∧ _) := hide ⟨by omega, put2 E3 (.int .i64 base) (.slice a3 (ms.length + 1) c3)⟩; have F2 : Hid (OwnS ((x3.setCell ⟨w1.heap.size, 0, none⟩ (.int .i64 base)).setCell ⟨w1.heap.size, 1, none⟩ (.slice a3 (ms.length + 1) c3)) w1.heap.size ((x3.setCell ⟨w1.heap.size, 0, none⟩ (.int .i64 base)).setCell ⟨w1.heap.size, 1, none⟩ (.slice a3 (ms.length + 1) c3)).heap.size (.slice a3 (ms.length + 1) c3) (ms ++ [m])) := hide (((o3.same (fun q hq _ _ => by have hq' := hq; (try simp only [World.size_alloc] at hq'); rw [heap_setCell_other _ _ _ _ (by simp; omega), heap_setCell_other _ _ _ _ (by simp; omega)])).mono (by first | exact hd2 | (simp; omega))).up (by simp)); have F3 : Hid (Below w1.heap.size w1 ((x3.setCell ⟨w1.heap.size, 0, none⟩ (.int .i64 base)).setCell ⟨w1.heap.size, 1, none⟩ (.slice a3 (ms.length + 1) c3))) := hide ((HD3.out.setCell (p := ⟨w1.heap.size, 0, none⟩) (by dsimp only; omega) _).setCell (p := ⟨w1.heap.size, 1, none⟩) (by dsimp only; omega) _); clear b3 o3 E3; unfold sndV)
        | (refine step_callQ (w := x2) (some 11) rfl rfl 72 _ _ rfl #[sndV base v2] (by kernel_rfl) (senderOf _ base _ (ms ++ [m]) HR2.out HLN.out HGS.out) ?_; rintro e x3 ⟨v3, rfl, o3, b3⟩; refine ⟨_, rfl, ?_⟩; have HD3 : Hid (Below w1.heap.size w1 x3) := hide (HD2.out.trans (b3.mono HD2.out.size)); obtain ⟨a3, c3, e3⟩ := o3.shape; rw [HLE.out] at e3; subst e3; have hd2 := HD2.out.size; have hd3 := HD3.out.size; have hb3 := b3.size; have hgl : x1.heap.size < x2.heap.size := HG2.out.2.1; have hgw : w1.heap.size ≤ x1.heap.size := HG2.out.2.2; have E3 : x3.heap[x1.heap.size]? = some (.cells #[.int .i64 0, .slice none 0 0] 51 (0, 0)) := (b3.block x1.heap.size hgl).trans HG2.out.1; have k0 := (box_of E3).1 0 _ rfl; have k1 := (box_of E3).1 1 _ rfl; have kz := (box_of E3).2; have F1 : Hid (w1.heap.size ≤ x1.heap.size ∧ _) := hide ⟨by omega, put2 E3 (.int .i64 base) (.slice a3 (ms.length + 1) c3)⟩; have F2 : Hid (OwnS ((x3.setCell ⟨x1.heap.size, 0, none⟩ (.int .i64 base)).setCell ⟨x1.heap.size, 1, none⟩ (.slice a3 (ms.length + 1) c3)) w1.heap.size ((x3.setCell ⟨x1.heap.size, 0, none⟩ (.int .i64 base)).setCell ⟨x1.heap.size, 1, none⟩ (.slice a3 (ms.length + 1) c3)).heap.size (.slice a3 (ms.length + 1) c3) (ms ++ [m])) := hide (((o3.same (fun q hq _ _ => by have hq' := hq; (try simp only [World.size_alloc] at hq'); rw [heap_setCell_other _ _ _ _ (by simp; omega), heap_setCell_other _ _ _ _ (by simp; omega)])).mono (by first | exact hd2 | (simp; omega))).up (by simp)); have F3 : Hid (Below w1.heap.size w1 ((x3.setCell ⟨x1.heap.size, 0, none⟩ (.int .i64 base)).setCell ⟨x1.heap.size, 1, none⟩ (.slice a3 (ms.length + 1) c3))) := hide ((HD3.out.setCell (p := ⟨x1.heap.size, 0, none⟩) (by dsimp only; omega) _).setCell (p := ⟨x1.heap.size, 1, none⟩) (by dsimp only; omega) _); clear b3 o3 E3; unfold sndV)
        | (refine step_callQ (w := x2.alloc (.cells #[.int .i64 0, .slice none 0 0] 51)) (some 11) rfl rfl 72 _ _ rfl #[sndV base v2] (by kernel_rfl) (senderOf _ base _ (ms ++ [m]) (HR2.out.at ((Below.refl x2.heap.size x2).alloc (Nat.le_refl _) (.cells #[.int .i64 0, .slice none 0 0] 51))) HLN.out HGS.out) ?_; rintro e x3 ⟨v3, rfl, o3, b3⟩; refine ⟨_, rfl, ?_⟩; have HD3 : Hid (Below w1.heap.size w1 x3) := hide ((HD2.out.alloc HD2.out.size (.cells #[.int .i64 0, .slice none 0 0] 51)).trans (b3.mono (HD2.out.alloc HD2.out.size (.cells #[.int .i64 0, .slice none 0 0] 51)).size)); obtain ⟨a3, c3, e3⟩ := o3.shape; rw [HLE.out] at e3; subst e3; have hd2 := HD2.out.size; have hd3 := HD3.out.size; have hb3 := b3.size; simp only [World.size_alloc] at hb3; have E3 : x3.heap[x2.heap.size]? = some (.cells #[.int .i64 0, .slice none 0 0] 51 (0, 0)) := (b3.block x2.heap.size (by simp)).trans (heap_alloc_new x2 (.cells #[.int .i64 0, .slice none 0 0] 51)); have k0 := (box_of E3).1 0 _ rfl; have k1 := (box_of E3).1 1 _ rfl; have kz := (box_of E3).2; have F1 : Hid (w1.heap.size ≤ x2.heap.size ∧ _) := hide ⟨by omega, put2 E3 (.int .i64 base) (.slice a3 (ms.length + 1) c3)⟩; have F2 : Hid (OwnS ((x3.setCell ⟨x2.heap.size, 0, none⟩ (.int .i64 base)).setCell ⟨x2.heap.size, 1, none⟩ (.slice a3 (ms.length + 1) c3)) w1.heap.size ((x3.setCell ⟨x2.heap.size, 0, none⟩ (.int .i64 base)).setCell ⟨x2.heap.size, 1, none⟩ (.slice a3 (ms.length + 1) c3)).heap.size (.slice a3 (ms.length + 1) c3) (ms ++ [m])) := hide (((o3.same (fun q hq _ _ => by have hq' := hq; (try simp only [World.size_alloc] at hq'); rw [heap_setCell_other _ _ _ _ (by simp; omega), heap_setCell_other _ _ _ _ (by simp; omega)])).mono (by first | exact hd2 | (simp; omega))).up (by simp)); have F3 : Hid (Below w1.heap.size w1 ((x3.setCell ⟨x2.heap.size, 0, none⟩ (.int .i64 base)).setCell ⟨x2.heap.size, 1, none⟩ (.slice a3 (ms.length + 1) c3))) := hide ((HD3.out.setCell (p := ⟨x2.heap.size, 0, none⟩) (by dsimp only; omega) _).setCell (p := ⟨x2.heap.size, 1, none⟩) (by dsimp only; omega) _); clear b3 o3 E3; unfold sndV)
        | (refine step_callQ (w := x2) (some 11) rfl rfl 72 _ _ rfl #[sndV base v2] (by kernel_rfl) (senderOf _ base _ (ms ++ [m]) HR2.out HLN.out HGS.out) ?_; rintro e x3 ⟨v3, rfl, o3, b3⟩; refine ⟨_, rfl, ?_⟩; have HD3 : Hid (Below w1.heap.size w1 x3) := hide (HD2.out.trans (b3.mono HD2.out.size)); obtain ⟨a3, c3, e3⟩ := o3.shape; rw [HLE.out] at e3; subst e3; have hd2 := HD2.out.size; have hd3 := HD3.out.size; have hb3 := b3.size; have F1 : Hid (w1.heap.size ≤ x3.heap.size ∧ _) := hide ⟨hd3, heap_alloc_new x3 (.cells #[.int .i64 base, .slice a3 (ms.length + 1) c3] 51)⟩; have F2 : Hid (OwnS (x3.alloc (.cells #[.int .i64 base, .slice a3 (ms.length + 1) c3] 51)) w1.heap.size (x3.alloc (.cells #[.int .i64 base, .slice a3 (ms.length + 1) c3] 51)).heap.size (.slice a3 (ms.length + 1) c3) (ms ++ [m])) := hide (((o3.below ((Below.refl x3.heap.size x3).alloc (Nat.le_refl _) _)).mono hd2).up (by simp)); have F3 : Hid (Below w1.heap.size w1 (x3.alloc (.cells #[.int .i64 base, .slice a3 (ms.length + 1) c3] 51))) := hide (HD3.out.alloc hd3 _); clear b3 o3; unfold sndV)
        | fail)
    all_goals (go_wp2_with fail; go_meet; exact ⟨_, a3, c3, rfl, F1, F2, F3⟩)
  case rest =>
    obtain ⟨g, a3, c3, rfl, HG, HQ, HW⟩ := hcut
    have HB2 := hide (HB.out.trans (HW.out.mono HB.out.size))
    have f0 := (box_of HG.out.2).1 0 _ rfl
    have f1 := (box_of HG.out.2).1 1 _ rfl
    have hgs := (Array.getElem?_eq_some_iff.1 HG.out.2).1
    have hw1 := HW.out.size
    have H0q := hide ((HW.out.block w.heap.size (by omega)).trans H0.out)
    have H2q := hide ((HW.out.block (w.heap.size + 1 + 1) (by omega)).trans H2.out)
    go_wp2_with fail
    clear f0 f1
    refine (sndImpl _ base _ (ms ++ [m]) _ (HQ.out.rd (Nat.le_refl _)) (Nat.le_refl _) HLN.out HGS.out).mono ?_
    rintro e w4 ⟨rfl, b4⟩
    have EG := (b4.block g hgs).trans HG.out.2
    have E0 := (b4.block w.heap.size (by omega)).trans H0q.out
    have E2 := (b4.block (w.heap.size + 1 + 1) (by omega)).trans H2q.out
    replace HQ := hide ((HQ.out.below b4).up b4.size)
    have h24 : w.heap.size + 1 + 1 < w4.heap.size := by have := b4.size; omega
    replace HB2 := hide (HB2.out.trans (b4.mono HB2.out.size))
    clear b4 H0q H2q
    cases hok : sOk base (ms ++ [m]) with
    | false =>
      have f0 := (box_of E0).1 0 _ rfl
      have f1 := (box_of E0).1 1 _ rfl
      have HE := hide E2
      clear E0 E2 EG
      go_wp2_with fail
      clear f0 f1
      refine (copySndI _ base _ ms (HR.out.at HB2.out) (by omega) hgd).mono ?_
      rintro e w5 ⟨v5, rfl, o5, b5⟩
      obtain ⟨a7, c7, rfl⟩ := o5.shape
      have HO := hide o5
      have E2 := (b5.block (w.heap.size + 1 + 1) (by omega)).trans HE.out
      have hs5 := b5.size
      replace HB2 := hide (HB2.out.trans (b5.mono HB2.out.size))
      clear b5 o5 HE
      have r0 := (box_of E2).1 0 _ rfl
      have r1 := (box_of E2).1 1 _ rfl
      have z1 := (box_of E2).2
      have HE := hide E2
      clear E2
      unfold sndV
      go_wp2
      refine bodyPost_ret (v := .tuple #[.agg #[.int .i64 base, .slice a7 ms.length c7], .bool false]) (results_ct Try.results31 _ _ _ rfl (loadS (put2 HE.out _ _))) rfl (show ansQ w (quR base ms m) _ _ from by
        unfold quR
        rw [hok]
        refine ⟨_, rfl, ?_, (HB2.out.setCell (by simp; omega) _).setCell (by simp; omega) _⟩
        refine ((OwnS.same HO.out (fun q hq _ _ => ?_)).mono (by omega)).up (by simp)
        rw [heap_setCell_other _ _ _ _ (by simp; omega), heap_setCell_other _ _ _ _ (by simp; omega)])
    | true =>
      have f0 := (box_of EG).1 0 _ rfl
      have f1 := (box_of EG).1 1 _ rfl
      have r0 := (box_of E2).1 0 _ rfl
      have r1 := (box_of E2).1 1 _ rfl
      have z1 := (box_of E2).2
      have HE := hide E2
      have mg : ¬ w.heap.size + 1 + 1 = g := by have := HG.out.1; omega
      have mg2 : ¬ g = w.heap.size + 1 + 1 := by have := HG.out.1; omega
      clear E0 E2 EG
      go_wp2
      refine bodyPost_ret (v := .tuple #[.agg #[.int .i64 base, .slice a3 (ms.length + 1) c3], .bool true]) (results_ct Try.results31 _ _ _ rfl (loadS (put2 HE.out _ _))) rfl (show ansQ w (quR base ms m) _ _ from by
        unfold quR
        rw [hok]
        refine ⟨_, rfl, ?_, (HB2.out.setCell (by simp; omega) _).setCell (by simp; omega) _⟩
        refine ((OwnS.same HQ.out (fun q hq _ _ => ?_)).mono (by omega)).up (by simp)
        rw [heap_setCell_other _ _ _ _ (by simp; omega), heap_setCell_other _ _ _ _ (by simp; omega)])
end Go.Proofs.Ytoaenoakdbieaaa
