/-
  The draws of notes: what they draw lies in new memory, and is short.
-/
import Derived.Test.YtebilohcdpecoaaCur
import Derived.Test.YtebilohcdpecoaaNteT
import Derived.Test.YtebilohcdpecoaaAppM
import Derived.Test.YtebilohcdpecoaaBldV
namespace Go.Proofs.Ytebilohcdpecoaa
open Go.RowKit

theorem ownD_litN (w : World) (b : Nat) (hB : b ≤ w.heap.size) (T : TypeId) (k n : Nat) (cs : Array Value) (hn : n ≤ 1000000) (hl : cs.size = n * k) : OwnD (w.alloc (.cells cs T)) b (w.alloc (.cells cs T)).heap.size (.row T k n (cs.toList.map .val)) (.slice (some ⟨w.heap.size, 0, none⟩) n n) := by
  have h := OwnDL.snoc (ownDL_nil w b w.heap.size) hB T k n cs hn hl
  exact OwnDL.mid (c1 := []) (v1 := []) h rfl
theorem ownDL_valsN (w : World) (b hi : Nat) (vs : List Value) : OwnDL w b hi (vs.map .val) vs := ⟨[], ownsL_vals vs, List.nodup_nil, fun q hq => by simp at hq⟩
theorem Cur.rowC {w w' : World} {g : Nat} {row : Option Nat} (h : Cur w g) (hg : w.grownBy w' row) (hr : ∀ k, row = some k → g < k) : Cur w' g := h.kept (fun k hk => hg.block k (by have := h.lt; omega) (fun e => by have := hr k e.symm; omega))
theorem ntes_snoc (xs : List Nte) (y : Nte) : ntes (xs ++ [y]) = .row 43 2 (xs.length + 1) (xs.flatMap nteD ++ nteD y) := by
  unfold ntes
  rw [List.length_append, List.flatMap_append]
  simp
set_option maxRecDepth 100000 in
set_option maxHeartbeats 8000000 in
theorem drawNts (w : World) (g : Nat) (hc : Cur w g) :
    Calls Try.prog 48 #[.pointer (some ⟨g, 0, none⟩)] w fun e w' => ∃ xs v, e = .returned v ∧ OwnD w' w.heap.size w'.heap.size (ntes xs) v ∧ xs.length ≤ 40 ∧ Cur w' g ∧ w.grownBy w' (some g) := by
  have hgl := hc.lt
  have HC := hide (hc.alloc (.cells #[] 43))
  have HO := hide (ownD_litN w w.heap.size (Nat.le_refl _) 43 2 0 #[] (by decide) rfl)
  have HG := hide (World.grownBy_alloc w (.cells #[] 43) (some g))
  clear hc
  obtain ⟨i0, hi, hz0, hz1, hz2⟩ := info_parts Try.infoNte
  have HI := hide (And.intro hi (And.intro hz0 (And.intro hz1 hz2)))
  clear hi hz0 hz1 hz2
  go_enter Try.func48, Try.ntmps48
  go_wp2
  go_loopw [3, 4] (fun out who wr => ∃ (xs : List Nte) (va : Option Addr) (vc : Nat) (k : Int), out = .slice va xs.length vc ∧ who = .int .i64 k ∧ (xs.length : Int) + 1 ≤ k ∧ k ≤ 40 ∧ Hid (OwnD wr w.heap.size wr.heap.size (ntes xs) (.slice va xs.length vc)) ∧ Hid (Cur wr g) ∧ Hid (w.grownBy wr (some g))) (fun _ who _ => (25 - intOf who).toNat)
  case atStart => exact ⟨[], _, _, _, rfl, rfl, by simp, by omega, HO, HC, HG⟩
  case round =>
    clear HO HC HG
    obtain ⟨xs, va, vc, k, rfl, rfl, hk1, hk2, HOr, HCr, HGr⟩ := hrel
    have hgw := HGr.out.size
    by_cases hlt : k < 25
    · go_upto_region 4 with (first
        | (go_at_call 39; refine (belowDraw _ g 5 (by decide) (by decide) HCr.out).mono ?_; rintro e w1 ⟨x1, rfl, hx10, hx11, hc1, hg1⟩; have hs1 := hg1.size; have HX := hide ((Below.refl w1.heap.size w1).alloc (Nat.le_refl _) (.cells #[.int .i64 k, .int .i64 (1 + x1)] 43)); have hsX := HX.out.size; have HC1 := hide (hc1.alloc (.cells #[.int .i64 k, .int .i64 (1 + x1)] 43)); have hown := hide (OwnDL.cons ((HOr.out.grownP hg1 hgl).below HX.out) (ownDL_nil _ wr.heap.size wr.heap.size) hgw (Nat.le_refl _)); have hbx := hide (box_of (heap_alloc_new w1 (.cells #[.int .i64 k, .int .i64 (1 + x1)] 43))).1; have HG1 := hide (grown_step (grownBy_trans HGr.out hg1) (World.grownBy_alloc w1 (.cells #[.int .i64 k, .int .i64 (1 + x1)] 43) (some g)) (fun q hq => by cases hq <;> exact Or.inl rfl)); clear hc1 hg1 HX)
        | (at_builtin; refine appL rfl _ _ 25 rfl w.heap.size wr.heap.size wr.heap.size 43 i0 (.agg #[.int .i64 0, .int .i64 0]) 2 16 Try.underlying25 HI.out.1 HI.out.2.1 HI.out.2.2.1 HI.out.2.2.2 rfl (by decide) (.slice va xs.length vc) xs.length (xs.flatMap nteD) [] [] [] [] rfl hown.out rfl _ _ [.int .i64 k, .int .i64 (1 + x1)] (nteD ⟨k, (1 + x1)⟩) rfl hbx.out (ownDL_valsN _ _ _ [.int .i64 k, .int .i64 (1 + x1)]) rfl (by simp [Value.oneCell']) (by omega) (by decide) (Nat.le_refl _) hgw (by omega) ?_; intro g9 vc9 w9 o9 gr9 hq9; have HO9 := hide (OwnDL.mid (c1 := []) (v1 := []) o9 rfl); have HC9 := hide (HC1.out.rowC gr9 (fun q hq => by have := (hq9 q hq).1; omega)); have HG9 := hide (grown_step HG1.out gr9 (fun q hq => Or.inr (hq9 q hq).1)); clear o9 gr9 hq9)
        | fail)
      go_wp2_with fail
      refine (belowDraw _ g 12 (by decide) (by decide) HC9.out).mono ?_
      rintro e w2 ⟨z, rfl, hz0, hz1, hc2, hg2⟩
      have HC2 := hide hc2
      have HO2 := hide ((HO9.out.grownP hg2 hgl).up hg2.size)
      have HG2 := hide (grownBy_trans HG9.out hg2)
      clear hc2 hg2 HOr HCr HGr
      go_wp2
      refine ⟨⟨xs ++ [⟨k, 1 + x1⟩], some ⟨g9, 0, none⟩, vc9, k + 1 + z, ?_, rfl, ?_, by omega, hide ?_, HC2, HG2⟩, ?_⟩
      · rw [List.length_append]; rfl
      · rw [List.length_append]; simp only [List.length_cons, List.length_nil]; omega
      · rw [ntes_snoc, List.length_append]
        exact HO2.out
      · simp [intOf]; omega
    · go_wp2
      go_ret
      exact ⟨xs, _, rfl, HOr.out, by omega, HCr.out, HGr.out⟩
set_option maxRecDepth 100000 in
set_option maxHeartbeats 8000000 in
theorem drawNt (w : World) (g : Nat) (hc : Cur w g) :
    Calls Try.prog 38 #[.pointer (some ⟨g, 0, none⟩)] w fun e w' => ∃ xs v, e = .returned v ∧ OwnD w' w.heap.size w'.heap.size (ntes xs) v ∧ xs.length ≤ 140 ∧ Cur w' g ∧ w.grownBy w' (some g) := by
  have hgl := hc.lt
  have HC := hide hc
  clear hc
  obtain ⟨i0, hi, hz0, hz1, hz2⟩ := info_parts Try.infoNte
  have HI := hide (And.intro hi (And.intro hz0 (And.intro hz1 hz2)))
  clear hi hz0 hz1 hz2
  go_enter Try.func38, Try.ntmps38
  go_wp2_with fail
  refine (drawNts _ g HC.out).mono ?_
  rintro e wr ⟨xs, v, rfl, o1, hl, hc1, hg1⟩
  obtain ⟨va, vc, ev⟩ := o1.shape
  subst ev
  have HOr := hide o1
  have HCr := hide hc1
  have HGr := hide hg1
  have hgw := hg1.size
  clear o1 hc1 hg1 HC
  go_wp2_with fail
  refine (belowDraw _ g 14 (by decide) (by decide) HCr.out).mono ?_
  rintro e w1 ⟨t, rfl, ht0, ht1, hc1, hg1⟩
  have hs1 := hg1.size
  have HC1 := hide hc1
  have HO1 := hide (HOr.out.grownP hg1 hgl)
  have HG1 := hide (grownBy_trans HGr.out hg1)
  clear hc1 hg1 HOr HCr HGr
  by_cases t0 : t = 0
  · subst t0
    go_wp2_with (first
      | (go_at_call_of 39 (Value.int .i64 40); refine (belowDraw _ g 40 (by decide) (by decide) HC1.out).mono ?_; rintro e w2 ⟨x2, rfl, hx20, hx21, hc2, hg2⟩; have hs2 := hg2.size; have HC2 := hide hc2; have HO2 := hide (HO1.out.grownP hg2 hgl); have HG2 := hide (grownBy_trans HG1.out hg2); clear hc2 hg2 HC1 HG1)
      | (go_at_call_of 39 (Value.int .i64 2); refine (belowDraw _ g 2 (by decide) (by decide) HC2.out).mono ?_; rintro e w3 ⟨x3, rfl, hx30, hx31, hc1, hg1⟩; have hs3 := hg1.size; have HX := hide ((Below.refl w3.heap.size w3).alloc (Nat.le_refl _) (.cells #[.int .i64 x2, .int .i64 x3] 43)); have hsX := HX.out.size; have HC1 := hide (hc1.alloc (.cells #[.int .i64 x2, .int .i64 x3] 43)); have hown := hide (OwnDL.cons ((HO2.out.grownP hg1 hgl).below HX.out) (ownDL_nil _ wr.heap.size wr.heap.size) hgw (Nat.le_refl _)); have hbx := hide (box_of (heap_alloc_new w3 (.cells #[.int .i64 x2, .int .i64 x3] 43))).1; have HG1 := hide (grown_step (grownBy_trans HG2.out hg1) (World.grownBy_alloc w3 (.cells #[.int .i64 x2, .int .i64 x3] 43) (some g)) (fun q hq => by cases hq <;> exact Or.inl rfl)); clear hc1 hg1 HX)
      | (at_builtin; refine appL rfl _ _ 25 rfl w.heap.size wr.heap.size wr.heap.size 43 i0 (.agg #[.int .i64 0, .int .i64 0]) 2 16 Try.underlying25 HI.out.1 HI.out.2.1 HI.out.2.2.1 HI.out.2.2.2 rfl (by decide) (.slice va xs.length vc) xs.length (xs.flatMap nteD) [] [] [] [] rfl hown.out rfl _ _ [.int .i64 x2, .int .i64 x3] (nteD ⟨x2, x3⟩) rfl hbx.out (ownDL_valsN _ _ _ [.int .i64 x2, .int .i64 x3]) rfl (by simp [Value.oneCell']) (by omega) (by decide) (Nat.le_refl _) hgw (by omega) ?_; intro g9 vc9 w9 o9 gr9 hq9; have HO9 := hide (OwnDL.mid (c1 := []) (v1 := []) o9 rfl); have HC9 := hide (HC1.out.rowC gr9 (fun q hq => by have := (hq9 q hq).1; omega)); have HG9 := hide (grown_step HG1.out gr9 (fun q hq => Or.inr (hq9 q hq).1)); clear o9 gr9 hq9)
      | fail)
    go_ret
    refine ⟨xs ++ [⟨x2, x3⟩], _, rfl, ?_, ?_, HC9.out, HG9.out⟩
    · rw [ntes_snoc]
      exact HO9.out
    · rw [List.length_append]; simp only [List.length_cons, List.length_nil]; omega
  · by_cases t1 : t = 1
    · subst t1
      have hw1 := HG1.out.size
      replace HO1 := hide (HO1.out.up hs1)
      go_wp2
      go_loopw [3, 4] (fun out who wr => ∃ (ys : List Nte) (va : Option Addr) (vc : Nat), out = .slice va ys.length vc ∧ who = .int .i64 (ys.length : Int) ∧ ys.length ≤ 132 ∧ Hid (OwnD wr w.heap.size wr.heap.size (ntes ys) (.slice va ys.length vc)) ∧ Hid (Cur wr g) ∧ Hid (w.grownBy wr (some g))) (fun _ who _ => (140 - intOf who).toNat)
      case atStart => exact ⟨xs, _, _, rfl, rfl, by omega, HO1, HC1, HG1⟩
      case round =>
        clear HO1 HC1 HG1 hs1 hw1 hgw hl
        obtain ⟨ys, va, vc, rfl, rfl, hk2, HOr, HCr, HGr⟩ := hrel
        have hgw := HGr.out.size
        go_wp2_with fail
        refine (belowDraw _ g 2 (by decide) (by decide) HCr.out).mono ?_
        rintro e w2 ⟨z, rfl, hz0, hz1, hc1, hg1⟩
        by_cases hlt : (ys.length : Int) < 130 + z
        · have hs1 := hg1.size
          have HX := hide ((Below.refl w2.heap.size w2).alloc (Nat.le_refl _) (.cells #[.int .i64 (100 + (ys.length : Int)), .int .i64 1] 43))
          have hsX := HX.out.size
          have HC1 := hide (hc1.alloc (.cells #[.int .i64 (100 + (ys.length : Int)), .int .i64 1] 43))
          have hown := hide (OwnDL.cons ((HOr.out.grownP hg1 hgl).below HX.out) (ownDL_nil _ wr.heap.size wr.heap.size) hgw (Nat.le_refl _))
          have hbx := hide (box_of (heap_alloc_new w2 (.cells #[.int .i64 (100 + (ys.length : Int)), .int .i64 1] 43))).1
          have HG1 := hide (grown_step (grownBy_trans HGr.out hg1) (World.grownBy_alloc w2 (.cells #[.int .i64 (100 + (ys.length : Int)), .int .i64 1] 43) (some g)) (fun q hq => by cases hq <;> exact Or.inl rfl))
          clear hc1 hg1 HX
          go_wp2_with (at_builtin; refine appL rfl _ _ 25 rfl w.heap.size wr.heap.size wr.heap.size 43 i0 (.agg #[.int .i64 0, .int .i64 0]) 2 16 Try.underlying25 HI.out.1 HI.out.2.1 HI.out.2.2.1 HI.out.2.2.2 rfl (by decide) (.slice va ys.length vc) ys.length (ys.flatMap nteD) [] [] [] [] rfl hown.out rfl _ _ [.int .i64 (100 + (ys.length : Int)), .int .i64 1] (nteD ⟨(100 + (ys.length : Int)), 1⟩) rfl hbx.out (ownDL_valsN _ _ _ [.int .i64 (100 + (ys.length : Int)), .int .i64 1]) rfl (by simp [Value.oneCell']) (by omega) (by decide) (Nat.le_refl _) hgw (by omega) ?_; intro g9 vc9 w9 o9 gr9 hq9; have HO9 := hide (OwnDL.mid (c1 := []) (v1 := []) o9 rfl); have HC9 := hide (HC1.out.rowC gr9 (fun q hq => by have := (hq9 q hq).1; omega)); have HG9 := hide (grown_step HG1.out gr9 (fun q hq => Or.inr (hq9 q hq).1)); clear o9 gr9 hq9)
          refine ⟨⟨ys ++ [⟨100 + (ys.length : Int), 1⟩], some ⟨g9, 0, none⟩, vc9, ?_, ?_, ?_, hide ?_, HC9, HG9⟩, ?_⟩
          · rw [List.length_append]; rfl
          · rw [List.length_append]; simp only [List.length_cons, List.length_nil]; go_num
          · rw [List.length_append]; simp only [List.length_cons, List.length_nil]; omega
          · rw [ntes_snoc, List.length_append]
            exact HO9.out
          · simp [intOf]; omega
        · have HO2 := hide ((HOr.out.grownP hg1 hgl).up hg1.size)
          have HC2 := hide hc1
          have HG2 := hide (grownBy_trans HGr.out hg1)
          clear hc1 hg1
          go_wp2
          go_ret
          exact ⟨ys, _, rfl, HO2.out, by omega, HC2.out, HG2.out⟩
    · go_wp2
      go_ret
      exact ⟨xs, _, rfl, HO1.out.up hs1, by omega, HC1.out, HG1.out⟩
def twoN (w w' : World) (e : Ending) : Prop := ∃ xs ys v1 v2, e = .returned (.tuple #[v1, v2]) ∧ Reads w' w'.heap.size (ntes xs) v1 ∧ Reads w' w'.heap.size (ntes ys) v2 ∧ xs.length ≤ 270 ∧ ys.length ≤ 270 ∧ Below w.heap.size w w'
set_option maxRecDepth 100000 in
set_option maxHeartbeats 8000000 in
theorem drawTwoNt (w : World) (a : Option Addr) (len cap : Nat) (zs : List Int) (hin : In w w.heap.size a len zs) :
    Calls Try.prog 36 #[.slice a len cap] w fun e w' => twoN w w' e := by
  go_enter Try.func36, Try.ntmps36
  go_wp2_with fail
  refine (newDraw _ a len cap zs hin).mono ?_
  rintro e w1 ⟨rfl, hc1, b1⟩
  go_wp2_with fail
  refine (drawNt _ _ hc1).mono ?_
  rintro e w2 ⟨ys, v, rfl, o2, hl, hc2, hg2⟩
  obtain ⟨va, vc, ev⟩ := o2.shape
  subst ev
  have HC2 := hide hc2
  have HO := hide o2
  have hlt := hc1.lt
  have HB := hide (b1.grown hg2 b1.size (fun k hk => by cases hk; exact Nat.le_refl _))
  have hlt2 := Nat.lt_of_lt_of_le hlt hg2.size
  clear o2 hc2 hg2 hc1 b1
  go_wp2_with fail
  refine (drawNt _ _ HC2.out).mono ?_
  rintro e w3 ⟨xs, v, rfl, o3, hl3, hc3, hg3⟩
  obtain ⟨xa, xc, ev⟩ := o3.shape
  subst ev
  have HC3 := hide hc3
  have HX := hide o3
  have HO3 := hide (HO.out.grownP hg3 hlt)
  have HB3 := hide (HB.out.grown hg3 HB.out.size (fun k hk => by cases hk; exact Nat.le_refl _))
  clear o3 hc3 hg3
  go_wp2_with fail
  refine (onceDraw _ _ 3 (by decide) (by decide) HC3.out).mono ?_
  rintro e w4 ⟨t, rfl, hc4, hg4⟩
  have HY4 := hide ((HO3.out.grownP hg4 hlt).rd (Nat.le_refl _))
  have HX4 := hide ((HX.out.grownP hg4 hlt2).rd (Nat.le_refl _))
  have HB4 := hide (HB3.out.grown hg4 HB3.out.size (fun k hk => by cases hk; exact Nat.le_refl _))
  clear hc4 hg4 HC3 HC2 HO HO3 HX HB HB3
  cases t with
  | false =>
    go_wp2
    go_ret2
    exact ⟨ys, xs, _, _, rfl, HY4.out, HX4.out, by omega, by omega, HB4.out⟩
  | true =>
    go_wp2_with fail
    refine (mergeS _ ys xs _ _ HY4.out HX4.out (by omega) (by omega) (by omega)).mono ?_
    rintro e w5 ⟨v, rfl, o5, b5⟩
    obtain ⟨ja, jc, ev⟩ := o5.shape
    subst ev
    have HJ := hide (o5.rd (Nat.le_refl _))
    have HX5 := hide (HX4.out.at b5)
    have HB5 := hide (HB4.out.trans (b5.mono HB4.out.size))
    have hjl : (mergeX ys xs).length ≤ 270 := by
      unfold mergeX
      split
      · rename_i h
        have := ntk_len h.2.2
        omega
      · omega
    clear o5 b5
    go_wp2
    go_ret2
    exact ⟨mergeX ys xs, xs, _, _, rfl, HJ.out, HX5.out, hjl, by omega, HB5.out⟩
theorem drawMergeNt (w : World) (a : Option Addr) (len cap : Nat) (zs : List Int) (hin : In w w.heap.size a len zs) :
    Calls Try.prog 23 #[.slice a len cap] w fun e w' => twoN w w' e := by
  go_enter Try.func23, Try.ntmps23
  go_wp2_with fail
  refine (drawTwoNt _ a len cap zs hin).mono ?_
  rintro e w1 ⟨xs, ys, v1, v2, rfl, r1, r2, h3, h4, h5⟩
  obtain ⟨xa, xc, ev, _⟩ := r1.shape
  subst ev
  obtain ⟨ya, yc, ev, _⟩ := r2.shape
  subst ev
  have HE := hide (And.intro r1 (And.intro r2 (And.intro h3 (And.intro h4 h5))))
  clear r1 r2 h3 h4 h5
  go_wp2
  go_ret2
  exact ⟨xs, ys, _, _, rfl, HE.out⟩
theorem drawCoversNt (w : World) (a : Option Addr) (len cap : Nat) (zs : List Int) (hin : In w w.heap.size a len zs) :
    Calls Try.prog 24 #[.slice a len cap] w fun e w' => twoN w w' e := by
  go_enter Try.func24, Try.ntmps24
  go_wp2_with fail
  refine (drawTwoNt _ a len cap zs hin).mono ?_
  rintro e w1 ⟨xs, ys, v1, v2, rfl, r1, r2, h3, h4, h5⟩
  obtain ⟨xa, xc, ev, _⟩ := r1.shape
  subst ev
  obtain ⟨ya, yc, ev, _⟩ := r2.shape
  subst ev
  have HE := hide (And.intro r1 (And.intro r2 (And.intro h3 (And.intro h4 h5))))
  clear r1 r2 h3 h4 h5
  go_wp2
  go_ret2
  exact ⟨xs, ys, _, _, rfl, HE.out⟩
set_option maxRecDepth 100000 in
set_option maxHeartbeats 8000000 in
theorem drawNoteOfNt (w : World) (a : Option Addr) (len cap : Nat) (zs : List Int) (hin : In w w.heap.size a len zs) :
    Calls Try.prog 26 #[.slice a len cap] w fun e w' => ∃ xs v q, e = .returned (.tuple #[v, .int .i64 q]) ∧ OwnD w' w.heap.size w'.heap.size (ntes xs) v ∧ xs.length ≤ 140 ∧ 0 ≤ q ∧ q ≤ 26 ∧ Below w.heap.size w w' := by
  go_enter Try.func26, Try.ntmps26
  go_wp2_with fail
  refine (newDraw _ a len cap zs hin).mono ?_
  rintro e w1 ⟨rfl, hc1, b1⟩
  go_wp2_with fail
  refine (drawNt _ _ hc1).mono ?_
  rintro e w2 ⟨xs, v, rfl, o2, hl, hc2, hg2⟩
  obtain ⟨va, vc, ev⟩ := o2.shape
  subst ev
  have HC := hide hc2
  have HO := hide o2
  have hlt := hc1.lt
  have hs1 := b1.size
  have HB := hide (b1.grown hg2 b1.size (fun k hk => by cases hk; exact Nat.le_refl _))
  clear o2 hc2 hg2 hc1 b1
  go_wp2_with fail
  refine (belowDraw _ _ 26 (by decide) (by decide) HC.out).mono ?_
  rintro e w3 ⟨q, rfl, hq0, hq1, hc3, hg3⟩
  replace HC := hide hc3
  replace HO := hide ((HO.out.grownP hg3 hlt).up hg3.size)
  replace HB := hide (HB.out.grown hg3 HB.out.size (fun k hk => by cases hk; exact Nat.le_refl _))
  clear hc3 hg3
  go_wp2
  go_ret2
  exact ⟨xs, _, q, rfl, HO.out.mono hs1, hl, hq0, by omega, HB.out⟩
set_option maxRecDepth 100000 in
set_option maxHeartbeats 8000000 in
theorem drawAddNt (w : World) (a : Option Addr) (len cap : Nat) (zs : List Int) (hin : In w w.heap.size a len zs) :
    Calls Try.prog 25 #[.slice a len cap] w fun e w' => ∃ xs v q n, e = .returned (.tuple #[v, .int .i64 q, .int .i64 n]) ∧ OwnD w' w.heap.size w'.heap.size (ntes xs) v ∧ xs.length ≤ 140 ∧ 0 ≤ q ∧ q ≤ 26 ∧ 0 ≤ n ∧ n ≤ 7 ∧ Below w.heap.size w w' := by
  go_enter Try.func25, Try.ntmps25
  go_wp2_with fail
  refine (newDraw _ a len cap zs hin).mono ?_
  rintro e w1 ⟨rfl, hc1, b1⟩
  go_wp2_with fail
  refine (drawNt _ _ hc1).mono ?_
  rintro e w2 ⟨xs, v, rfl, o2, hl, hc2, hg2⟩
  obtain ⟨va, vc, ev⟩ := o2.shape
  subst ev
  have HC := hide hc2
  have HO := hide o2
  have hlt := hc1.lt
  have hs1 := b1.size
  have HB := hide (b1.grown hg2 b1.size (fun k hk => by cases hk; exact Nat.le_refl _))
  clear o2 hc2 hg2 hc1 b1
  go_wp2_with fail
  refine (belowDraw _ _ 26 (by decide) (by decide) HC.out).mono ?_
  rintro e w3 ⟨q, rfl, hq0, hq1, hc3, hg3⟩
  replace HC := hide hc3
  replace HO := hide ((HO.out.grownP hg3 hlt).up hg3.size)
  replace HB := hide (HB.out.grown hg3 HB.out.size (fun k hk => by cases hk; exact Nat.le_refl _))
  clear hc3 hg3
  go_wp2_with fail
  refine (belowDraw _ _ 7 (by decide) (by decide) HC.out).mono ?_
  rintro e w3 ⟨n, rfl, hn0, hn1, hc3, hg3⟩
  replace HC := hide hc3
  replace HO := hide ((HO.out.grownP hg3 hlt).up hg3.size)
  replace HB := hide (HB.out.grown hg3 HB.out.size (fun k hk => by cases hk; exact Nat.le_refl _))
  clear hc3 hg3
  go_wp2
  go_ret3
  exact ⟨xs, _, q, n, rfl, HO.out.mono hs1, hl, hq0, by omega, hn0, by omega, HB.out⟩
end Go.Proofs.Ytebilohcdpecoaa
