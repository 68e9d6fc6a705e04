/-
  Joined: DrawV, DrawB.
-/
import Derived.Test.YtbanifnfkabelaaJ15
import Derived.Test.YtbanifnfkabelaaJ13
import Derived.Deep.RegionHeld
import Derived.OwnWalk
/-
  Drawn events: they lie in new memory, and are few.
-/
namespace Go.Proofs.Ytbanifnfkabelaa
open Go.RowKit

theorem evts_snoc (xs : List Evt) (y : Evt) : evts (xs ++ [y]) = .row 29 4 (xs.length + 1) (xs.flatMap evtD ++ evtD y) := by
  unfold evts
  rw [List.length_append, List.flatMap_append]
  simp
theorem one4E (a b c d : Int) : ∀ u ∈ [Value.int .i64 a, .int .i64 b, .int .i64 c, .int .i64 d], u.oneCell' = true := by simp [Value.oneCell']
theorem fm_snocE (xs : List Evt) (y : Evt) : (xs ++ [y]).flatMap evtD = xs.flatMap evtD ++ evtD y := by simp
theorem Try.infoEvtD : (Try.prog.info? 29).map (fun i => (i.zero, i.size, i.bytes)) = some (some (.agg #[.int .i64 0, .int .i64 0, .int .i64 0, .int .i64 0]), 4, 32) := by kernel_rfl
set_option maxRecDepth 100000 in
set_option maxHeartbeats 8000000 in
theorem drawEvR (w : World) (g : Nat) (hc : Cur w g) :
    Calls Try.prog 30 #[.pointer (some ⟨g, 0, none⟩)] w fun e w' => ∃ xs v, e = .returned v ∧ OwnD w' w.heap.size w'.heap.size (evts xs) v ∧ xs.length ≤ 14 ∧ Cur w' g ∧ w.grownBy w' (some g) := by
  have hgl := hc.lt
  have HC := hide (hc.alloc (.cells #[] 29))
  have HO := hide (ownD_litC w w.heap.size (Nat.le_refl _) 29 4 0 #[] (by decide) rfl)
  have HG := hide (World.grownBy_alloc w (.cells #[] 29) (some g))
  clear hc
  obtain ⟨i0, hi, hz0, hz1, hz2⟩ := info_parts Try.infoEvtD
  have HI := hide (And.intro hi (And.intro hz0 (And.intro hz1 hz2)))
  clear hi hz0 hz1 hz2
  go_enter Try.func30, Try.ntmps30
  go_upto_region 2 with fail
  generalize w.alloc (.cells #[] 29) = W1 at *
  go_wp2
  go_loopw [3, 4] (fun out i wr => ∃ (xs : List Evt) (va : Option Addr) (vc : Nat), out = .slice va xs.length vc ∧ i = .int .i64 (xs.length : Int) ∧ xs.length ≤ 14 ∧ Hid (OwnD wr w.heap.size wr.heap.size (evts xs) (.slice va xs.length vc)) ∧ Hid (Cur wr g) ∧ Hid (w.grownBy wr (some g))) (fun _ i _ => (15 - intOf i).toNat)
  case atStart => exact ⟨[], _, _, rfl, rfl, by simp, HO, HC, HG⟩
  case round =>
    clear HO HC HG
    obtain ⟨xs, va, vc, rfl, rfl, hxl, HO, HC, HG⟩ := hrel
    have hgw := HG.out.size
    go_wp2_with fail
    refine (belowDraw _ g 14 (by decide) (by decide) HC.out).mono ?_
    rintro e w1 ⟨x1, rfl, hx10, hx11, hc1, hg1⟩
    have hsw1 := hg1.size
    replace HC := hide hc1
    replace HO := hide (HO.out.grownP hg1 hgl)
    replace HG := hide (grownBy_trans HG.out hg1)
    clear hc1 hg1
    by_cases hlt : (xs.length : Int) < x1
    · go_wp2_with fail
      refine (belowDraw _ g 3 (by decide) (by decide) HC.out).mono ?_
      rintro e w2 ⟨x2, rfl, hx20, hx21, hc1, hg1⟩
      have hsw2 := hg1.size
      replace HC := hide hc1
      replace HO := hide (HO.out.grownP hg1 hgl)
      replace HG := hide (grownBy_trans HG.out hg1)
      clear hc1 hg1
      go_wp2_with fail
      refine (belowDraw _ g 7 (by decide) (by decide) HC.out).mono ?_
      rintro e w3 ⟨x3, rfl, hx30, hx31, hc1, hg1⟩
      have hsw3 := hg1.size
      replace HC := hide hc1
      replace HO := hide (HO.out.grownP hg1 hgl)
      replace HG := hide (grownBy_trans HG.out hg1)
      clear hc1 hg1
      go_wp2_with fail
      refine (pickDraw _ g w3.heap.size 3 [1, 2, 3] rfl (by decide) (by decide) (by omega) (HC.out.alloc _) (heap_alloc_new w3 _)).mono ?_
      rintro e w4 ⟨x4, rfl, hmx4, hc2, hg2⟩
      have hg3 := alloc_grown hg2
      have hsw4 := hg3.size
      replace HC := hide hc2
      replace HO := hide (HO.out.grownP hg3 hgl)
      replace HG := hide (grownBy_trans HG.out hg3)
      clear hc2 hg2 hg3 hmx4
      go_wp2_with (first
        | (go_at_call 18; refine (belowDraw _ g 2 (by decide) (by decide) HC.out).mono ?_; rintro e w5 ⟨x5, rfl, hx50, hx51, hc1, hg1⟩; have hs5 := hg1.size; have HCa := hide hc1; have HOa := hide (HO.out.grownP hg1 hgl); have HGa := hide (grownBy_trans HG.out hg1); clear hc1 hg1; have HX := hide ((Below.refl w5.heap.size w5).alloc (Nat.le_refl _) (.cells #[.int .i64 (1 + x2), .int .i64 x3, .int .i64 x4, .int .i64 x5] 29)); have hsX := HX.out.size; have HCb := hide (HCa.out.alloc (.cells #[.int .i64 (1 + x2), .int .i64 x3, .int .i64 x4, .int .i64 x5] 29)); have HGb := hide (grown_step HGa.out (World.grownBy_alloc w5 (.cells #[.int .i64 (1 + x2), .int .i64 x3, .int .i64 x4, .int .i64 x5] 29) (some g)) (fun q hq => by cases hq; exact Or.inl rfl)); have hown := hide (OwnDL.cons ((HOa.out.up (by omega)).below HX.out) (ownDL_nil _ w5.heap.size w5.heap.size) (by omega) (Nat.le_refl _)); have hbx := hide (box_of (heap_alloc_new w5 (.cells #[.int .i64 (1 + x2), .int .i64 x3, .int .i64 x4, .int .i64 x5] 29))).1)
        | (at_builtin; refine appL rfl _ _ 24 rfl w.heap.size w5.heap.size w5.heap.size 29 i0 (.agg #[.int .i64 0, .int .i64 0, .int .i64 0, .int .i64 0]) 4 32 Try.underlying24 HI.out.1 HI.out.2.1 HI.out.2.2.1 HI.out.2.2.2 rfl (by decide) (.slice va xs.length vc) xs.length (xs.flatMap evtD) [] [] [] [] rfl hown.out rfl _ _ [.int .i64 (1 + x2), .int .i64 x3, .int .i64 x4, .int .i64 x5] (evtD ⟨(1 + x2), x3, x4, x5⟩) rfl hbx.out (ownDL_valsC _ _ _ [.int .i64 (1 + x2), .int .i64 x3, .int .i64 x4, .int .i64 x5]) rfl (by simp [Value.oneCell']) (by omega) (by decide) (Nat.le_refl _) (by omega) (by omega) ?_; intro g9 vc9 w9 o9 gr9 hq9; have HO9 := hide (OwnDL.mid (c1 := []) (v1 := []) o9 rfl); have HC9 := hide (HCb.out.rowC gr9 (fun q hq => by have := (hq9 q hq).1; omega)); have HG9 := hide (grown_step HGb.out gr9 (fun q hq => Or.inr (hq9 q hq).1)); clear o9 gr9 hq9)
        | fail)
      refine ⟨⟨xs ++ [⟨1 + x2, x3, x4, x5⟩], some ⟨g9, 0, none⟩, vc9, ?_, ?_, ?_, hide ?_, HC9, HG9⟩, ?_⟩
      · rw [List.length_append]; rfl
      · rw [List.length_append]; simp only [List.length_cons, List.length_nil]; go_num
      · rw [List.length_append]; simp only [List.length_cons, List.length_nil]; omega
      · rw [evts_snoc, List.length_append]
        exact HO9.out
      · simp [intOf]; omega
    · go_wp2
      go_ret
      exact ⟨xs, _, rfl, HO.out.up (by omega), hxl, HC.out, HG.out⟩
set_option maxRecDepth 100000 in
set_option maxHeartbeats 8000000 in
theorem drawEv (w : World) (g : Nat) (hc : Cur w g) :
    Calls Try.prog 17 #[.pointer (some ⟨g, 0, none⟩)] w fun e w' => ∃ xs v, e = .returned v ∧ OwnD w' w.heap.size w'.heap.size (evts xs) v ∧ xs.length ≤ 15 ∧ Cur w' g ∧ w.grownBy w' (some g) := by
  have hgl := hc.lt
  obtain ⟨i0, hi, hz0, hz1, hz2⟩ := info_parts Try.infoEvtD
  have HI := hide (And.intro hi (And.intro hz0 (And.intro hz1 hz2)))
  clear hi hz0 hz1 hz2
  go_enter Try.func17, Try.ntmps17
  go_wp2_with fail
  refine (drawEvR _ g hc).mono ?_
  rintro e w0 ⟨xs, v, rfl, o0, hxl, hc0, hg0⟩
  obtain ⟨va, vc, ev⟩ := o0.shape
  subst ev
  have HO := hide o0
  have HC := hide hc0
  have HG := hide hg0
  have hgw := hg0.size
  clear o0 hc0 hg0 hc
  go_wp2_with fail
  refine (belowDraw _ g 14 (by decide) (by decide) HC.out).mono ?_
  rintro e w1 ⟨x1, rfl, hx10, hx11, hc1, hg1⟩
  have hsw1 := hg1.size
  replace HC := hide hc1
  replace HO := hide (HO.out.grownP hg1 hgl)
  replace HG := hide (grownBy_trans HG.out hg1)
  clear hc1 hg1
  by_cases t0 : x1 = 0
  · subst t0
    go_wp2_with fail
    refine (belowDraw _ g 2 (by decide) (by decide) HC.out).mono ?_
    rintro e w2 ⟨x2, rfl, hx20, hx21, hc1, hg1⟩
    have hsw2 := hg1.size
    replace HC := hide hc1
    replace HO := hide (HO.out.grownP hg1 hgl)
    replace HG := hide (grownBy_trans HG.out hg1)
    clear hc1 hg1
    go_wp2_with (first
      | (go_at_call 18; refine (belowDraw _ g 9 (by decide) (by decide) HC.out).mono ?_; rintro e w3 ⟨x3, rfl, hx30, hx31, hc1, hg1⟩; have hs3 := hg1.size; have HCa := hide hc1; have HOa := hide (HO.out.grownP hg1 hgl); have HGa := hide (grownBy_trans HG.out hg1); clear hc1 hg1; have HX := hide ((Below.refl w3.heap.size w3).alloc (Nat.le_refl _) (.cells #[.int .i64 x2, .int .i64 x3, .int .i64 0, .int .i64 0] 29)); have hsX := HX.out.size; have HCb := hide (HCa.out.alloc (.cells #[.int .i64 x2, .int .i64 x3, .int .i64 0, .int .i64 0] 29)); have HGb := hide (grown_step HGa.out (World.grownBy_alloc w3 (.cells #[.int .i64 x2, .int .i64 x3, .int .i64 0, .int .i64 0] 29) (some g)) (fun q hq => by cases hq; exact Or.inl rfl)); have hown := hide (OwnDL.cons ((HOa.out.up (by omega)).below HX.out) (ownDL_nil _ w3.heap.size w3.heap.size) (by omega) (Nat.le_refl _)); have hbx := hide (box_of (heap_alloc_new w3 (.cells #[.int .i64 x2, .int .i64 x3, .int .i64 0, .int .i64 0] 29))).1)
      | (at_builtin; refine appL rfl _ _ 24 rfl w.heap.size w3.heap.size w3.heap.size 29 i0 (.agg #[.int .i64 0, .int .i64 0, .int .i64 0, .int .i64 0]) 4 32 Try.underlying24 HI.out.1 HI.out.2.1 HI.out.2.2.1 HI.out.2.2.2 rfl (by decide) (.slice va xs.length vc) xs.length (xs.flatMap evtD) [] [] [] [] rfl hown.out rfl _ _ [.int .i64 x2, .int .i64 x3, .int .i64 0, .int .i64 0] (evtD ⟨x2, x3, 0, 0⟩) rfl hbx.out (ownDL_valsC _ _ _ [.int .i64 x2, .int .i64 x3, .int .i64 0, .int .i64 0]) rfl (by simp [Value.oneCell']) (by omega) (by decide) (Nat.le_refl _) (by omega) (by omega) ?_; intro g9 vc9 w9 o9 gr9 hq9; have HO9 := hide (OwnDL.mid (c1 := []) (v1 := []) o9 rfl); have HC9 := hide (HCb.out.rowC gr9 (fun q hq => by have := (hq9 q hq).1; omega)); have HG9 := hide (grown_step HGb.out gr9 (fun q hq => Or.inr (hq9 q hq).1)); clear o9 gr9 hq9)
      | fail)
    go_ret
    refine ⟨xs ++ [⟨x2, x3, 0, 0⟩], _, rfl, ?_, ?_, HC9.out, HG9.out⟩
    · rw [evts_snoc]
      exact HO9.out
    · rw [List.length_append]; simp only [List.length_cons, List.length_nil]; omega
  · by_cases t1 : x1 = 1
    · subst t1
      go_wp2_with (first
        | (go_at_call 31; refine (pickDraw _ g w1.heap.size 2 [-1, 8] rfl (by decide) (by decide) (by omega) (HC.out.alloc _) (heap_alloc_new w1 _)).mono ?_; rintro e w2 ⟨x2, rfl, hm2, hc2, hg2⟩; have hg3 := alloc_grown hg2; have hs2 := hg3.size; have HCa := hide hc2; have HOa := hide (HO.out.grownP hg3 hgl); have HGa := hide (grownBy_trans HG.out hg3); clear hc2 hg2 hg3 hm2; have HX := hide ((Below.refl w2.heap.size w2).alloc (Nat.le_refl _) (.cells #[.int .i64 1, .int .i64 0, .int .i64 0, .int .i64 x2] 29)); have hsX := HX.out.size; have HCb := hide (HCa.out.alloc (.cells #[.int .i64 1, .int .i64 0, .int .i64 0, .int .i64 x2] 29)); have HGb := hide (grown_step HGa.out (World.grownBy_alloc w2 (.cells #[.int .i64 1, .int .i64 0, .int .i64 0, .int .i64 x2] 29) (some g)) (fun q hq => by cases hq; exact Or.inl rfl)); have hown := hide (OwnDL.cons ((HOa.out.up (by omega)).below HX.out) (ownDL_nil _ w2.heap.size w2.heap.size) (by omega) (Nat.le_refl _)); have hbx := hide (box_of (heap_alloc_new w2 (.cells #[.int .i64 1, .int .i64 0, .int .i64 0, .int .i64 x2] 29))).1)
        | (at_builtin; refine appL rfl _ _ 24 rfl w.heap.size w2.heap.size w2.heap.size 29 i0 (.agg #[.int .i64 0, .int .i64 0, .int .i64 0, .int .i64 0]) 4 32 Try.underlying24 HI.out.1 HI.out.2.1 HI.out.2.2.1 HI.out.2.2.2 rfl (by decide) (.slice va xs.length vc) xs.length (xs.flatMap evtD) [] [] [] [] rfl hown.out rfl _ _ [.int .i64 1, .int .i64 0, .int .i64 0, .int .i64 x2] (evtD ⟨1, 0, 0, x2⟩) rfl hbx.out (ownDL_valsC _ _ _ [.int .i64 1, .int .i64 0, .int .i64 0, .int .i64 x2]) rfl (by simp [Value.oneCell']) (by omega) (by decide) (Nat.le_refl _) (by omega) (by omega) ?_; intro g9 vc9 w9 o9 gr9 hq9; have HO9 := hide (OwnDL.mid (c1 := []) (v1 := []) o9 rfl); have HC9 := hide (HCb.out.rowC gr9 (fun q hq => by have := (hq9 q hq).1; omega)); have HG9 := hide (grown_step HGb.out gr9 (fun q hq => Or.inr (hq9 q hq).1)); clear o9 gr9 hq9)
        | fail)
      go_ret
      refine ⟨xs ++ [⟨1, 0, 0, x2⟩], _, rfl, ?_, ?_, HC9.out, HG9.out⟩
      · rw [evts_snoc]
        exact HO9.out
      · rw [List.length_append]; simp only [List.length_cons, List.length_nil]; omega
    · go_wp2
      go_ret
      exact ⟨xs, _, rfl, HO.out.up (by omega), by omega, HC.out, HG.out⟩
end Go.Proofs.Ytbanifnfkabelaa
/-
  Draws of two places in a list of events, of a list, of two events.
-/
namespace Go.Proofs.Ytbanifnfkabelaa
open Go.RowKit

set_option maxRecDepth 100000 in
set_option maxHeartbeats 8000000 in
theorem drawBeforeE (w : World) (a : Option Addr) (len cap : Nat) (zs : List Int) (hin : In w w.heap.size a len zs) :
    Calls Try.prog 5 #[.slice a len cap] w fun e w' => ∃ xs v i j, e = .returned (.tuple #[v, .int .i64 i, .int .i64 j]) ∧ Reads w' w'.heap.size (evts xs) v ∧ xs.length ≤ 15 ∧ Below w.heap.size w w' := by
  go_enter Try.func5, Try.ntmps5
  go_wp2_with fail
  refine (newDraw _ a len cap zs hin).mono ?_
  rintro e w1 ⟨rfl, hc1, b1⟩
  go_wp2_with fail
  refine (drawEv _ _ hc1).mono ?_
  rintro e w2 ⟨xs, v, rfl, o2, hl, hc2, hg2⟩
  obtain ⟨va, vc, ev⟩ := o2.shape
  subst ev
  have hgl := hc2.lt
  have HO := hide o2
  have HC := hide hc2
  have HB := hide (b1.grown hg2 b1.size (fun k hk => by cases hk; exact Nat.le_refl _))
  have hsz := hg2.size
  clear o2 hc2 hg2
  have hw1 : IntKind.i64.wrap ((xs.length : Int) + 1) = (xs.length : Int) + 1 := by rw [IntKind.wrap_i64]; omega
  have hw2 : IntKind.i64.wrap ((xs.length : Int) + 2) = (xs.length : Int) + 2 := by rw [IntKind.wrap_i64]; omega
  go_wp2_with fail
  refine (belowDraw _ w.heap.size ((xs.length : Int) + 1) (by omega) (by omega) HC.out).mono ?_
  rintro e w3 ⟨x1, rfl, h10, h11, hc3, hg3⟩
  replace HC := hide hc3
  replace HO := hide (HO.out.grownP hg3 hc1.lt)
  replace HB := hide (HB.out.grown hg3 HB.out.size (fun k hk => by cases hk; exact Nat.le_refl _))
  have hs3 := hg3.size
  clear hc3 hg3
  go_wp2_with fail
  refine (belowDraw _ w.heap.size 9 (by decide) (by decide) HC.out).mono ?_
  rintro e w4 ⟨x2, rfl, h20, h21, hc3, hg3⟩
  replace HC := hide hc3
  replace HO := hide (HO.out.grownP hg3 (Nat.lt_of_lt_of_le hc1.lt (by omega)))
  replace HB := hide (HB.out.grown hg3 HB.out.size (fun k hk => by cases hk; exact Nat.le_refl _))
  have hs4 := hg3.size
  clear hc3 hg3
  go_wp2_with fail
  refine (belowDraw _ w.heap.size ((xs.length : Int) + 2) (by omega) (by omega) HC.out).mono ?_
  rintro e w5 ⟨x3, rfl, h30, h31, hc3, hg3⟩
  replace HO := hide (HO.out.grownP hg3 (Nat.lt_of_lt_of_le hc1.lt (by omega)))
  replace HB := hide (HB.out.grown hg3 HB.out.size (fun k hk => by cases hk; exact Nat.le_refl _))
  have hs5 := hg3.size
  clear hc3 hg3 HC
  go_wp2
  go_ret3
  exact ⟨xs, _, _, _, rfl, HO.out.rd (by omega), hl, HB.out⟩
set_option maxRecDepth 100000 in
set_option maxHeartbeats 8000000 in
theorem drawRaceE (w : World) (a : Option Addr) (len cap : Nat) (zs : List Int) (hin : In w w.heap.size a len zs) :
    Calls Try.prog 8 #[.slice a len cap] w fun e w' => ∃ xs v, e = .returned v ∧ Reads w' w'.heap.size (evts xs) v ∧ xs.length ≤ 15 ∧ Below w.heap.size w w' := by
  go_enter Try.func8, Try.ntmps8
  go_wp2_with fail
  refine (newDraw _ a len cap zs hin).mono ?_
  rintro e w1 ⟨rfl, hc1, b1⟩
  go_wp2_with fail
  refine (drawEv _ _ hc1).mono ?_
  rintro e w2 ⟨xs, v, rfl, o2, hl, hc2, hg2⟩
  obtain ⟨va, vc, ev⟩ := o2.shape
  subst ev
  have HO := hide (o2.rd (Nat.le_refl _))
  have HB := hide (b1.grown hg2 b1.size (fun k hk => by cases hk; exact Nat.le_refl _))
  clear o2 hc2 hg2 hc1 b1
  go_wp2
  go_ret
  exact ⟨xs, _, rfl, HO.out, hl, HB.out⟩
theorem results_ccE {fn : Func} {p0 p1 : Tmp} {t0 t1 : TypeId} {v0 v1 : Value} {g0 g1 : Addr} (h : fn.results = #[.cell p0 t0, .cell p1 t1]) (tmps : Array Value) (P : Program) (w : World)
    (hg0 : tmps.getD p0 undef = .pointer (some g0)) (hg1 : tmps.getD p1 undef = .pointer (some g1)) (hl0 : (loadVar t0 g0).run P w = .ok v0 w) (hl1 : (loadVar t1 g1).run P w = .ok v1 w) :
    (results fn tmps).run P w = .ok (.tuple #[v0, v1]) w := by
  have h' : ((asAddr (tmps.getD p0 undef)).run P w).andThen (fun a w₁ => ((loadVar t0 a).run P w₁).andThen fun x w₂ => ((asAddr (tmps.getD p1 undef)).run P w₂).andThen (fun a w₃ => ((loadVar t1 a).run P w₃).andThen fun y w₄ => Result.ok (Value.tuple #[x, y]) w₄)) = Result.ok (Value.tuple #[v0, v1]) w := by
    rw [hg0, hg1]
    simp [asAddr, Result.andThen, hl0, hl1]
  simp only [results, h]
  simpa [Sem.run_bind, Result.andThen] using h'
theorem loadEvtD {w : World} {g : Nat} {a0 a1 a2 a3 : Value} (h : w.heap[g]? = some (.cells #[a0, a1, a2, a3] 29 (0, 0))) : (loadVar 29 ⟨g, 0, none⟩).run Try.prog w = .ok (.agg #[a0, a1, a2, a3]) w :=
  run_loadVar_row w g 29 29 #[a0, a1, a2, a3] (0, 0) _ h Try.underlying29 rfl (by kernel_rfl)
set_option maxRecDepth 100000 in
set_option maxHeartbeats 8000000 in
theorem drawClashE (w : World) (a : Option Addr) (len cap : Nat) (zs : List Int) (hin : In w w.heap.size a len zs) :
    Calls Try.prog 7 #[.slice a len cap] w fun e w' => ∃ x y : Evt, e = .returned (.tuple #[evtV x, evtV y]) ∧ Below w.heap.size w w' := by
  have bA := (((Below.refl w.heap.size w).alloc (Nat.le_refl _) (.cells #[.int .i64 0, .int .i64 0, .int .i64 0, .int .i64 0] 29)).alloc (by simp) (.cells #[.int .i64 0, .int .i64 0, .int .i64 0, .int .i64 0] 29))
  have G0 := heap_alloc_new w (.cells #[.int .i64 0, .int .i64 0, .int .i64 0, .int .i64 0] 29)
  have G1 := heap_alloc_new (w.alloc (.cells #[.int .i64 0, .int .i64 0, .int .i64 0, .int .i64 0] 29)) (.cells #[.int .i64 0, .int .i64 0, .int .i64 0, .int .i64 0] 29)
  simp only [World.size_alloc] at G1
  have E0 := hide ((Below.heap_alloc _ (.cells #[.int .i64 0, .int .i64 0, .int .i64 0, .int .i64 0] 29) _ (by simp)).trans (G0))
  have E1 := hide (G1)
  have HB := hide bA
  have HIN := hide (hin.at bA)
  clear bA G0 G1 hin
  go_enter Try.func7, Try.ntmps7
  go_upto_region 1 with fail
  generalize ((w.alloc (.cells #[.int .i64 0, .int .i64 0, .int .i64 0, .int .i64 0] 29)).alloc (.cells #[.int .i64 0, .int .i64 0, .int .i64 0, .int .i64 0] 29)) = W at *
  have hsW := (Array.getElem?_eq_some_iff.1 E1.out).1
  go_wp2_with fail
  refine (newDraw _ a len cap zs HIN.out).mono ?_
  rintro e y1 ⟨rfl, hc1, b1⟩
  replace E0 := hide ((b1.block _ (Array.getElem?_eq_some_iff.1 E0.out).1).trans E0.out)
  replace E1 := hide ((b1.block _ (Array.getElem?_eq_some_iff.1 E1.out).1).trans E1.out)
  have HC := hide hc1
  replace HB := hide (HB.out.trans (b1.mono HB.out.size))
  have hszg := hc1.lt
  obtain ⟨g, hg⟩ : ∃ g, W.heap.size = g := ⟨_, rfl⟩
  rw [hg] at HC hszg ⊢
  have hgg : w.heap.size ≤ g := by omega
  have hgg1 : w.heap.size + 1 < g := by omega
  clear b1 hc1 hg
  go_wp2_with fail
  refine (belowDraw _ g 2 (by decide) (by decide) HC.out).mono ?_
  rintro e zp0 ⟨p0, rfl, _, _, hc3, hg3⟩
  replace E0 := hide ((hg3.block _ (Array.getElem?_eq_some_iff.1 E0.out).1 (fun e => by have := Option.some.inj e; omega)).trans E0.out)
  replace E1 := hide ((hg3.block _ (Array.getElem?_eq_some_iff.1 E1.out).1 (fun e => by have := Option.some.inj e; omega)).trans E1.out)
  replace HC := hide hc3
  replace HB := hide (HB.out.grown hg3 HB.out.size (fun k hk => by cases hk; exact hgg))
  replace hszg := Nat.le_trans hszg hg3.size
  clear hc3 hg3
  go_wp2_with fail
  refine (belowDraw _ g 4 (by decide) (by decide) HC.out).mono ?_
  rintro e zp1 ⟨p1, rfl, _, _, hc3, hg3⟩
  replace E0 := hide ((hg3.block _ (Array.getElem?_eq_some_iff.1 E0.out).1 (fun e => by have := Option.some.inj e; omega)).trans E0.out)
  replace E1 := hide ((hg3.block _ (Array.getElem?_eq_some_iff.1 E1.out).1 (fun e => by have := Option.some.inj e; omega)).trans E1.out)
  replace HC := hide hc3
  replace HB := hide (HB.out.grown hg3 HB.out.size (fun k hk => by cases hk; exact hgg))
  replace hszg := Nat.le_trans hszg hg3.size
  clear hc3 hg3
  go_wp2_with fail
  refine (belowDraw _ g 2 (by decide) (by decide) HC.out).mono ?_
  rintro e zp2 ⟨p2, rfl, _, _, hc3, hg3⟩
  replace E0 := hide ((hg3.block _ (Array.getElem?_eq_some_iff.1 E0.out).1 (fun e => by have := Option.some.inj e; omega)).trans E0.out)
  replace E1 := hide ((hg3.block _ (Array.getElem?_eq_some_iff.1 E1.out).1 (fun e => by have := Option.some.inj e; omega)).trans E1.out)
  replace HC := hide hc3
  replace HB := hide (HB.out.grown hg3 HB.out.size (fun k hk => by cases hk; exact hgg))
  replace hszg := Nat.le_trans hszg hg3.size
  clear hc3 hg3
  go_wp2_with fail
  refine (belowDraw _ g 2 (by decide) (by decide) HC.out).mono ?_
  rintro e zp3 ⟨p3, rfl, _, _, hc3, hg3⟩
  replace E0 := hide ((hg3.block _ (Array.getElem?_eq_some_iff.1 E0.out).1 (fun e => by have := Option.some.inj e; omega)).trans E0.out)
  replace E1 := hide ((hg3.block _ (Array.getElem?_eq_some_iff.1 E1.out).1 (fun e => by have := Option.some.inj e; omega)).trans E1.out)
  replace HC := hide hc3
  replace HB := hide (HB.out.grown hg3 HB.out.size (fun k hk => by cases hk; exact hgg))
  replace hszg := Nat.le_trans hszg hg3.size
  clear hc3 hg3
  go_upto_region 3 with fail
  have bA := (Below.refl zp3.heap.size zp3).alloc (Nat.le_refl _) (.cells #[.int .i64 p0, .int .i64 p1, .int .i64 p2, .int .i64 p3] 29)
  have E2 := hide (heap_alloc_new zp3 (.cells #[.int .i64 p0, .int .i64 p1, .int .i64 p2, .int .i64 p3] 29))
  replace E0 := hide ((bA.block _ (Array.getElem?_eq_some_iff.1 E0.out).1).trans E0.out)
  replace E1 := hide ((bA.block _ (Array.getElem?_eq_some_iff.1 E1.out).1).trans E1.out)
  replace HC := hide (HC.out.alloc (.cells #[.int .i64 p0, .int .i64 p1, .int .i64 p2, .int .i64 p3] 29))
  replace HB := hide (HB.out.trans (bA.mono HB.out.size))
  obtain ⟨ga, hga⟩ : ∃ q, zp3.heap.size = q := ⟨_, rfl⟩
  have hga9 : g < ga := by omega
  have hga8 : ga < (zp3.alloc (.cells #[.int .i64 p0, .int .i64 p1, .int .i64 p2, .int .i64 p3] 29)).heap.size := by rw [← hga]; simp
  replace hszg : g < (zp3.alloc (.cells #[.int .i64 p0, .int .i64 p1, .int .i64 p2, .int .i64 p3] 29)).heap.size := by omega
  rw [hga] at E2 ⊢
  clear bA hga
  generalize zp3.alloc (.cells #[.int .i64 p0, .int .i64 p1, .int .i64 p2, .int .i64 p3] 29) = Nga at *
  go_wp2_with fail
  refine (belowDraw _ g 2 (by decide) (by decide) HC.out).mono ?_
  rintro e zq0 ⟨q0, rfl, _, _, hc3, hg3⟩
  replace E0 := hide ((hg3.block _ (Array.getElem?_eq_some_iff.1 E0.out).1 (fun e => by have := Option.some.inj e; omega)).trans E0.out)
  replace E1 := hide ((hg3.block _ (Array.getElem?_eq_some_iff.1 E1.out).1 (fun e => by have := Option.some.inj e; omega)).trans E1.out)
  replace E2 := hide ((hg3.block _ (Array.getElem?_eq_some_iff.1 E2.out).1 (fun e => by have := Option.some.inj e; omega)).trans E2.out)
  replace HC := hide hc3
  replace HB := hide (HB.out.grown hg3 HB.out.size (fun k hk => by cases hk; exact hgg))
  replace hszg := Nat.le_trans hszg hg3.size
  clear hc3 hg3
  go_wp2_with fail
  refine (belowDraw _ g 4 (by decide) (by decide) HC.out).mono ?_
  rintro e zq1 ⟨q1, rfl, _, _, hc3, hg3⟩
  replace E0 := hide ((hg3.block _ (Array.getElem?_eq_some_iff.1 E0.out).1 (fun e => by have := Option.some.inj e; omega)).trans E0.out)
  replace E1 := hide ((hg3.block _ (Array.getElem?_eq_some_iff.1 E1.out).1 (fun e => by have := Option.some.inj e; omega)).trans E1.out)
  replace E2 := hide ((hg3.block _ (Array.getElem?_eq_some_iff.1 E2.out).1 (fun e => by have := Option.some.inj e; omega)).trans E2.out)
  replace HC := hide hc3
  replace HB := hide (HB.out.grown hg3 HB.out.size (fun k hk => by cases hk; exact hgg))
  replace hszg := Nat.le_trans hszg hg3.size
  clear hc3 hg3
  go_wp2_with fail
  refine (belowDraw _ g 2 (by decide) (by decide) HC.out).mono ?_
  rintro e zq2 ⟨q2, rfl, _, _, hc3, hg3⟩
  replace E0 := hide ((hg3.block _ (Array.getElem?_eq_some_iff.1 E0.out).1 (fun e => by have := Option.some.inj e; omega)).trans E0.out)
  replace E1 := hide ((hg3.block _ (Array.getElem?_eq_some_iff.1 E1.out).1 (fun e => by have := Option.some.inj e; omega)).trans E1.out)
  replace E2 := hide ((hg3.block _ (Array.getElem?_eq_some_iff.1 E2.out).1 (fun e => by have := Option.some.inj e; omega)).trans E2.out)
  replace HC := hide hc3
  replace HB := hide (HB.out.grown hg3 HB.out.size (fun k hk => by cases hk; exact hgg))
  replace hszg := Nat.le_trans hszg hg3.size
  clear hc3 hg3
  go_wp2_with fail
  refine (belowDraw _ g 2 (by decide) (by decide) HC.out).mono ?_
  rintro e zq3 ⟨q3, rfl, _, _, hc3, hg3⟩
  replace E0 := hide ((hg3.block _ (Array.getElem?_eq_some_iff.1 E0.out).1 (fun e => by have := Option.some.inj e; omega)).trans E0.out)
  replace E1 := hide ((hg3.block _ (Array.getElem?_eq_some_iff.1 E1.out).1 (fun e => by have := Option.some.inj e; omega)).trans E1.out)
  replace E2 := hide ((hg3.block _ (Array.getElem?_eq_some_iff.1 E2.out).1 (fun e => by have := Option.some.inj e; omega)).trans E2.out)
  replace HC := hide hc3
  replace HB := hide (HB.out.grown hg3 HB.out.size (fun k hk => by cases hk; exact hgg))
  replace hszg := Nat.le_trans hszg hg3.size
  clear hc3 hg3
  go_upto_region 4 with fail
  have hlt2 := (Array.getElem?_eq_some_iff.1 E2.out).1
  have bA := (Below.refl zq3.heap.size zq3).alloc (Nat.le_refl _) (.cells #[.int .i64 q0, .int .i64 q1, .int .i64 q2, .int .i64 q3] 29)
  have E3 := hide (heap_alloc_new zq3 (.cells #[.int .i64 q0, .int .i64 q1, .int .i64 q2, .int .i64 q3] 29))
  replace E0 := hide ((bA.block _ (Array.getElem?_eq_some_iff.1 E0.out).1).trans E0.out)
  replace E1 := hide ((bA.block _ (Array.getElem?_eq_some_iff.1 E1.out).1).trans E1.out)
  replace E2 := hide ((bA.block _ (Array.getElem?_eq_some_iff.1 E2.out).1).trans E2.out)
  replace HC := hide (HC.out.alloc (.cells #[.int .i64 q0, .int .i64 q1, .int .i64 q2, .int .i64 q3] 29))
  replace HB := hide (HB.out.trans (bA.mono HB.out.size))
  obtain ⟨gb, hgb⟩ : ∃ q, zq3.heap.size = q := ⟨_, rfl⟩
  have hab : ga < gb := by omega
  have hgb9 : g < gb := by omega
  have hgb8 : gb < (zq3.alloc (.cells #[.int .i64 q0, .int .i64 q1, .int .i64 q2, .int .i64 q3] 29)).heap.size := by rw [← hgb]; simp
  replace hszg : g < (zq3.alloc (.cells #[.int .i64 q0, .int .i64 q1, .int .i64 q2, .int .i64 q3] 29)).heap.size := by omega
  rw [hgb] at E3 ⊢
  clear bA hgb
  generalize zq3.alloc (.cells #[.int .i64 q0, .int .i64 q1, .int .i64 q2, .int .i64 q3] 29) = Ngb at *
  go_wp2_with fail
  refine (onceDraw _ g 2 (by decide) (by decide) HC.out).mono ?_
  rintro e WW ⟨x, rfl, hc3, hg3⟩
  replace E0 := hide ((hg3.block _ (Array.getElem?_eq_some_iff.1 E0.out).1 (fun e => by have := Option.some.inj e; omega)).trans E0.out)
  replace E1 := hide ((hg3.block _ (Array.getElem?_eq_some_iff.1 E1.out).1 (fun e => by have := Option.some.inj e; omega)).trans E1.out)
  replace E2 := hide ((hg3.block _ (Array.getElem?_eq_some_iff.1 E2.out).1 (fun e => by have := Option.some.inj e; omega)).trans E2.out)
  replace E3 := hide ((hg3.block _ (Array.getElem?_eq_some_iff.1 E3.out).1 (fun e => by have := Option.some.inj e; omega)).trans E3.out)
  replace HC := hide hc3
  replace HB := hide (HB.out.grown hg3 HB.out.size (fun k hk => by cases hk; exact hgg))
  replace hszg := Nat.le_trans hszg hg3.size
  clear hc3 hg3
  clear HC
  cases x with
  | false =>
    go_upto_region 7 with fail
    refine wp_region_held_drew (S := fun w' => w'.cell? ⟨ga, 0, none⟩ = some (.int .i64 p0) ∧ w'.cell? ⟨ga, 1, none⟩ = some (.int .i64 p1) ∧ w'.cell? ⟨ga, 2, none⟩ = some (.int .i64 p2) ∧ w'.cell? ⟨ga, 3, none⟩ = some (.int .i64 p3) ∧ w'.cell? ⟨gb, 0, none⟩ = some (.int .i64 q0) ∧ w'.cell? ⟨gb, 1, none⟩ = some (.int .i64 q1) ∧ w'.cell? ⟨gb, 2, none⟩ = some (.int .i64 q2) ∧ w'.cell? ⟨gb, 3, none⟩ = some (.int .i64 q3)) (by kernel_rfl) ⟨(box_of E2.out).1 0 _ rfl, (box_of E2.out).1 1 _ rfl, (box_of E2.out).1 2 _ rfl, (box_of E2.out).1 3 _ rfl, (box_of E3.out).1 0 _ rfl, (box_of E3.out).1 1 _ rfl, (box_of E3.out).1 2 _ rfl, (box_of E3.out).1 3 _ rfl⟩ (fun hHeld => ?_)
    have HW := hide (Below.refl WW.heap.size WW).drew
    replace E0 := hide ((HW.out.block _ (Array.getElem?_eq_some_iff.1 E0.out).1).trans E0.out)
    replace E1 := hide ((HW.out.block _ (Array.getElem?_eq_some_iff.1 E1.out).1).trans E1.out)
    replace E2 := hide ((HW.out.block _ (Array.getElem?_eq_some_iff.1 E2.out).1).trans E2.out)
    replace E3 := hide ((HW.out.block _ (Array.getElem?_eq_some_iff.1 E3.out).1).trans E3.out)
    replace HB := hide (HB.out.trans (HW.out.mono HB.out.size))
    clear HW
    generalize WW.drew = Z0 at *
    refine wpAnyH_take (i := 0) (v := ?_) rfl (by kernel_rfl) (by kernel_rfl) (by kernel_rfl) (fun _ _ _ h => h) (Or.inl ⟨by rfl, ?_⟩) (by assumption) ?_
    rotate_left
    · intro w' hSw
      try dsimp only at hSw
      go_simp; try rfl
    simp only [List.getElem_toArray, List.getElem_cons_zero, Act.put, List.setIfInBounds_toArray, List.set_cons_zero, List.set_cons_succ]
    refine wpAnyH_take (i := 1) (v := ?_) rfl (by kernel_rfl) (by kernel_rfl) (by kernel_rfl) (fun _ _ _ h => h) (Or.inl ⟨by rfl, ?_⟩) (by assumption) ?_
    rotate_left
    · intro w' hSw
      try dsimp only at hSw
      go_simp; try rfl
    simp only [List.getElem_toArray, List.getElem_cons_succ, List.getElem_cons_zero, Act.put, List.setIfInBounds_toArray, List.set_cons_zero, List.set_cons_succ]
    refine wpAnyH_ready (rs := [2]) (by kernel_rfl) (by simp) (AllReadyH.cons rfl (fun K hK => ?_) AllReadyH.nil)
    refine step_storeX (by kernel_rfl) (by kernel_rfl) 29 _ _ rfl (w.heap.size) #[.int .i64 p0, .int .i64 p1, .int .i64 p2, .int .i64 p3] (by kernel_rfl) (by kernel_rfl) _ _ E0.out (by kernel_rfl) (by rfl) (by simp [Value.oneCell']) ?_
    replace E1 := hide ((setRow_other Z0 (w.heap.size) (_) #[.int .i64 p0, .int .i64 p1, .int .i64 p2, .int .i64 p3] (by omega)).trans E1.out)
    replace E2 := hide ((setRow_other Z0 (w.heap.size) (_) #[.int .i64 p0, .int .i64 p1, .int .i64 p2, .int .i64 p3] (by omega)).trans E2.out)
    replace E3 := hide ((setRow_other Z0 (w.heap.size) (_) #[.int .i64 p0, .int .i64 p1, .int .i64 p2, .int .i64 p3] (by omega)).trans E3.out)
    replace E0 := hide (setRow_heap Z0 (w.heap.size) _ #[.int .i64 p0, .int .i64 p1, .int .i64 p2, .int .i64 p3] _ _ E0.out)
    replace HB := hide (below_setRow HB.out (show w.heap.size ≤ w.heap.size by omega) #[.int .i64 p0, .int .i64 p1, .int .i64 p2, .int .i64 p3])
    refine hK.out _ _ ⟨(box_of E2.out).1 0 _ rfl, (box_of E2.out).1 1 _ rfl, (box_of E2.out).1 2 _ rfl, (box_of E2.out).1 3 _ rfl, (box_of E3.out).1 0 _ rfl, (box_of E3.out).1 1 _ rfl, (box_of E3.out).1 2 _ rfl, (box_of E3.out).1 3 _ rfl⟩ (fun hHeld => ?_)
    clear hK K
    try simp only [Act.put, List.setIfInBounds_toArray, List.set_cons_zero, List.set_cons_succ]
    generalize Z0.setRow (w.heap.size) #[.int .i64 p0, .int .i64 p1, .int .i64 p2, .int .i64 p3] = Z1 at *
    refine wpAnyH_ready (rs := [3]) (by kernel_rfl) (by simp) (AllReadyH.cons rfl (fun K hK => ?_) AllReadyH.nil)
    refine step_storeX (by kernel_rfl) (by kernel_rfl) 29 _ _ rfl (w.heap.size + 1) #[.int .i64 q0, .int .i64 q1, .int .i64 q2, .int .i64 q3] (by kernel_rfl) (by kernel_rfl) _ _ E1.out (by kernel_rfl) (by rfl) (by simp [Value.oneCell']) ?_
    replace E0 := hide ((setRow_other Z1 (w.heap.size + 1) (_) #[.int .i64 q0, .int .i64 q1, .int .i64 q2, .int .i64 q3] (by omega)).trans E0.out)
    replace E2 := hide ((setRow_other Z1 (w.heap.size + 1) (_) #[.int .i64 q0, .int .i64 q1, .int .i64 q2, .int .i64 q3] (by omega)).trans E2.out)
    replace E3 := hide ((setRow_other Z1 (w.heap.size + 1) (_) #[.int .i64 q0, .int .i64 q1, .int .i64 q2, .int .i64 q3] (by omega)).trans E3.out)
    replace E1 := hide (setRow_heap Z1 (w.heap.size + 1) _ #[.int .i64 q0, .int .i64 q1, .int .i64 q2, .int .i64 q3] _ _ E1.out)
    replace HB := hide (below_setRow HB.out (show w.heap.size ≤ w.heap.size + 1 by omega) #[.int .i64 q0, .int .i64 q1, .int .i64 q2, .int .i64 q3])
    refine hK.out _ _ ⟨(box_of E2.out).1 0 _ rfl, (box_of E2.out).1 1 _ rfl, (box_of E2.out).1 2 _ rfl, (box_of E2.out).1 3 _ rfl, (box_of E3.out).1 0 _ rfl, (box_of E3.out).1 1 _ rfl, (box_of E3.out).1 2 _ rfl, (box_of E3.out).1 3 _ rfl⟩ (fun hHeld => ?_)
    clear hK K
    try simp only [Act.put, List.setIfInBounds_toArray, List.set_cons_zero, List.set_cons_succ]
    generalize Z1.setRow (w.heap.size + 1) #[.int .i64 q0, .int .i64 q1, .int .i64 q2, .int .i64 q3] = Z2 at *
    refine wpAnyH_done (by kernel_rfl) ?_ _
    go_wp2
    refine bodyPost_ret (v := .tuple #[.agg #[.int .i64 p0, .int .i64 p1, .int .i64 p2, .int .i64 p3], .agg #[.int .i64 q0, .int .i64 q1, .int .i64 q2, .int .i64 q3]]) (results_ccE Try.results7 _ _ _ rfl rfl (loadEvtD E0.out) (loadEvtD E1.out)) rfl ?_
    exact ⟨⟨p0, p1, p2, p3⟩, ⟨q0, q1, q2, q3⟩, rfl, HB.out⟩
  | true =>
    have f0 := (box_of E2.out).1 2 _ rfl
    have f1 := (box_of E3.out).1 2 _ rfl
    have f9 := (box_of E3.out).2
    go_upto_region 6 with fail
    clear f0 f1
    replace E0 := hide ((heap_setCell_other WW ⟨gb, 2, none⟩ _ (.int .i64 p2) (by dsimp only; omega)).trans E0.out)
    replace E1 := hide ((heap_setCell_other WW ⟨gb, 2, none⟩ _ (.int .i64 p2) (by dsimp only; omega)).trans E1.out)
    replace E2 := hide ((heap_setCell_other WW ⟨gb, 2, none⟩ _ (.int .i64 p2) (by dsimp only; omega)).trans E2.out)
    replace E3 := hide (heap_setCell_same WW gb 2 _ _ (.int .i64 p2) E3.out)
    replace HB := hide (HB.out.setCell (p := ⟨gb, 2, none⟩) (by dsimp only; omega) (.int .i64 p2))
    clear f9
    generalize WW.setCell ⟨gb, 2, none⟩ (.int .i64 p2) = W8 at *
    have f0 := (box_of E2.out).1 3 _ rfl
    have f1 := (box_of E3.out).1 3 _ rfl
    have f9 := (box_of E3.out).2
    go_upto_region 7 with fail
    clear f0 f1
    replace E0 := hide ((heap_setCell_other W8 ⟨gb, 3, none⟩ _ (.int .i64 p3) (by dsimp only; omega)).trans E0.out)
    replace E1 := hide ((heap_setCell_other W8 ⟨gb, 3, none⟩ _ (.int .i64 p3) (by dsimp only; omega)).trans E1.out)
    replace E2 := hide ((heap_setCell_other W8 ⟨gb, 3, none⟩ _ (.int .i64 p3) (by dsimp only; omega)).trans E2.out)
    replace E3 := hide (heap_setCell_same W8 gb 3 _ _ (.int .i64 p3) E3.out)
    replace HB := hide (HB.out.setCell (p := ⟨gb, 3, none⟩) (by dsimp only; omega) (.int .i64 p3))
    clear f9
    generalize W8.setCell ⟨gb, 3, none⟩ (.int .i64 p3) = W9 at *
    refine wp_region_held_drew (S := fun w' => w'.cell? ⟨ga, 0, none⟩ = some (.int .i64 p0) ∧ w'.cell? ⟨ga, 1, none⟩ = some (.int .i64 p1) ∧ w'.cell? ⟨ga, 2, none⟩ = some (.int .i64 p2) ∧ w'.cell? ⟨ga, 3, none⟩ = some (.int .i64 p3) ∧ w'.cell? ⟨gb, 0, none⟩ = some (.int .i64 q0) ∧ w'.cell? ⟨gb, 1, none⟩ = some (.int .i64 q1) ∧ w'.cell? ⟨gb, 2, none⟩ = some (.int .i64 p2) ∧ w'.cell? ⟨gb, 3, none⟩ = some (.int .i64 p3)) (by kernel_rfl) ⟨(box_of E2.out).1 0 _ rfl, (box_of E2.out).1 1 _ rfl, (box_of E2.out).1 2 _ rfl, (box_of E2.out).1 3 _ rfl, (box_of E3.out).1 0 _ rfl, (box_of E3.out).1 1 _ rfl, (box_of E3.out).1 2 _ rfl, (box_of E3.out).1 3 _ rfl⟩ (fun hHeld => ?_)
    have HW := hide (Below.refl W9.heap.size W9).drew
    replace E0 := hide ((HW.out.block _ (Array.getElem?_eq_some_iff.1 E0.out).1).trans E0.out)
    replace E1 := hide ((HW.out.block _ (Array.getElem?_eq_some_iff.1 E1.out).1).trans E1.out)
    replace E2 := hide ((HW.out.block _ (Array.getElem?_eq_some_iff.1 E2.out).1).trans E2.out)
    replace E3 := hide ((HW.out.block _ (Array.getElem?_eq_some_iff.1 E3.out).1).trans E3.out)
    replace HB := hide (HB.out.trans (HW.out.mono HB.out.size))
    clear HW
    generalize W9.drew = Z0 at *
    refine wpAnyH_take (i := 0) (v := ?_) rfl (by kernel_rfl) (by kernel_rfl) (by kernel_rfl) (fun _ _ _ h => h) (Or.inl ⟨by rfl, ?_⟩) (by assumption) ?_
    rotate_left
    · intro w' hSw
      try dsimp only at hSw
      go_simp; try rfl
    simp only [List.getElem_toArray, List.getElem_cons_zero, Act.put, List.setIfInBounds_toArray, List.set_cons_zero, List.set_cons_succ]
    refine wpAnyH_take (i := 1) (v := ?_) rfl (by kernel_rfl) (by kernel_rfl) (by kernel_rfl) (fun _ _ _ h => h) (Or.inl ⟨by rfl, ?_⟩) (by assumption) ?_
    rotate_left
    · intro w' hSw
      try dsimp only at hSw
      go_simp; try rfl
    simp only [List.getElem_toArray, List.getElem_cons_succ, List.getElem_cons_zero, Act.put, List.setIfInBounds_toArray, List.set_cons_zero, List.set_cons_succ]
    refine wpAnyH_ready (rs := [2]) (by kernel_rfl) (by simp) (AllReadyH.cons rfl (fun K hK => ?_) AllReadyH.nil)
    refine step_storeX (by kernel_rfl) (by kernel_rfl) 29 _ _ rfl (w.heap.size) #[.int .i64 p0, .int .i64 p1, .int .i64 p2, .int .i64 p3] (by kernel_rfl) (by kernel_rfl) _ _ E0.out (by kernel_rfl) (by rfl) (by simp [Value.oneCell']) ?_
    replace E1 := hide ((setRow_other Z0 (w.heap.size) (_) #[.int .i64 p0, .int .i64 p1, .int .i64 p2, .int .i64 p3] (by omega)).trans E1.out)
    replace E2 := hide ((setRow_other Z0 (w.heap.size) (_) #[.int .i64 p0, .int .i64 p1, .int .i64 p2, .int .i64 p3] (by omega)).trans E2.out)
    replace E3 := hide ((setRow_other Z0 (w.heap.size) (_) #[.int .i64 p0, .int .i64 p1, .int .i64 p2, .int .i64 p3] (by omega)).trans E3.out)
    replace E0 := hide (setRow_heap Z0 (w.heap.size) _ #[.int .i64 p0, .int .i64 p1, .int .i64 p2, .int .i64 p3] _ _ E0.out)
    replace HB := hide (below_setRow HB.out (show w.heap.size ≤ w.heap.size by omega) #[.int .i64 p0, .int .i64 p1, .int .i64 p2, .int .i64 p3])
    refine hK.out _ _ ⟨(box_of E2.out).1 0 _ rfl, (box_of E2.out).1 1 _ rfl, (box_of E2.out).1 2 _ rfl, (box_of E2.out).1 3 _ rfl, (box_of E3.out).1 0 _ rfl, (box_of E3.out).1 1 _ rfl, (box_of E3.out).1 2 _ rfl, (box_of E3.out).1 3 _ rfl⟩ (fun hHeld => ?_)
    clear hK K
    try simp only [Act.put, List.setIfInBounds_toArray, List.set_cons_zero, List.set_cons_succ]
    generalize Z0.setRow (w.heap.size) #[.int .i64 p0, .int .i64 p1, .int .i64 p2, .int .i64 p3] = Z1 at *
    refine wpAnyH_ready (rs := [3]) (by kernel_rfl) (by simp) (AllReadyH.cons rfl (fun K hK => ?_) AllReadyH.nil)
    refine step_storeX (by kernel_rfl) (by kernel_rfl) 29 _ _ rfl (w.heap.size + 1) #[.int .i64 q0, .int .i64 q1, .int .i64 p2, .int .i64 p3] (by kernel_rfl) (by kernel_rfl) _ _ E1.out (by kernel_rfl) (by rfl) (by simp [Value.oneCell']) ?_
    replace E0 := hide ((setRow_other Z1 (w.heap.size + 1) (_) #[.int .i64 q0, .int .i64 q1, .int .i64 p2, .int .i64 p3] (by omega)).trans E0.out)
    replace E2 := hide ((setRow_other Z1 (w.heap.size + 1) (_) #[.int .i64 q0, .int .i64 q1, .int .i64 p2, .int .i64 p3] (by omega)).trans E2.out)
    replace E3 := hide ((setRow_other Z1 (w.heap.size + 1) (_) #[.int .i64 q0, .int .i64 q1, .int .i64 p2, .int .i64 p3] (by omega)).trans E3.out)
    replace E1 := hide (setRow_heap Z1 (w.heap.size + 1) _ #[.int .i64 q0, .int .i64 q1, .int .i64 p2, .int .i64 p3] _ _ E1.out)
    replace HB := hide (below_setRow HB.out (show w.heap.size ≤ w.heap.size + 1 by omega) #[.int .i64 q0, .int .i64 q1, .int .i64 p2, .int .i64 p3])
    refine hK.out _ _ ⟨(box_of E2.out).1 0 _ rfl, (box_of E2.out).1 1 _ rfl, (box_of E2.out).1 2 _ rfl, (box_of E2.out).1 3 _ rfl, (box_of E3.out).1 0 _ rfl, (box_of E3.out).1 1 _ rfl, (box_of E3.out).1 2 _ rfl, (box_of E3.out).1 3 _ rfl⟩ (fun hHeld => ?_)
    clear hK K
    try simp only [Act.put, List.setIfInBounds_toArray, List.set_cons_zero, List.set_cons_succ]
    generalize Z1.setRow (w.heap.size + 1) #[.int .i64 q0, .int .i64 q1, .int .i64 p2, .int .i64 p3] = Z2 at *
    refine wpAnyH_done (by kernel_rfl) ?_ _
    go_wp2
    refine bodyPost_ret (v := .tuple #[.agg #[.int .i64 p0, .int .i64 p1, .int .i64 p2, .int .i64 p3], .agg #[.int .i64 q0, .int .i64 q1, .int .i64 p2, .int .i64 p3]]) (results_ccE Try.results7 _ _ _ rfl rfl (loadEvtD E0.out) (loadEvtD E1.out)) rfl ?_
    exact ⟨⟨p0, p1, p2, p3⟩, ⟨q0, q1, p2, p3⟩, rfl, HB.out⟩
end Go.Proofs.Ytbanifnfkabelaa
