/-
  Joined: DrawC, DrawV.
-/
import Derived.Test.YtllghgcancennaaJ31
import Derived.Test.YtllghgcancennaaJ9
import Derived.Test.YtllghgcancennaaJ23
import Derived.Test.YtllghgcancennaaJ14
/-
  Any drawn clock: it lies in new memory, and is short.
-/
namespace Go.Proofs.Ytllghgcancennaa
open Go.RowKit

theorem ownD_litC (w : World) (b : Nat) (hB : b ≤ w.heap.size) (T : TypeId) (k n : Nat) (cs : Array Value) (hn : n ≤ 1000000) (hl : cs.size = n * k) : OwnD (w.alloc (.cells cs T)) b (w.alloc (.cells cs T)).heap.size (.row T k n (cs.toList.map .val)) (.slice (some ⟨w.heap.size, 0, none⟩) n n) := by
  have h := OwnDL.snoc (ownDL_nil w b w.heap.size) hB T k n cs hn hl
  exact OwnDL.mid (c1 := []) (v1 := []) h rfl
theorem ownDL_valsC (w : World) (b hi : Nat) (vs : List Value) : OwnDL w b hi (vs.map .val) vs := ⟨[], ownsL_vals vs, List.nodup_nil, fun q hq => by simp at hq⟩
theorem Cur.rowC {w w' : World} {g : Nat} {row : Option Nat} (h : Cur w g) (hg : w.grownBy w' row) (hr : ∀ k, row = some k → g < k) : Cur w' g := h.kept (fun k hk => hg.block k (by have := h.lt; omega) (fun e => by have := hr k e.symm; omega))
theorem smps_snoc (xs : List Smp) (y : Smp) : smps (xs ++ [y]) = .row 72 2 (xs.length + 1) (xs.flatMap smpD ++ smpD y) := by
  unfold smps
  rw [List.length_append, List.flatMap_append]
  simp
end Go.Proofs.Ytllghgcancennaa
/-
  Drawn events: they lie in new memory, and are few.
-/
namespace Go.Proofs.Ytllghgcancennaa
open Go.RowKit

theorem evts_snoc (xs : List Evt) (y : Evt) : evts (xs ++ [y]) = .row 40 4 (xs.length + 1) (xs.flatMap evtD ++ evtD y) := by
  unfold evts
  rw [List.length_append, List.flatMap_append]
  simp
theorem one4E (a b c d : Int) : ∀ u ∈ [Value.int .i64 a, .int .i64 b, .int .i64 c, .int .i64 d], u.oneCell' = true := by simp [Value.oneCell']
theorem fm_snocE (xs : List Evt) (y : Evt) : (xs ++ [y]).flatMap evtD = xs.flatMap evtD ++ evtD y := by simp
theorem Try.infoEvtD : (Try.prog.info? 40).map (fun i => (i.zero, i.size, i.bytes)) = some (some (.agg #[.int .i64 0, .int .i64 0, .int .i64 0, .int .i64 0]), 4, 32) := by kernel_rfl
set_option maxRecDepth 100000 in
set_option maxHeartbeats 8000000 in
theorem drawEvR (w : World) (g : Nat) (hc : Cur w g) :
    Calls Try.prog 67 #[.pointer (some ⟨g, 0, none⟩)] w fun e w' => ∃ xs v, e = .returned v ∧ OwnD w' w.heap.size w'.heap.size (evts xs) v ∧ xs.length ≤ 14 ∧ Cur w' g ∧ w.grownBy w' (some g) := by
  have hgl := hc.lt
  have HC := hide (hc.alloc (.cells #[] 40))
  have HO := hide (ownD_litC w w.heap.size (Nat.le_refl _) 40 4 0 #[] (by decide) rfl)
  have HG := hide (World.grownBy_alloc w (.cells #[] 40) (some g))
  clear hc
  obtain ⟨i0, hi, hz0, hz1, hz2⟩ := info_parts Try.infoEvtD
  have HI := hide (And.intro hi (And.intro hz0 (And.intro hz1 hz2)))
  clear hi hz0 hz1 hz2
  go_enter Try.func67, Try.ntmps67
  go_upto_region 2 with fail
  generalize w.alloc (.cells #[] 40) = W1 at *
  go_wp2
  go_loopw [3, 4] (fun out i wr => ∃ (xs : List Evt) (va : Option Addr) (vc : Nat), out = .slice va xs.length vc ∧ i = .int .i64 (xs.length : Int) ∧ xs.length ≤ 14 ∧ Hid (OwnD wr w.heap.size wr.heap.size (evts xs) (.slice va xs.length vc)) ∧ Hid (Cur wr g) ∧ Hid (w.grownBy wr (some g))) (fun _ i _ => (15 - intOf i).toNat)
  case atStart => exact ⟨[], _, _, rfl, rfl, by simp, HO, HC, HG⟩
  case round =>
    clear HO HC HG
    obtain ⟨xs, va, vc, rfl, rfl, hxl, HO, HC, HG⟩ := hrel
    have hgw := HG.out.size
    go_wp2_with fail
    refine (belowDraw _ g 14 (by decide) (by decide) HC.out).mono ?_
    rintro e w1 ⟨x1, rfl, hx10, hx11, hc1, hg1⟩
    have hsw1 := hg1.size
    replace HC := hide hc1
    replace HO := hide (HO.out.grownP hg1 hgl)
    replace HG := hide (grownBy_trans HG.out hg1)
    clear hc1 hg1
    by_cases hlt : (xs.length : Int) < x1
    · go_wp2_with fail
      refine (belowDraw _ g 3 (by decide) (by decide) HC.out).mono ?_
      rintro e w2 ⟨x2, rfl, hx20, hx21, hc1, hg1⟩
      have hsw2 := hg1.size
      replace HC := hide hc1
      replace HO := hide (HO.out.grownP hg1 hgl)
      replace HG := hide (grownBy_trans HG.out hg1)
      clear hc1 hg1
      go_wp2_with fail
      refine (belowDraw _ g 7 (by decide) (by decide) HC.out).mono ?_
      rintro e w3 ⟨x3, rfl, hx30, hx31, hc1, hg1⟩
      have hsw3 := hg1.size
      replace HC := hide hc1
      replace HO := hide (HO.out.grownP hg1 hgl)
      replace HG := hide (grownBy_trans HG.out hg1)
      clear hc1 hg1
      go_wp2_with fail
      refine (pickDraw _ g w3.heap.size 3 [1, 2, 3] rfl (by decide) (by decide) (by omega) (HC.out.alloc _) (heap_alloc_new w3 _)).mono ?_
      rintro e w4 ⟨x4, rfl, hmx4, hc2, hg2⟩
      have hg3 := alloc_grown hg2
      have hsw4 := hg3.size
      replace HC := hide hc2
      replace HO := hide (HO.out.grownP hg3 hgl)
      replace HG := hide (grownBy_trans HG.out hg3)
      clear hc2 hg2 hg3 hmx4
      go_wp2_with (first
        | (go_at_call 56; refine (belowDraw _ g 2 (by decide) (by decide) HC.out).mono ?_; rintro e w5 ⟨x5, rfl, hx50, hx51, hc1, hg1⟩; have hs5 := hg1.size; have HCa := hide hc1; have HOa := hide (HO.out.grownP hg1 hgl); have HGa := hide (grownBy_trans HG.out hg1); clear hc1 hg1; have HX := hide ((Below.refl w5.heap.size w5).alloc (Nat.le_refl _) (.cells #[.int .i64 (1 + x2), .int .i64 x3, .int .i64 x4, .int .i64 x5] 40)); have hsX := HX.out.size; have HCb := hide (HCa.out.alloc (.cells #[.int .i64 (1 + x2), .int .i64 x3, .int .i64 x4, .int .i64 x5] 40)); have HGb := hide (grown_step HGa.out (World.grownBy_alloc w5 (.cells #[.int .i64 (1 + x2), .int .i64 x3, .int .i64 x4, .int .i64 x5] 40) (some g)) (fun q hq => by cases hq; exact Or.inl rfl)); have hown := hide (OwnDL.cons ((HOa.out.up (by omega)).below HX.out) (ownDL_nil _ w5.heap.size w5.heap.size) (by omega) (Nat.le_refl _)); have hbx := hide (box_of (heap_alloc_new w5 (.cells #[.int .i64 (1 + x2), .int .i64 x3, .int .i64 x4, .int .i64 x5] 40))).1)
        | (at_builtin; refine appL rfl _ _ 25 rfl w.heap.size w5.heap.size w5.heap.size 40 i0 (.agg #[.int .i64 0, .int .i64 0, .int .i64 0, .int .i64 0]) 4 32 Try.underlying25 HI.out.1 HI.out.2.1 HI.out.2.2.1 HI.out.2.2.2 rfl (by decide) (.slice va xs.length vc) xs.length (xs.flatMap evtD) [] [] [] [] rfl hown.out rfl _ _ [.int .i64 (1 + x2), .int .i64 x3, .int .i64 x4, .int .i64 x5] (evtD ⟨(1 + x2), x3, x4, x5⟩) rfl hbx.out (ownDL_valsC _ _ _ [.int .i64 (1 + x2), .int .i64 x3, .int .i64 x4, .int .i64 x5]) rfl (by simp [Value.oneCell']) (by omega) (by decide) (Nat.le_refl _) (by omega) (by omega) ?_; intro g9 vc9 w9 o9 gr9 hq9; have HO9 := hide (OwnDL.mid (c1 := []) (v1 := []) o9 rfl); have HC9 := hide (HCb.out.rowC gr9 (fun q hq => by have := (hq9 q hq).1; omega)); have HG9 := hide (grown_step HGb.out gr9 (fun q hq => Or.inr (hq9 q hq).1)); clear o9 gr9 hq9)
        | fail)
      refine ⟨⟨xs ++ [⟨1 + x2, x3, x4, x5⟩], some ⟨g9, 0, none⟩, vc9, ?_, ?_, ?_, hide ?_, HC9, HG9⟩, ?_⟩
      · rw [List.length_append]; rfl
      · rw [List.length_append]; simp only [List.length_cons, List.length_nil]; go_num
      · rw [List.length_append]; simp only [List.length_cons, List.length_nil]; omega
      · rw [evts_snoc, List.length_append]
        exact HO9.out
      · simp [intOf]; omega
    · go_wp2
      go_ret
      exact ⟨xs, _, rfl, HO.out.up (by omega), hxl, HC.out, HG.out⟩
set_option maxRecDepth 100000 in
set_option maxHeartbeats 8000000 in
theorem drawEv (w : World) (g : Nat) (hc : Cur w g) :
    Calls Try.prog 48 #[.pointer (some ⟨g, 0, none⟩)] w fun e w' => ∃ xs v, e = .returned v ∧ OwnD w' w.heap.size w'.heap.size (evts xs) v ∧ xs.length ≤ 15 ∧ Cur w' g ∧ w.grownBy w' (some g) := by
  have hgl := hc.lt
  obtain ⟨i0, hi, hz0, hz1, hz2⟩ := info_parts Try.infoEvtD
  have HI := hide (And.intro hi (And.intro hz0 (And.intro hz1 hz2)))
  clear hi hz0 hz1 hz2
  go_enter Try.func48, Try.ntmps48
  go_wp2_with fail
  refine (drawEvR _ g hc).mono ?_
  rintro e w0 ⟨xs, v, rfl, o0, hxl, hc0, hg0⟩
  obtain ⟨va, vc, ev⟩ := o0.shape
  subst ev
  have HO := hide o0
  have HC := hide hc0
  have HG := hide hg0
  have hgw := hg0.size
  clear o0 hc0 hg0 hc
  go_wp2_with fail
  refine (belowDraw _ g 14 (by decide) (by decide) HC.out).mono ?_
  rintro e w1 ⟨x1, rfl, hx10, hx11, hc1, hg1⟩
  have hsw1 := hg1.size
  replace HC := hide hc1
  replace HO := hide (HO.out.grownP hg1 hgl)
  replace HG := hide (grownBy_trans HG.out hg1)
  clear hc1 hg1
  by_cases t0 : x1 = 0
  · subst t0
    go_wp2_with fail
    refine (belowDraw _ g 2 (by decide) (by decide) HC.out).mono ?_
    rintro e w2 ⟨x2, rfl, hx20, hx21, hc1, hg1⟩
    have hsw2 := hg1.size
    replace HC := hide hc1
    replace HO := hide (HO.out.grownP hg1 hgl)
    replace HG := hide (grownBy_trans HG.out hg1)
    clear hc1 hg1
    go_wp2_with (first
      | (go_at_call 56; refine (belowDraw _ g 9 (by decide) (by decide) HC.out).mono ?_; rintro e w3 ⟨x3, rfl, hx30, hx31, hc1, hg1⟩; have hs3 := hg1.size; have HCa := hide hc1; have HOa := hide (HO.out.grownP hg1 hgl); have HGa := hide (grownBy_trans HG.out hg1); clear hc1 hg1; have HX := hide ((Below.refl w3.heap.size w3).alloc (Nat.le_refl _) (.cells #[.int .i64 x2, .int .i64 x3, .int .i64 0, .int .i64 0] 40)); have hsX := HX.out.size; have HCb := hide (HCa.out.alloc (.cells #[.int .i64 x2, .int .i64 x3, .int .i64 0, .int .i64 0] 40)); have HGb := hide (grown_step HGa.out (World.grownBy_alloc w3 (.cells #[.int .i64 x2, .int .i64 x3, .int .i64 0, .int .i64 0] 40) (some g)) (fun q hq => by cases hq; exact Or.inl rfl)); have hown := hide (OwnDL.cons ((HOa.out.up (by omega)).below HX.out) (ownDL_nil _ w3.heap.size w3.heap.size) (by omega) (Nat.le_refl _)); have hbx := hide (box_of (heap_alloc_new w3 (.cells #[.int .i64 x2, .int .i64 x3, .int .i64 0, .int .i64 0] 40))).1)
      | (at_builtin; refine appL rfl _ _ 25 rfl w.heap.size w3.heap.size w3.heap.size 40 i0 (.agg #[.int .i64 0, .int .i64 0, .int .i64 0, .int .i64 0]) 4 32 Try.underlying25 HI.out.1 HI.out.2.1 HI.out.2.2.1 HI.out.2.2.2 rfl (by decide) (.slice va xs.length vc) xs.length (xs.flatMap evtD) [] [] [] [] rfl hown.out rfl _ _ [.int .i64 x2, .int .i64 x3, .int .i64 0, .int .i64 0] (evtD ⟨x2, x3, 0, 0⟩) rfl hbx.out (ownDL_valsC _ _ _ [.int .i64 x2, .int .i64 x3, .int .i64 0, .int .i64 0]) rfl (by simp [Value.oneCell']) (by omega) (by decide) (Nat.le_refl _) (by omega) (by omega) ?_; intro g9 vc9 w9 o9 gr9 hq9; have HO9 := hide (OwnDL.mid (c1 := []) (v1 := []) o9 rfl); have HC9 := hide (HCb.out.rowC gr9 (fun q hq => by have := (hq9 q hq).1; omega)); have HG9 := hide (grown_step HGb.out gr9 (fun q hq => Or.inr (hq9 q hq).1)); clear o9 gr9 hq9)
      | fail)
    go_ret
    refine ⟨xs ++ [⟨x2, x3, 0, 0⟩], _, rfl, ?_, ?_, HC9.out, HG9.out⟩
    · rw [evts_snoc]
      exact HO9.out
    · rw [List.length_append]; simp only [List.length_cons, List.length_nil]; omega
  · by_cases t1 : x1 = 1
    · subst t1
      go_wp2_with (first
        | (go_at_call 68; refine (pickDraw _ g w1.heap.size 2 [-1, 8] rfl (by decide) (by decide) (by omega) (HC.out.alloc _) (heap_alloc_new w1 _)).mono ?_; rintro e w2 ⟨x2, rfl, hm2, hc2, hg2⟩; have hg3 := alloc_grown hg2; have hs2 := hg3.size; have HCa := hide hc2; have HOa := hide (HO.out.grownP hg3 hgl); have HGa := hide (grownBy_trans HG.out hg3); clear hc2 hg2 hg3 hm2; have HX := hide ((Below.refl w2.heap.size w2).alloc (Nat.le_refl _) (.cells #[.int .i64 1, .int .i64 0, .int .i64 0, .int .i64 x2] 40)); have hsX := HX.out.size; have HCb := hide (HCa.out.alloc (.cells #[.int .i64 1, .int .i64 0, .int .i64 0, .int .i64 x2] 40)); have HGb := hide (grown_step HGa.out (World.grownBy_alloc w2 (.cells #[.int .i64 1, .int .i64 0, .int .i64 0, .int .i64 x2] 40) (some g)) (fun q hq => by cases hq; exact Or.inl rfl)); have hown := hide (OwnDL.cons ((HOa.out.up (by omega)).below HX.out) (ownDL_nil _ w2.heap.size w2.heap.size) (by omega) (Nat.le_refl _)); have hbx := hide (box_of (heap_alloc_new w2 (.cells #[.int .i64 1, .int .i64 0, .int .i64 0, .int .i64 x2] 40))).1)
        | (at_builtin; refine appL rfl _ _ 25 rfl w.heap.size w2.heap.size w2.heap.size 40 i0 (.agg #[.int .i64 0, .int .i64 0, .int .i64 0, .int .i64 0]) 4 32 Try.underlying25 HI.out.1 HI.out.2.1 HI.out.2.2.1 HI.out.2.2.2 rfl (by decide) (.slice va xs.length vc) xs.length (xs.flatMap evtD) [] [] [] [] rfl hown.out rfl _ _ [.int .i64 1, .int .i64 0, .int .i64 0, .int .i64 x2] (evtD ⟨1, 0, 0, x2⟩) rfl hbx.out (ownDL_valsC _ _ _ [.int .i64 1, .int .i64 0, .int .i64 0, .int .i64 x2]) rfl (by simp [Value.oneCell']) (by omega) (by decide) (Nat.le_refl _) (by omega) (by omega) ?_; intro g9 vc9 w9 o9 gr9 hq9; have HO9 := hide (OwnDL.mid (c1 := []) (v1 := []) o9 rfl); have HC9 := hide (HCb.out.rowC gr9 (fun q hq => by have := (hq9 q hq).1; omega)); have HG9 := hide (grown_step HGb.out gr9 (fun q hq => Or.inr (hq9 q hq).1)); clear o9 gr9 hq9)
        | fail)
      go_ret
      refine ⟨xs ++ [⟨1, 0, 0, x2⟩], _, rfl, ?_, ?_, HC9.out, HG9.out⟩
      · rw [evts_snoc]
        exact HO9.out
      · rw [List.length_append]; simp only [List.length_cons, List.length_nil]; omega
    · go_wp2
      go_ret
      exact ⟨xs, _, rfl, HO.out.up (by omega), by omega, HC.out, HG.out⟩
set_option maxRecDepth 100000 in
set_option maxHeartbeats 8000000 in
theorem drawClocksE (w : World) (a : Option Addr) (len cap : Nat) (zs : List Int) (hin : In w w.heap.size a len zs) :
    Calls Try.prog 24 #[.slice a len cap] w fun e w' => ∃ xs v, e = .returned v ∧ Reads w' w'.heap.size (evts xs) v ∧ xs.length ≤ 15 ∧ Below w.heap.size w w' := by
  go_enter Try.func24, Try.ntmps24
  go_wp2_with fail
  refine (newDraw _ a len cap zs hin).mono ?_
  rintro e w1 ⟨rfl, hc1, b1⟩
  go_wp2_with fail
  refine (drawEv _ _ hc1).mono ?_
  rintro e w2 ⟨xs, v, rfl, o2, hl, hc2, hg2⟩
  obtain ⟨va, vc, ev⟩ := o2.shape
  subst ev
  have HO := hide (o2.rd (Nat.le_refl _))
  have HB := hide (b1.grown hg2 b1.size (fun k hk => by cases hk; exact Nat.le_refl _))
  clear o2 hc2 hg2 hc1 b1
  go_wp2
  go_ret
  exact ⟨xs, _, rfl, HO.out, hl, HB.out⟩
end Go.Proofs.Ytllghgcancennaa
