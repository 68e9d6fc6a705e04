/-
  Any drawn clock: it lies in new memory, and is short.
-/
import Derived.Test.YtebilohcdpecoabCur
import Derived.Test.YtebilohcdpecoabClkQ
import Derived.Test.YtebilohcdpecoabAppM
import Derived.Test.YtebilohcdpecoabBldV
namespace Go.Proofs.Ytebilohcdpecoab
open Go.RowKit

theorem ownD_litC (w : World) (b : Nat) (hB : b ≤ w.heap.size) (T : TypeId) (k n : Nat) (cs : Array Value) (hn : n ≤ 1000000) (hl : cs.size = n * k) : OwnD (w.alloc (.cells cs T)) b (w.alloc (.cells cs T)).heap.size (.row T k n (cs.toList.map .val)) (.slice (some ⟨w.heap.size, 0, none⟩) n n) := by
  have h := OwnDL.snoc (ownDL_nil w b w.heap.size) hB T k n cs hn hl
  exact OwnDL.mid (c1 := []) (v1 := []) h rfl
theorem ownDL_valsC (w : World) (b hi : Nat) (vs : List Value) : OwnDL w b hi (vs.map .val) vs := ⟨[], ownsL_vals vs, List.nodup_nil, fun q hq => by simp at hq⟩
theorem Cur.rowC {w w' : World} {g : Nat} {row : Option Nat} (h : Cur w g) (hg : w.grownBy w' row) (hr : ∀ k, row = some k → g < k) : Cur w' g := h.kept (fun k hk => hg.block k (by have := h.lt; omega) (fun e => by have := hr k e.symm; omega))
theorem smps_snoc (xs : List Smp) (y : Smp) : smps (xs ++ [y]) = .row 42 2 (xs.length + 1) (xs.flatMap smpD ++ smpD y) := by
  unfold smps
  rw [List.length_append, List.flatMap_append]
  simp
set_option maxRecDepth 100000 in
set_option maxHeartbeats 8000000 in
theorem drawC (w : World) (g : Nat) (hc : Cur w g) :
    Calls Try.prog 38 #[.pointer (some ⟨g, 0, none⟩)] w fun e w' => ∃ xs v, e = .returned v ∧ OwnD w' w.heap.size w'.heap.size (smps xs) v ∧ (∀ y ∈ xs, SmpG y) ∧ xs.length ≤ 30 ∧ Cur w' g ∧ w.grownBy w' (some g) := by
  have hgl := hc.lt
  have HC := hide (hc.alloc (.cells #[] 42))
  have HO := hide (ownD_litC w w.heap.size (Nat.le_refl _) 42 2 0 #[] (by decide) rfl)
  have HG := hide (World.grownBy_alloc w (.cells #[] 42) (some g))
  clear hc
  obtain ⟨i0, hi, hz0, hz1, hz2⟩ := info_parts Try.infoSmp
  have HI := hide (And.intro hi (And.intro hz0 (And.intro hz1 hz2)))
  clear hi hz0 hz1 hz2
  go_enter Try.func38, Try.ntmps38
  go_wp2_with fail
  refine (belowDraw _ g 3 (by decide) (by decide) HC.out).mono ?_
  rintro e w1 ⟨x, rfl, hx0, hx1, hc1, hg1⟩
  replace HC := hide hc1
  replace HO := hide ((HO.out.grownP hg1 hgl).up hg1.size)
  replace HG := hide (grownBy_trans HG.out hg1)
  clear hc1 hg1
  go_wp2
  go_loopw [3, 4] (fun out who wr => ∃ (xs : List Smp) (va : Option Addr) (vc : Nat) (k : Int), out = .slice va xs.length vc ∧ who = .int .i64 k ∧ (xs.length : Int) + 1 ≤ k ∧ k ≤ 28 ∧ Hid (∀ y ∈ xs, SmpG y) ∧ Hid (OwnD wr w.heap.size wr.heap.size (smps xs) (.slice va xs.length vc)) ∧ Hid (Cur wr g) ∧ Hid (w.grownBy wr (some g))) (fun _ who _ => (20 - intOf who).toNat)
  case atStart => exact ⟨[], _, _, _, rfl, rfl, by simp; omega, by omega, hide (by simp), HO, HC, HG⟩
  case round =>
    clear HO HC HG
    obtain ⟨xs, va, vc, k, rfl, rfl, hk1, hk2, HS, HOr, HCr, HGr⟩ := hrel
    have hgw := HGr.out.size
    by_cases hlt : k < 20
    · go_upto_region 4 with (first
        | (go_at_call 41; refine (belowDraw _ g 4 (by decide) (by decide) HCr.out).mono ?_; rintro e w1 ⟨x1, rfl, hx10, hx11, hc1, hg1⟩; have hs1 := hg1.size; have HX := hide ((Below.refl w1.heap.size w1).alloc (Nat.le_refl _) (.cells #[.int .i64 k, .int .i64 (1 + x1)] 42)); have hsX := HX.out.size; have HC1 := hide (hc1.alloc (.cells #[.int .i64 k, .int .i64 (1 + x1)] 42)); have hown := hide (OwnDL.cons ((HOr.out.grownP hg1 hgl).below HX.out) (ownDL_nil _ wr.heap.size wr.heap.size) hgw (Nat.le_refl _)); have hbx := hide (box_of (heap_alloc_new w1 (.cells #[.int .i64 k, .int .i64 (1 + x1)] 42))).1; have HG1 := hide (grown_step (grownBy_trans HGr.out hg1) (World.grownBy_alloc w1 (.cells #[.int .i64 k, .int .i64 (1 + x1)] 42) (some g)) (fun q hq => by cases hq; exact Or.inl rfl)); clear hc1 hg1 HX)
        | (at_builtin; refine appL rfl _ _ 24 rfl w.heap.size wr.heap.size wr.heap.size 42 i0 (.agg #[.int .i64 0, .int .i64 0]) 2 16 Try.underlying24 HI.out.1 HI.out.2.1 HI.out.2.2.1 HI.out.2.2.2 rfl (by decide) (.slice va xs.length vc) xs.length (xs.flatMap smpD) [] [] [] [] rfl hown.out rfl _ _ [.int .i64 k, .int .i64 (1 + x1)] (smpD ⟨k, 1 + x1⟩) rfl hbx.out (ownDL_valsC _ _ _ [.int .i64 k, .int .i64 (1 + x1)]) rfl (by simp [Value.oneCell']) (by omega) (by decide) (Nat.le_refl _) hgw (by omega) ?_; intro g9 vc9 w9 o9 gr9 hq9; have HO9 := hide (OwnDL.mid (c1 := []) (v1 := []) o9 rfl); have HC9 := hide (HC1.out.rowC gr9 (fun q hq => by have := (hq9 q hq).1; omega)); have HG9 := hide (grown_step HG1.out gr9 (fun q hq => Or.inr (hq9 q hq).1)); clear o9 gr9 hq9)
        | fail)
      go_wp2_with fail
      refine (belowDraw _ g 9 (by decide) (by decide) HC9.out).mono ?_
      rintro e w2 ⟨z, rfl, hz0, hz1, hc2, hg2⟩
      have HC2 := hide hc2
      have HO2 := hide ((HO9.out.grownP hg2 hgl).up hg2.size)
      have HG2 := hide (grownBy_trans HG9.out hg2)
      clear hc2 hg2 HOr HCr HGr
      go_wp2
      refine ⟨⟨xs ++ [⟨k, 1 + x1⟩], some ⟨g9, 0, none⟩, vc9, k + 1 + z, ?_, rfl, ?_, by omega, hide ?_, hide ?_, HC2, HG2⟩, ?_⟩
      · rw [List.length_append]; rfl
      · rw [List.length_append]; simp only [List.length_cons, List.length_nil]; omega
      · intro y hy
        rcases List.mem_append.1 hy with hy | hy
        · exact HS.out y hy
        · simp at hy
          subst hy
          exact ⟨by show -9223372036854775808 ≤ k ∧ k ≤ 9223372036854775807; omega, by show -9223372036854775808 ≤ 1 + x1 ∧ 1 + x1 ≤ 9223372036854775807; omega⟩
      · rw [smps_snoc, List.length_append]
        exact HO2.out
      · simp [intOf]; omega
    · go_wp2_with fail
      refine (belowDraw _ g 15 (by decide) (by decide) HCr.out).mono ?_
      rintro e w1 ⟨t, rfl, ht0, ht1, hc1, hg1⟩
      have hs1 := hg1.size
      have HC1 := hide hc1
      have HO1 := hide (HOr.out.grownP hg1 hgl)
      have HG1 := hide (grownBy_trans HGr.out hg1)
      have HGL : Hid (g < w1.heap.size) := hide (by omega)
      clear hc1 hg1 HOr HCr HGr
      by_cases t0 : t = 0
      · subst t0
        go_wp2_with (first
          | (go_at_call_of 41 (Value.int .i64 30); refine (belowDraw _ g 30 (by decide) (by decide) HC1.out).mono ?_; rintro e w2 ⟨x2, rfl, hx20, hx21, hc2, hg2⟩; have hs2 := hg2.size; have HC2 := hide hc2; have HO2 := hide (HO1.out.grownP hg2 hgl); have HG2 := hide (grownBy_trans HG1.out hg2); clear hc2 hg2)
          | (go_at_call_of 41 (Value.int .i64 3); refine (belowDraw _ g 3 (by decide) (by decide) HC2.out).mono ?_; rintro e w3 ⟨x3, rfl, hx30, hx31, hc3, hg3⟩; have hs3 := hg3.size; have HX := hide ((Below.refl w3.heap.size w3).alloc (Nat.le_refl _) (.cells #[.int .i64 x2, .int .i64 x3] 42)); have hsX := HX.out.size; have HC3 := hide (hc3.alloc (.cells #[.int .i64 x2, .int .i64 x3] 42)); have hown := hide (OwnDL.cons ((HO2.out.grownP hg3 hgl).below HX.out) (ownDL_nil _ wr.heap.size wr.heap.size) hgw (Nat.le_refl _)); have hbx := hide (box_of (heap_alloc_new w3 (.cells #[.int .i64 x2, .int .i64 x3] 42))).1; have HG3 := hide (grown_step (grownBy_trans HG2.out hg3) (World.grownBy_alloc w3 (.cells #[.int .i64 x2, .int .i64 x3] 42) (some g)) (fun q hq => by cases hq; exact Or.inl rfl)); clear hc3 hg3 HX)
          | (at_builtin; refine appL rfl _ _ 24 rfl w.heap.size wr.heap.size wr.heap.size 42 i0 (.agg #[.int .i64 0, .int .i64 0]) 2 16 Try.underlying24 HI.out.1 HI.out.2.1 HI.out.2.2.1 HI.out.2.2.2 rfl (by decide) (.slice va xs.length vc) xs.length (xs.flatMap smpD) [] [] [] [] rfl hown.out rfl _ _ [.int .i64 x2, .int .i64 x3] (smpD ⟨x2, x3⟩) rfl hbx.out (ownDL_valsC _ _ _ [.int .i64 x2, .int .i64 x3]) rfl (by simp [Value.oneCell']) (by omega) (by decide) (Nat.le_refl _) hgw (by omega) ?_; intro g9 vc9 w9 o9 gr9 hq9; have HO9 := hide (OwnDL.mid (c1 := []) (v1 := []) o9 rfl); have HC9 := hide (HC3.out.rowC gr9 (fun q hq => by have := (hq9 q hq).1; omega)); have HG9 := hide (grown_step HG3.out gr9 (fun q hq => Or.inr (hq9 q hq).1)); clear o9 gr9 hq9)
          | fail)
        go_ret
        refine ⟨xs ++ [⟨x2, x3⟩], _, rfl, ?_, ?_, ?_, HC9.out, HG9.out⟩
        · rw [smps_snoc]
          exact HO9.out
        · intro y hy
          rcases List.mem_append.1 hy with hy | hy
          · exact HS.out y hy
          · simp at hy
            subst hy
            exact ⟨by show -9223372036854775808 ≤ x2 ∧ x2 ≤ 9223372036854775807; omega, by show -9223372036854775808 ≤ x3 ∧ x3 ≤ 9223372036854775807; omega⟩
        · rw [List.length_append]; simp only [List.length_cons, List.length_nil]; omega
      · by_cases t1 : t = 1
        · subst t1
          go_wp2_with fail
          refine (pickDraw _ g w1.heap.size 2 [16777215, 16777216] rfl (by decide) (by decide) (by have := HGL.out; omega) (HC1.out.alloc _) (heap_alloc_new w1 _)).mono ?_
          rintro e w2 ⟨x2, rfl, hx2, hc2, hg2⟩
          have hxb : 0 ≤ x2 ∧ x2 ≤ 16777216 := by simp at hx2; omega
          have hg3 := alloc_grown hg2
          have HC2 := hide hc2
          have HG2 := hide (grownBy_trans HG1.out hg3)
          have hs2 := hg3.size
          clear hc2 hg2 hg3 hx2
          go_wp2
          go_ret
          refine ⟨[⟨1, x2⟩], _, rfl, ownD_litC w2 w.heap.size (by omega) 42 2 1 #[.int .i64 1, .int .i64 x2] (by decide) rfl, ?_, by simp, HC2.out.alloc _, grown_step HG2.out (World.grownBy_alloc w2 _ (some g)) (fun q hq => by cases hq; exact Or.inl rfl)⟩
          intro y hy
          simp at hy
          subst hy
          exact ⟨by show -9223372036854775808 ≤ (1 : Int) ∧ (1 : Int) ≤ 9223372036854775807; omega, by show -9223372036854775808 ≤ x2 ∧ x2 ≤ 9223372036854775807; omega⟩
        · go_wp2
          go_ret
          exact ⟨xs, _, rfl, HO1.out.up hs1, HS.out, by omega, HC1.out, HG1.out⟩
end Go.Proofs.Ytebilohcdpecoab
