/-
  Draws of values, of cells.
-/
import Derived.Test.YtabeeppfgkeahaaDrawU
import Derived.Test.YtabeeppfgkeahaaCelR
import Derived.Test.YtabeeppfgkeahaaDeepL
import Derived.Test.YtabeeppfgkeahaaBldW
import Derived.OwnWalk
namespace Go.Proofs.Ytabeeppfgkeahaa
open Go.RowKit

theorem made8 : (madeCells (Value.agg #[.bool false, .int .i64 0]).cells (8 * 2)).toList.map Dt.val = (List.replicate 8 (⟨false, 0⟩ : Vl)).flatMap vlD := by
  simp [madeCells, Value.cells, List.range_succ, List.replicate_succ, vlD]
theorem made9 : (madeCells (Value.agg #[.bool false, .int .i64 0]).cells (9 * 2)).toList.map Dt.val = (List.replicate 9 (⟨false, 0⟩ : Vl)).flatMap vlD := by
  simp [madeCells, Value.cells, List.range_succ, List.replicate_succ, vlD]
theorem vls_snoc (xs : List Vl) (y : Vl) : vls (xs ++ [y]) = .row 48 2 (xs.length + 1) (xs.flatMap vlD ++ vlD y) := by
  unfold vls
  rw [List.length_append, List.flatMap_append]
  simp
theorem cels_snocG (xs : List Cel) (y : Cel) : cels (xs ++ [y]) = .row 50 3 (xs.length + 1) (xs.flatMap celD ++ celD y) := by
  unfold cels
  rw [List.length_append, List.flatMap_append]
  simp
set_option maxRecDepth 100000 in
set_option maxHeartbeats 8000000 in
theorem valsD (w : World) (g : Nat) (hc : CurW w g) :
    Calls Try.prog 41 #[.pointer (some ⟨g, 0, none⟩)] w fun e w' => ∃ xs v, e = .returned v ∧ OwnD w' w.heap.size w'.heap.size (vls xs) v ∧ xs.length ≤ 9 ∧ (∀ y ∈ xs, VlG y) ∧ CurW w' g ∧ w.grownBy w' (some g) := by
  have hgl := hc.lt
  have HC := hide (hc.alloc (.cells #[] 48))
  have HO := hide (ownD_zero w 48 2)
  have HG := hide (World.grownBy_alloc w (.cells #[] 48) (some g))
  clear hc
  obtain ⟨i0, hi, hz0, hz1, hz2⟩ := info_parts Try.infoVl
  have HI := hide (And.intro hi (And.intro hz0 (And.intro hz1 hz2)))
  clear hi hz0 hz1 hz2
  go_enter Try.func41, Try.ntmps41
  go_upto_region 2 with fail
  have hw1 : w.heap.size ≤ (w.alloc (.cells #[] 48)).heap.size := by simp
  generalize w.alloc (.cells #[] 48) = W1 at *
  go_wp2
  go_loopw [3, 4] (fun out i wr => ∃ (xs : List Vl) (va : Option Addr) (vc : Nat), out = .slice va xs.length vc ∧ i = .int .i64 (xs.length : Int) ∧ xs.length ≤ 3 ∧ Hid (∀ y ∈ xs, VlG y) ∧ Hid (OwnD wr w.heap.size wr.heap.size (vls xs) (.slice va xs.length vc)) ∧ Hid (CurW wr g) ∧ Hid (w.grownBy wr (some g))) (fun _ i _ => 3 - (intOf i).toNat)
  case atStart => exact ⟨[], _, _, rfl, rfl, by simp, hide (fun y hy => by simp at hy), HO, HC, HG⟩
  case round =>
    clear HO HC HG
    obtain ⟨xs, va, vc, rfl, rfl, hxl, HY, HO, HC, HG⟩ := hrel
    have hgw := HG.out.size
    have hgl9 : g < wr.heap.size := by omega
    by_cases hlt : xs.length < 3
    · have hltI : (xs.length : Int) < 3 := by omega
      go_wp2_with (first
        | (go_at_call 45; refine (belowW _ g 3 (by decide) (by decide) HC.out).mono ?_; rintro e w1 ⟨x1, rfl, hx0, hx1, hc1, hg1⟩; have hs9 := hg1.size; have HCa := hide hc1; have HOa := hide (HO.out.grownP hg1 hgl); have HGa := hide (grownBy_trans HG.out hg1); clear hc1 hg1; have HX := hide ((Below.refl w1.heap.size w1).alloc (Nat.le_refl _) (.cells #[.bool false, .int .i64 x1] 48)); have hsX := HX.out.size; have HCb := hide (HCa.out.alloc (.cells #[.bool false, .int .i64 x1] 48)); have HGb := hide (grown_step HGa.out (World.grownBy_alloc w1 (.cells #[.bool false, .int .i64 x1] 48) (some g)) (fun q hq => by cases hq; exact Or.inl rfl)); have hown := hide (OwnDL.cons ((HOa.out.up (by omega)).below HX.out) (ownDL_nil _ w1.heap.size w1.heap.size) (by omega) (Nat.le_refl _)); have hbx := hide (box_of (heap_alloc_new w1 (.cells #[.bool false, .int .i64 x1] 48))).1)
        | (at_builtin; refine appL rfl _ _ 26 rfl w.heap.size w1.heap.size w1.heap.size 48 i0 (.agg #[.bool false, .int .i64 0]) 2 16 Try.underlying26 HI.out.1 HI.out.2.1 HI.out.2.2.1 HI.out.2.2.2 rfl (by decide) (.slice va xs.length vc) xs.length (xs.flatMap vlD) [] [] [] [] rfl hown.out rfl _ _ [.bool false, .int .i64 x1] (vlD (Vl.mk false x1)) rfl hbx.out (ownDL_vals _ _ _ [.bool false, .int .i64 x1]) rfl (by simp [Value.oneCell']) (by omega) (by decide) (Nat.le_refl _) (by omega) (by omega) ?_; intro g9 vc9 w9 o9 gr9 hq9; have HO9 := hide (OwnDL.mid (c1 := []) (v1 := []) o9 rfl); have HC9 := hide (HCb.out.row gr9 (fun q hq => by have := (hq9 q hq).1; omega)); have HG9 := hide (grown_step HGb.out gr9 (fun q hq => Or.inr (hq9 q hq).1)); clear o9 gr9 hq9)
        | fail)
      refine ⟨⟨xs ++ [Vl.mk false x1], some ⟨g9, 0, none⟩, vc9, ?_, ?_, ?_, hide ?_, hide ?_, HC9, HG9⟩, ?_⟩
      · rw [List.length_append]; rfl
      · rw [List.length_append]; simp only [List.length_cons, List.length_nil]; go_num
      · rw [List.length_append]; simp only [List.length_cons, List.length_nil]; omega
      · intro y hy
        rcases List.mem_append.1 hy with h | h
        · exact HY.out y h
        · rw [List.mem_singleton] at h; subst h; exact ⟨⟨by dsimp only; omega, by dsimp only; omega⟩⟩
      · rw [vls_snoc, List.length_append]
        exact HO9.out
      · simp [intOf]; omega
    · have hnl : ¬ (xs.length : Int) < 3 := by omega
      go_wp2_with fail
      refine (onceW _ g 9 (by decide) (by decide) HC.out).mono ?_
      rintro e w2 ⟨b, rfl, hc1, hg1⟩
      have hs2 := hg1.size
      replace HC := hide hc1
      replace HO := hide (HO.out.grownP hg1 (by omega))
      replace HG := hide (grownBy_trans HG.out hg1)
      clear hc1 hg1
      have hgl9 : g < w2.heap.size := by omega
      have HM : Hid (∃ (ys : List Vl), ys = xs) := hide ⟨_, rfl⟩
      cases b with
      | true =>
        go_upto_region 8 with (first
          | (go_at_call 47; refine (valW _ g HC.out).mono ?_; rintro e w3 ⟨r, k, rfl, hk0, hk1, hc1, hg1⟩; have hs9 := hg1.size; have HCa := hide hc1; have HOa := hide (HO.out.grownP hg1 hgl); have HGa := hide (grownBy_trans HG.out hg1); clear hc1 hg1; have HX := hide ((Below.refl w3.heap.size w3).alloc (Nat.le_refl _) (.cells #[.bool r, .int .i64 k] 48)); have hsX := HX.out.size; have HCb := hide (HCa.out.alloc (.cells #[.bool r, .int .i64 k] 48)); have HGb := hide (grown_step HGa.out (World.grownBy_alloc w3 (.cells #[.bool r, .int .i64 k] 48) (some g)) (fun q hq => by cases hq; exact Or.inl rfl)); have hown := hide (OwnDL.cons ((HOa.out.up (by omega)).below HX.out) (ownDL_nil _ w3.heap.size w3.heap.size) (by omega) (Nat.le_refl _)); have hbx := hide (box_of (heap_alloc_new w3 (.cells #[.bool r, .int .i64 k] 48))).1)
          | (at_builtin; refine appL rfl _ _ 26 rfl w.heap.size w3.heap.size w3.heap.size 48 i0 (.agg #[.bool false, .int .i64 0]) 2 16 Try.underlying26 HI.out.1 HI.out.2.1 HI.out.2.2.1 HI.out.2.2.2 rfl (by decide) (.slice va xs.length vc) xs.length (xs.flatMap vlD) [] [] [] [] rfl hown.out rfl _ _ [.bool r, .int .i64 k] (vlD (Vl.mk r k)) rfl hbx.out (ownDL_vals _ _ _ [.bool r, .int .i64 k]) rfl (by simp [Value.oneCell']) (by omega) (by decide) (Nat.le_refl _) (by omega) (by omega) ?_; intro g9 vc9 w9 o9 gr9 hq9; have HO9 := hide (OwnDL.mid (c1 := []) (v1 := []) o9 rfl); have HC9 := hide (HCb.out.row gr9 (fun q hq => by have := (hq9 q hq).1; omega)); have HG9 := hide (grown_step HGb.out gr9 (fun q hq => Or.inr (hq9 q hq).1)); clear o9 gr9 hq9)
          | fail)
        have hs10 := HG9.out.size
        obtain ⟨ys, hys⟩ : ∃ ys, xs ++ [Vl.mk r k] = ys := ⟨_, rfl⟩
        have hyl : xs.length + 1 = ys.length := by rw [← hys, List.length_append]; rfl
        have HYY : Hid (∀ y ∈ ys, VlG y) := hide (fun y hy => by
          rw [← hys] at hy
          rcases List.mem_append.1 hy with h | h
          · exact HY.out y h
          · rw [List.mem_singleton] at h; subst h; exact ⟨⟨by dsimp only; omega, by dsimp only; omega⟩⟩)
        have HOY : Hid (OwnD w9 w.heap.size w9.heap.size (vls ys) (.slice (some ⟨g9, 0, none⟩) ys.length vc9)) := hide (by
          rw [← hys, vls_snoc, List.length_append]
          exact HO9.out)
        have hy9 : ys.length ≤ 9 := by omega
        have HCY := HC9
        have HGY := HG9
        have hgl8 : g < w9.heap.size := by omega
        clear HO9 HC9 HG9 HO HC HG hys HM
        rw [hyl]
        clear hyl
        generalize hW : w9 = Z at *
        clear hW
        go_wp2_with fail
        refine (onceW _ g 15 (by decide) (by decide) HCY.out).mono ?_
        rintro e z1 ⟨b, rfl, hc1, hg1⟩
        have hs11 := hg1.size
        cases b with
        | false =>
          go_wp2
          go_ret
          exact ⟨ys, _, rfl, (HOY.out.grownP hg1 hgl).up hs11, hy9, HYY.out, hc1, grownBy_trans HGY.out hg1⟩
        | true =>
          have hgl7 : g < z1.heap.size := by omega
          have HG1 := hide (grownBy_trans HGY.out hg1)
          have HC1 := hide hc1
          clear hc1 hg1 HOY HCY HGY HYY
          go_wp2_with fail
          refine (belowW _ g 2 (by decide) (by decide) HC1.out).mono ?_
          rintro e z2 ⟨k2, rfl, k20, k21, hc1, hg1⟩
          have hs12 := hg1.size
          have HC2 := hide hc1
          have HG2 := hide (grownBy_trans HG1.out hg1)
          clear hc1 hg1 HC1 HG1
          obtain ⟨n9, hn9⟩ : ∃ n : Nat, (8 : Int) + k2 = (n : Int) := ⟨(8 + k2).toNat, by omega⟩
          have hw8 : IntKind.i64.wrap (8 + k2) = (n9 : Int) := by rw [IntKind.wrap_i64]; omega
          have hn8 : n9 = 8 ∨ n9 = 9 := by omega
          go_wp2_with (first
            | (at_make; refine wpList_make_full _ rfl _ _ 26 rfl w.heap.size 48 i0 (.agg #[.bool false, .int .i64 0]) 2 Try.underlying26 HI.out.1 HI.out.2.1 HI.out.2.2.1 _ _ _ _ n9 rfl rfl rfl rfl (by rw [HI.out.2.2.2]; omega) (by unfold maxLen; omega) (by omega) ?_; intro w8 ho1 hg1; have HO8 := hide ho1; have HG8 := hide hg1; clear ho1 hg1)
            | fail)
          go_ret
          have hsz8 := HG8.out.size
          refine ⟨List.replicate n9 ⟨false, 0⟩, _, rfl, ?_, by rw [List.length_replicate]; omega, fun y hy => by rw [(List.mem_replicate.1 hy).2]; exact ⟨⟨by decide, by decide⟩⟩, HC2.out.row HG8.out (fun q hq => by cases hq), grown_step HG2.out HG8.out (fun q hq => by cases hq)⟩
          have hcells : (madeCells (Value.agg #[.bool false, .int .i64 0]).cells (n9 * 2)).toList.map Dt.val = (List.replicate n9 (⟨false, 0⟩ : Vl)).flatMap vlD := by
            rcases hn8 with rfl | rfl
            · exact made8
            · exact made9
          unfold vls
          rw [List.length_replicate, ← hcells]
          refine ⟨[z2.heap.size], ⟨_, [], HO8.out, ownsL_vals _, rfl⟩, by simp, fun q hq => ?_⟩
          have hq' : q = z2.heap.size := by simpa using hq
          subst hq'
          exact (World.ownsRow.lt HO8.out _ rfl).2
      | false =>
        go_upto_region 8 with fail
        have HYY := HY
        obtain ⟨ys, hys⟩ : ∃ ys, xs = ys := ⟨_, rfl⟩
        subst hys
        have HOY := hide (HO.out.up hs2)
        have hy9 : xs.length ≤ 9 := by omega
        have HCY := HC
        have HGY := HG
        have hgl8 := hgl9
        clear HO HC HG HM
        generalize hW : w2 = Z at *
        clear hW
        go_wp2_with fail
        refine (onceW _ g 15 (by decide) (by decide) HCY.out).mono ?_
        rintro e z1 ⟨b, rfl, hc1, hg1⟩
        have hs11 := hg1.size
        cases b with
        | false =>
          go_wp2
          go_ret
          exact ⟨xs, _, rfl, (HOY.out.grownP hg1 hgl).up hs11, hy9, HYY.out, hc1, grownBy_trans HGY.out hg1⟩
        | true =>
          have hgl7 : g < z1.heap.size := by omega
          have HG1 := hide (grownBy_trans HGY.out hg1)
          have HC1 := hide hc1
          clear hc1 hg1 HOY HCY HGY HYY
          go_wp2_with fail
          refine (belowW _ g 2 (by decide) (by decide) HC1.out).mono ?_
          rintro e z2 ⟨k2, rfl, k20, k21, hc1, hg1⟩
          have hs12 := hg1.size
          have HC2 := hide hc1
          have HG2 := hide (grownBy_trans HG1.out hg1)
          clear hc1 hg1 HC1 HG1
          obtain ⟨n9, hn9⟩ : ∃ n : Nat, (8 : Int) + k2 = (n : Int) := ⟨(8 + k2).toNat, by omega⟩
          have hw8 : IntKind.i64.wrap (8 + k2) = (n9 : Int) := by rw [IntKind.wrap_i64]; omega
          have hn8 : n9 = 8 ∨ n9 = 9 := by omega
          go_wp2_with (first
            | (at_make; refine wpList_make_full _ rfl _ _ 26 rfl w.heap.size 48 i0 (.agg #[.bool false, .int .i64 0]) 2 Try.underlying26 HI.out.1 HI.out.2.1 HI.out.2.2.1 _ _ _ _ n9 rfl rfl rfl rfl (by rw [HI.out.2.2.2]; omega) (by unfold maxLen; omega) (by omega) ?_; intro w8 ho1 hg1; have HO8 := hide ho1; have HG8 := hide hg1; clear ho1 hg1)
            | fail)
          go_ret
          have hsz8 := HG8.out.size
          refine ⟨List.replicate n9 ⟨false, 0⟩, _, rfl, ?_, by rw [List.length_replicate]; omega, fun y hy => by rw [(List.mem_replicate.1 hy).2]; exact ⟨⟨by decide, by decide⟩⟩, HC2.out.row HG8.out (fun q hq => by cases hq), grown_step HG2.out HG8.out (fun q hq => by cases hq)⟩
          have hcells : (madeCells (Value.agg #[.bool false, .int .i64 0]).cells (n9 * 2)).toList.map Dt.val = (List.replicate n9 (⟨false, 0⟩ : Vl)).flatMap vlD := by
            rcases hn8 with rfl | rfl
            · exact made8
            · exact made9
          unfold vls
          rw [List.length_replicate, ← hcells]
          refine ⟨[z2.heap.size], ⟨_, [], HO8.out, ownsL_vals _, rfl⟩, by simp, fun q hq => ?_⟩
          have hq' : q = z2.heap.size := by simpa using hq
          subst hq'
          exact (World.ownsRow.lt HO8.out _ rfl).2
set_option maxRecDepth 100000 in
set_option maxHeartbeats 8000000 in
theorem cels3 (w : World) (g : Nat) (hc : CurW w g) :
    Calls Try.prog 48 #[.pointer (some ⟨g, 0, none⟩)] w fun e w' => ∃ xs v, e = .returned v ∧ OwnD w' w.heap.size w'.heap.size (cels xs) v ∧ xs.length ≤ 4 ∧ (∀ y ∈ xs, CelG y) ∧ CurW w' g ∧ w.grownBy w' (some g) := by
  have hgl := hc.lt
  have HC := hide (hc.alloc (.cells #[] 50))
  have HO := hide (ownD_zero w 50 3)
  have HG := hide (World.grownBy_alloc w (.cells #[] 50) (some g))
  clear hc
  obtain ⟨i0, hi, hz0, hz1, hz2⟩ := info_parts Try.infoCel
  have HI := hide (And.intro hi (And.intro hz0 (And.intro hz1 hz2)))
  clear hi hz0 hz1 hz2
  go_enter Try.func48, Try.ntmps48
  go_upto_region 2 with fail
  have hw1 : w.heap.size ≤ (w.alloc (.cells #[] 50)).heap.size := by simp
  generalize w.alloc (.cells #[] 50) = W1 at *
  go_wp2
  go_loopw [3, 4] (fun out i wr => ∃ (j : Nat) (xs : List Cel) (va : Option Addr) (vc : Nat), out = .slice va xs.length vc ∧ i = .int .i64 (j : Int) ∧ xs.length ≤ j ∧ j ≤ 4 ∧ Hid (∀ y ∈ xs, CelG y) ∧ Hid (OwnD wr w.heap.size wr.heap.size (cels xs) (.slice va xs.length vc)) ∧ Hid (CurW wr g) ∧ Hid (w.grownBy wr (some g))) (fun _ i _ => 4 - (intOf i).toNat)
  case atStart => exact ⟨0, [], _, _, rfl, rfl, by simp, by simp, hide (fun y hy => by simp at hy), HO, HC, HG⟩
  case round =>
    clear HO HC HG
    obtain ⟨j, xs, va, vc, rfl, rfl, hxj, hj, HY, HO, HC, HG⟩ := hrel
    have hgw := HG.out.size
    by_cases hlt : j < 4
    · have hltI : (j : Int) < 4 := by omega
      go_wp2_with fail
      refine (onceW _ g 2 (by decide) (by decide) HC.out).mono ?_
      rintro e w2 ⟨b, rfl, hc1, hg1⟩
      have hs2 := hg1.size
      replace HC := hide hc1
      replace HO := hide (HO.out.grownP hg1 (by omega))
      replace HG := hide (grownBy_trans HG.out hg1)
      clear hc1 hg1
      cases b with
      | true =>
        go_wp2_with (first
          | (go_at_call 47; refine (valW _ g HC.out).mono ?_; rintro e w3 ⟨r, k, rfl, hk0, hk1, hc1, hg1⟩; have hs9 := hg1.size; have HCa := hide hc1; have HOa := hide (HO.out.grownP hg1 hgl); have HGa := hide (grownBy_trans HG.out hg1); clear hc1 hg1; have HX := hide ((Below.refl w3.heap.size w3).alloc (Nat.le_refl _) (.cells #[.int .i64 (j : Int), .bool r, .int .i64 k] 50)); have hsX := HX.out.size; have HCb := hide (HCa.out.alloc (.cells #[.int .i64 (j : Int), .bool r, .int .i64 k] 50)); have HGb := hide (grown_step HGa.out (World.grownBy_alloc w3 (.cells #[.int .i64 (j : Int), .bool r, .int .i64 k] 50) (some g)) (fun q hq => by cases hq; exact Or.inl rfl)); have hown := hide (OwnDL.cons ((HOa.out.up (by omega)).below HX.out) (ownDL_nil _ w3.heap.size w3.heap.size) (by omega) (Nat.le_refl _)); have hbx := hide (box_of (heap_alloc_new w3 (.cells #[.int .i64 (j : Int), .bool r, .int .i64 k] 50))).1)
          | (at_builtin; refine appL rfl _ _ 24 rfl w.heap.size w3.heap.size w3.heap.size 50 i0 (.agg #[.int .i64 0, .bool false, .int .i64 0]) 3 24 Try.underlying24 HI.out.1 HI.out.2.1 HI.out.2.2.1 HI.out.2.2.2 rfl (by decide) (.slice va xs.length vc) xs.length (xs.flatMap celD) [] [] [] [] rfl hown.out rfl _ _ [.int .i64 (j : Int), .bool r, .int .i64 k] (celD (Cel.mk (j : Int) r k)) rfl hbx.out (ownDL_vals _ _ _ [.int .i64 (j : Int), .bool r, .int .i64 k]) rfl (by simp [Value.oneCell']) (by omega) (by decide) (Nat.le_refl _) (by omega) (by omega) ?_; intro g9 vc9 w9 o9 gr9 hq9; have HO9 := hide (OwnDL.mid (c1 := []) (v1 := []) o9 rfl); have HC9 := hide (HCb.out.row gr9 (fun q hq => by have := (hq9 q hq).1; omega)); have HG9 := hide (grown_step HGb.out gr9 (fun q hq => Or.inr (hq9 q hq).1)); clear o9 gr9 hq9)
          | fail)
        refine ⟨⟨j + 1, xs ++ [Cel.mk (j : Int) r k], some ⟨g9, 0, none⟩, vc9, ?_, ?_, ?_, by omega, hide ?_, hide ?_, HC9, HG9⟩, ?_⟩
        · rw [List.length_append]; rfl
        · go_num
        · rw [List.length_append]; simp only [List.length_cons, List.length_nil]; omega
        · intro y hy
          rcases List.mem_append.1 hy with h | h
          · exact HY.out y h
          · rw [List.mem_singleton] at h; subst h; exact ⟨⟨by dsimp only; omega, by dsimp only; omega⟩, ⟨by dsimp only; omega, by dsimp only; omega⟩⟩
        · rw [cels_snocG, List.length_append]
          exact HO9.out
        · simp [intOf]; omega
      | false =>
        go_wp2
        exact ⟨⟨j + 1, xs, va, vc, rfl, by go_num, by omega, by omega, HY, hide (HO.out.up hs2), HC, HG⟩, by simp [intOf]; omega⟩
    · have hnl : ¬ (j : Int) < 4 := by omega
      go_wp2
      go_ret
      exact ⟨xs, _, rfl, HO.out, by omega, HY.out, HC.out, HG.out⟩
set_option maxRecDepth 100000 in
set_option maxHeartbeats 8000000 in
theorem cels21 (w : World) (g : Nat) (hc : CurW w g) :
    Calls Try.prog 42 #[.pointer (some ⟨g, 0, none⟩)] w fun e w' => ∃ xs v, e = .returned v ∧ OwnD w' w.heap.size w'.heap.size (cels xs) v ∧ xs.length ≤ 5 ∧ (∀ y ∈ xs, CelG y) ∧ CurW w' g ∧ w.grownBy w' (some g) := by
  have hgl := hc.lt
  obtain ⟨i0, hi, hz0, hz1, hz2⟩ := info_parts Try.infoCel
  have HI := hide (And.intro hi (And.intro hz0 (And.intro hz1 hz2)))
  clear hi hz0 hz1 hz2
  go_enter Try.func42, Try.ntmps42
  go_wp2_with fail
  refine (cels3 _ g hc).mono ?_
  rintro e wr ⟨xs, v, rfl, o1, hxl, hy1, hc1, hg1⟩
  obtain ⟨va, vc, ev⟩ := o1.shape
  subst ev
  have HO := hide o1
  have HC := hide hc1
  have HG := hide hg1
  have HY := hide hy1
  have hgw := hg1.size
  clear o1 hc1 hg1 hy1 hc
  go_wp2_with fail
  refine (onceW _ g 6 (by decide) (by decide) HC.out).mono ?_
  rintro e w2 ⟨b, rfl, hc1, hg1⟩
  have hs2 := hg1.size
  replace HC := hide hc1
  replace HO := hide (HO.out.grownP hg1 (by omega))
  replace HG := hide (grownBy_trans HG.out hg1)
  clear hc1 hg1
  cases b with
  | true =>
    go_wp2_with (first
      | (go_at_call 49; refine (pickW _ g w2.heap.size 3 [-1, 0, 9] rfl (by decide) (by decide) (by omega) (HC.out.alloc _) (heap_alloc_new w2 _)).mono ?_; rintro e w4 ⟨k, rfl, hk, hc1, hg2⟩; have hg1 := alloc_grown hg2; have hs9 := hg1.size; have HCa := hide hc1; have HOa := hide (HO.out.grownP hg1 hgl); have HGa := hide (grownBy_trans HG.out hg1); have HK := hide hk; clear hc1 hg1 hg2 hk; have HX := hide ((Below.refl w4.heap.size w4).alloc (Nat.le_refl _) (.cells #[.int .i64 k, .bool false, .int .i64 5] 50)); have hsX := HX.out.size; have HCb := hide (HCa.out.alloc (.cells #[.int .i64 k, .bool false, .int .i64 5] 50)); have HGb := hide (grown_step HGa.out (World.grownBy_alloc w4 (.cells #[.int .i64 k, .bool false, .int .i64 5] 50) (some g)) (fun q hq => by cases hq; exact Or.inl rfl)); have hown := hide (OwnDL.cons ((HOa.out.up (by omega)).below HX.out) (ownDL_nil _ w4.heap.size w4.heap.size) (by omega) (Nat.le_refl _)); have hbx := hide (box_of (heap_alloc_new w4 (.cells #[.int .i64 k, .bool false, .int .i64 5] 50))).1)
      | (at_builtin; refine appL rfl _ _ 24 rfl w.heap.size w4.heap.size w4.heap.size 50 i0 (.agg #[.int .i64 0, .bool false, .int .i64 0]) 3 24 Try.underlying24 HI.out.1 HI.out.2.1 HI.out.2.2.1 HI.out.2.2.2 rfl (by decide) (.slice va xs.length vc) xs.length (xs.flatMap celD) [] [] [] [] rfl hown.out rfl _ _ [.int .i64 k, .bool false, .int .i64 5] (celD (Cel.mk k false 5)) rfl hbx.out (ownDL_vals _ _ _ [.int .i64 k, .bool false, .int .i64 5]) rfl (by simp [Value.oneCell']) (by omega) (by decide) (Nat.le_refl _) (by omega) (by omega) ?_; intro g9 vc9 w9 o9 gr9 hq9; have HO9 := hide (OwnDL.mid (c1 := []) (v1 := []) o9 rfl); have HC9 := hide (HCb.out.row gr9 (fun q hq => by have := (hq9 q hq).1; omega)); have HG9 := hide (grown_step HGb.out gr9 (fun q hq => Or.inr (hq9 q hq).1)); clear o9 gr9 hq9)
      | fail)
    go_ret
    refine ⟨xs ++ [Cel.mk k false 5], _, rfl, ?_, ?_, ?_, HC9.out, HG9.out⟩
    · rw [cels_snocG]
      exact HO9.out
    · rw [List.length_append]; simp only [List.length_cons, List.length_nil]; omega
    · intro y hy
      rcases List.mem_append.1 hy with h | h
      · exact HY.out y h
      · rw [List.mem_singleton] at h
        subst h
        have h3 := HK.out
        simp at h3
        exact ⟨⟨by dsimp only; omega, by dsimp only; omega⟩, ⟨by dsimp only; omega, by dsimp only; omega⟩⟩
  | false =>
    go_wp2
    go_ret
    exact ⟨xs, _, rfl, HO.out.up hs2, by omega, HY.out, HC.out, HG.out⟩
set_option maxRecDepth 100000 in
set_option maxHeartbeats 8000000 in
theorem drawDiff (w : World) (a : Option Addr) (len cap : Nat) (zs : List Int) (hin : In w w.heap.size a len zs) :
    Calls Try.prog 24 #[.slice a len cap] w fun e w' => ∃ xs ys v1 v2, e = .returned (.tuple #[v1, v2]) ∧ Reads w' w'.heap.size (vls xs) v1 ∧ Reads w' w'.heap.size (vls ys) v2 ∧ xs.length ≤ 9 ∧ ys.length ≤ 9 ∧ (∀ y ∈ xs, VlG y) ∧ (∀ y ∈ ys, VlG y) ∧ Below w.heap.size w w' := by
  go_enter Try.func24, Try.ntmps24
  go_wp2_with fail
  refine (newDraw _ a len cap zs hin).mono ?_
  rintro e w1 ⟨rfl, hc1, b1⟩
  have HC := hide (show CurW w1 w.heap.size from ⟨_, _, hc1⟩)
  clear hc1
  go_wp2_with fail
  refine (valsD _ _ HC.out).mono ?_
  rintro e w2 ⟨xs, v, rfl, o2, hl1, hy1, hc2, hg2⟩
  obtain ⟨va, vc, ev⟩ := o2.shape
  subst ev
  have HO := hide o2
  have HB := hide (b1.grown hg2 b1.size (fun k hk => by cases hk; exact Nat.le_refl _))
  have hgl := HC.out.lt
  have hsz := hg2.size
  clear o2 hg2 b1 HC
  go_wp2_with fail
  refine (valsD _ _ hc2).mono ?_
  rintro e w3 ⟨ys, v, rfl, o3, hl2, hy2, hc3, hg3⟩
  obtain ⟨vb, vd, ev⟩ := o3.shape
  subst ev
  have hs3 := hg3.size
  have HO2 := hide (o3.rd (Nat.le_refl _))
  have HO1 := hide (show Reads w3 w3.heap.size (vls xs) (.slice va xs.length vc) from ((HO.out.grownP hg3 hgl).up hs3).rd (Nat.le_refl _))
  have HB2 := hide (HB.out.grown hg3 HB.out.size (fun k hk => by cases hk; exact Nat.le_refl _))
  clear o3 hg3 hc3 hc2 HO HB
  go_wp2
  go_ret2
  exact ⟨xs, ys, _, _, rfl, HO1.out, HO2.out, hl1, hl2, hy1, hy2, HB2.out⟩
set_option maxRecDepth 100000 in
set_option maxHeartbeats 8000000 in
theorem drawPatch (w : World) (a : Option Addr) (len cap : Nat) (zs : List Int) (hin : In w w.heap.size a len zs) :
    Calls Try.prog 25 #[.slice a len cap] w fun e w' => ∃ xs ys v1 v2, e = .returned (.tuple #[v1, v2]) ∧ Reads w' w'.heap.size (vls xs) v1 ∧ Reads w' w'.heap.size (cels ys) v2 ∧ xs.length ≤ 9 ∧ ys.length ≤ 5 ∧ (∀ y ∈ xs, VlG y) ∧ (∀ y ∈ ys, CelG y) ∧ Below w.heap.size w w' := by
  go_enter Try.func25, Try.ntmps25
  go_wp2_with fail
  refine (newDraw _ a len cap zs hin).mono ?_
  rintro e w1 ⟨rfl, hc1, b1⟩
  have HC := hide (show CurW w1 w.heap.size from ⟨_, _, hc1⟩)
  clear hc1
  go_wp2_with fail
  refine (valsD _ _ HC.out).mono ?_
  rintro e w2 ⟨xs, v, rfl, o2, hl1, hy1, hc2, hg2⟩
  obtain ⟨va, vc, ev⟩ := o2.shape
  subst ev
  have HO := hide o2
  have HB := hide (b1.grown hg2 b1.size (fun k hk => by cases hk; exact Nat.le_refl _))
  have hgl := HC.out.lt
  have hsz := hg2.size
  clear o2 hg2 b1 HC
  go_wp2_with fail
  refine (cels21 _ _ hc2).mono ?_
  rintro e w3 ⟨ys, v, rfl, o3, hl2, hy2, hc3, hg3⟩
  obtain ⟨vb, vd, ev⟩ := o3.shape
  subst ev
  have hs3 := hg3.size
  have HO2 := hide (o3.rd (Nat.le_refl _))
  have HO1 := hide (show Reads w3 w3.heap.size (vls xs) (.slice va xs.length vc) from ((HO.out.grownP hg3 hgl).up hs3).rd (Nat.le_refl _))
  have HB2 := hide (HB.out.grown hg3 HB.out.size (fun k hk => by cases hk; exact Nat.le_refl _))
  clear o3 hg3 hc3 hc2 HO HB
  go_wp2
  go_ret2
  exact ⟨xs, ys, _, _, rfl, HO1.out, HO2.out, hl1, hl2, hy1, hy2, HB2.out⟩
set_option maxRecDepth 100000 in
set_option maxHeartbeats 8000000 in
theorem drawApart (w : World) (a : Option Addr) (len cap : Nat) (zs : List Int) (hin : In w w.heap.size a len zs) :
    Calls Try.prog 26 #[.slice a len cap] w fun e w' => ∃ xs ys v1 v2, e = .returned (.tuple #[v1, v2]) ∧ Reads w' w'.heap.size (cels xs) v1 ∧ Reads w' w'.heap.size (cels ys) v2 ∧ xs.length ≤ 5 ∧ ys.length ≤ 5 ∧ (∀ y ∈ xs, CelG y) ∧ (∀ y ∈ ys, CelG y) ∧ Below w.heap.size w w' := by
  go_enter Try.func26, Try.ntmps26
  go_wp2_with fail
  refine (newDraw _ a len cap zs hin).mono ?_
  rintro e w1 ⟨rfl, hc1, b1⟩
  have HC := hide (show CurW w1 w.heap.size from ⟨_, _, hc1⟩)
  clear hc1
  go_wp2_with fail
  refine (cels21 _ _ HC.out).mono ?_
  rintro e w2 ⟨xs, v, rfl, o2, hl1, hy1, hc2, hg2⟩
  obtain ⟨va, vc, ev⟩ := o2.shape
  subst ev
  have HO := hide o2
  have HB := hide (b1.grown hg2 b1.size (fun k hk => by cases hk; exact Nat.le_refl _))
  have hgl := HC.out.lt
  have hsz := hg2.size
  clear o2 hg2 b1 HC
  go_wp2_with fail
  refine (cels21 _ _ hc2).mono ?_
  rintro e w3 ⟨ys, v, rfl, o3, hl2, hy2, hc3, hg3⟩
  obtain ⟨vb, vd, ev⟩ := o3.shape
  subst ev
  have hs3 := hg3.size
  have HO2 := hide (o3.rd (Nat.le_refl _))
  have HO1 := hide (show Reads w3 w3.heap.size (cels xs) (.slice va xs.length vc) from ((HO.out.grownP hg3 hgl).up hs3).rd (Nat.le_refl _))
  have HB2 := hide (HB.out.grown hg3 HB.out.size (fun k hk => by cases hk; exact Nat.le_refl _))
  clear o3 hg3 hc3 hc2 HO HB
  go_wp2
  go_ret2
  exact ⟨xs, ys, _, _, rfl, HO1.out, HO2.out, hl1, hl2, hy1, hy2, HB2.out⟩
end Go.Proofs.Ytabeeppfgkeahaa
