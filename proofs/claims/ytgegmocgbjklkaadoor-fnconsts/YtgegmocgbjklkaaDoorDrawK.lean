/-
  What is drawn of consts: some const with short names.
-/
import Derived.Test.YtgegmocgbjklkaaDoorDrawW
import Derived.Test.YtgegmocgbjklkaaDoorTakeK
import Derived.Deep.CutRange
namespace Go.Proofs.YtgegmocgbjklkaaDoor
open Go.RowKit Go.Maps

set_option maxRecDepth 100000 in
set_option maxHeartbeats 2000000 in
theorem nameW (w : World) (g : Nat) (hc : CurW w g) :
    Calls Tryd.prog 48 #[.pointer (some ⟨g, 0, none⟩)] w fun e w' => ∃ s, e = .returned (.string s) ∧ s.size ≤ 200 ∧ CurW w' g ∧ w.grownBy w' (some g) := by
  have HC := hide hc
  clear hc
  go_enter Tryd.func48, Tryd.ntmps48
  go_wp2_with fail
  refine (pickTextW _ _ _ 8 [⟨#[77, 97, 105, 110]⟩, ⟨#[87, 111, 114, 107]⟩, ⟨#[67, 101, 108, 108]⟩, ⟨#[114, 117, 110]⟩, ⟨#[110]⟩, ⟨#[110, 101, 120, 116]⟩, ⟨#[97, 100, 100]⟩, ⟨#[103, 101, 116]⟩] rfl (by omega) (by omega) HC.out.lt (HC.out.alloc _) (heap_alloc_new w _)).mono ?_
  rintro e w1 ⟨s, rfl, hk, hc1, hg1⟩
  have hb : s.size ≤ 200 := by
    simp only [List.mem_cons, List.not_mem_nil, or_false] at hk
    rcases hk with rfl | rfl | rfl | rfl | rfl | rfl | rfl | rfl <;> simp [ByteArray.size]
  have HG := hide (alloc_grown hg1)
  have HC1 := hide hc1
  clear hk hc1 hg1
  go_wp2
  go_ret
  exact ⟨s, rfl, hb, HC1.out, HG.out⟩
theorem putat {w : World} {g : Nat} {T : TypeId} {xs : Array Value} (h : w.heap[g]? = some (.cells xs T (0, 0))) (o : Nat) (v : Value) : (w.setCell ⟨g, o, none⟩ v).heap[g]? = some (.cells (xs.setIfInBounds o v) T (0, 0)) := heap_setCell_same w g o _ T v h

set_option maxRecDepth 100000 in
set_option maxHeartbeats 4000000 in
theorem rightK (w : World) (g : Nat) (hc : CurW w g) :
    Calls Tryd.prog 31 #[.pointer (some ⟨g, 0, none⟩)] w fun e w' => ∃ k n a b, e = .returned (constV k n a b) ∧ (a.size ≤ 200 ∧ b.size ≤ 200) ∧ CurW w' g ∧ w.grownBy w' (some g) := by
  have h00 : noS.size ≤ 200 := by simp [ByteArray.size]
  have hgl := hc.lt
  have HC := hide (hc.alloc (.cells #[.int .i64 0, .int .i64 0, .string noS, .string noS] 25))
  have E0 := hide (heap_alloc_new w (.cells #[.int .i64 0, .int .i64 0, .string noS, .string noS] 25))
  have HG := hide (World.grownBy_alloc w (.cells #[.int .i64 0, .int .i64 0, .string noS, .string noS] 25) (some g))
  clear hc
  go_enter Tryd.func31, Tryd.ntmps31
  go_wp2_with fail
  refine (belowW _ _ _ (by omega) (by omega) HC.out).mono ?_
  rintro e w1 ⟨k, rfl, k0, k1, hc, hg⟩
  replace E0 := hide ((hg.block w.heap.size (Array.getElem?_eq_some_iff.1 E0.out).1 (fun e => by simp only [Option.some.injEq] at e; omega)).trans E0.out)
  replace HG := hide (grown_step HG.out hg same_g)
  replace HC := hide hc
  clear hc hg
  by_cases e0 : k = 0
  · subst e0
    go_wp2_with fail
    refine (wordW _ _ HC.out).mono ?_
    rintro e w2 ⟨x, rfl, _, _, hc, hg⟩
    replace E0 := hide ((hg.block w.heap.size (Array.getElem?_eq_some_iff.1 E0.out).1 (fun e => by simp only [Option.some.injEq] at e; omega)).trans E0.out)
    replace HG := hide (grown_step HG.out hg same_g)
    replace HC := hide hc
    clear hc hg
    have X := box_of E0.out
    have HX := hide X.1
    have zz := X.2
    have p0 := HX.out 0 _ rfl
    have p1 := HX.out 1 _ rfl
    have p2 := HX.out 2 _ rfl
    have p3 := HX.out 3 _ rfl
    clear X
    go_wp2
    exact bodyPost_ret (v := constV 1 x noS noS) (results_one Tryd.results31 _ _ _ rfl (loadK (put4 E0.out _ _ _ _))) rfl ⟨_, _, _, _, rfl, ⟨h00, h00⟩, (((HC.out.mine hgl _ _).mine hgl _ _).mine hgl _ _).mine hgl _ _, grown_mine (grown_mine (grown_mine (grown_mine HG.out (Nat.le_refl _) _ _) (Nat.le_refl _) _ _) (Nat.le_refl _) _ _) (Nat.le_refl _) _ _⟩
  · have f0 : (k == 0) = false := by simpa using e0
    by_cases e1 : k = 1
    · subst e1
      go_wp2_with fail
      refine (nameW _ _ HC.out).mono ?_
      rintro e w2 ⟨s, rfl, hs, hc, hg⟩
      replace E0 := hide ((hg.block w.heap.size (Array.getElem?_eq_some_iff.1 E0.out).1 (fun e => by simp only [Option.some.injEq] at e; omega)).trans E0.out)
      replace HG := hide (grown_step HG.out hg same_g)
      replace HC := hide hc
      clear hc hg
      have X := box_of E0.out
      have HX := hide X.1
      have zz := X.2
      have p0 := HX.out 0 _ rfl
      have p1 := HX.out 1 _ rfl
      have p2 := HX.out 2 _ rfl
      have p3 := HX.out 3 _ rfl
      clear X
      go_wp2
      exact bodyPost_ret (v := constV 2 0 s noS) (results_one Tryd.results31 _ _ _ rfl (loadK (put4 E0.out _ _ _ _))) rfl ⟨_, _, _, _, rfl, ⟨hs, h00⟩, (((HC.out.mine hgl _ _).mine hgl _ _).mine hgl _ _).mine hgl _ _, grown_mine (grown_mine (grown_mine (grown_mine HG.out (Nat.le_refl _) _ _) (Nat.le_refl _) _ _) (Nat.le_refl _) _ _) (Nat.le_refl _) _ _⟩
    · have f1 : (k == 1) = false := by simpa using e1
      go_wp2_with fail
      refine (belowW _ _ _ (by omega) (by omega) HC.out).mono ?_
      rintro e w2 ⟨y, rfl, y0, y1, hc, hg⟩
      replace E0 := hide ((hg.block w.heap.size (Array.getElem?_eq_some_iff.1 E0.out).1 (fun e => by simp only [Option.some.injEq] at e; omega)).trans E0.out)
      replace HG := hide (grown_step HG.out hg same_g)
      replace HC := hide hc
      clear hc hg
      go_wp2_with fail
      refine (nameW _ _ HC.out).mono ?_
      rintro e w3 ⟨s, rfl, hs, hc, hg⟩
      replace E0 := hide ((hg.block w.heap.size (Array.getElem?_eq_some_iff.1 E0.out).1 (fun e => by simp only [Option.some.injEq] at e; omega)).trans E0.out)
      replace HG := hide (grown_step HG.out hg same_g)
      replace HC := hide hc
      clear hc hg
      go_wp2_with fail
      refine (nameW _ _ HC.out).mono ?_
      rintro e w4 ⟨u, rfl, hu, hc, hg⟩
      replace E0 := hide ((hg.block w.heap.size (Array.getElem?_eq_some_iff.1 E0.out).1 (fun e => by simp only [Option.some.injEq] at e; omega)).trans E0.out)
      replace HG := hide (grown_step HG.out hg same_g)
      replace HC := hide hc
      clear hc hg
      have X := box_of E0.out
      have HX := hide X.1
      have zz := X.2
      have p0 := HX.out 0 _ rfl
      have p1 := HX.out 1 _ rfl
      have p2 := HX.out 2 _ rfl
      have p3 := HX.out 3 _ rfl
      clear X
      go_wp2
      exact bodyPost_ret (v := constV (3 + y) 0 s u) (results_one Tryd.results31 _ _ _ rfl (loadK (put4 E0.out _ _ _ _))) rfl ⟨_, _, _, _, rfl, ⟨hs, hu⟩, (((HC.out.mine hgl _ _).mine hgl _ _).mine hgl _ _).mine hgl _ _, grown_mine (grown_mine (grown_mine (grown_mine HG.out (Nat.le_refl _) _ _) (Nat.le_refl _) _ _) (Nat.le_refl _) _ _) (Nat.le_refl _) _ _⟩

set_option maxRecDepth 100000 in
set_option maxHeartbeats 4000000 in
theorem drawK (w : World) (g : Nat) (hc : CurW w g) :
    Calls Tryd.prog 19 #[.pointer (some ⟨g, 0, none⟩)] w fun e w' => ∃ k n a b, e = .returned (constV k n a b) ∧ (a.size ≤ 200 ∧ b.size ≤ 200) ∧ CurW w' g ∧ w.grownBy w' (some g) := by
  have hgl := hc.lt
  have HC := hide (hc.alloc (.cells #[.int .i64 0, .int .i64 0, .string noS, .string noS] 25))
  have E0 := hide (heap_alloc_new w (.cells #[.int .i64 0, .int .i64 0, .string noS, .string noS] 25))
  have HG := hide (World.grownBy_alloc w (.cells #[.int .i64 0, .int .i64 0, .string noS, .string noS] 25) (some g))
  clear hc
  go_enter Tryd.func19, Tryd.ntmps19
  go_wp2_with fail
  refine (rightK _ _ HC.out).mono ?_
  rintro e w1 ⟨k, n, a, b, rfl, hab, hc, hg⟩
  replace E0 := hide ((hg.block w.heap.size (Array.getElem?_eq_some_iff.1 E0.out).1 (fun e => by simp only [Option.some.injEq] at e; omega)).trans E0.out)
  replace HG := hide (grown_step HG.out hg same_g)
  replace HC := hide hc
  clear hc hg
  unfold constV
  have hs1 : w.heap.size < w1.heap.size := (Array.getElem?_eq_some_iff.1 E0.out).1
  have E1 := hide (heap_alloc_new w1 (.cells #[.int .i64 k, .int .i64 n, .string a, .string b] 25))
  replace E0 := hide ((Below.heap_alloc w1 (.cells #[.int .i64 k, .int .i64 n, .string a, .string b] 25) _ hs1).trans E0.out)
  replace HC := hide (HC.out.alloc (.cells #[.int .i64 k, .int .i64 n, .string a, .string b] 25))
  replace HG := hide (grown_step HG.out (World.grownBy_alloc w1 (.cells #[.int .i64 k, .int .i64 n, .string a, .string b] 25) none) (fun k hk => by cases hk))
  go_upto_region 2 with fail
  generalize w1.alloc (.cells #[.int .i64 k, .int .i64 n, .string a, .string b] 25) = W1 at *
  go_wp2_with fail
  refine (belowW _ _ _ (by omega) (by omega) HC.out).mono ?_
  rintro e w2 ⟨c, rfl, c0, c1, hc, hg⟩
  replace E0 := hide ((hg.block w.heap.size (Array.getElem?_eq_some_iff.1 E0.out).1 (fun e => by simp only [Option.some.injEq] at e; omega)).trans E0.out)
  replace E1 := hide ((hg.block w1.heap.size (Array.getElem?_eq_some_iff.1 E1.out).1 (fun e => by simp only [Option.some.injEq] at e; omega)).trans E1.out)
  replace HG := hide (grown_step HG.out hg same_g)
  replace HC := hide hc
  clear hc hg
  by_cases e0 : c = 0
  · subst e0
    go_wp2_with fail
    refine (belowW _ _ _ (by omega) (by omega) HC.out).mono ?_
    rintro e w3 ⟨x, rfl, x0, x1, hc, hg⟩
    replace E0 := hide ((hg.block w.heap.size (Array.getElem?_eq_some_iff.1 E0.out).1 (fun e => by simp only [Option.some.injEq] at e; omega)).trans E0.out)
    replace E1 := hide ((hg.block w1.heap.size (Array.getElem?_eq_some_iff.1 E1.out).1 (fun e => by simp only [Option.some.injEq] at e; omega)).trans E1.out)
    replace HG := hide (grown_step HG.out hg same_g)
    replace HC := hide hc
    clear hc hg
    have HX1 := hide (box_of E1.out).1
    have z1 := (box_of E1.out).2
    have r0 := HX1.out 0 _ rfl
    have r1 := HX1.out 1 _ rfl
    have r2 := HX1.out 2 _ rfl
    have r3 := HX1.out 3 _ rfl
    go_upto_region 11 with fail
    clear r0 r1 r2 r3 HX1 z1
    replace E1 := hide (putat E1.out 0 (.int .i64 (x - 1)))
    replace E0 := hide (placeSet (o := 0) (l := w1.heap.size) E0.out (by omega) (.int .i64 (x - 1)))
    replace HC := hide (HC.out.mine (l := w1.heap.size) (by omega) 0 (.int .i64 (x - 1)))
    replace HG := hide (grown_mine HG.out (l := w1.heap.size) (by omega) 0 (.int .i64 (x - 1)))
    generalize w3.setCell ⟨w1.heap.size, 0, none⟩ (.int .i64 (x - 1)) = W3 at *
    replace E1 : Hid (W3.heap[w1.heap.size]? = some (.cells #[.int .i64 (x - 1), .int .i64 n, .string a, .string b] 25 (0, 0))) := E1
    have HX1 := hide (box_of E1.out).1
    have r0 := HX1.out 0 _ rfl
    have r1 := HX1.out 1 _ rfl
    have r2 := HX1.out 2 _ rfl
    have r3 := HX1.out 3 _ rfl
    have X := box_of E0.out
    have HX := hide X.1
    have zz := X.2
    have p0 := HX.out 0 _ rfl
    have p1 := HX.out 1 _ rfl
    have p2 := HX.out 2 _ rfl
    have p3 := HX.out 3 _ rfl
    clear X
    go_wp2
    exact bodyPost_ret (v := constV (x - 1) n a b) (results_one Tryd.results19 _ _ _ rfl (loadK (put4 E0.out _ _ _ _))) rfl ⟨_, _, _, _, rfl, hab, (((HC.out.mine hgl _ _).mine hgl _ _).mine hgl _ _).mine hgl _ _, grown_mine (grown_mine (grown_mine (grown_mine HG.out (Nat.le_refl _) _ _) (Nat.le_refl _) _ _) (Nat.le_refl _) _ _) (Nat.le_refl _) _ _⟩
  · have f0 : (c == 0) = false := by simpa using e0
    by_cases e1 : c = 1
    · subst e1
      go_wp2_with fail
      refine (pickW _ _ _ 3 [0, 5, 2147483648] rfl (by omega) (by omega) HC.out.lt (HC.out.alloc _) (heap_alloc_new w2 _)).mono ?_
      rintro e w3 ⟨x, rfl, _, hc, hg0⟩
      have hg := alloc_grown hg0
      clear hg0
      replace E0 := hide ((hg.block w.heap.size (Array.getElem?_eq_some_iff.1 E0.out).1 (fun e => by simp only [Option.some.injEq] at e; omega)).trans E0.out)
      replace E1 := hide ((hg.block w1.heap.size (Array.getElem?_eq_some_iff.1 E1.out).1 (fun e => by simp only [Option.some.injEq] at e; omega)).trans E1.out)
      replace HG := hide (grown_step HG.out hg same_g)
      replace HC := hide hc
      clear hc hg
      have HX1 := hide (box_of E1.out).1
      have z1 := (box_of E1.out).2
      have r0 := HX1.out 0 _ rfl
      have r1 := HX1.out 1 _ rfl
      have r2 := HX1.out 2 _ rfl
      have r3 := HX1.out 3 _ rfl
      go_upto_region 11 with fail
      clear r0 r1 r2 r3 HX1 z1
      replace E1 := hide (putat E1.out 1 (.int .i64 x))
      replace E0 := hide (placeSet (o := 1) (l := w1.heap.size) E0.out (by omega) (.int .i64 x))
      replace HC := hide (HC.out.mine (l := w1.heap.size) (by omega) 1 (.int .i64 x))
      replace HG := hide (grown_mine HG.out (l := w1.heap.size) (by omega) 1 (.int .i64 x))
      generalize w3.setCell ⟨w1.heap.size, 1, none⟩ (.int .i64 x) = W3 at *
      replace E1 : Hid (W3.heap[w1.heap.size]? = some (.cells #[.int .i64 k, .int .i64 x, .string a, .string b] 25 (0, 0))) := E1
      have HX1 := hide (box_of E1.out).1
      have r0 := HX1.out 0 _ rfl
      have r1 := HX1.out 1 _ rfl
      have r2 := HX1.out 2 _ rfl
      have r3 := HX1.out 3 _ rfl
      have X := box_of E0.out
      have HX := hide X.1
      have zz := X.2
      have p0 := HX.out 0 _ rfl
      have p1 := HX.out 1 _ rfl
      have p2 := HX.out 2 _ rfl
      have p3 := HX.out 3 _ rfl
      clear X
      go_wp2
      exact bodyPost_ret (v := constV k x a b) (results_one Tryd.results19 _ _ _ rfl (loadK (put4 E0.out _ _ _ _))) rfl ⟨_, _, _, _, rfl, hab, (((HC.out.mine hgl _ _).mine hgl _ _).mine hgl _ _).mine hgl _ _, grown_mine (grown_mine (grown_mine (grown_mine HG.out (Nat.le_refl _) _ _) (Nat.le_refl _) _ _) (Nat.le_refl _) _ _) (Nat.le_refl _) _ _⟩
    · have f1 : (c == 1) = false := by simpa using e1
      by_cases e2 : c = 2
      · subst e2
        go_wp2_with fail
        refine (pickTextW _ _ _ 5 [⟨#[]⟩, ⟨#[97, 98, 99, 100, 101, 102, 103, 104]⟩, ⟨#[97, 98, 99, 100, 101, 102, 103, 104, 105]⟩, ⟨#[97, 49]⟩, ⟨#[120]⟩] rfl (by omega) (by omega) HC.out.lt (HC.out.alloc _) (heap_alloc_new w2 _)).mono ?_
        rintro e w3 ⟨s, rfl, hm, hc, hg0⟩
        have hg := alloc_grown hg0
        clear hg0
        replace E0 := hide ((hg.block w.heap.size (Array.getElem?_eq_some_iff.1 E0.out).1 (fun e => by simp only [Option.some.injEq] at e; omega)).trans E0.out)
        replace E1 := hide ((hg.block w1.heap.size (Array.getElem?_eq_some_iff.1 E1.out).1 (fun e => by simp only [Option.some.injEq] at e; omega)).trans E1.out)
        replace HG := hide (grown_step HG.out hg same_g)
        replace HC := hide hc
        clear hc hg
        have hs : s.size ≤ 200 := by
          simp only [List.mem_cons, List.not_mem_nil, or_false] at hm
          rcases hm with rfl | rfl | rfl | rfl | rfl <;> simp [ByteArray.size]
        have HX1 := hide (box_of E1.out).1
        have z1 := (box_of E1.out).2
        have r0 := HX1.out 0 _ rfl
        have r1 := HX1.out 1 _ rfl
        have r2 := HX1.out 2 _ rfl
        have r3 := HX1.out 3 _ rfl
        go_upto_region 11 with fail
        clear r0 r1 r2 r3 HX1 z1
        replace E1 := hide (putat E1.out 2 (.string s))
        replace E0 := hide (placeSet (o := 2) (l := w1.heap.size) E0.out (by omega) (.string s))
        replace HC := hide (HC.out.mine (l := w1.heap.size) (by omega) 2 (.string s))
        replace HG := hide (grown_mine HG.out (l := w1.heap.size) (by omega) 2 (.string s))
        generalize w3.setCell ⟨w1.heap.size, 2, none⟩ (.string s) = W3 at *
        replace E1 : Hid (W3.heap[w1.heap.size]? = some (.cells #[.int .i64 k, .int .i64 n, .string s, .string b] 25 (0, 0))) := E1
        have HX1 := hide (box_of E1.out).1
        have r0 := HX1.out 0 _ rfl
        have r1 := HX1.out 1 _ rfl
        have r2 := HX1.out 2 _ rfl
        have r3 := HX1.out 3 _ rfl
        have X := box_of E0.out
        have HX := hide X.1
        have zz := X.2
        have p0 := HX.out 0 _ rfl
        have p1 := HX.out 1 _ rfl
        have p2 := HX.out 2 _ rfl
        have p3 := HX.out 3 _ rfl
        clear X
        go_wp2
        exact bodyPost_ret (v := constV k n s b) (results_one Tryd.results19 _ _ _ rfl (loadK (put4 E0.out _ _ _ _))) rfl ⟨_, _, _, _, rfl, ⟨hs, hab.2⟩, (((HC.out.mine hgl _ _).mine hgl _ _).mine hgl _ _).mine hgl _ _, grown_mine (grown_mine (grown_mine (grown_mine HG.out (Nat.le_refl _) _ _) (Nat.le_refl _) _ _) (Nat.le_refl _) _ _) (Nat.le_refl _) _ _⟩
      · have f2 : (c == 2) = false := by simpa using e2
        by_cases e3 : c = 3
        · subst e3
          go_wp2_with fail
          refine (pickTextW _ _ _ 3 [⟨#[]⟩, ⟨#[120]⟩, ⟨#[73]⟩] rfl (by omega) (by omega) HC.out.lt (HC.out.alloc _) (heap_alloc_new w2 _)).mono ?_
          rintro e w3 ⟨s, rfl, hm, hc, hg0⟩
          have hg := alloc_grown hg0
          clear hg0
          replace E0 := hide ((hg.block w.heap.size (Array.getElem?_eq_some_iff.1 E0.out).1 (fun e => by simp only [Option.some.injEq] at e; omega)).trans E0.out)
          replace E1 := hide ((hg.block w1.heap.size (Array.getElem?_eq_some_iff.1 E1.out).1 (fun e => by simp only [Option.some.injEq] at e; omega)).trans E1.out)
          replace HG := hide (grown_step HG.out hg same_g)
          replace HC := hide hc
          clear hc hg
          have hs : s.size ≤ 200 := by
            simp only [List.mem_cons, List.not_mem_nil, or_false] at hm
            rcases hm with rfl | rfl | rfl <;> simp [ByteArray.size]
          have HX1 := hide (box_of E1.out).1
          have z1 := (box_of E1.out).2
          have r0 := HX1.out 0 _ rfl
          have r1 := HX1.out 1 _ rfl
          have r2 := HX1.out 2 _ rfl
          have r3 := HX1.out 3 _ rfl
          go_upto_region 11 with fail
          clear r0 r1 r2 r3 HX1 z1
          replace E1 := hide (putat E1.out 3 (.string s))
          replace E0 := hide (placeSet (o := 3) (l := w1.heap.size) E0.out (by omega) (.string s))
          replace HC := hide (HC.out.mine (l := w1.heap.size) (by omega) 3 (.string s))
          replace HG := hide (grown_mine HG.out (l := w1.heap.size) (by omega) 3 (.string s))
          generalize w3.setCell ⟨w1.heap.size, 3, none⟩ (.string s) = W3 at *
          replace E1 : Hid (W3.heap[w1.heap.size]? = some (.cells #[.int .i64 k, .int .i64 n, .string a, .string s] 25 (0, 0))) := E1
          have HX1 := hide (box_of E1.out).1
          have r0 := HX1.out 0 _ rfl
          have r1 := HX1.out 1 _ rfl
          have r2 := HX1.out 2 _ rfl
          have r3 := HX1.out 3 _ rfl
          have X := box_of E0.out
          have HX := hide X.1
          have zz := X.2
          have p0 := HX.out 0 _ rfl
          have p1 := HX.out 1 _ rfl
          have p2 := HX.out 2 _ rfl
          have p3 := HX.out 3 _ rfl
          clear X
          go_wp2
          exact bodyPost_ret (v := constV k n a s) (results_one Tryd.results19 _ _ _ rfl (loadK (put4 E0.out _ _ _ _))) rfl ⟨_, _, _, _, rfl, ⟨hab.1, hs⟩, (((HC.out.mine hgl _ _).mine hgl _ _).mine hgl _ _).mine hgl _ _, grown_mine (grown_mine (grown_mine (grown_mine HG.out (Nat.le_refl _) _ _) (Nat.le_refl _) _ _) (Nat.le_refl _) _ _) (Nat.le_refl _) _ _⟩
        · have f3 : (c == 3) = false := by simpa using e3
          have HX1 := hide (box_of E1.out).1
          have r0 := HX1.out 0 _ rfl
          have r1 := HX1.out 1 _ rfl
          have r2 := HX1.out 2 _ rfl
          have r3 := HX1.out 3 _ rfl
          go_upto_region 11 with fail
          clear r0 r1 r2 r3 HX1
          have HX1 := hide (box_of E1.out).1
          have r0 := HX1.out 0 _ rfl
          have r1 := HX1.out 1 _ rfl
          have r2 := HX1.out 2 _ rfl
          have r3 := HX1.out 3 _ rfl
          have X := box_of E0.out
          have HX := hide X.1
          have zz := X.2
          have p0 := HX.out 0 _ rfl
          have p1 := HX.out 1 _ rfl
          have p2 := HX.out 2 _ rfl
          have p3 := HX.out 3 _ rfl
          clear X
          go_wp2
          exact bodyPost_ret (v := constV k n a b) (results_one Tryd.results19 _ _ _ rfl (loadK (put4 E0.out _ _ _ _))) rfl ⟨_, _, _, _, rfl, hab, (((HC.out.mine hgl _ _).mine hgl _ _).mine hgl _ _).mine hgl _ _, grown_mine (grown_mine (grown_mine (grown_mine HG.out (Nat.le_refl _) _ _) (Nat.le_refl _) _ _) (Nat.le_refl _) _ _) (Nat.le_refl _) _ _⟩
end Go.Proofs.YtgegmocgbjklkaaDoor
