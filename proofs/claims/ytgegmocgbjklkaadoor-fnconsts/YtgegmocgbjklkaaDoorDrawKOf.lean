/-
  What DrawConstBytes, DrawConstOk and DrawConstOf do: something is drawn, in new memory; nothing that was there is turned.
-/
import Derived.Test.YtgegmocgbjklkaaDoorDrawK
import Derived.Test.YtgegmocgbjklkaaDoorInCut
import Derived.Test.YtgegmocgbjklkaaDoorReadK
namespace Go.Proofs.YtgegmocgbjklkaaDoor
open Go.RowKit Go.Maps

theorem below_atK {w w1 w2 : World} {g : Nat} (h : Below w.heap.size w w1) (hg : w1.grownBy w2 (some g)) (hl : w.heap.size ≤ g) : Below w.heap.size w w2 := h.grown hg h.size (fun k hk => by cases hk; exact hl)
/-- A drawn const. -/
def AConst (w : World) (e : Ending) (w' : World) : Prop := ∃ k n a b, e = .returned (.agg #[.int .i64 k, .int .i64 n, .string a, .string b]) ∧ (a.size ≤ maxLen ∧ b.size ≤ maxLen) ∧ Below w.heap.size w w'
theorem small {s : ByteArray} (h : s.size ≤ 200) : s.size ≤ maxLen := by unfold maxLen; omega

set_option maxRecDepth 100000 in
set_option maxHeartbeats 2000000 in
theorem drawCB (w : World) (a : Option Addr) (len cap : Nat) (zs : List Int) (hin : In w w.heap.size a len zs) :
    Calls Tryd.prog 6 #[.slice a len cap] w (AConst w) := by
  have bA := (Below.refl w.heap.size w).alloc (Nat.le_refl _) (.cells #[.int .i64 0, .int .i64 0, .string noS, .string noS] 25)
  have HI := hide ((hin.kept bA.block).up bA.size)
  have E := hide (heap_alloc_new w (.cells #[.int .i64 0, .int .i64 0, .string noS, .string noS] 25))
  have HB := hide bA
  have hs0 := (Array.getElem?_eq_some_iff.1 E.out).1
  clear bA hin
  go_enter Tryd.func6, Tryd.ntmps6
  go_wp2_with fail
  generalize w.alloc (.cells #[.int .i64 0, .int .i64 0, .string noS, .string noS] 25) = W at *
  refine (newDraw _ _ _ _ _ HI.out).mono ?_
  rintro e w1 ⟨rfl, hc1, b1⟩
  have HC : Hid (CurW w1 W.heap.size) := hide ⟨_, _, hc1⟩
  have hs1 := hc1.lt
  replace E := hide ((b1.block w.heap.size hs0).trans E.out)
  replace HB := hide (HB.out.trans (b1.mono HB.out.size))
  clear b1 hc1 HI
  go_wp2_with fail
  refine (drawK _ _ HC.out).mono ?_
  rintro e w2 ⟨k, n, sa, sb, rfl, hab, hc2, hg2⟩
  replace E := hide ((hg2.block w.heap.size (by omega) (fun e => by simp only [Option.some.injEq] at e; omega)).trans E.out)
  replace HB := hide (below_atK HB.out hg2 (Nat.le_of_lt hs0))
  clear hc2 hg2 HC
  unfold constV
  have HX := hide (box_of E.out).1
  have zz := (box_of E.out).2
  have p0 := HX.out 0 _ rfl
  have p1 := HX.out 1 _ rfl
  have p2 := HX.out 2 _ rfl
  have p3 := HX.out 3 _ rfl
  go_wp2
  exact bodyPost_ret (v := constV k n sa sb) (results_one Tryd.results6 _ _ _ rfl (loadK (put4 E.out _ _ _ _))) rfl ⟨k, n, sa, sb, rfl, ⟨small hab.1, small hab.2⟩, below_put4 HB.out (Nat.le_refl _) _ _ _ _⟩

set_option maxRecDepth 100000 in
set_option maxHeartbeats 2000000 in
theorem drawCO (w : World) (a : Option Addr) (len cap : Nat) (zs : List Int) (hin : In w w.heap.size a len zs) :
    Calls Tryd.prog 14 #[.slice a len cap] w (AConst w) := by
  have bA := (Below.refl w.heap.size w).alloc (Nat.le_refl _) (.cells #[.int .i64 0, .int .i64 0, .string noS, .string noS] 25)
  have HI := hide ((hin.kept bA.block).up bA.size)
  have E := hide (heap_alloc_new w (.cells #[.int .i64 0, .int .i64 0, .string noS, .string noS] 25))
  have HB := hide bA
  have hs0 := (Array.getElem?_eq_some_iff.1 E.out).1
  clear bA hin
  go_enter Tryd.func14, Tryd.ntmps14
  go_wp2_with fail
  generalize w.alloc (.cells #[.int .i64 0, .int .i64 0, .string noS, .string noS] 25) = W at *
  refine (newDraw _ _ _ _ _ HI.out).mono ?_
  rintro e w1 ⟨rfl, hc1, b1⟩
  have HC : Hid (CurW w1 W.heap.size) := hide ⟨_, _, hc1⟩
  have hs1 := hc1.lt
  replace E := hide ((b1.block w.heap.size hs0).trans E.out)
  replace HB := hide (HB.out.trans (b1.mono HB.out.size))
  clear b1 hc1 HI
  go_wp2_with fail
  refine (drawK _ _ HC.out).mono ?_
  rintro e w2 ⟨k, n, sa, sb, rfl, hab, hc2, hg2⟩
  replace E := hide ((hg2.block w.heap.size (by omega) (fun e => by simp only [Option.some.injEq] at e; omega)).trans E.out)
  replace HB := hide (below_atK HB.out hg2 (Nat.le_of_lt hs0))
  clear hc2 hg2 HC
  unfold constV
  have HX := hide (box_of E.out).1
  have zz := (box_of E.out).2
  have p0 := HX.out 0 _ rfl
  have p1 := HX.out 1 _ rfl
  have p2 := HX.out 2 _ rfl
  have p3 := HX.out 3 _ rfl
  go_wp2
  exact bodyPost_ret (v := constV k n sa sb) (results_one Tryd.results14 _ _ _ rfl (loadK (put4 E.out _ _ _ _))) rfl ⟨k, n, sa, sb, rfl, ⟨small hab.1, small hab.2⟩, below_put4 HB.out (Nat.le_refl _) _ _ _ _⟩

/-- Drawn bytes, and a place. -/
def ARaw (w : World) (e : Ending) (w' : World) : Prop := ∃ a len cap zs i, e = .returned (.tuple #[.slice a len cap, .int .i64 i]) ∧ In w' w'.heap.size a len zs ∧ len ≤ cap ∧ (a = none → cap = 0) ∧ (∀ x, a = some x → x.spot = none) ∧ (-1 ≤ i ∧ i ≤ 2000) ∧ Below w.heap.size w w'

set_option maxRecDepth 100000 in
set_option maxHeartbeats 4000000 in
theorem drawCF (w : World) (a : Option Addr) (len cap : Nat) (zs : List Int) (hin : In w w.heap.size a len zs) :
    Calls Tryd.prog 12 #[.slice a len cap] w (ARaw w) := by
  have HI := hide hin
  clear hin
  go_enter Tryd.func12, Tryd.ntmps12
  go_wp2_with fail
  refine (newDraw _ _ _ _ _ HI.out).mono ?_
  rintro e w1 ⟨rfl, hc1, b1⟩
  have HC : Hid (CurW w1 w.heap.size) := hide ⟨_, _, hc1⟩
  have hs1 := hc1.lt
  have HB := hide b1
  clear b1 hc1 HI
  go_wp2_with fail
  refine (rightK _ _ HC.out).mono ?_
  rintro e w2 ⟨k, n, sa, sb, rfl, hab, hc2, hg2⟩
  replace HB := hide (below_atK HB.out hg2 (Nat.le_refl _))
  replace HC := hide hc2
  clear hc2 hg2
  go_wp2_with fail
  refine (constBytesSpec k n sa sb _ (small hab.1) (small hab.2)).mono ?_
  rintro e w3 ⟨v3, rfl, o3, b3⟩
  have h23 : w.heap.size < w2.heap.size := HC.out.lt
  have HO3 := hide o3
  have LO := hide (fun q hq => (o3.lt q hq).1)
  replace HC := hide (HC.out.below b3)
  replace HB := hide (HB.out.trans (b3.mono HB.out.size))
  have z3 : w2.heap.size ≤ w3.heap.size := b3.size
  have l3 := kB_len k n sa sb
  have y3 := hide (kB_byt k n sa sb)
  generalize kB k n sa sb = xs at *
  clear b3 o3
  go_wp2_with fail
  refine (rightK _ _ HC.out).mono ?_
  rintro e w4 ⟨k', n', sa', sb', rfl, hab', hc4, hg4⟩
  replace HO3 := hide (ownKept HO3.out hg4 (fun q hq e => by have := LO.out q hq; simp only [Option.some.injEq] at e; omega))
  replace HB := hide (below_atK HB.out hg4 (Nat.le_refl _))
  replace HC := hide hc4
  have z4 : w2.heap.size ≤ w4.heap.size := Nat.le_trans z3 hg4.size
  clear hc4 hg4 z3
  go_wp2_with fail
  refine (constBytesSpec k' n' sa' sb' _ (small hab'.1) (small hab'.2)).mono ?_
  rintro e w5 ⟨v5, rfl, o5, b5⟩
  have HO5 := hide o5
  replace HC := hide (HC.out.below b5)
  replace HO3 := hide (HO3.out.below b5)
  replace HB := hide (HB.out.trans (b5.mono HB.out.size))
  have z5 : w2.heap.size ≤ w5.heap.size := Nat.le_trans z4 b5.size
  have l5 := kB_len k' n' sa' sb'
  have y5 := hide (kB_byt k' n' sa' sb')
  generalize kB k' n' sa' sb' = ys at *
  clear b5 o5 z4
  go_wp2_with (at_builtin; refine app_own rfl _ _ rfl w2.heap.size _ _ _ _ ys rfl HO3.out rfl HO5.out y5.out (by omega) (by omega) z5 ?_; intro v6 w6 o6 g6 n6; have HO := hide o6; have HC6 := hide (HC.out.row g6 (fun k hk => by have := LO.out k hk; omega)); have HB6 := hide (HB.out.grown g6 HB.out.size (fun q hq => by have := LO.out q hq; omega)); have LO6 := hide (fun q hq => (o6.lt q hq).1); clear o6 g6 n6)
  replace HC := HC6
  replace HB := HB6
  clear HC6 HB6 HO3 HO5
  have hy : Byt (xs ++ ys) := y3.out.append y5.out
  have hl : (xs ++ ys).length ≤ 824 := by rw [List.length_append]; omega
  generalize xs ++ ys = us at *
  have HY := hide hy
  clear hy y3 y5 l3 l5
  refine (onceW _ _ _ (by omega) (by omega) HC.out).mono ?_
  rintro e w7 ⟨b, rfl, hc7, hg7⟩
  replace HO := hide (ownKept HO.out hg7 (fun q hq e => by have := LO6.out q hq; simp only [Option.some.injEq] at e; omega))
  replace HB := hide (below_atK HB.out hg7 (Nat.le_refl _))
  replace HC := hide hc7
  clear hc7 hg7
  obtain ⟨a6, c6, rfl⟩ := own_shape HO.out
  have hcap : us.length ≤ c6 := by
    rcases HO.out.2 with ⟨e, h0⟩ | ⟨q, c, cur, e, _, _, hn, _⟩
    · omega
    · cases e; exact hn
  have hspot : Hid ((a6 = none → c6 = 0) ∧ ∀ x, a6 = some x → x.spot = none) := hide (by
    refine ⟨HO.out.cap0, fun x hx => ?_⟩
    rcases HO.out.2 with ⟨e, _⟩ | ⟨q, c, cur, e, _⟩
    · simp only [Value.slice.injEq] at e
      rw [e.1] at hx
      cases hx
    · cases e; cases hx; rfl)
  cases b with
  | false =>
    go_wp2_with fail
    refine (pickW _ _ _ 7 [0, 0, 0, 1, 5, (us.length : Int), -1] rfl (by omega) (by omega) HC.out.lt (HC.out.alloc _) (heap_alloc_new w7 _)).mono ?_
    rintro e w9 ⟨i, rfl, hi, hc9, hg9⟩
    have hi2 : -1 ≤ i ∧ i ≤ 2000 := by simp at hi; omega
    have hgg := alloc_grown hg9
    have HO9 := hide (ownKept HO.out hgg (fun q hq e => by have := LO6.out q hq; simp only [Option.some.injEq] at e; omega))
    have HB9 := hide (below_atK HB.out hgg (Nat.le_refl _))
    clear hc9 hg9 hgg hi
    go_wp2
    go_ret2
    refine ⟨_, _, _, us, i, rfl, ?_, hcap, hspot.out.1, hspot.out.2, hi2, HB9.out⟩
    obtain ⟨a', c', e, h, _⟩ := in_any HO9.out (by omega) HY.out (Nat.le_refl _)
    cases e
    exact h
  | true =>
    go_wp2_with fail
    refine (belowW _ _ _ (by omega) (by omega) HC.out).mono ?_
    rintro e w8 ⟨m, rfl, m0, m1, hc8, hg8⟩
    replace HO := hide (ownKept HO.out hg8 (fun q hq e => by have := LO6.out q hq; simp only [Option.some.injEq] at e; omega))
    replace HB := hide (below_atK HB.out hg8 (Nat.le_refl _))
    replace HC := hide hc8
    clear hc8 hg8
    obtain ⟨M, rfl⟩ := Int.eq_ofNat_of_zero_le m0
    have hM : M ≤ us.length := by omega
    have hMc : M ≤ c6 := by omega
    cases a6 with
    | none =>
      have h0 : us.length = 0 := by
        rcases HO.out.2 with ⟨e, h0⟩ | ⟨q, c, cur, e, _⟩
        · exact h0
        · cases e
      have hc0 := hspot.out.1 rfl
      obtain rfl : M = 0 := by omega
      subst hc0
      go_wp2_with fail
      refine (pickW _ _ _ 7 [0, 0, 0, 1, 5, 0, -1] rfl (by omega) (by omega) HC.out.lt (HC.out.alloc _) (heap_alloc_new w8 _)).mono ?_
      rintro e w9 ⟨i, rfl, hi, hc9, hg9⟩
      have hi2 : -1 ≤ i ∧ i ≤ 2000 := by simp at hi; omega
      have hgg := alloc_grown hg9
      have HO9 := hide (ownKept HO.out hgg (fun q hq e => by have := LO6.out q hq; simp only [Option.some.injEq] at e; omega))
      have HB9 := hide (below_atK HB.out hgg (Nat.le_refl _))
      clear hc9 hg9 hgg hi
      go_wp2
      go_ret2
      refine ⟨_, _, _, us, i, rfl, ?_, by omega, fun _ => rfl, fun x hx => (by cases hx), hi2, HB9.out⟩
      obtain ⟨a', c', e, h, _⟩ := in_any HO9.out (by omega) HY.out (Nat.le_refl _)
      cases e
      rw [h0] at h
      exact h
    | some x =>
      obtain ⟨q, o, sp⟩ := x
      have := hspot.out.2 _ rfl
      simp only at this
      subst this
      go_wp2_with fail
      refine (pickW _ _ _ 7 [0, 0, 0, 1, 5, (M : Int), -1] rfl (by omega) (by omega) HC.out.lt (HC.out.alloc _) (heap_alloc_new w8 _)).mono ?_
      rintro e w9 ⟨i, rfl, hi, hc9, hg9⟩
      have hi2 : -1 ≤ i ∧ i ≤ 2000 := by simp at hi; omega
      have hgg := alloc_grown hg9
      have HO9 := hide (ownKept HO.out hgg (fun q hq e => by have := LO6.out q hq; simp only [Option.some.injEq] at e; omega))
      have HB9 := hide (below_atK HB.out hgg (Nat.le_refl _))
      clear hc9 hg9 hgg hi
      go_wp2
      go_ret2
      refine ⟨_, _, _, us.take M, i, rfl, ?_, hMc, fun e => (by cases e), fun x hx => (by cases hx; rfl), hi2, HB9.out⟩
      obtain ⟨a', c', e, h, _⟩ := in_any HO9.out (by omega) HY.out (Nat.le_refl _)
      cases e
      exact h.take M hM
end Go.Proofs.YtgegmocgbjklkaaDoor
