/-
  What the program does with the parts of a const.
-/
import Derived.Test.YthagfdcfpffaoaaPartM
import Derived.Test.YthagfdcfpffaoaaBoxW
import Derived.Laws.StructEq
namespace Go.Proofs.Ythagfdcfpffaoaa
open Go.RowKit Go.Maps

set_option maxRecDepth 100000 in
set_option maxHeartbeats 1000000 in
theorem refersImpl (k p : Int) (w : World) :
    Calls Try.prog 91 #[.int .i64 k, .int .i64 p] w fun e w' => e = .returned (.bool (refB k p)) ∧ w' = w := by
  by_cases h1 : k = 1
  · subst h1
    go_enter Try.func91, Try.ntmps91
    go_wp2
    go_ret
    exact ⟨by simp [refB], rfl⟩
  · have e1 : (k == 1) = false := by simpa using h1
    by_cases h2 : k = 2
    · subst h2
      go_enter Try.func91, Try.ntmps91
      go_wp2
      go_ret
      exact ⟨by simp [refB], rfl⟩
    · have e2 : (k == 2) = false := by simpa using h2
      by_cases h3 : k = 3
      · subst h3
        cases hp : (p == 1)
        · go_enter Try.func91, Try.ntmps91
          go_wp2
          go_ret
          exact ⟨by simp [refB, hp], rfl⟩
        · go_enter Try.func91, Try.ntmps91
          go_wp2
          go_ret
          exact ⟨by simp [refB, hp], rfl⟩
      · have e3 : (k == 3) = false := by simpa using h3
        by_cases h4 : k = 4
        · subst h4
          cases hp : (p == 1)
          · go_enter Try.func91, Try.ntmps91
            go_wp2
            go_ret
            exact ⟨by simp [refB, hp], rfl⟩
          · go_enter Try.func91, Try.ntmps91
            go_wp2
            go_ret
            exact ⟨by simp [refB, hp], rfl⟩
        · have e4 : (k == 4) = false := by simpa using h4
          go_enter Try.func91, Try.ntmps91
          go_wp2
          go_ret
          exact ⟨by simp [refB, h1, h2, h3, h4], rfl⟩


set_option maxRecDepth 100000 in
set_option maxHeartbeats 2000000 in
theorem referredImpl (k n : Int) (a b : ByteArray) (w : World) :
    Calls Try.prog 71 #[constV k n a b] w fun e w' => ∃ g, e = .returned (.map (some g)) ∧ w.heap.size ≤ g ∧ Pool w' g (pD k n a b) ∧ Below w.heap.size w w' := by
  have hmm := @run_makeMap Try.prog
  unfold constV
  have HX := hide (Box.new w #[.int .i64 k, .int .i64 n, .string a, .string b] 63)
  have HB := hide ((Below.refl w.heap.size w).alloc (Nat.le_refl _) (.cells #[.int .i64 k, .int .i64 n, .string a, .string b] 63))
  have hs : Hid ((w.alloc (.cells #[.int .i64 k, .int .i64 n, .string a, .string b] 63)).heap.size = w.heap.size + 1) := hide (by simp)
  have H0 : Hid (((w.alloc (.cells #[.int .i64 k, .int .i64 n, .string a, .string b] 63)).alloc (.map #[] 0)).ownsMap Try.prog 3 partR (w.heap.size + 1) 0 (.map [])) := hide (by
    have := World.ownsMap_made (w.alloc (.cells #[.int .i64 k, .int .i64 n, .string a, .string b] 63)) Try.prog 3 partR
    rwa [hs.out] at this)
  replace HB := hide (HB.out.alloc (by simp) (.map #[] 0))
  have HX0 : Hid (Box ((w.alloc (.cells #[.int .i64 k, .int .i64 n, .string a, .string b] 63)).alloc (.map #[] 0)) w.heap.size [.int .i64 k, .int .i64 n, .string a, .string b]) := hide (HX.out.apart (by simp) (World.grownBy_alloc _ _ none) (by simp))
  have q1 := HX.out 1 _ rfl
  go_enter Try.func71, Try.ntmps71
  go_wp2_with (first
    | (refine wp_insert rfl _ _ _ rfl (w.heap.size + 1) 0 (.map []) rfl H0.out (by omega) 0 (by omega) rfl _ _ rfl ?_; intro w1 h1 g1; have H1 := hide h1; have HX1 := hide (HX0.out.apart (by simp; omega) g1 (by simp)); have HB1 := hide (HB.out.grown g1 (by simp; omega) (fun k hk => by cases hk; omega)); have hz1 := hide g1.size; have q2 := HX1.out 2 _ rfl; clear h1 g1)
    | (refine wp_insert rfl _ _ _ rfl (w.heap.size + 1) 1 _ rfl H1.out (by omega) 1 (by omega) rfl _ _ rfl ?_; intro w2 h2 g2; have H2 := hide h2; have hz2 := hide (Nat.le_trans hz1.out g2.size); have HX2 := hide (HX1.out.apart (by have := hz1.out; simp at this; omega) g2 (by simp)); have HB2 := hide (HB1.out.grown g2 (by have := hz1.out; simp at this; omega) (fun k hk => by cases hk; omega)); have q3 := HX2.out 3 _ rfl; clear h2 g2)
    | (refine wp_insert rfl _ _ _ rfl (w.heap.size + 1) 2 _ rfl H2.out (by omega) 2 (by omega) rfl _ _ rfl ?_; intro w3 h3 g3; have H3 := hide h3; have hz3 := hide (Nat.le_trans hz2.out g3.size); have HX3 := hide (HX2.out.apart (by have := hz2.out; simp at this; omega) g3 (by simp)); have HB3 := hide (HB2.out.grown g3 (by have := hz2.out; simp at this; omega) (fun k hk => by cases hk; omega)); clear h3 g3)
    | fail)
  clear q1 q2 q3
  go_loopw [16] (fun x wr => ∃ j : Nat, j ≤ 3 ∧ x = .int .i64 (j : Int) ∧ Hid (wr.ownsMap Try.prog 3 partR (w.heap.size + 1) 3 (stD k n a b j)) ∧ Hid (Box wr w.heap.size [.int .i64 k, .int .i64 n, .string a, .string b]) ∧ Hid (Below w.heap.size w wr)) (fun x _ => 3 - (intOf x).toNat)
  case atStart => exact ⟨0, by omega, rfl, H3, HX3, HB3⟩
  case round =>
    obtain ⟨j, hj, rfl, HO, HY, HW⟩ := hrel
    clear H0 HX0 HX HB H1 HX1 HB1 hz1 H2 HX2 HB2 hz2 H3 HX3 HB3 hz3 hs
    by_cases hlt : j < 3
    · have q0 := HY.out 0 _ rfl
      have hl := World.ownsMap.lt HO.out
      cases hr : refB k j with
      | true =>
        have HD : Hid (stD k n a b (j + 1) = stD k n a b j) := hide (by simp [stD, hr])
        go_wp2_with fail
        refine (refersImpl _ _ _).mono ?_
        rintro e w2 ⟨rfl, rfl⟩
        rw [hr]
        go_wp2
        exact ⟨⟨j + 1, by omega, by go_num, hide (by rw [HD.out]; exact HO.out), HY, HW⟩, by simp [intOf]; omega⟩
      | false =>
        have HD : Hid (stD k n a b (j + 1) = (stD k n a b j).del (.int .i64 j)) := hide (by simp [stD, hr])
        go_wp2_with fail
        refine (refersImpl _ _ _).mono ?_
        rintro e w2 ⟨rfl, rfl⟩
        rw [hr]
        go_wp2_with (at_delete; refine wpList_delete_own _ rfl _ _ 94 3 rfl 97 keyI Try.underlying94 _ (w.heap.size + 1) 3 _ rfl HO.out _ _ rfl (keyAt j (by omega) (by omega)) ?_; intro w1 h1 t1; have HO1 := hide h1; have HY1 := hide (HY.out.apart (by omega) t1.grown (by simp)); have HW1 := hide (HW.out.grown t1.grown (by omega) (fun k hk => by cases hk; omega)); clear h1 t1)
        exact ⟨⟨j + 1, by omega, by go_num, hide (by rw [HD.out]; exact HO1.out), HY1, HW1⟩, by simp [intOf]; omega⟩
    · obtain rfl : j = 3 := by omega
      have HD := hide (stD_end k n a b)
      go_wp2
      go_ret
      exact ⟨w.heap.size + 1, rfl, by omega, by unfold Pool; rw [← HD.out]; exact World.ownsMap.mono HO.out (by omega), HW.out⟩
end Go.Proofs.Ythagfdcfpffaoaa
