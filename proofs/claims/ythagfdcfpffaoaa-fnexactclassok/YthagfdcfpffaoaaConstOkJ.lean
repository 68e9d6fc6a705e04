/-
  What ConstOk answers, in the program and in its model.
-/
import Derived.Test.YthagfdcfpffaoaaConstOkI
namespace Go.Proofs.Ythagfdcfpffaoaa
open Go.RowKit Go.Maps

theorem Pool.len {w : World} {g : Nat} {D : DataW Unit} (h : Pool w g D) (ty : TypeId) : (Builtin.len_ #[94] ty #[.map (some g)]).run Try.prog w = .ok (.int .i64 (Maps.size D)) w :=
  World.ownsMap.len h Try.underlying94 ty

set_option maxRecDepth 100000 in
set_option maxHeartbeats 4000000 in
theorem constOkCore (k n n' : Int) (a b a' b' : ByteArray) (R : Bool) (z : Nat) (V : Bool) (w : World) (hR : RightD (pD k n a b) R) (hz : Maps.size (pD k n a b) = z)
    (h0 : ∃ s, (pD k n a b).atKey (.int .i64 0) (dPart 0 noS) = dPart n' s) (h1 : ∃ m, (pD k n a b).atKey (.int .i64 1) (dPart 0 noS) = dPart m a') (h2 : ∃ m, (pD k n a b).atKey (.int .i64 2) (dPart 0 noS) = dPart m b')
    (hV : V = (decide (0 < z) && R && ((n' == n) && (a'.toList == a.toList) && (b'.toList == b.toList)))) :
    Calls Try.prog 70 #[constV k n a b] w fun e w' => e = .returned (.bool V) ∧ Below w.heap.size w w' := by
  obtain ⟨s0, h0⟩ := h0
  obtain ⟨m1, h1⟩ := h1
  obtain ⟨m2, h2⟩ := h2
  have HV := hide hV
  have HR := hide hR
  have HK0 := hide h0
  have HK1 := hide h1
  have HK2 := hide h2
  have HZ := hide hz
  clear hV hR h0 h1 h2 hz
  have HX := hide (Box.new w #[.int .i64 k, .int .i64 n, .string a, .string b] 63)
  have HB := hide ((Below.refl w.heap.size w).alloc (Nat.le_refl _) (.cells #[.int .i64 k, .int .i64 n, .string a, .string b] 63))
  have hgs : Hid (w.heap.size < (w.alloc (.cells #[.int .i64 k, .int .i64 n, .string a, .string b] 63)).heap.size) := hide (by simp)
  have q0 := HX.out 0 _ rfl
  have q1 := HX.out 1 _ rfl
  have q2 := HX.out 2 _ rfl
  have q3 := HX.out 3 _ rfl
  unfold constV
  go_enter Try.func70, Try.ntmps70
  go_wp2_with fail
  clear q0 q1 q2 q3
  generalize w.alloc (.cells #[.int .i64 k, .int .i64 n, .string a, .string b] 63) = W at *
  refine (referredImpl k n a b _).mono ?_
  rintro e w1 ⟨g, rfl, hg, hP, b1⟩
  have HP := hide hP
  replace HX := hide (HX.out.below hgs.out b1)
  replace HB := hide (HB.out.trans (b1.mono HB.out.size))
  clear hP b1 hgs hg
  have hl : ∀ (m : Lo w1) (ty : TypeId), (Builtin.len_ #[94] ty #[.map (some g)]).run Try.prog m.v = .ok (.int .i64 (z : Int)) m.v := fun m ty => by rw [← HZ.out]; exact (HP.out.below m.b).len ty
  have q0 := fun m : Lo w1 => m.cell (HX.out 0 _ rfl)
  have q1 := fun m : Lo w1 => m.cell (HX.out 1 _ rfl)
  have q2 := fun m : Lo w1 => m.cell (HX.out 2 _ rfl)
  have q3 := fun m : Lo w1 => m.cell (HX.out 3 _ rfl)
  have HM : Hid (∀ m : Lo w1, Calls Try.prog 89 #[.map (some g)] m.v fun e w' => e = .returned (.bool R) ∧ Below m.v.heap.size m.v w') := hide fun m => partsRightImpl g _ R m.v (HP.out.below m.b) HR.out
  have HC : Hid (∀ m : Lo w1, Calls Try.prog 90 #[.int .i64 k, .map (some g)] m.v fun e w' => e = .returned (.agg #[.int .i64 k, .int .i64 n', .string a', .string b']) ∧ Below m.v.heap.size m.v w') := hide fun m => constOfImpl g _ k n' m1 m2 s0 a' b' m.v (HP.out.below m.b) HK0.out HK1.out HK2.out
  by_cases hz0 : z = 0
  · have HF : Hid (V = false) := hide (by rw [HV.out, hz0]; simp)
    subst hz0
    go_wp2
    refine wp_region_low (by kernel_rfl) (by kernel_rfl) ?_
    repeat (go_big_quiet_step ((fail)))
    refine wpQuiet_nil ?_
    rintro _ ⟨m, rfl⟩
    go_wp2
    go_ret
    exact ⟨by rw [HF.out]; rfl, HB.out.trans (m.b.mono HB.out.size)⟩
  · have hz1 : 0 < z := by omega
    clear hz0
    cases R with
    | false =>
      have HF : Hid (V = false) := hide (by rw [HV.out]; simp)
      go_wp2
      refine wp_region_low (by kernel_rfl) (by kernel_rfl) ?_
      repeat (go_big_quiet_step ((first | (go_at_call 89; exact low_below (HM.out _)))))
      refine wpQuiet_nil ?_
      rintro _ ⟨m, rfl⟩
      go_wp2
      go_ret
      exact ⟨by rw [HF.out]; rfl, HB.out.trans (m.b.mono HB.out.size)⟩
    | true =>
      have HF : Hid (V = ((n' == n) && (a'.toList == a.toList) && (b'.toList == b.toList))) := hide (by rw [HV.out, decide_eq_true (by omega : 0 < z)]; simp)
      cases e1 : (n' == n) with
      | false =>
        replace HF : Hid (V = false) := hide (by rw [HF.out, e1]; rfl)
        go_wp2
        refine wp_region_low (by kernel_rfl) (by kernel_rfl) ?_
        repeat (go_big_quiet_step ((first | (go_at_call 89; exact low_below (HM.out _)) | (go_at_call 90; exact low_below (HC.out _)))))
        refine wpQuiet_nil ?_
        rintro _ ⟨m, rfl⟩
        go_wp2
        go_ret
        exact ⟨by rw [HF.out]; rfl, HB.out.trans (m.b.mono HB.out.size)⟩
      | true =>
        cases e2 : (a'.toList == a.toList) with
        | false =>
          replace HF : Hid (V = false) := hide (by rw [HF.out, e1, e2]; rfl)
          go_wp2
          refine wp_region_low (by kernel_rfl) (by kernel_rfl) ?_
          repeat (go_big_quiet_step ((first | (go_at_call 89; exact low_below (HM.out _)) | (go_at_call 90; exact low_below (HC.out _)))))
          refine wpQuiet_nil ?_
          rintro _ ⟨m, rfl⟩
          go_wp2
          go_ret
          exact ⟨by rw [HF.out]; rfl, HB.out.trans (m.b.mono HB.out.size)⟩
        | true =>
          cases e3 : (b'.toList == b.toList) with
          | false =>
            replace HF : Hid (V = false) := hide (by rw [HF.out, e1, e2, e3]; rfl)
            go_wp2
            refine wp_region_low (by kernel_rfl) (by kernel_rfl) ?_
            repeat (go_big_quiet_step ((first | (go_at_call 89; exact low_below (HM.out _)) | (go_at_call 90; exact low_below (HC.out _)))))
            refine wpQuiet_nil ?_
            rintro _ ⟨m, rfl⟩
            go_wp2
            go_ret
            exact ⟨by rw [HF.out]; rfl, HB.out.trans (m.b.mono HB.out.size)⟩
          | true =>
            replace HF : Hid (V = true) := hide (by rw [HF.out, e1, e2, e3]; rfl)
            go_wp2
            refine wp_region_low (by kernel_rfl) (by kernel_rfl) ?_
            repeat (go_big_quiet_step ((first | (go_at_call 89; exact low_below (HM.out _)) | (go_at_call 90; exact low_below (HC.out _)))))
            refine wpQuiet_nil ?_
            rintro _ ⟨m, rfl⟩
            go_wp2
            go_ret
            exact ⟨by rw [HF.out]; rfl, HB.out.trans (m.b.mono HB.out.size)⟩
end Go.Proofs.Ythagfdcfpffaoaa
