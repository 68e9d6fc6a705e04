/-
  KindOf, FieldOf and MethodOf in the model, and Sub on both sides.
-/
import Derived.Test.YtobomcfiincpoaaPrgG
namespace Go.Proofs.Ytobomcfiincpoaa
open Go.RowKit

set_option maxRecDepth 100000 in
set_option maxHeartbeats 4000000 in
theorem subSpec (w : World) (x : Pg) (u : Value) (a b : Int) (h : Reads w w.heap.size (kins x.k) u) (hg : kinsG x.k) :
    Calls Try.prog 42 #[pgV x u, .int .i64 a, .int .i64 b] w fun e w' => e = .returned (.bool (subX x.k a b)) ∧ Below w.heap.size w w' := by
  have hm := hg.1
  have HG : Hid (∀ j, j < x.k.length → KdG (x.k.getD j default)) := hide (fun j hj => getD_mem hg.2 j hj)
  clear hg
  have bA := (Below.refl w.heap.size w).alloc (Nat.le_refl _) (.cells #[u] 33)
  have HX : Hid (∀ wr, Below w.heap.size w wr → _) := hide (fun wr hb => kind_at (h.at hb))
  obtain ⟨a1, c1, e1, _⟩ := kind_at h
  subst e1
  have HB := hide bA
  have HE := hide (Box.new w #[.slice a1 x.k.length c1] 33)
  have hgs : Hid (w.heap.size < (w.alloc (.cells #[.slice a1 x.k.length c1] 33)).heap.size) := hide (by simp)
  clear h bA
  have HV : Hid (subX x.k a b = subL x.k b 7 a) := hide rfl
  have HS : Hid (∀ n a, subL x.k b (n + 1) a = if inB a 0 ((x.k.length : Int) - 1) then (if a = b then true else subL x.k b n (x.k.getD a.toNat default).s) else false) := hide (fun _ _ => rfl)
  have HZ : Hid (∀ a, subL x.k b 0 a = false) := hide (fun _ => rfl)
  have HNO : Hid (inB b 0 ((x.k.length : Int) - 1) = false → ∀ n a, subL x.k b n a = false) := hide (fun h n a => subL_no h n a)
  obtain ⟨V, hV⟩ : ∃ V, subX x.k a b = V := ⟨_, rfl⟩
  rw [hV]
  rw [hV] at HV
  clear hV
  unfold pgV
  generalize hn : x.k.length = n at *
  have hw : IntKind.i64.wrap ((n : Int) - 1) = (n : Int) - 1 := by rw [IntKind.wrap_i64]; omega
  go_enter Try.func42, Try.ntmps42
  go_wp2_with fail
  generalize w.alloc (.cells #[.slice a1 n c1] 33) = W at *
  refine (inSpec _ _ _ _).mono ?_
  rintro e w1 ⟨rfl, hw1⟩
  rw [hw1]
  clear hw1 w1
  have q0 := HE.out 0 _ rfl
  cases c : inB b 0 ((n : Int) - 1) with
  | false =>
    have HF : Hid (V = false) := hide (by rw [HV.out]; exact HNO.out c _ _)
    go_wp2
    go_ret
    exact ⟨by rw [HF.out]; rfl, HB.out⟩
  | true =>
    clear HNO c q0
    go_wp2
    have HVW : Hid (Below W.heap.size W W) := hide (Below.refl _ _)
    go_loopw [1, 7] (fun q i wr => ∃ (t : Nat) (a : Int), t ≤ 7 ∧ q = .int .i64 a ∧ i = .int .i64 (t : Int) ∧ Hid (V = subL x.k b (7 - t) a) ∧ Hid (Below W.heap.size W wr)) (fun _ i _ => 7 - (intOf i).toNat)
    case atStart => exact ⟨0, a, by omega, rfl, rfl, HV, HVW⟩
    case round =>
      clear HV HVW
      obtain ⟨t, a2, ht, rfl, rfl, HV, HW⟩ := hrel
      have HB2 := hide (HB.out.trans (HW.out.mono HB.out.size))
      have q0 := (HE.out.below hgs.out HW.out) 0 _ rfl
      by_cases hlt : t < 7
      · have hle : (t : Int) ≤ 6 := by omega
        have HU : Hid (V = if inB a2 0 ((n : Int) - 1) then (if a2 = b then true else subL x.k b (7 - (t + 1)) (x.k.getD a2.toNat default).s) else false) := hide (by rw [HV.out, show 7 - t = (7 - (t + 1)) + 1 by omega, HS.out])
        clear HV
        go_wp2_with fail
        refine (inSpec _ _ _ _).mono ?_
        rintro e w2 ⟨rfl, hw2⟩
        rw [hw2]
        clear hw2 w2 HB2
        have HB3 := hide (HB.out.trans (HW.out.mono HB.out.size))
        replace q0 := (HE.out.below hgs.out HW.out) 0 _ rfl
        cases c : inB a2 0 ((n : Int) - 1) with
        | false =>
          have HF : Hid (V = false) := hide (by rw [HU.out, c]; rfl)
          go_wp2
          go_ret
          exact ⟨by rw [HF.out]; rfl, HB3.out⟩
        | true =>
          obtain ⟨h0, h1⟩ := inB_yes c
          obtain ⟨j, rfl⟩ : ∃ j : Nat, a2 = (j : Int) := ⟨a2.toNat, by omega⟩
          have hj : j < n := by omega
          obtain ⟨a', cap', ea, _, _, hc⟩ := HX.out _ HB3.out
          cases ea
          obtain ⟨bb, o, rfl, _, hcell⟩ := hc (by omega)
          obtain ⟨pv1, pv2, pv3, e0, e1, e2, e3, e4, r1, r2, r3⟩ := hcell j hj
          clear hcell hc r1 r2 r3
          rw [show ((j : Int)).toNat = j from rfl] at HU
          obtain ⟨y, hy⟩ : ∃ y, x.k.getD j default = y := ⟨_, rfl⟩
          rw [hy] at e0 e1 HU
          clear hy
          by_cases hab : (j : Int) = b
          · have HF : Hid (V = true) := hide (by rw [HU.out, if_pos c, if_pos hab])
            have hab' : ((j : Int) == b) = true := by rw [hab]; simp
            clear hab
            go_wp2
            go_ret
            exact ⟨by rw [HF.out]; rfl, HB3.out⟩
          · have HF : Hid (V = subL x.k b (7 - (t + 1)) y.s) := hide (by rw [HU.out, if_pos c, if_neg hab])
            have hab' : ((j : Int) == b) = false := by simpa using hab
            clear hab
            go_wp2
            exact ⟨⟨t + 1, y.s, by omega, rfl, by go_num, HF, HW⟩, by simp [intOf]; omega⟩
      · obtain rfl : t = 7 := by omega
        have HF : Hid (V = false) := hide (by rw [HV.out]; exact HZ.out _)
        have hle : ¬ (7 : Int) ≤ 6 := by omega
        go_wp2
        go_ret
        exact ⟨by rw [HF.out]; rfl, HB2.out⟩
set_option maxRecDepth 100000 in
set_option maxHeartbeats 4000000 in
theorem subImpl (w : World) (x : Pg) (u : Value) (a b : Int) (h : Reads w w.heap.size (kins x.k) u) (hg : kinsG x.k) :
    Calls Try.prog 73 #[pgV x u, .int .i64 a, .int .i64 b] w fun e w' => e = .returned (.bool (subX x.k a b)) ∧ Below w.heap.size w w' := by
  have hm := hg.1
  have HG : Hid (∀ j, j < x.k.length → KdG (x.k.getD j default)) := hide (fun j hj => getD_mem hg.2 j hj)
  clear hg
  have bA := (Below.refl w.heap.size w).alloc (Nat.le_refl _) (.cells #[u] 33)
  have HX : Hid (∀ wr, Below w.heap.size w wr → _) := hide (fun wr hb => kind_at (h.at hb))
  obtain ⟨a1, c1, e1, _⟩ := kind_at h
  subst e1
  have HB := hide bA
  have HE := hide (Box.new w #[.slice a1 x.k.length c1] 33)
  have hgs : Hid (w.heap.size < (w.alloc (.cells #[.slice a1 x.k.length c1] 33)).heap.size) := hide (by simp)
  clear h bA
  have HV : Hid (subX x.k a b = subL x.k b 7 a) := hide rfl
  have HS : Hid (∀ n a, subL x.k b (n + 1) a = if inB a 0 ((x.k.length : Int) - 1) then (if a = b then true else subL x.k b n (x.k.getD a.toNat default).s) else false) := hide (fun _ _ => rfl)
  have HZ : Hid (∀ a, subL x.k b 0 a = false) := hide (fun _ => rfl)
  have HNO : Hid (inB b 0 ((x.k.length : Int) - 1) = false → ∀ n a, subL x.k b n a = false) := hide (fun h n a => subL_no h n a)
  obtain ⟨V, hV⟩ : ∃ V, subX x.k a b = V := ⟨_, rfl⟩
  rw [hV]
  rw [hV] at HV
  clear hV
  unfold pgV
  generalize hn : x.k.length = n at *
  have hw : IntKind.i64.wrap ((n : Int) - 1) = (n : Int) - 1 := by rw [IntKind.wrap_i64]; omega
  go_enter Try.func73, Try.ntmps73
  go_wp2
  generalize w.alloc (.cells #[.slice a1 n c1] 33) = W at *
  clear HNO
  have HVW : Hid (Below W.heap.size W W) := hide (Below.refl _ _)
  go_loopw [1, 7] (fun q i wr => ∃ (t : Nat) (a : Int), t ≤ 7 ∧ q = .int .i64 a ∧ i = .int .i64 (t : Int) ∧ Hid (V = subL x.k b (7 - t) a) ∧ Hid (Below W.heap.size W wr)) (fun _ i _ => 7 - (intOf i).toNat)
  case atStart => exact ⟨0, a, by omega, rfl, rfl, HV, HVW⟩
  case round =>
    clear HV HVW
    obtain ⟨t, a2, ht, rfl, rfl, HV, HW⟩ := hrel
    have HB2 := hide (HB.out.trans (HW.out.mono HB.out.size))
    have q0 := (HE.out.below hgs.out HW.out) 0 _ rfl
    by_cases hlt : t < 7
    · have hle : (t : Int) ≤ 6 := by omega
      have HU : Hid (V = if inB a2 0 ((n : Int) - 1) then (if a2 = b then true else subL x.k b (7 - (t + 1)) (x.k.getD a2.toNat default).s) else false) := hide (by rw [HV.out, show 7 - t = (7 - (t + 1)) + 1 by omega, HS.out])
      clear HV
      go_wp2_with fail
      refine (hasImpl _ x _ n c1 a2 hm).mono ?_
      rintro e w2 ⟨rfl, b2⟩
      replace HW := hide (HW.out.trans (b2.mono HW.out.size))
      clear b2 HB2
      have HB3 := hide (HB.out.trans (HW.out.mono HB.out.size))
      replace q0 := (HE.out.below hgs.out HW.out) 0 _ rfl
      cases c : inB a2 0 ((n : Int) - 1) with
      | false =>
        have HF : Hid (V = false) := hide (by rw [HU.out, c]; rfl)
        go_wp2
        go_ret
        exact ⟨by rw [HF.out]; rfl, HB3.out⟩
      | true =>
        obtain ⟨h0, h1⟩ := inB_yes c
        obtain ⟨j, rfl⟩ : ∃ j : Nat, a2 = (j : Int) := ⟨a2.toNat, by omega⟩
        have hj : j < n := by omega
        obtain ⟨a', cap', ea, _, _, hc⟩ := HX.out _ HB3.out
        cases ea
        obtain ⟨bb, o, rfl, _, hcell⟩ := hc (by omega)
        obtain ⟨pv1, pv2, pv3, e0, e1, e2, e3, e4, r1, r2, r3⟩ := hcell j hj
        clear hcell hc r1 r2 r3
        rw [show ((j : Int)).toNat = j from rfl] at HU
        obtain ⟨y, hy⟩ : ∃ y, x.k.getD j default = y := ⟨_, rfl⟩
        rw [hy] at e0 e1 HU
        clear hy
        by_cases hab : (j : Int) = b
        · have HF : Hid (V = true) := hide (by rw [HU.out, if_pos c, if_pos hab])
          have hab' : ((j : Int) == b) = true := by rw [hab]; simp
          clear hab
          go_wp2
          go_ret
          exact ⟨by rw [HF.out]; rfl, HB3.out⟩
        · have HF : Hid (V = subL x.k b (7 - (t + 1)) y.s) := hide (by rw [HU.out, if_pos c, if_neg hab])
          have hab' : ((j : Int) == b) = false := by simpa using hab
          clear hab
          go_wp2
          exact ⟨⟨t + 1, y.s, by omega, rfl, by go_num, HF, HW⟩, by simp [intOf]; omega⟩
    · obtain rfl : t = 7 := by omega
      have HF : Hid (V = false) := hide (by rw [HV.out]; exact HZ.out _)
      have hle : ¬ (7 : Int) ≤ 6 := by omega
      go_wp2
      go_ret
      exact ⟨by rw [HF.out]; rfl, HB2.out⟩
end Go.Proofs.Ytobomcfiincpoaa
