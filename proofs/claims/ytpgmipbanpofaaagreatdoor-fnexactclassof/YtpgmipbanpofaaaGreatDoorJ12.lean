/-
  Joined: ConstOkJ, ConstOkK, ConstB.
-/
import Derived.Test.YtpgmipbanpofaaaGreatDoorJ11
import Derived.Test.YtpgmipbanpofaaaGreatDoorJ10
import Derived.Test.YtpgmipbanpofaaaGreatDoorJ6
/-
  What ConstOk answers, in the program and in its model.
-/
namespace Go.Proofs.YtpgmipbanpofaaaGreatDoor
open Go.RowKit Go.Maps

theorem Pool.len {w : World} {g : Nat} {D : DataW Unit} (h : Pool w g D) (ty : TypeId) : (Builtin.len_ #[104] ty #[.map (some g)]).run Tryz.prog w = .ok (.int .i64 (Maps.size D)) w :=
  World.ownsMap.len h Tryz.underlying104 ty

set_option maxRecDepth 100000 in
set_option maxHeartbeats 4000000 in
theorem constOkCore (k n n' : Int) (a b a' b' : ByteArray) (R : Bool) (z : Nat) (V : Bool) (w : World) (hR : RightD (pD k n a b) R) (hz : Maps.size (pD k n a b) = z)
    (h0 : ∃ s, (pD k n a b).atKey (.int .i64 0) (dPart 0 noS) = dPart n' s) (h1 : ∃ m, (pD k n a b).atKey (.int .i64 1) (dPart 0 noS) = dPart m a') (h2 : ∃ m, (pD k n a b).atKey (.int .i64 2) (dPart 0 noS) = dPart m b')
    (hV : V = (decide (0 < z) && R && ((n' == n) && (a'.toList == a.toList) && (b'.toList == b.toList)))) :
    Calls Tryz.prog 90 #[constV k n a b] w fun e w' => e = .returned (.bool V) ∧ Below w.heap.size w w' := by
  obtain ⟨s0, h0⟩ := h0
  obtain ⟨m1, h1⟩ := h1
  obtain ⟨m2, h2⟩ := h2
  have HV := hide hV
  have HR := hide hR
  have HK0 := hide h0
  have HK1 := hide h1
  have HK2 := hide h2
  have HZ := hide hz
  clear hV hR h0 h1 h2 hz
  have HX := hide (Box.new w #[.int .i64 k, .int .i64 n, .string a, .string b] 42)
  have HB := hide ((Below.refl w.heap.size w).alloc (Nat.le_refl _) (.cells #[.int .i64 k, .int .i64 n, .string a, .string b] 42))
  have hgs : Hid (w.heap.size < (w.alloc (.cells #[.int .i64 k, .int .i64 n, .string a, .string b] 42)).heap.size) := hide (by simp)
  have q0 := HX.out 0 _ rfl
  have q1 := HX.out 1 _ rfl
  have q2 := HX.out 2 _ rfl
  have q3 := HX.out 3 _ rfl
  unfold constV
  go_enter Tryz.func90, Tryz.ntmps90
  go_wp2_with fail
  clear q0 q1 q2 q3
  generalize w.alloc (.cells #[.int .i64 k, .int .i64 n, .string a, .string b] 42) = W at *
  refine (referredImpl k n a b _).mono ?_
  rintro e w1 ⟨g, rfl, hg, hP, b1⟩
  have HP := hide hP
  replace HX := hide (HX.out.below hgs.out b1)
  replace HB := hide (HB.out.trans (b1.mono HB.out.size))
  clear hP b1 hgs hg
  have hl : ∀ (m : Lo w1) (ty : TypeId), (Builtin.len_ #[104] ty #[.map (some g)]).run Tryz.prog m.v = .ok (.int .i64 (z : Int)) m.v := fun m ty => by rw [← HZ.out]; exact (HP.out.below m.b).len ty
  have q0 := fun m : Lo w1 => m.cell (HX.out 0 _ rfl)
  have q1 := fun m : Lo w1 => m.cell (HX.out 1 _ rfl)
  have q2 := fun m : Lo w1 => m.cell (HX.out 2 _ rfl)
  have q3 := fun m : Lo w1 => m.cell (HX.out 3 _ rfl)
  have HM : Hid (∀ m : Lo w1, Calls Tryz.prog 100 #[.map (some g)] m.v fun e w' => e = .returned (.bool R) ∧ Below m.v.heap.size m.v w') := hide fun m => partsRightImpl g _ R m.v (HP.out.below m.b) HR.out
  have HC : Hid (∀ m : Lo w1, Calls Tryz.prog 84 #[.int .i64 k, .map (some g)] m.v fun e w' => e = .returned (.agg #[.int .i64 k, .int .i64 n', .string a', .string b']) ∧ Below m.v.heap.size m.v w') := hide fun m => constOfImpl g _ k n' m1 m2 s0 a' b' m.v (HP.out.below m.b) HK0.out HK1.out HK2.out
  by_cases hz0 : z = 0
  · have HF : Hid (V = false) := hide (by rw [HV.out, hz0]; simp)
    subst hz0
    go_wp2
    refine wp_region_low (by kernel_rfl) (by kernel_rfl) ?_
    repeat (go_big_quiet_step ((fail)))
    refine wpQuiet_nil ?_
    rintro _ ⟨m, rfl⟩
    go_wp2
    go_ret
    exact ⟨by rw [HF.out]; rfl, HB.out.trans (m.b.mono HB.out.size)⟩
  · have hz1 : 0 < z := by omega
    clear hz0
    cases R with
    | false =>
      have HF : Hid (V = false) := hide (by rw [HV.out]; simp)
      go_wp2
      refine wp_region_low (by kernel_rfl) (by kernel_rfl) ?_
      repeat (go_big_quiet_step ((first | (go_at_call 100; exact low_below (HM.out _)))))
      refine wpQuiet_nil ?_
      rintro _ ⟨m, rfl⟩
      go_wp2
      go_ret
      exact ⟨by rw [HF.out]; rfl, HB.out.trans (m.b.mono HB.out.size)⟩
    | true =>
      have HF : Hid (V = ((n' == n) && (a'.toList == a.toList) && (b'.toList == b.toList))) := hide (by rw [HV.out, decide_eq_true (by omega : 0 < z)]; simp)
      cases e1 : (n' == n) with
      | false =>
        replace HF : Hid (V = false) := hide (by rw [HF.out, e1]; rfl)
        go_wp2
        refine wp_region_low (by kernel_rfl) (by kernel_rfl) ?_
        repeat (go_big_quiet_step ((first | (go_at_call 100; exact low_below (HM.out _)) | (go_at_call 84; exact low_below (HC.out _)))))
        refine wpQuiet_nil ?_
        rintro _ ⟨m, rfl⟩
        go_wp2
        go_ret
        exact ⟨by rw [HF.out]; rfl, HB.out.trans (m.b.mono HB.out.size)⟩
      | true =>
        cases e2 : (a'.toList == a.toList) with
        | false =>
          replace HF : Hid (V = false) := hide (by rw [HF.out, e1, e2]; rfl)
          go_wp2
          refine wp_region_low (by kernel_rfl) (by kernel_rfl) ?_
          repeat (go_big_quiet_step ((first | (go_at_call 100; exact low_below (HM.out _)) | (go_at_call 84; exact low_below (HC.out _)))))
          refine wpQuiet_nil ?_
          rintro _ ⟨m, rfl⟩
          go_wp2
          go_ret
          exact ⟨by rw [HF.out]; rfl, HB.out.trans (m.b.mono HB.out.size)⟩
        | true =>
          cases e3 : (b'.toList == b.toList) with
          | false =>
            replace HF : Hid (V = false) := hide (by rw [HF.out, e1, e2, e3]; rfl)
            go_wp2
            refine wp_region_low (by kernel_rfl) (by kernel_rfl) ?_
            repeat (go_big_quiet_step ((first | (go_at_call 100; exact low_below (HM.out _)) | (go_at_call 84; exact low_below (HC.out _)))))
            refine wpQuiet_nil ?_
            rintro _ ⟨m, rfl⟩
            go_wp2
            go_ret
            exact ⟨by rw [HF.out]; rfl, HB.out.trans (m.b.mono HB.out.size)⟩
          | true =>
            replace HF : Hid (V = true) := hide (by rw [HF.out, e1, e2, e3]; rfl)
            go_wp2
            refine wp_region_low (by kernel_rfl) (by kernel_rfl) ?_
            repeat (go_big_quiet_step ((first | (go_at_call 100; exact low_below (HM.out _)) | (go_at_call 84; exact low_below (HC.out _)))))
            refine wpQuiet_nil ?_
            rintro _ ⟨m, rfl⟩
            go_wp2
            go_ret
            exact ⟨by rw [HF.out]; rfl, HB.out.trans (m.b.mono HB.out.size)⟩
end Go.Proofs.YtpgmipbanpofaaaGreatDoor
/-
  ConstOk: the program and its model say the same.
-/
namespace Go.Proofs.YtpgmipbanpofaaaGreatDoor
open Go.RowKit Go.Maps

theorem constOkImpl (k n : Int) (a b : ByteArray) (w : World) (ha : a.size ≤ maxLen) (hb : b.size ≤ maxLen) :
    Calls Tryz.prog 90 #[constV k n a b] w fun e w' => e = .returned (.bool (kOk k n a b)) ∧ Below w.heap.size w w' := by
  have hR := rightD_of k n a b ha hb
  by_cases h1 : k = 1
  · subst h1
    exact constOkCore 1 n n a b noS noS _ 1 _ w hR rfl ⟨noS, rfl⟩ ⟨0, rfl⟩ ⟨0, rfl⟩ (by rw [noS_eq a, noS_eq b]; simp [kOk, rB, Bool.and_assoc])
  · by_cases h2 : k = 2
    · subst h2
      exact constOkCore 2 n 0 a b a noS _ 1 _ w hR rfl ⟨noS, rfl⟩ ⟨0, rfl⟩ ⟨0, rfl⟩ (by
        rw [noS_eq b, show ((0 : Int) == n) = (n == 0) from BEq.comm]
        simp only [kOk, rB]
        cases n == 0 <;> cases nameB a <;> simp)
    · by_cases h3 : k = 3 ∨ k = 4
      · have e : pD k n a b = .map [(.int .i64 1, dPart 0 a), (.int .i64 2, dPart 0 b)] := by simp [pD, h1, h2, h3]
        exact constOkCore k n 0 a b a b _ 2 _ w hR (by rw [e]; rfl) ⟨noS, by rw [e]; rfl⟩ ⟨0, by rw [e]; rfl⟩ ⟨0, by rw [e]; rfl⟩ (by
          rw [show ((0 : Int) == n) = (n == 0) from BEq.comm]
          simp only [kOk, rB, h1, h2, h3, if_false, if_true]
          cases n == 0 <;> cases nameB a <;> cases nameB b <;> simp)
      · have e : pD k n a b = .map [] := by simp [pD, h1, h2, h3]
        exact constOkCore k n 0 a b noS noS _ 0 _ w hR (by rw [e]; rfl) ⟨noS, by rw [e]; rfl⟩ ⟨0, by rw [e]; rfl⟩ ⟨0, by rw [e]; rfl⟩ (by simp [kOk, h1, h2, h3])
end Go.Proofs.YtpgmipbanpofaaaGreatDoor
/-
  The bytes of a const, by the program and by its model.
-/
namespace Go.Proofs.YtpgmipbanpofaaaGreatDoor
open Go.RowKit Go.Maps

theorem btsByt (s : ByteArray) : Byt (bts s) := by
  intro z hz
  simp only [bts, List.mem_map] at hz
  obtain ⟨x, _, rfl⟩ := hz
  have := x.toNat_lt
  omega
theorem ptByt (s : ByteArray) : Byt (pt s) := by
  unfold pt
  split
  · exact (pn_byt _).append (btsByt s)
  · intro z hz; cases hz

/-- The bytes of a part. -/
def pieB (p n : Int) (s : ByteArray) : List Int := bif p == 0 then pw n else pt s
theorem pieB_len (p n : Int) (s : ByteArray) : (pieB p n s).length ≤ 204 := by
  unfold pieB
  have := pw_len n
  have := pt_len s
  cases p == 0 <;> simp <;> omega
theorem pieB_byt (p n : Int) (s : ByteArray) : Byt (pieB p n s) := by
  unfold pieB
  cases p == 0
  · exact ptByt s
  · exact pw_byt n
/-- The bytes of a const. -/
def kB0 (k n : Int) (a b : ByteArray) : List Int := pn k ++ (if k = 1 then pw n else pt a ++ (if k = 2 then [] else pt b))
def kB (k n : Int) (a b : ByteArray) : List Int := bif kOk k n a b then kB0 k n a b else []
theorem kB0_len (k n : Int) (a b : ByteArray) : (kB0 k n a b).length ≤ 412 := by
  unfold kB0
  have := pn_len k
  have := pw_len n
  have := pt_len a
  have := pt_len b
  split
  · simp; omega
  · split <;> simp <;> omega
theorem kB_len (k n : Int) (a b : ByteArray) : (kB k n a b).length ≤ 412 := by
  unfold kB
  cases kOk k n a b
  · simp
  · exact kB0_len k n a b
theorem kB0_byt (k n : Int) (a b : ByteArray) : Byt (kB0 k n a b) := by
  unfold kB0
  refine (pn_byt _).append ?_
  split
  · exact pw_byt n
  · refine (ptByt a).append ?_
    split
    · intro z hz; cases hz
    · exact ptByt b
theorem kB_byt (k n : Int) (a b : ByteArray) : Byt (kB k n a b) := by
  unfold kB
  cases kOk k n a b
  · intro z hz; cases hz
  · exact kB0_byt k n a b

/-- The bytes of those parts of a const that stand ahead of place j. -/
def upB (k n : Int) (a b : ByteArray) : Nat → List Int
  | 0 => []
  | 1 => bif refB k 0 then pw n else []
  | 2 => (bif refB k 0 then pw n else []) ++ (bif refB k 1 then pt a else [])
  | _ => (bif refB k 0 then pw n else []) ++ (bif refB k 1 then pt a else []) ++ (bif refB k 2 then pt b else [])
theorem upB_len (k n : Int) (a b : ByteArray) (j : Nat) : (upB k n a b j).length ≤ 412 := by
  have := pw_len n
  have := pt_len a
  have := pt_len b
  match j with
  | 0 => simp [upB]
  | 1 => unfold upB; cases refB k 0 <;> simp; omega
  | 2 => unfold upB; cases refB k 0 <;> cases refB k 1 <;> simp <;> omega
  | j + 3 => unfold upB; cases refB k 0 <;> cases refB k 1 <;> cases refB k 2 <;> simp <;> omega

theorem kOk_kind {k n : Int} {a b : ByteArray} (h : kOk k n a b = true) : k = 1 ∨ k = 2 ∨ k = 3 ∨ k = 4 := by
  unfold kOk at h
  by_cases h1 : k = 1
  · omega
  · by_cases h2 : k = 2
    · omega
    · by_cases h3 : k = 3 ∨ k = 4
      · omega
      · simp [h1, h2, h3] at h
theorem upB_end {k n : Int} {a b : ByteArray} (h : kOk k n a b = true) : pn k ++ upB k n a b 3 = kB k n a b := by
  unfold kB kB0
  rw [h]
  rcases kOk_kind h with rfl | rfl | rfl | rfl
  all_goals simp [upB, refB]

/-- What stands at a place of the parts. -/
theorem pool_at (k n : Int) (a b : ByteArray) (ha : a.size ≤ maxLen) (hb : b.size ≤ maxLen) (j : Nat) (hj : j < 3) :
    ∃ m s, (pD k n a b).atKey (.int .i64 j) (dPart 0 noS) = dPart m s ∧ s.size ≤ maxLen ∧ Maps.has (pD k n a b) (.int .i64 j) = refB k j ∧ upB k n a b (j + 1) = upB k n a b j ++ (bif refB k j then pieB j m s else []) := by
  have h0 : noS.size ≤ maxLen := by simp [maxLen, ByteArray.size]
  have hj3 : j = 0 ∨ j = 1 ∨ j = 2 := by omega
  by_cases h1 : k = 1
  · subst h1
    rcases hj3 with rfl | rfl | rfl
    · exact ⟨n, noS, rfl, h0, rfl, rfl⟩
    · exact ⟨0, noS, rfl, h0, rfl, by simp [upB, refB]⟩
    · exact ⟨0, noS, rfl, h0, rfl, by simp [upB, refB]⟩
  · by_cases h2 : k = 2
    · subst h2
      rcases hj3 with rfl | rfl | rfl
      · exact ⟨0, noS, rfl, h0, rfl, rfl⟩
      · exact ⟨0, a, rfl, ha, rfl, rfl⟩
      · exact ⟨0, noS, rfl, h0, rfl, by simp [upB, refB]⟩
    · by_cases h3 : k = 3 ∨ k = 4
      · have e : pD k n a b = .map [(.int .i64 1, dPart 0 a), (.int .i64 2, dPart 0 b)] := by simp [pD, h1, h2, h3]
        rw [e]
        rcases hj3 with rfl | rfl | rfl
        · exact ⟨0, noS, rfl, h0, by simp [refB, h1, h2, h3]; rfl, by simp [upB, refB, h1, h2]⟩
        · exact ⟨0, a, rfl, ha, by simp [refB, h1, h2, h3]; rfl, by simp [upB, refB, h1, h2, h3, pieB]⟩
        · exact ⟨0, b, rfl, hb, by simp [refB, h1, h2, h3]; rfl, by simp [upB, refB, h1, h2, h3, pieB]⟩
      · have e : pD k n a b = .map [] := by simp [pD, h1, h2, h3]
        have hr : ∀ p, refB k p = false := fun p => by simp [refB, h1, h2, h3]
        rw [e]
        rcases hj3 with rfl | rfl | rfl
        all_goals exact ⟨0, noS, rfl, h0, by rw [hr]; rfl, by simp [upB, hr]⟩

theorem pool_apart {w : World} {b g : Nat} {v : Value} {zs : List Int} {D : DataW Unit} (h : Own w b v zs) (hp : Pool w g D) : v.ownBlock ≠ some g := by
  intro e
  rcases h.2 with ⟨rfl, _⟩ | ⟨q, cap, cur, rfl, _, hg, _⟩
  · simp [Value.ownBlock] at e
  · simp [Value.ownBlock] at e
    subst e
    obtain ⟨es, clock, hb, _⟩ := hp
    rw [hg] at hb
    cases hb

set_option maxRecDepth 100000 in
set_option maxHeartbeats 4000000 in
theorem constBytesSpec (k n : Int) (a b : ByteArray) (w : World) (ha : a.size ≤ maxLen) (hb : b.size ≤ maxLen) :
    Calls Tryz.prog 36 #[constV k n a b] w fun e w' => ∃ v, e = .returned v ∧ Own w' w.heap.size v (kB k n a b) ∧ Below w.heap.size w w' := by
  have HA := hide ha
  have HZ := hide hb
  clear ha hb
  have HX := hide (Box.new w #[.int .i64 k, .int .i64 n, .string a, .string b] 42)
  have HB := hide ((Below.refl w.heap.size w).alloc (Nat.le_refl _) (.cells #[.int .i64 k, .int .i64 n, .string a, .string b] 42))
  have hgs : Hid (w.heap.size < (w.alloc (.cells #[.int .i64 k, .int .i64 n, .string a, .string b] 42)).heap.size) := hide (by simp)
  have q0 := HX.out 0 _ rfl
  have q1 := HX.out 1 _ rfl
  have q2 := HX.out 2 _ rfl
  have q3 := HX.out 3 _ rfl
  unfold constV
  go_enter Tryz.func36, Tryz.ntmps36
  go_wp2_with fail
  clear q0 q1 q2 q3
  generalize w.alloc (.cells #[.int .i64 k, .int .i64 n, .string a, .string b] 42) = W at *
  refine (constOkSpec k n a b _ HA.out HZ.out).mono ?_
  rintro e w1 ⟨rfl, b1⟩
  replace HX := hide (HX.out.below hgs.out b1)
  replace hgs := hide (Nat.lt_of_lt_of_le hgs.out b1.size)
  replace HB := hide (HB.out.trans (b1.mono HB.out.size))
  clear b1
  cases hk : kOk k n a b with
  | false =>
    have HF : Hid (kB k n a b = []) := hide (by simp [kB, hk])
    have s1 := HB.out.size
    go_wp2
    go_ret
    exact ⟨_, rfl, by rw [HF.out]; exact own_empty _ _ s1, HB.out.alloc s1 _⟩
  | true =>
    have HF : Hid (kB k n a b = kB0 k n a b) := hide (by simp [kB, hk])
    have hkk := kOk_kind hk
    clear hk
    have q0 := HX.out 0 _ rfl
    go_wp2_with fail
    clear q0
    refine (putNumSpec _ _).mono ?_
    rintro e w2 ⟨v2, rfl, o2, b2⟩
    have LO : Hid (∀ q, v2.ownBlock = some q → w.heap.size < q) := hide (fun q hq => Nat.lt_of_lt_of_le hgs.out (o2.lt q hq).1)
    have HO := hide (o2.mono HB.out.size)
    replace HX := hide (HX.out.below hgs.out b2)
    replace hgs := hide (Nat.lt_of_lt_of_le hgs.out b2.size)
    replace HB := hide (HB.out.trans (b2.mono HB.out.size))
    clear b2 o2
    have hpk := pn_len k
    have q0 := HX.out 0 _ rfl
    have q1 := HX.out 1 _ rfl
    have q2 := HX.out 2 _ rfl
    have q3 := HX.out 3 _ rfl
    by_cases h1 : k = 1
    · subst h1
      have HK : Hid (kB0 1 n a b = pn 1 ++ pw n) := hide (by simp [kB0])
      have hpl := pw_len n
      go_wp2_with fail
      clear q0 q1 q2 q3
      refine (putWordSpec _ _).mono ?_
      rintro e w3 ⟨v3, rfl, o3, b3⟩
      have HO3 := hide o3
      replace HB := hide (HB.out.trans (b3.mono HB.out.size))
      replace HO := hide (HO.out.below b3)
      have s3 := HB.out.size
      clear b3 o3
      go_wp2_with (at_builtin; refine app_own rfl _ _ rfl w.heap.size _ _ _ _ (pw n) rfl HO.out rfl HO3.out (pw_byt _) (by omega) (by omega) s3 ?_; intro v5 w5 o5 g5 n5; have HB5 := hide (HB.out.grown g5 s3 (fun q hq => (HO.out.lt q hq).1)); have HO5 := hide o5; clear o5 g5 n5)
      go_ret
      exact ⟨_, rfl, by rw [HF.out, HK.out]; exact HO5.out, HB5.out⟩
    · have e1 : (k == 1) = false := by simpa using h1
      by_cases h2 : k = 2
      · subst h2
        have HK : Hid (kB0 2 n a b = pn 2 ++ pt a) := hide (by simp [kB0])
        have hpl := pt_len a
        go_wp2_with fail
        clear q0 q1 q2 q3
        refine (putTextSpec _ _ HA.out).mono ?_
        rintro e w3 ⟨v3, rfl, o3, b3⟩
        have HO3 := hide o3
        replace HX := hide (HX.out.below hgs.out b3)
        replace hgs := hide (Nat.lt_of_lt_of_le hgs.out b3.size)
        replace HB := hide (HB.out.trans (b3.mono HB.out.size))
        replace HO := hide (HO.out.below b3)
        have s3 := HB.out.size
        clear b3 o3
        go_wp2_with (at_builtin; refine app_own rfl _ _ rfl w.heap.size _ _ _ _ (pt a) rfl HO.out rfl HO3.out (ptByt _) (by omega) (by omega) s3 ?_; intro v5 w5 o5 g5 n5; have HB5 := hide (HB.out.grown g5 s3 (fun q hq => (HO.out.lt q hq).1)); have HO5 := hide o5; have HX5 := hide (HX.out.apart hgs.out g5 (fun e => by have := LO.out _ e; omega)); have hgs5 := hide (Nat.lt_of_lt_of_le hgs.out g5.size); clear o5 g5 n5; have r0 := HX5.out 0 _ rfl; have r3 := HX5.out 3 _ rfl)
        go_ret
        exact ⟨_, rfl, by rw [HF.out, HK.out]; exact HO5.out, HB5.out⟩
      · have e2 : (k == 2) = false := by simpa using h2
        have HK : Hid (kB0 k n a b = pn k ++ pt a ++ pt b) := hide (by simp [kB0, h1, h2])
        have hplb := pt_len b
        have hpl := pt_len a
        go_wp2_with fail
        clear q0 q1 q2 q3
        refine (putTextSpec _ _ HA.out).mono ?_
        rintro e w3 ⟨v3, rfl, o3, b3⟩
        have HO3 := hide o3
        replace HX := hide (HX.out.below hgs.out b3)
        replace hgs := hide (Nat.lt_of_lt_of_le hgs.out b3.size)
        replace HB := hide (HB.out.trans (b3.mono HB.out.size))
        replace HO := hide (HO.out.below b3)
        have s3 := HB.out.size
        clear b3 o3
        go_wp2_with (at_builtin; refine app_own rfl _ _ rfl w.heap.size _ _ _ _ (pt a) rfl HO.out rfl HO3.out (ptByt _) (by omega) (by omega) s3 ?_; intro v5 w5 o5 g5 n5; have HB5 := hide (HB.out.grown g5 s3 (fun q hq => (HO.out.lt q hq).1)); have HO5 := hide o5; have HX5 := hide (HX.out.apart hgs.out g5 (fun e => by have := LO.out _ e; omega)); have hgs5 := hide (Nat.lt_of_lt_of_le hgs.out g5.size); clear o5 g5 n5; have r0 := HX5.out 0 _ rfl; have r3 := HX5.out 3 _ rfl)
        clear r0 r3
        refine (putTextSpec _ _ HZ.out).mono ?_
        rintro e w6 ⟨v6, rfl, o6, b6⟩
        have HO6 := hide o6
        replace HO5 := hide (HO5.out.below b6)
        replace HB5 := hide (HB5.out.trans (b6.mono HB5.out.size))
        have s6 := HB5.out.size
        clear b6 o6
        go_wp2_with (at_builtin; refine app_own rfl _ _ rfl w.heap.size _ _ _ _ (pt b) rfl HO5.out rfl HO6.out (ptByt _) (by omega) (by simp only [List.length_append]; omega) s6 ?_; intro v7 w7 o7 g7 n7; have HB7 := hide (HB5.out.grown g7 s6 (fun q hq => (HO5.out.lt q hq).1)); have HO7 := hide o7; clear o7 g7 n7)
        go_ret
        exact ⟨_, rfl, by rw [HF.out, HK.out]; exact HO7.out, HB7.out⟩
end Go.Proofs.YtpgmipbanpofaaaGreatDoor
