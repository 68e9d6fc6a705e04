/-
  The bytes of a const, by the program and by its model.
-/
import Derived.Test.YthagfdcfpffaoaaConstOkK
import Derived.Test.YthagfdcfpffaoaaPnB
namespace Go.Proofs.Ythagfdcfpffaoaa
open Go.RowKit Go.Maps

theorem btsByt (s : ByteArray) : Byt (bts s) := by
  intro z hz
  simp only [bts, List.mem_map] at hz
  obtain ⟨x, _, rfl⟩ := hz
  have := x.toNat_lt
  omega
theorem ptByt (s : ByteArray) : Byt (pt s) := by
  unfold pt
  split
  · exact (pn_byt _).append (btsByt s)
  · intro z hz; cases hz

/-- The bytes of a part. -/
def pieB (p n : Int) (s : ByteArray) : List Int := bif p == 0 then pw n else pt s
theorem pieB_len (p n : Int) (s : ByteArray) : (pieB p n s).length ≤ 204 := by
  unfold pieB
  have := pw_len n
  have := pt_len s
  cases p == 0 <;> simp <;> omega
theorem pieB_byt (p n : Int) (s : ByteArray) : Byt (pieB p n s) := by
  unfold pieB
  cases p == 0
  · exact ptByt s
  · exact pw_byt n
/-- The bytes of a const. -/
def kB0 (k n : Int) (a b : ByteArray) : List Int := pn k ++ (if k = 1 then pw n else pt a ++ (if k = 2 then [] else pt b))
def kB (k n : Int) (a b : ByteArray) : List Int := bif kOk k n a b then kB0 k n a b else []
theorem kB0_len (k n : Int) (a b : ByteArray) : (kB0 k n a b).length ≤ 412 := by
  unfold kB0
  have := pn_len k
  have := pw_len n
  have := pt_len a
  have := pt_len b
  split
  · simp; omega
  · split <;> simp <;> omega
theorem kB_len (k n : Int) (a b : ByteArray) : (kB k n a b).length ≤ 412 := by
  unfold kB
  cases kOk k n a b
  · simp
  · exact kB0_len k n a b
theorem kB0_byt (k n : Int) (a b : ByteArray) : Byt (kB0 k n a b) := by
  unfold kB0
  refine (pn_byt _).append ?_
  split
  · exact pw_byt n
  · refine (ptByt a).append ?_
    split
    · intro z hz; cases hz
    · exact ptByt b
theorem kB_byt (k n : Int) (a b : ByteArray) : Byt (kB k n a b) := by
  unfold kB
  cases kOk k n a b
  · intro z hz; cases hz
  · exact kB0_byt k n a b

/-- The bytes of those parts of a const that stand ahead of place j. -/
def upB (k n : Int) (a b : ByteArray) : Nat → List Int
  | 0 => []
  | 1 => bif refB k 0 then pw n else []
  | 2 => (bif refB k 0 then pw n else []) ++ (bif refB k 1 then pt a else [])
  | _ => (bif refB k 0 then pw n else []) ++ (bif refB k 1 then pt a else []) ++ (bif refB k 2 then pt b else [])
theorem upB_len (k n : Int) (a b : ByteArray) (j : Nat) : (upB k n a b j).length ≤ 412 := by
  have := pw_len n
  have := pt_len a
  have := pt_len b
  match j with
  | 0 => simp [upB]
  | 1 => unfold upB; cases refB k 0 <;> simp; omega
  | 2 => unfold upB; cases refB k 0 <;> cases refB k 1 <;> simp <;> omega
  | j + 3 => unfold upB; cases refB k 0 <;> cases refB k 1 <;> cases refB k 2 <;> simp <;> omega

theorem kOk_kind {k n : Int} {a b : ByteArray} (h : kOk k n a b = true) : k = 1 ∨ k = 2 ∨ k = 3 ∨ k = 4 := by
  unfold kOk at h
  by_cases h1 : k = 1
  · omega
  · by_cases h2 : k = 2
    · omega
    · by_cases h3 : k = 3 ∨ k = 4
      · omega
      · simp [h1, h2, h3] at h
theorem upB_end {k n : Int} {a b : ByteArray} (h : kOk k n a b = true) : pn k ++ upB k n a b 3 = kB k n a b := by
  unfold kB kB0
  rw [h]
  rcases kOk_kind h with rfl | rfl | rfl | rfl
  all_goals simp [upB, refB]

/-- What stands at a place of the parts. -/
theorem pool_at (k n : Int) (a b : ByteArray) (ha : a.size ≤ maxLen) (hb : b.size ≤ maxLen) (j : Nat) (hj : j < 3) :
    ∃ m s, (pD k n a b).atKey (.int .i64 j) (dPart 0 noS) = dPart m s ∧ s.size ≤ maxLen ∧ Maps.has (pD k n a b) (.int .i64 j) = refB k j ∧ upB k n a b (j + 1) = upB k n a b j ++ (bif refB k j then pieB j m s else []) := by
  have h0 : noS.size ≤ maxLen := by simp [maxLen, ByteArray.size]
  have hj3 : j = 0 ∨ j = 1 ∨ j = 2 := by omega
  by_cases h1 : k = 1
  · subst h1
    rcases hj3 with rfl | rfl | rfl
    · exact ⟨n, noS, rfl, h0, rfl, rfl⟩
    · exact ⟨0, noS, rfl, h0, rfl, by simp [upB, refB]⟩
    · exact ⟨0, noS, rfl, h0, rfl, by simp [upB, refB]⟩
  · by_cases h2 : k = 2
    · subst h2
      rcases hj3 with rfl | rfl | rfl
      · exact ⟨0, noS, rfl, h0, rfl, rfl⟩
      · exact ⟨0, a, rfl, ha, rfl, rfl⟩
      · exact ⟨0, noS, rfl, h0, rfl, by simp [upB, refB]⟩
    · by_cases h3 : k = 3 ∨ k = 4
      · have e : pD k n a b = .map [(.int .i64 1, dPart 0 a), (.int .i64 2, dPart 0 b)] := by simp [pD, h1, h2, h3]
        rw [e]
        rcases hj3 with rfl | rfl | rfl
        · exact ⟨0, noS, rfl, h0, by simp [refB, h1, h2, h3]; rfl, by simp [upB, refB, h1, h2]⟩
        · exact ⟨0, a, rfl, ha, by simp [refB, h1, h2, h3]; rfl, by simp [upB, refB, h1, h2, h3, pieB]⟩
        · exact ⟨0, b, rfl, hb, by simp [refB, h1, h2, h3]; rfl, by simp [upB, refB, h1, h2, h3, pieB]⟩
      · have e : pD k n a b = .map [] := by simp [pD, h1, h2, h3]
        have hr : ∀ p, refB k p = false := fun p => by simp [refB, h1, h2, h3]
        rw [e]
        rcases hj3 with rfl | rfl | rfl
        all_goals exact ⟨0, noS, rfl, h0, by rw [hr]; rfl, by simp [upB, hr]⟩

theorem pool_apart {w : World} {b g : Nat} {v : Value} {zs : List Int} {D : DataW Unit} (h : Own w b v zs) (hp : Pool w g D) : v.ownBlock ≠ some g := by
  intro e
  rcases h.2 with ⟨rfl, _⟩ | ⟨q, cap, cur, rfl, _, hg, _⟩
  · simp [Value.ownBlock] at e
  · simp [Value.ownBlock] at e
    subst e
    obtain ⟨es, clock, hb, _⟩ := hp
    rw [hg] at hb
    cases hb

set_option maxRecDepth 100000 in
set_option maxHeartbeats 1000000 in
theorem partBytesImpl (p n : Int) (s : ByteArray) (w : World) (hs : s.size ≤ maxLen) :
    Calls Try.prog 72 #[.int .i64 p, .agg #[.int .i64 n, .string s]] w fun e w' => ∃ v, e = .returned v ∧ Own w' w.heap.size v (pieB p n s) ∧ Below w.heap.size w w' := by
  have HS := hide hs
  clear hs
  have HB := hide ((Below.refl w.heap.size w).alloc (Nat.le_refl _) (.cells #[.int .i64 n, .string s] 97))
  cases hp : (p == 0) with
  | true =>
    have HP : Hid (pieB p n s = pw n) := hide (by simp [pieB, hp])
    go_enter Try.func72, Try.ntmps72
    go_wp2_with fail
    refine (putWordImpl _ _).mono ?_
    rintro e w1 ⟨v, rfl, o1, b1⟩
    have HO := hide (o1.mono HB.out.size)
    replace HB := hide (HB.out.trans (b1.mono HB.out.size))
    clear o1 b1
    go_wp2
    go_ret
    exact ⟨_, rfl, by rw [HP.out]; exact HO.out, HB.out⟩
  | false =>
    have HP : Hid (pieB p n s = pt s) := hide (by simp [pieB, hp])
    go_enter Try.func72, Try.ntmps72
    go_wp2_with fail
    refine (putTextImpl _ _ HS.out).mono ?_
    rintro e w1 ⟨v, rfl, o1, b1⟩
    have HO := hide (o1.mono HB.out.size)
    replace HB := hide (HB.out.trans (b1.mono HB.out.size))
    clear o1 b1
    go_wp2
    go_ret
    exact ⟨_, rfl, by rw [HP.out]; exact HO.out, HB.out⟩

set_option maxRecDepth 100000 in
set_option maxHeartbeats 4000000 in
theorem constBytesImpl (k n : Int) (a b : ByteArray) (w : World) (ha : a.size ≤ maxLen) (hb : b.size ≤ maxLen) :
    Calls Try.prog 38 #[constV k n a b] w fun e w' => ∃ v, e = .returned v ∧ Own w' w.heap.size v (kB k n a b) ∧ Below w.heap.size w w' := by
  have HA := hide ha
  have HZ := hide hb
  clear ha hb
  have HX := hide (Box.new w #[.int .i64 k, .int .i64 n, .string a, .string b] 63)
  have HB := hide ((Below.refl w.heap.size w).alloc (Nat.le_refl _) (.cells #[.int .i64 k, .int .i64 n, .string a, .string b] 63))
  have hgs : Hid (w.heap.size < (w.alloc (.cells #[.int .i64 k, .int .i64 n, .string a, .string b] 63)).heap.size) := hide (by simp)
  have q0 := HX.out 0 _ rfl
  have q1 := HX.out 1 _ rfl
  have q2 := HX.out 2 _ rfl
  have q3 := HX.out 3 _ rfl
  unfold constV
  go_enter Try.func38, Try.ntmps38
  go_wp2_with fail
  clear q0 q1 q2 q3
  generalize w.alloc (.cells #[.int .i64 k, .int .i64 n, .string a, .string b] 63) = W at *
  refine (constOkImpl k n a b _ HA.out HZ.out).mono ?_
  rintro e w1 ⟨rfl, b1⟩
  replace HX := hide (HX.out.below hgs.out b1)
  replace hgs := hide (Nat.lt_of_lt_of_le hgs.out b1.size)
  replace HB := hide (HB.out.trans (b1.mono HB.out.size))
  clear b1
  cases hk : kOk k n a b with
  | false =>
    have HF : Hid (kB k n a b = []) := hide (by simp [kB, hk])
    go_wp2
    go_ret
    exact ⟨_, rfl, by rw [HF.out]; exact World.ownsRow_nil _ _ _ _, HB.out⟩
  | true =>
    have HF := hide (upB_end hk)
    clear hk
    have q0 := HX.out 0 _ rfl
    go_wp2_with fail
    clear q0
    refine (putNumImpl _ _).mono ?_
    rintro e w2 ⟨v2, rfl, o2, b2⟩
    have HO := hide (o2.mono HB.out.size)
    replace HX := hide (HX.out.below hgs.out b2)
    replace hgs := hide (Nat.lt_of_lt_of_le hgs.out b2.size)
    replace HB := hide (HB.out.trans (b2.mono HB.out.size))
    clear b2 o2
    have q0 := HX.out 0 _ rfl
    have q1 := HX.out 1 _ rfl
    have q2 := HX.out 2 _ rfl
    have q3 := HX.out 3 _ rfl
    go_wp2_with fail
    clear q0 q1 q2 q3
    refine (referredImpl k n a b _).mono ?_
    rintro e w3 ⟨g, rfl, hg, hP, b3⟩
    have HP := hide hP
    replace HB := hide (HB.out.trans (b3.mono HB.out.size))
    replace HO := hide (HO.out.below b3)
    clear hP b3 hgs HX
    have hpk := pn_len k
    go_wp2
    go_loopw [3, 16] (fun out x wr => ∃ j : Nat, j ≤ 3 ∧ x = .int .i64 (j : Int) ∧ Hid (Own wr w.heap.size out (pn k ++ upB k n a b j)) ∧ Hid (Pool wr g (pD k n a b)) ∧ Hid (Below w.heap.size w wr)) (fun _ x _ => 3 - (intOf x).toNat)
    case atStart => exact ⟨0, by omega, rfl, hide (by simpa [upB] using HO.out), HP, HB⟩
    case round =>
      obtain ⟨j, hj, rfl, HO1, HP1, HB1⟩ := hrel
      clear HO HP HB
      by_cases hlt : j < 3
      · obtain ⟨m, s, hat, hsl, hhas, hup⟩ := pool_at k n a b HA.out HZ.out j hlt
        have hlk := look_ok HP1.out (k := (j : Int)) (by omega) hat
        rw [hhas] at hlk
        have hul := upB_len k n a b j
        have HU := hide hup
        have HS := hide hsl
        clear hat hhas hup hsl
        have HO2 := hide (HO1.out.below ((Below.refl wr.heap.size wr).alloc (Nat.le_refl _) (.cells #[.int .i64 m, .string s] 97)))
        have HP2 := hide (HP1.out.below ((Below.refl wr.heap.size wr).alloc (Nat.le_refl _) (.cells #[.int .i64 m, .string s] 97)))
        have HB2 := hide (HB1.out.alloc HB1.out.size (.cells #[.int .i64 m, .string s] 97))
        cases hr : refB k j with
        | false =>
          rw [hr] at hlk HU
          go_wp2
          exact ⟨⟨j + 1, by omega, by go_num, hide (by rw [HU.out]; simpa using HO2.out), HP2, HB2⟩, by simp [intOf]; omega⟩
        | true =>
          rw [hr] at hlk HU
          go_wp2_with fail
          refine (partBytesImpl _ _ _ _ HS.out).mono ?_
          rintro e w4 ⟨v4, rfl, o4, b4⟩
          have HO4 := hide o4
          have hpl := pieB_len j m s
          replace HO2 := hide (HO2.out.below b4)
          replace HP2 := hide (HP2.out.below b4)
          replace HB2 := hide (HB2.out.trans (b4.mono HB2.out.size))
          have s2 := HB2.out.size
          clear o4 b4
          go_wp2_with (at_builtin; refine app_own rfl _ _ rfl w.heap.size _ _ _ _ (pieB j m s) rfl HO2.out rfl HO4.out (pieB_byt _ _ _) (by omega) (by simp only [List.length_append]; omega) s2 ?_; intro v5 w5 o5 g5 n5; have HB5 := hide (HB2.out.grown g5 s2 (fun q hq => (HO2.out.lt q hq).1)); have HP5 := hide (HP2.out.kept (g5.block g (World.ownsMap.lt HP2.out) (fun e => pool_apart HO2.out HP2.out e.symm))); have HO5 := hide o5; clear o5 g5 n5)
          exact ⟨⟨j + 1, by omega, by go_num, hide (by rw [HU.out, ← List.append_assoc]; exact HO5.out), HP5, HB5⟩, by simp [intOf]; omega⟩
      · obtain rfl : j = 3 := by omega
        go_wp2
        go_ret
        exact ⟨_, rfl, by rw [← HF.out]; exact HO1.out, HB1.out⟩
set_option maxRecDepth 100000 in
set_option maxHeartbeats 4000000 in
theorem constBytesSpec (k n : Int) (a b : ByteArray) (w : World) (ha : a.size ≤ maxLen) (hb : b.size ≤ maxLen) :
    Calls Try.prog 35 #[constV k n a b] w fun e w' => ∃ v, e = .returned v ∧ Own w' w.heap.size v (kB k n a b) ∧ Below w.heap.size w w' := by
  have HA := hide ha
  have HZ := hide hb
  clear ha hb
  have HX := hide (Box.new w #[.int .i64 k, .int .i64 n, .string a, .string b] 63)
  have HB := hide ((Below.refl w.heap.size w).alloc (Nat.le_refl _) (.cells #[.int .i64 k, .int .i64 n, .string a, .string b] 63))
  have hgs : Hid (w.heap.size < (w.alloc (.cells #[.int .i64 k, .int .i64 n, .string a, .string b] 63)).heap.size) := hide (by simp)
  have q0 := HX.out 0 _ rfl
  have q1 := HX.out 1 _ rfl
  have q2 := HX.out 2 _ rfl
  have q3 := HX.out 3 _ rfl
  unfold constV
  go_enter Try.func35, Try.ntmps35
  go_wp2_with fail
  clear q0 q1 q2 q3
  generalize w.alloc (.cells #[.int .i64 k, .int .i64 n, .string a, .string b] 63) = W at *
  refine (constOkSpec k n a b _ HA.out HZ.out).mono ?_
  rintro e w1 ⟨rfl, b1⟩
  replace HX := hide (HX.out.below hgs.out b1)
  replace hgs := hide (Nat.lt_of_lt_of_le hgs.out b1.size)
  replace HB := hide (HB.out.trans (b1.mono HB.out.size))
  clear b1
  cases hk : kOk k n a b with
  | false =>
    have HF : Hid (kB k n a b = []) := hide (by simp [kB, hk])
    have s1 := HB.out.size
    go_wp2
    go_ret
    exact ⟨_, rfl, by rw [HF.out]; exact own_empty _ _ s1, HB.out.alloc s1 _⟩
  | true =>
    have HF : Hid (kB k n a b = kB0 k n a b) := hide (by simp [kB, hk])
    have hkk := kOk_kind hk
    clear hk
    have q0 := HX.out 0 _ rfl
    go_wp2_with fail
    clear q0
    refine (putNumSpec _ _).mono ?_
    rintro e w2 ⟨v2, rfl, o2, b2⟩
    have LO : Hid (∀ q, v2.ownBlock = some q → w.heap.size < q) := hide (fun q hq => Nat.lt_of_lt_of_le hgs.out (o2.lt q hq).1)
    have HO := hide (o2.mono HB.out.size)
    replace HX := hide (HX.out.below hgs.out b2)
    replace hgs := hide (Nat.lt_of_lt_of_le hgs.out b2.size)
    replace HB := hide (HB.out.trans (b2.mono HB.out.size))
    clear b2 o2
    have hpk := pn_len k
    have q0 := HX.out 0 _ rfl
    have q1 := HX.out 1 _ rfl
    have q2 := HX.out 2 _ rfl
    have q3 := HX.out 3 _ rfl
    by_cases h1 : k = 1
    · subst h1
      have HK : Hid (kB0 1 n a b = pn 1 ++ pw n) := hide (by simp [kB0])
      have hpl := pw_len n
      go_wp2_with fail
      clear q0 q1 q2 q3
      refine (putWordSpec _ _).mono ?_
      rintro e w3 ⟨v3, rfl, o3, b3⟩
      have HO3 := hide o3
      replace HB := hide (HB.out.trans (b3.mono HB.out.size))
      replace HO := hide (HO.out.below b3)
      have s3 := HB.out.size
      clear b3 o3
      go_wp2_with (at_builtin; refine app_own rfl _ _ rfl w.heap.size _ _ _ _ (pw n) rfl HO.out rfl HO3.out (pw_byt _) (by omega) (by omega) s3 ?_; intro v5 w5 o5 g5 n5; have HB5 := hide (HB.out.grown g5 s3 (fun q hq => (HO.out.lt q hq).1)); have HO5 := hide o5; clear o5 g5 n5)
      go_ret
      exact ⟨_, rfl, by rw [HF.out, HK.out]; exact HO5.out, HB5.out⟩
    · have e1 : (k == 1) = false := by simpa using h1
      by_cases h2 : k = 2
      · subst h2
        have HK : Hid (kB0 2 n a b = pn 2 ++ pt a) := hide (by simp [kB0])
        have hpl := pt_len a
        go_wp2_with fail
        clear q0 q1 q2 q3
        refine (putTextSpec _ _ HA.out).mono ?_
        rintro e w3 ⟨v3, rfl, o3, b3⟩
        have HO3 := hide o3
        replace HX := hide (HX.out.below hgs.out b3)
        replace hgs := hide (Nat.lt_of_lt_of_le hgs.out b3.size)
        replace HB := hide (HB.out.trans (b3.mono HB.out.size))
        replace HO := hide (HO.out.below b3)
        have s3 := HB.out.size
        clear b3 o3
        go_wp2_with (at_builtin; refine app_own rfl _ _ rfl w.heap.size _ _ _ _ (pt a) rfl HO.out rfl HO3.out (ptByt _) (by omega) (by omega) s3 ?_; intro v5 w5 o5 g5 n5; have HB5 := hide (HB.out.grown g5 s3 (fun q hq => (HO.out.lt q hq).1)); have HO5 := hide o5; have HX5 := hide (HX.out.apart hgs.out g5 (fun e => by have := LO.out _ e; omega)); have hgs5 := hide (Nat.lt_of_lt_of_le hgs.out g5.size); clear o5 g5 n5; have r0 := HX5.out 0 _ rfl; have r3 := HX5.out 3 _ rfl)
        go_ret
        exact ⟨_, rfl, by rw [HF.out, HK.out]; exact HO5.out, HB5.out⟩
      · have e2 : (k == 2) = false := by simpa using h2
        have HK : Hid (kB0 k n a b = pn k ++ pt a ++ pt b) := hide (by simp [kB0, h1, h2])
        have hplb := pt_len b
        have hpl := pt_len a
        go_wp2_with fail
        clear q0 q1 q2 q3
        refine (putTextSpec _ _ HA.out).mono ?_
        rintro e w3 ⟨v3, rfl, o3, b3⟩
        have HO3 := hide o3
        replace HX := hide (HX.out.below hgs.out b3)
        replace hgs := hide (Nat.lt_of_lt_of_le hgs.out b3.size)
        replace HB := hide (HB.out.trans (b3.mono HB.out.size))
        replace HO := hide (HO.out.below b3)
        have s3 := HB.out.size
        clear b3 o3
        go_wp2_with (at_builtin; refine app_own rfl _ _ rfl w.heap.size _ _ _ _ (pt a) rfl HO.out rfl HO3.out (ptByt _) (by omega) (by omega) s3 ?_; intro v5 w5 o5 g5 n5; have HB5 := hide (HB.out.grown g5 s3 (fun q hq => (HO.out.lt q hq).1)); have HO5 := hide o5; have HX5 := hide (HX.out.apart hgs.out g5 (fun e => by have := LO.out _ e; omega)); have hgs5 := hide (Nat.lt_of_lt_of_le hgs.out g5.size); clear o5 g5 n5; have r0 := HX5.out 0 _ rfl; have r3 := HX5.out 3 _ rfl)
        clear r0 r3
        refine (putTextSpec _ _ HZ.out).mono ?_
        rintro e w6 ⟨v6, rfl, o6, b6⟩
        have HO6 := hide o6
        replace HO5 := hide (HO5.out.below b6)
        replace HB5 := hide (HB5.out.trans (b6.mono HB5.out.size))
        have s6 := HB5.out.size
        clear b6 o6
        go_wp2_with (at_builtin; refine app_own rfl _ _ rfl w.heap.size _ _ _ _ (pt b) rfl HO5.out rfl HO6.out (ptByt _) (by omega) (by simp only [List.length_append]; omega) s6 ?_; intro v7 w7 o7 g7 n7; have HB7 := hide (HB5.out.grown g7 s6 (fun q hq => (HO5.out.lt q hq).1)); have HO7 := hide o7; clear o7 g7 n7)
        go_ret
        exact ⟨_, rfl, by rw [HF.out, HK.out]; exact HO7.out, HB7.out⟩
end Go.Proofs.Ythagfdcfpffaoaa
