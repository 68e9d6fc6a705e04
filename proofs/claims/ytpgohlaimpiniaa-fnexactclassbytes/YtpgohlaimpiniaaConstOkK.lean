/-
  ConstOk: the program and its model say the same.
-/
import Derived.Test.YtpgohlaimpiniaaConstOkJ
namespace Go.Proofs.Ytpgohlaimpiniaa
open Go.RowKit Go.Maps

theorem noS_list : noS.toList = [] := by rw [ByteArray.toList_eq]
theorem noS_eq (a : ByteArray) : (noS.toList == a.toList) = a.toList.isEmpty := by
  rw [noS_list]
  cases a.toList <;> rfl

theorem constOkImpl (k n : Int) (a b : ByteArray) (w : World) (ha : a.size ≤ maxLen) (hb : b.size ≤ maxLen) :
    Calls Try.prog 57 #[constV k n a b] w fun e w' => e = .returned (.bool (kOk k n a b)) ∧ Below w.heap.size w w' := by
  have hR := rightD_of k n a b ha hb
  by_cases h1 : k = 1
  · subst h1
    exact constOkCore 1 n n a b noS noS _ 1 _ w hR rfl ⟨noS, rfl⟩ ⟨0, rfl⟩ ⟨0, rfl⟩ (by rw [noS_eq a, noS_eq b]; simp [kOk, rB, Bool.and_assoc])
  · by_cases h2 : k = 2
    · subst h2
      exact constOkCore 2 n 0 a b a noS _ 1 _ w hR rfl ⟨noS, rfl⟩ ⟨0, rfl⟩ ⟨0, rfl⟩ (by
        rw [noS_eq b, show ((0 : Int) == n) = (n == 0) from BEq.comm]
        simp only [kOk, rB]
        cases n == 0 <;> cases nameB a <;> simp)
    · by_cases h3 : k = 3 ∨ k = 4
      · have e : pD k n a b = .map [(.int .i64 1, dPart 0 a), (.int .i64 2, dPart 0 b)] := by simp [pD, h1, h2, h3]
        exact constOkCore k n 0 a b a b _ 2 _ w hR (by rw [e]; rfl) ⟨noS, by rw [e]; rfl⟩ ⟨0, by rw [e]; rfl⟩ ⟨0, by rw [e]; rfl⟩ (by
          rw [show ((0 : Int) == n) = (n == 0) from BEq.comm]
          simp only [kOk, rB, h1, h2, h3, if_false, if_true]
          cases n == 0 <;> cases nameB a <;> cases nameB b <;> simp)
      · have e : pD k n a b = .map [] := by simp [pD, h1, h2, h3]
        exact constOkCore k n 0 a b noS noS _ 0 _ w hR (by rw [e]; rfl) ⟨noS, by rw [e]; rfl⟩ ⟨0, by rw [e]; rfl⟩ ⟨0, by rw [e]; rfl⟩ (by simp [kOk, h1, h2, h3])
set_option maxRecDepth 100000 in
set_option maxHeartbeats 4000000 in
theorem constOkSpec (k n : Int) (a b : ByteArray) (w : World) (ha : a.size ≤ maxLen) (hb : b.size ≤ maxLen) :
    Calls Try.prog 51 #[constV k n a b] w fun e w' => e = .returned (.bool (kOk k n a b)) ∧ Below w.heap.size w w' := by
  have HA := hide ha
  have HB := hide hb
  clear ha hb
  unfold constV
  by_cases h1 : k = 1
  · subst h1
    cases c1 : inB n (-2147483648) 2147483647 with
    | false =>
      have HF : Hid (kOk 1 n a b = false) := hide (by simp [kOk, c1])
      go_enter Try.func51, Try.ntmps51
      go_wp2_with fail
      refine (wordSpec _ _).mono ?_
      rintro e w' ⟨rfl, rfl⟩
      rw [c1]
      go_wp2
      go_ret
      exact ⟨by rw [HF.out]; rfl, (Below.refl _ _).alloc (Nat.le_refl _) _⟩
    | true =>
      cases c2 : a.toList.isEmpty with
      | false =>
        have HF : Hid (kOk 1 n a b = false) := hide (by simp only [kOk, if_true, c1, c2]; rfl)
        go_enter Try.func51, Try.ntmps51
        go_wp2_with fail
        refine (wordSpec _ _).mono ?_
        rintro e w' ⟨rfl, rfl⟩
        rw [c1]
        go_wp2
        go_ret
        exact ⟨by rw [HF.out]; rfl, (Below.refl _ _).alloc (Nat.le_refl _) _⟩
      | true =>
        have HF : Hid (kOk 1 n a b = b.toList.isEmpty) := hide (by simp only [kOk, if_true, c1, c2]; rfl)
        go_enter Try.func51, Try.ntmps51
        go_wp2_with fail
        refine (wordSpec _ _).mono ?_
        rintro e w' ⟨rfl, rfl⟩
        rw [c1]
        go_wp2
        go_ret
        exact ⟨by rw [HF.out]; rfl, (Below.refl _ _).alloc (Nat.le_refl _) _⟩
  · have e1 : (k == 1) = false := by simpa using h1
    by_cases h2 : k = 2
    · subst h2
      cases c1 : (n == 0) with
      | false =>
        have HF : Hid (kOk 2 n a b = false) := hide (by simp [kOk, c1])
        go_enter Try.func51, Try.ntmps51
        go_wp2
        go_ret
        exact ⟨by rw [HF.out]; rfl, (Below.refl _ _).alloc (Nat.le_refl _) _⟩
      | true =>
        cases c2 : nameB a with
        | false =>
          have HF : Hid (kOk 2 n a b = false) := hide (by simp [kOk, c2])
          go_enter Try.func51, Try.ntmps51
          go_wp2_with fail
          refine (nameSpec _ _ HA.out).mono ?_
          rintro e w' ⟨rfl, rfl⟩
          rw [c2]
          go_wp2
          go_ret
          exact ⟨by rw [HF.out]; rfl, (Below.refl _ _).alloc (Nat.le_refl _) _⟩
        | true =>
          have HF : Hid (kOk 2 n a b = b.toList.isEmpty) := hide (by simp only [kOk, c1, c2]; rfl)
          go_enter Try.func51, Try.ntmps51
          go_wp2_with fail
          refine (nameSpec _ _ HA.out).mono ?_
          rintro e w' ⟨rfl, rfl⟩
          rw [c2]
          go_wp2
          go_ret
          exact ⟨by rw [HF.out]; rfl, (Below.refl _ _).alloc (Nat.le_refl _) _⟩
    · have e2 : (k == 2) = false := by simpa using h2
      by_cases h3 : k = 3 ∨ k = 4
      · have HK : Hid (kOk k n a b = ((n == 0) && nameB a && nameB b)) := hide (by simp [kOk, h1, h2, h3])
        clear h1 h2
        cases c1 : (n == 0) with
        | false =>
          have HF : Hid (kOk k n a b = false) := hide (by rw [HK.out, c1]; rfl)
          rcases h3 with rfl | rfl
          all_goals
            go_enter Try.func51, Try.ntmps51
            go_wp2
            go_ret
            exact ⟨by rw [HF.out]; rfl, (Below.refl _ _).alloc (Nat.le_refl _) _⟩
        | true =>
          cases c2 : nameB a with
          | false =>
            have HF : Hid (kOk k n a b = false) := hide (by rw [HK.out, c1, c2]; rfl)
            rcases h3 with rfl | rfl
            all_goals
              go_enter Try.func51, Try.ntmps51
              go_wp2_with fail
              refine (nameSpec _ _ HA.out).mono ?_
              rintro e w' ⟨rfl, rfl⟩
              rw [c2]
              go_wp2
              go_ret
              exact ⟨by rw [HF.out]; rfl, (Below.refl _ _).alloc (Nat.le_refl _) _⟩
          | true =>
            have HF : Hid (kOk k n a b = nameB b) := hide (by rw [HK.out, c1, c2]; rfl)
            rcases h3 with rfl | rfl
            all_goals
              go_enter Try.func51, Try.ntmps51
              go_wp2_with fail
              refine (nameSpec _ _ HA.out).mono ?_
              rintro e w' ⟨rfl, rfl⟩
              rw [c2]
              go_wp2_with fail
              refine (nameSpec _ _ HB.out).mono ?_
              rintro e w' ⟨rfl, rfl⟩
              go_wp2
              go_ret
              exact ⟨by rw [HF.out]; rfl, (Below.refl _ _).alloc (Nat.le_refl _) _⟩
      · have HF : Hid (kOk k n a b = false) := hide (by simp [kOk, h1, h2, h3])
        have e3 : (k == 3) = false := by simp; omega
        have e4 : (k == 4) = false := by simp; omega
        clear h1 h2 h3
        go_enter Try.func51, Try.ntmps51
        go_wp2
        go_ret
        exact ⟨by rw [HF.out]; rfl, (Below.refl _ _).alloc (Nat.le_refl _) _⟩
end Go.Proofs.Ytpgohlaimpiniaa
