/-
  Which consts are right; by the model.
-/
import Derived.Test.YthagfdcfpffaoaaNameW
import Derived.Test.YthagfdcfpffaoaaBoxW
import Derived.Test.YthagfdcfpffaoaaLow
import Derived.Laws.StructEq
namespace Go.Proofs.Ythagfdcfpffaoaa
open Go.RowKit

/-- No text. -/
abbrev noS : ByteArray := ⟨#[]⟩
/-- A const, as a value. -/
def constV (k n : Int) (a b : ByteArray) : Value := .agg #[.int .i64 k, .int .i64 n, .string a, .string b]
/-- What ConstOk says of a const. -/
def kOk (k n : Int) (a b : ByteArray) : Bool :=
  if k = 1 then inB n (-2147483648) 2147483647 && a.toList.isEmpty && b.toList.isEmpty
  else if k = 2 then (n == 0) && nameB a && b.toList.isEmpty
  else if k = 3 ∨ k = 4 then (n == 0) && nameB a && nameB b
  else false

theorem noS_list : noS.toList = [] := by rw [ByteArray.toList_eq]
theorem noS_eq (a : ByteArray) : (noS.toList == a.toList) = a.toList.isEmpty := by
  rw [noS_list]
  cases a.toList <;> rfl

set_option maxRecDepth 100000 in
set_option maxHeartbeats 4000000 in
theorem constOkSpec (k n : Int) (a b : ByteArray) (w : World) (ha : a.size ≤ maxLen) (hb : b.size ≤ maxLen) :
    Calls Try.prog 51 #[constV k n a b] w fun e w' => e = .returned (.bool (kOk k n a b)) ∧ Below w.heap.size w w' := by
  have HA := hide ha
  have HB := hide hb
  clear ha hb
  unfold constV
  by_cases h1 : k = 1
  · subst h1
    cases c1 : inB n (-2147483648) 2147483647 with
    | false =>
      have HF : Hid (kOk 1 n a b = false) := hide (by simp [kOk, c1])
      go_enter Try.func51, Try.ntmps51
      go_wp2_with fail
      refine (wordSpec _ _).mono ?_
      rintro e w' ⟨rfl, rfl⟩
      rw [c1]
      go_wp2
      go_ret
      exact ⟨by rw [HF.out]; rfl, (Below.refl _ _).alloc (Nat.le_refl _) _⟩
    | true =>
      cases c2 : a.toList.isEmpty with
      | false =>
        have HF : Hid (kOk 1 n a b = false) := hide (by simp only [kOk, if_true, c1, c2]; rfl)
        go_enter Try.func51, Try.ntmps51
        go_wp2_with fail
        refine (wordSpec _ _).mono ?_
        rintro e w' ⟨rfl, rfl⟩
        rw [c1]
        go_wp2
        go_ret
        exact ⟨by rw [HF.out]; rfl, (Below.refl _ _).alloc (Nat.le_refl _) _⟩
      | true =>
        have HF : Hid (kOk 1 n a b = b.toList.isEmpty) := hide (by simp only [kOk, if_true, c1, c2]; rfl)
        go_enter Try.func51, Try.ntmps51
        go_wp2_with fail
        refine (wordSpec _ _).mono ?_
        rintro e w' ⟨rfl, rfl⟩
        rw [c1]
        go_wp2
        go_ret
        exact ⟨by rw [HF.out]; rfl, (Below.refl _ _).alloc (Nat.le_refl _) _⟩
  · have e1 : (k == 1) = false := by simpa using h1
    by_cases h2 : k = 2
    · subst h2
      cases c1 : (n == 0) with
      | false =>
        have HF : Hid (kOk 2 n a b = false) := hide (by simp [kOk, c1])
        go_enter Try.func51, Try.ntmps51
        go_wp2
        go_ret
        exact ⟨by rw [HF.out]; rfl, (Below.refl _ _).alloc (Nat.le_refl _) _⟩
      | true =>
        cases c2 : nameB a with
        | false =>
          have HF : Hid (kOk 2 n a b = false) := hide (by simp [kOk, c2])
          go_enter Try.func51, Try.ntmps51
          go_wp2_with fail
          refine (nameSpec _ _ HA.out).mono ?_
          rintro e w' ⟨rfl, rfl⟩
          rw [c2]
          go_wp2
          go_ret
          exact ⟨by rw [HF.out]; rfl, (Below.refl _ _).alloc (Nat.le_refl _) _⟩
        | true =>
          have HF : Hid (kOk 2 n a b = b.toList.isEmpty) := hide (by simp only [kOk, c1, c2]; rfl)
          go_enter Try.func51, Try.ntmps51
          go_wp2_with fail
          refine (nameSpec _ _ HA.out).mono ?_
          rintro e w' ⟨rfl, rfl⟩
          rw [c2]
          go_wp2
          go_ret
          exact ⟨by rw [HF.out]; rfl, (Below.refl _ _).alloc (Nat.le_refl _) _⟩
    · have e2 : (k == 2) = false := by simpa using h2
      by_cases h3 : k = 3 ∨ k = 4
      · have HK : Hid (kOk k n a b = ((n == 0) && nameB a && nameB b)) := hide (by simp [kOk, h1, h2, h3])
        clear h1 h2
        cases c1 : (n == 0) with
        | false =>
          have HF : Hid (kOk k n a b = false) := hide (by rw [HK.out, c1]; rfl)
          rcases h3 with rfl | rfl
          all_goals
            go_enter Try.func51, Try.ntmps51
            go_wp2
            go_ret
            exact ⟨by rw [HF.out]; rfl, (Below.refl _ _).alloc (Nat.le_refl _) _⟩
        | true =>
          cases c2 : nameB a with
          | false =>
            have HF : Hid (kOk k n a b = false) := hide (by rw [HK.out, c1, c2]; rfl)
            rcases h3 with rfl | rfl
            all_goals
              go_enter Try.func51, Try.ntmps51
              go_wp2_with fail
              refine (nameSpec _ _ HA.out).mono ?_
              rintro e w' ⟨rfl, rfl⟩
              rw [c2]
              go_wp2
              go_ret
              exact ⟨by rw [HF.out]; rfl, (Below.refl _ _).alloc (Nat.le_refl _) _⟩
          | true =>
            have HF : Hid (kOk k n a b = nameB b) := hide (by rw [HK.out, c1, c2]; rfl)
            rcases h3 with rfl | rfl
            all_goals
              go_enter Try.func51, Try.ntmps51
              go_wp2_with fail
              refine (nameSpec _ _ HA.out).mono ?_
              rintro e w' ⟨rfl, rfl⟩
              rw [c2]
              go_wp2_with fail
              refine (nameSpec _ _ HB.out).mono ?_
              rintro e w' ⟨rfl, rfl⟩
              go_wp2
              go_ret
              exact ⟨by rw [HF.out]; rfl, (Below.refl _ _).alloc (Nat.le_refl _) _⟩
      · have HF : Hid (kOk k n a b = false) := hide (by simp [kOk, h1, h2, h3])
        have e3 : (k == 3) = false := by simp; omega
        have e4 : (k == 4) = false := by simp; omega
        clear h1 h2 h3
        go_enter Try.func51, Try.ntmps51
        go_wp2
        go_ret
        exact ⟨by rw [HF.out]; rfl, (Below.refl _ _).alloc (Nat.le_refl _) _⟩
end Go.Proofs.Ythagfdcfpffaoaa
