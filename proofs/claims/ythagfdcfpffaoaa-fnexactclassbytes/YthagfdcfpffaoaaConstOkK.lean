/-
  ConstOk: the program and its model say the same.
-/
import Derived.Test.YthagfdcfpffaoaaConstS
import Derived.Test.YthagfdcfpffaoaaConstOkJ
namespace Go.Proofs.Ythagfdcfpffaoaa
open Go.RowKit Go.Maps

theorem constOkImpl (k n : Int) (a b : ByteArray) (w : World) (ha : a.size ≤ maxLen) (hb : b.size ≤ maxLen) :
    Calls Try.prog 70 #[constV k n a b] w fun e w' => e = .returned (.bool (kOk k n a b)) ∧ Below w.heap.size w w' := by
  have hR := rightD_of k n a b ha hb
  by_cases h1 : k = 1
  · subst h1
    exact constOkCore 1 n n a b noS noS _ 1 _ w hR rfl ⟨noS, rfl⟩ ⟨0, rfl⟩ ⟨0, rfl⟩ (by rw [noS_eq a, noS_eq b]; simp [kOk, rB, Bool.and_assoc])
  · by_cases h2 : k = 2
    · subst h2
      exact constOkCore 2 n 0 a b a noS _ 1 _ w hR rfl ⟨noS, rfl⟩ ⟨0, rfl⟩ ⟨0, rfl⟩ (by
        rw [noS_eq b, show ((0 : Int) == n) = (n == 0) from BEq.comm]
        simp only [kOk, rB]
        cases n == 0 <;> cases nameB a <;> simp)
    · by_cases h3 : k = 3 ∨ k = 4
      · have e : pD k n a b = .map [(.int .i64 1, dPart 0 a), (.int .i64 2, dPart 0 b)] := by simp [pD, h1, h2, h3]
        exact constOkCore k n 0 a b a b _ 2 _ w hR (by rw [e]; rfl) ⟨noS, by rw [e]; rfl⟩ ⟨0, by rw [e]; rfl⟩ ⟨0, by rw [e]; rfl⟩ (by
          rw [show ((0 : Int) == n) = (n == 0) from BEq.comm]
          simp only [kOk, rB, h1, h2, h3, if_false, if_true]
          cases n == 0 <;> cases nameB a <;> cases nameB b <;> simp)
      · have e : pD k n a b = .map [] := by simp [pD, h1, h2, h3]
        exact constOkCore k n 0 a b noS noS _ 0 _ w hR (by rw [e]; rfl) ⟨noS, by rw [e]; rfl⟩ ⟨0, by rw [e]; rfl⟩ ⟨0, by rw [e]; rfl⟩ (by simp [kOk, h1, h2, h3])
end Go.Proofs.Ythagfdcfpffaoaa
