/-
  The text of a mark.
-/
import Derived.Test.YthlaihkpffddcaaStrW
namespace Go.Proofs.Ythlaihkpffddcaa
open Go.RowKit

/-- The digits of m, ahead of s. -/
def mF : Nat → Int → ByteArray → ByteArray
  | 0, _, s => s
  | f + 1, m, s => if m ≤ 0 then s else mF f (m / 10) (strOfNums [48 + m % 10] ++ s)
def mtx (k : Nat) : ByteArray := ⟨#[109]⟩ ++ mF 19 (k : Int) ⟨#[]⟩
theorem mF_step (f : Nat) (m : Int) (s : ByteArray) (h : 0 < m) : mF (f + 1) m s = mF f (m / 10) (strOfNums [48 + m % 10] ++ s) := by
  rw [mF, if_neg (by omega)]
theorem mF_end : ∀ (f : Nat) (s : ByteArray), mF f 0 s = s
  | 0, _ => rfl
  | f + 1, s => by rw [mF, if_pos (by omega)]
theorem one_size (z : Int) : (strOfNums [z]).size = 1 := rfl

set_option maxRecDepth 100000 in
set_option maxHeartbeats 2000000 in
theorem markText (w : World) (k : Nat) (h0 : 0 < k) (h1 : k ≤ 1000000000) :
    Calls Try.prog 82 #[.int .i64 (k : Int)] w fun e w' => e = .returned (.string (mtx k)) ∧ Below w.heap.size w w' := by
  have HF : Hid (mtx k = ⟨#[109]⟩ ++ mF 19 (k : Int) ⟨#[]⟩) := hide rfl
  have hk : ¬ (k : Int) ≤ 0 := by omega
  go_enter Try.func82, Try.ntmps82
  go_wp2
  go_loopw [0, 3] (fun m s wr => ∃ (f M : Nat) (S : ByteArray), m = .int .i64 (M : Int) ∧ s = .string S ∧ M ≤ 1000000000 ∧ Hid (M < 10 ^ f) ∧ f + S.size ≤ 19 ∧ Hid (mF 19 (k : Int) ⟨#[]⟩ = mF f (M : Int) S) ∧ Hid (Below w.heap.size w wr)) (fun m _ _ => (intOf m).toNat)
  case atStart => exact ⟨19, k, ⟨#[]⟩, rfl, rfl, h1, hide (by omega), by simp [ByteArray.size], hide rfl, hide (Below.refl _ _)⟩
  case round =>
    obtain ⟨f, M, S, rfl, rfl, hM, HL, hf, HE, HB⟩ := hrel
    by_cases hp : 0 < (M : Int)
    · have hz : (M : Int).tmod 10 = (M : Int) % 10 := Int.tmod_eq_emod_of_nonneg (by omega)
      have hq : (M : Int).tdiv 10 = ((M / 10 : Nat) : Int) := by rw [Int.tdiv_eq_ediv_of_nonneg (by omega)]; omega
      have HO : Hid (Own (wr.alloc (.cells #[.int .u8 (48 + (M : Int) % 10)] 5)) wr.heap.size (.slice (some ⟨wr.heap.size, 0, none⟩) 1 1) [48 + (M : Int) % 10]) := hide (World.ownsRow_lit wr #[.int .u8 (48 + (M : Int) % 10)] 1 (Nat.le_refl _) (by unfold maxLen; omega) rfl)
      have hcv := own_str HO.out
      have h1s := one_size (48 + (M : Int) % 10)
      obtain ⟨f', rfl⟩ : ∃ f', f = f' + 1 := ⟨f - 1, by
        have := HL.out
        rcases Nat.eq_zero_or_pos f with h | h
        · subst h; simp at this; omega
        · omega⟩
      have HE2 : Hid (mF 19 (k : Int) ⟨#[]⟩ = mF f' ((M / 10 : Nat) : Int) (strOfNums [48 + (M : Int) % 10] ++ S)) := hide (by rw [HE.out, mF_step f' _ _ hp]; congr 1)
      have HL2 : Hid (M / 10 < 10 ^ f') := hide (by have := HL.out; rw [Nat.pow_succ] at this; omega)
      have HB2 := hide (HB.out.alloc HB.out.size (.cells #[.int .u8 (48 + (M : Int) % 10)] 5))
      generalize hT : strOfNums [48 + (M : Int) % 10] = T at *
      have hsz : ¬ (T.size + S.size > 9223372036854775807) := by omega
      clear HE HL HB HO
      go_wp2
      exact ⟨⟨f', M / 10, T ++ S, by go_num, rfl, by omega, HL2, by simp; omega, HE2, HB2⟩, by simp [intOf]; omega⟩
    · obtain rfl : M = 0 := by omega
      have HS : Hid (mF 19 (k : Int) ⟨#[]⟩ = S) := hide (by rw [HE.out]; exact mF_end _ _)
      have h1s : (ByteArray.mk #[109]).size = 1 := rfl
      have hsz : ¬ ((ByteArray.mk #[109]).size + S.size > 9223372036854775807) := by omega
      go_wp2
      go_ret
      exact ⟨by rw [HF.out, HS.out]; rfl, HB.out⟩
end Go.Proofs.Ythlaihkpffddcaa
