/-
  Plain facts on whole numbers that the proofs of this seat lean on: what a word is when it has gone round, and what masking by 32 ones leaves.
-/
import Derived.WalkKit
import Derived.ProofKit
import Derived.Laws.BitsLemmas
namespace Go.Proofs.Ytllghgcancennaa
open Go.RowKit

def rnd (n : Int) : Int := (n + 2147483648) % 4294967296 - 2147483648

theorem rnd_bd (n : Int) : -2147483648 ≤ rnd n ∧ rnd n ≤ 2147483647 := by unfold rnd; omega

theorem rnd_wrap (n : Int) : wrap64 (wrap32 n) = rnd n := by unfold wrap64 wrap32 rnd; omega

theorem and32 (n : Int) : bits .and .i64 n 4294967295 = n % 4294967296 := by
  have h127 : (BitVec.ofInt 64 4294967295).toNat = 2 ^ 32 - 1 := by decide
  have key : (BitVec.ofInt 64 n &&& BitVec.ofInt 64 4294967295).toNat = (n % ((2 ^ 64 : Nat) : Int)).toNat % 2 ^ 32 := by
    rw [BitVec.toNat_and, BitVec.toNat_ofInt, h127, Nat.and_two_pow_sub_one_eq_mod]
  show IntKind.i64.wrap ((BitVec.ofInt 64 n &&& BitVec.ofInt 64 4294967295).toNat : Nat) = n % 4294967296
  rw [key, IntKind.wrap_i64]
  omega

theorem rnd_hi (n : Int) (h : 2147483647 < n % 4294967296) : n % 4294967296 - 4294967296 = rnd n := by unfold rnd; omega
theorem rnd_lo (n : Int) (h : n % 4294967296 ≤ 2147483647) : n % 4294967296 = rnd n := by unfold rnd; omega

theorem ret_int {k : IntKind} {a b : Int} (h : a = b) : Ending.returned (.int k a) = .returned (.int k b) := by rw [h]
theorem ret_bool {a b : Bool} (h : a = b) : Ending.returned (.bool a) = .returned (.bool b) := by rw [h]

/-- The bytes of a number, seven bits each, the low ones first. -/
def pnF : Nat → Int → List Int
  | 0, n => [n]
  | k + 1, n => if 127 < n then (n % 128 + 128) :: pnF k (n / 128) else [n]
def pnB : Nat → Int
  | 0 => 127
  | k + 1 => 128 * pnB k + 127
def pn (n : Int) : List Int := if 0 ≤ n ∧ n ≤ 16777215 then pnF 3 n else []

theorem pnF_len : ∀ k n, (pnF k n).length ≤ k + 1
  | 0, n => by simp [pnF]
  | k + 1, n => by
    have := pnF_len k (n / 128)
    unfold pnF
    split <;> simp <;> omega
theorem pnF_hi (k : Nat) (n : Int) (h : 127 < n) : pnF (k + 1) n = (n % 128 + 128) :: pnF k (n / 128) := by simp [pnF, h]
theorem pnF_lo : ∀ (k : Nat) (n : Int), n ≤ 127 → pnF k n = [n]
  | 0, n, _ => rfl
  | k + 1, n, h => by simp [pnF, show ¬ 127 < n from by omega]
theorem pn_len (n : Int) : (pn n).length ≤ 4 := by
  unfold pn
  split
  · exact pnF_len 3 n
  · simp
theorem pn_in (n : Int) (h0 : 0 ≤ n) (h1 : n ≤ 16777215) : pn n = pnF 3 n := by simp [pn, h0, h1]
theorem pn_out (n : Int) (h : n < 0 ∨ 16777215 < n) : pn n = [] := by
  unfold pn; rw [if_neg (by omega)]

end Go.Proofs.Ytllghgcancennaa
