/-
  Plain facts on whole numbers that the proofs of this seat lean on: what a word is when it has gone round, and what masking by 32 ones leaves.
-/
import Derived.WalkKit
import Derived.ProofKit
import Derived.Laws.BitsLemmas
namespace Go.Proofs.Ytbakkpkcnbkbeaa
open Go.RowKit

def rnd (n : Int) : Int := (n + 2147483648) % 4294967296 - 2147483648

theorem rnd_bd (n : Int) : -2147483648 ≤ rnd n ∧ rnd n ≤ 2147483647 := by unfold rnd; omega

theorem rnd_wrap (n : Int) : wrap64 (wrap32 n) = rnd n := by unfold wrap64 wrap32 rnd; omega

theorem and32 (n : Int) : bits .and .i64 n 4294967295 = n % 4294967296 := by
  have h127 : (BitVec.ofInt 64 4294967295).toNat = 2 ^ 32 - 1 := by decide
  have key : (BitVec.ofInt 64 n &&& BitVec.ofInt 64 4294967295).toNat = (n % ((2 ^ 64 : Nat) : Int)).toNat % 2 ^ 32 := by
    rw [BitVec.toNat_and, BitVec.toNat_ofInt, h127, Nat.and_two_pow_sub_one_eq_mod]
  show IntKind.i64.wrap ((BitVec.ofInt 64 n &&& BitVec.ofInt 64 4294967295).toNat : Nat) = n % 4294967296
  rw [key, IntKind.wrap_i64]
  omega

theorem rnd_hi (n : Int) (h : 2147483647 < n % 4294967296) : n % 4294967296 - 4294967296 = rnd n := by unfold rnd; omega
theorem rnd_lo (n : Int) (h : n % 4294967296 ≤ 2147483647) : n % 4294967296 = rnd n := by unfold rnd; omega

theorem ret_int {k : IntKind} {a b : Int} (h : a = b) : Ending.returned (.int k a) = .returned (.int k b) := by rw [h]
theorem ret_bool {a b : Bool} (h : a = b) : Ending.returned (.bool a) = .returned (.bool b) := by rw [h]

end Go.Proofs.Ytbakkpkcnbkbeaa
