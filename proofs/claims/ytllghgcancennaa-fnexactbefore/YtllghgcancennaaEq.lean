/-
  What eqByteS, markByteS and heldByteS do.
-/
import Derived.Test.YtllghgcancennaaRows
import Derived.Test.YtllghgcancennaaBytes
import Derived.Deep.QuietTactic
import Derived.BigQuiet
namespace Go.Proofs.Ytllghgcancennaa
open Go.RowKit

/-- The bytes that markByteS leaves: from k on, one more each. -/
def marks (k n : Nat) : List Int := (List.range n).map fun i => ((k + i : Nat) : Int) % 256

theorem marks_len (k n : Nat) : (marks k n).length = n := by simp [marks]
theorem marks_get (k n j : Nat) (h : j < n) : (marks k n).getD j 0 = ((k + j : Nat) : Int) % 256 := by simp [marks, h]

theorem marks_step (k j : Nat) (zs : List Int) (h : j < zs.length) :
    ((marks k j ++ zs.drop j).map (Value.int .u8)).set j (.int .u8 (((k + j : Nat) : Int) % 256)) = (marks k (j + 1) ++ zs.drop (j + 1)).map (Value.int .u8) := by
  rw [List.drop_eq_getElem_cons h]
  simp only [List.map_append, List.map_cons]
  rw [List.set_append_right _ _ (by simp [marks_len])]
  simp [marks, List.range_succ]

theorem mark_len (k j : Nat) (zs : List Int) (h : j ≤ zs.length) : (marks k j ++ zs.drop j).length = zs.length := by
  simp [marks_len]; omega

theorem below_mark {B : Nat} {w w1 w2 : World} {v : Value} {zs : List Int} {b : Nat} (hb : Below B w w1) (hB : B ≤ b) (hB' : B ≤ w1.heap.size) (h : Own w1 b v zs) (hg : w1.grownBy w2 v.ownBlock) : Below B w w2 :=
  hb.grown hg hB' (fun k hk => Nat.le_trans hB (h.lt k hk).1)

end Go.Proofs.Ytllghgcancennaa
