/-
  What toByteS does: a copy of the bytes in new memory.
-/
import Derived.Test.YtllghgcancennaaBytes
namespace Go.Proofs.Ytllghgcancennaa
open Go.RowKit

theorem copy_step (zs : List Int) (j : Nat) (h : j < zs.length) :
    ((zs.take j ++ List.replicate (zs.length - j) 0).map (Value.int .u8)).set j (.int .u8 (zs.getD j 0)) = (zs.take (j + 1) ++ List.replicate (zs.length - (j + 1)) 0).map (Value.int .u8) := by
  have e : zs.length - j = (zs.length - (j + 1)) + 1 := by omega
  rw [e, List.replicate_succ]
  simp only [List.map_append, List.map_cons]
  rw [List.set_append_right _ _ (by simp; omega)]
  have e2 : (List.map (Value.int IntKind.u8) (List.take j zs)).length = j := by simp; omega
  rw [e2, Nat.sub_self, List.set_cons_zero]
  have hg : zs.getD j 0 = zs[j] := by simp [h]
  rw [List.take_succ_eq_append_getElem h, hg, List.map_append, List.append_assoc]
  rfl

theorem copy_len (zs : List Int) (j : Nat) (h : j ≤ zs.length) : (zs.take j ++ List.replicate (zs.length - j) 0).length = zs.length := by
  simp; omega

end Go.Proofs.Ytllghgcancennaa
