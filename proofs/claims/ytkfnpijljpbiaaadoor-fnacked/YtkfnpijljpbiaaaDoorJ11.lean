/-
  Joined: Copy, NetTo, SndTo.
-/
import Derived.Test.YtkfnpijljpbiaaaDoorJ1
import Derived.Test.YtkfnpijljpbiaaaDoorJ4
import Derived.Deep.RegionWith
import Derived.Deep.CutRange
import Derived.BigRegion
import Derived.Test.YtkfnpijljpbiaaaDoorJ10
/-
  What toByteS does: a copy of the bytes in new memory.
-/
namespace Go.Proofs.YtkfnpijljpbiaaaDoor
open Go.RowKit

theorem copy_step (zs : List Int) (j : Nat) (h : j < zs.length) :
    ((zs.take j ++ List.replicate (zs.length - j) 0).map (Value.int .u8)).set j (.int .u8 (zs.getD j 0)) = (zs.take (j + 1) ++ List.replicate (zs.length - (j + 1)) 0).map (Value.int .u8) := by
  have e : zs.length - j = (zs.length - (j + 1)) + 1 := by omega
  rw [e, List.replicate_succ]
  simp only [List.map_append, List.map_cons]
  rw [List.set_append_right _ _ (by simp; omega)]
  have e2 : (List.map (Value.int IntKind.u8) (List.take j zs)).length = j := by simp; omega
  rw [e2, Nat.sub_self, List.set_cons_zero]
  have hg : zs.getD j 0 = zs[j] := by simp [h]
  rw [List.take_succ_eq_append_getElem h, hg, List.map_append, List.append_assoc]
  rfl

theorem copy_len (zs : List Int) (j : Nat) (h : j ≤ zs.length) : (zs.take j ++ List.replicate (zs.length - j) 0).length = zs.length := by
  simp; omega

end Go.Proofs.YtkfnpijljpbiaaaDoor
/-
  Packets and nets: how great they are, and copied into new memory.
-/
namespace Go.Proofs.YtkfnpijljpbiaaaDoor
open Go.RowKit

/-- A packet, a net, as values. -/
def pkV (p : Pk) (bv : Value) : Value := .agg #[.int .i64 p.f, .int .i64 p.t, bv, .bool p.s]
def netV (size : Int) (lv : Value) : Value := .agg #[.int .i64 size, lv]

theorem load4 {w : World} {g : Nat} {a0 a1 a2 a3 : Value} (h : w.heap[g]? = some (.cells #[a0, a1, a2, a3] 32 (0, 0))) : (loadVar 32 ⟨g, 0, none⟩).run Tryd.prog w = .ok (.agg #[a0, a1, a2, a3]) w :=
  run_loadVar_row w g 32 32 #[a0, a1, a2, a3] (0, 0) _ h Tryd.underlying32 rfl (by kernel_rfl)
theorem put4 {w : World} {g : Nat} {T : TypeId} {a0 a1 a2 a3 : Value} (h : w.heap[g]? = some (.cells #[a0, a1, a2, a3] T (0, 0))) (b0 b1 b2 b3 : Value) :
    ((((w.setCell ⟨g, 0, none⟩ b0).setCell ⟨g, 1, none⟩ b1).setCell ⟨g, 2, none⟩ b2).setCell ⟨g, 3, none⟩ b3).heap[g]? = some (.cells #[b0, b1, b2, b3] T (0, 0)) := by
  have h0 : (w.setCell ⟨g, 0, none⟩ b0).heap[g]? = some (.cells #[b0, a1, a2, a3] T (0, 0)) := heap_setCell_same _ g 0 _ T b0 h
  have h1 : ((w.setCell ⟨g, 0, none⟩ b0).setCell ⟨g, 1, none⟩ b1).heap[g]? = some (.cells #[b0, b1, a2, a3] T (0, 0)) := heap_setCell_same _ g 1 _ T b1 h0
  have h2 : (((w.setCell ⟨g, 0, none⟩ b0).setCell ⟨g, 1, none⟩ b1).setCell ⟨g, 2, none⟩ b2).heap[g]? = some (.cells #[b0, b1, b2, a3] T (0, 0)) := heap_setCell_same _ g 2 _ T b2 h1
  exact heap_setCell_same _ g 3 _ T b3 h2
theorem put2 {w : World} {g : Nat} {T : TypeId} {a0 a1 : Value} (h : w.heap[g]? = some (.cells #[a0, a1] T (0, 0))) (b0 b1 : Value) :
    ((w.setCell ⟨g, 0, none⟩ b0).setCell ⟨g, 1, none⟩ b1).heap[g]? = some (.cells #[b0, b1] T (0, 0)) := by
  have h0 : (w.setCell ⟨g, 0, none⟩ b0).heap[g]? = some (.cells #[b0, a1] T (0, 0)) := heap_setCell_same _ g 0 _ T b0 h
  exact heap_setCell_same _ g 1 _ T b1 h0

/-- How many bytes the first j packets have. -/
def upto (ps : List Pk) (j : Nat) : Nat := (ps.take j).foldr (fun p n => p.b.length + n) 0
theorem upto_step (ps : List Pk) (j : Nat) (h : j < ps.length) : upto ps (j + 1) = upto ps j + (ps.getD j default).b.length := by
  unfold upto
  rw [List.take_succ_eq_append_getElem h, List.foldr_append]
  simp only [List.foldr_cons, List.foldr_nil, Nat.add_zero]
  rw [fold_add]
  simp [h]
theorem upto_all (ps : List Pk) : upto ps ps.length = tot ps - ps.length := by
  unfold upto tot
  rw [List.take_length, fold_add ps ps.length]; omega

end Go.Proofs.YtkfnpijljpbiaaaDoor
/-
  Rows of messages, senders and lines: how great they are, and copied into new memory.
-/
namespace Go.Proofs.YtkfnpijljpbiaaaDoor
open Go.RowKit

/-- A sender, a line, as values. -/
def sndV (base : Int) (lv : Value) : Value := .agg #[.int .i64 base, lv]

theorem loadS {w : World} {g : Nat} {a0 a1 : Value} (h : w.heap[g]? = some (.cells #[a0, a1] 26 (0, 0))) : (loadVar 26 ⟨g, 0, none⟩).run Tryd.prog w = .ok (.agg #[a0, a1]) w :=
  run_loadVar_row w g 26 26 #[a0, a1] (0, 0) _ h Tryd.underlying26 rfl (by kernel_rfl)

end Go.Proofs.YtkfnpijljpbiaaaDoor
