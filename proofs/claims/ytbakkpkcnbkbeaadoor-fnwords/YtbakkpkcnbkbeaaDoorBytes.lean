/-
  Rows of bytes that a call has made for itself: what is known of them, and what stays of them while other memory is made or written.
-/
import Derived.Test.YtbakkpkcnbkbeaaDoorNum
import Derived.WalkKit
import Derived.ProofKit
import Derived.WalkSmall
import Derived.Maps.AppendAt
namespace Go.Proofs.YtbakkpkcnbkbeaaDoor
open Go.RowKit

/-- The value v is a row of just these bytes, in memory from block b on. -/
def Own (w : World) (b : Nat) (v : Value) (zs : List Int) : Prop := w.ownsRow b 5 1 v zs.length (zs.map (Value.int .u8))

theorem Own.form {w : World} {b : Nat} {v : Value} {zs : List Int} (h : Own w b v zs) :
    (zs = [] ∧ ∃ ao cap, v = .slice ao 0 cap) ∨
    (0 < zs.length ∧ ∃ g cap, v = .slice (some ⟨g, 0, none⟩) zs.length cap ∧ b ≤ g ∧ g < w.heap.size ∧
      (∀ j, j < zs.length → w.cell? ⟨g, j, none⟩ = some (.int .u8 (zs.getD j 0))) ∧ (∀ j, w.frozen? ⟨g, j, none⟩ = false)) := by
  by_cases hz : zs.length = 0
  · have hnil : zs = [] := List.eq_nil_of_length_eq_zero hz
    refine .inl ⟨hnil, ?_⟩
    subst hnil
    rcases h.2 with ⟨rfl, _⟩ | ⟨g, cap, _, rfl, _⟩
    · exact ⟨_, _, rfl⟩
    · exact ⟨_, _, rfl⟩
  · refine .inr ⟨by omega, ?_⟩
    have hlt := World.ownsRow.lt h
    rcases h.2 with ⟨_, h0⟩ | ⟨g, cap, cur, rfl, _⟩
    · omega
    · refine ⟨g, cap, rfl, (hlt g rfl).1, (hlt g rfl).2, fun j hj => ?_, fun j => World.ownsRow.frozenAt h j⟩
      have := World.ownsRow.cellAt h j (by omega)
      rw [this]
      simp [hj]

theorem Own.mono {w : World} {b b' : Nat} {v : Value} {zs : List Int} (h : Own w b v zs) (hb : b' ≤ b) : Own w b' v zs := by
  refine ⟨h.1, ?_⟩
  rcases h.2 with h0 | ⟨g, cap, cur, e, hg, r⟩
  · exact .inl h0
  · exact .inr ⟨g, cap, cur, e, Nat.le_trans hb hg, r⟩

theorem grown_of_below {w w' : World} (h : Below w.heap.size w w') : w.grownBy w' none := ⟨h.os, h.tape, h.output, h.size, fun k hk _ => h.block k hk⟩

/-- Behind a call that turned nothing old. -/
theorem Own.below {w w' : World} {b : Nat} {v : Value} {zs : List Int} (h : Own w b v zs) (hb : Below w.heap.size w w') : Own w' b v zs :=
  World.ownsRow.kept h (grown_of_below hb) (by cases v.ownBlock <;> simp)

/-- Behind a store into another row. -/
theorem Own.apart {w w' : World} {b b' : Nat} {v u : Value} {zs ys : List Int} (h : Own w b v zs) (hg : w.grownBy w' u.ownBlock) (hu : Own w b' u ys)
    (hlt : ∀ k, v.ownBlock = some k → k < b') : Own w' b v zs := by
  refine World.ownsRow.kept h hg ?_
  cases hv : v.ownBlock with
  | none => exact .inl rfl
  | some k =>
    refine .inr fun e => ?_
    have h1 := hlt k hv
    have h2 := (World.ownsRow.lt hu k e.symm).1
    omega

theorem Own.lt {w : World} {b : Nat} {v : Value} {zs : List Int} (h : Own w b v zs) : ∀ k, v.ownBlock = some k → b ≤ k ∧ k < w.heap.size := World.ownsRow.lt h

theorem Own.drewN {w : World} {b : Nat} {v : Value} {zs : List Int} (h : Own w b v zs) (q : Nat) : Own (w.drewN q) b v zs := h

theorem own_more {w : World} {b : Nat} {v : Value} {xs ys : List Int} (h : w.ownsRow b 5 1 v (xs.length + ys.length) (xs.map (Value.int .u8) ++ ys.map (Value.int .u8))) : Own w b v (xs ++ ys) := by
  unfold Own; rw [List.length_append, List.map_append]; exact h

theorem below_app {B : Nat} {w wr w3 : World} {o : Obj} {v : Value} {xs : List Int} (hb : Below B w wr) (hB : B ≤ wr.heap.size) (hown : Own wr B v xs) (hg : (wr.alloc o).grownBy w3 v.ownBlock) : Below B w w3 :=
  (hb.alloc hB o).grown hg (by simp; omega) (fun q hq => (hown.lt q hq).1)

theorem own_empty (w : World) (B : Nat) (hB : B ≤ w.heap.size) : Own (w.alloc (.cells #[] 5)) B (.slice (some ⟨w.heap.size, 0, none⟩) 0 0) [] :=
  World.ownsRow_lit w #[] 0 hB (by unfold maxLen; omega) rfl

theorem own_four (w : World) (B : Nat) (hB : B ≤ w.heap.size) (a b c d : Int) : Own (w.alloc (.cells #[.int .u8 a, .int .u8 b, .int .u8 c, .int .u8 d] 5)) B (.slice (some ⟨w.heap.size, 0, none⟩) 4 4) [a, b, c, d] :=
  World.ownsRow_lit w #[.int .u8 a, .int .u8 b, .int .u8 c, .int .u8 d] 4 hB (by unfold maxLen; omega) rfl

end Go.Proofs.YtbakkpkcnbkbeaaDoor
