/-
  What the laws over lines lean on: boxes that stay, packets whose bytes lie between two blocks.
-/
import Derived.Test.YtoaenoakdbieaabLineN
namespace Go.Proofs.Ytoaenoakdbieaab
open Go.RowKit

/-- The block g holds just these cells. -/
def Bx (w : World) (g : Nat) (vs : Array Value) (T : TypeId) : Prop := w.heap[g]? = some (.cells vs T (0, 0))
theorem Bx.lt {w : World} {g : Nat} {vs : Array Value} {T : TypeId} (h : Bx w g vs T) : g < w.heap.size := (Array.getElem?_eq_some_iff.1 h).1
theorem Bx.below {w w' : World} {g : Nat} {vs : Array Value} {T : TypeId} (h : Bx w g vs T) (hb : Below w.heap.size w w') : Bx w' g vs T := (hb.block g h.lt).trans h
theorem Bx.out {w w' : World} {g c d : Nat} {vs : Array Value} {T : TypeId} (h : Bx w g vs T) (ho : Out c d w w') (hd : g < c ∨ d ≤ g) : Bx w' g vs T := (ho.block g h.lt hd).trans h
theorem Bx.drewN {w : World} {g : Nat} {vs : Array Value} {T : TypeId} (h : Bx w g vs T) (q : Nat) : Bx (w.drewN q) g vs T := h
theorem Bx.new (w : World) (vs : Array Value) (T : TypeId) : Bx (w.alloc (.cells vs T)) w.heap.size vs T := heap_alloc_new w _

/-- Bytes of one's own, from block b on up to hi. -/
def OwnB (w : World) (b hi : Nat) (v : Value) (zs : List Int) : Prop := Own w b v zs ∧ ∀ q, v.ownBlock = some q → q < hi
theorem OwnB.of {w : World} {b : Nat} {v : Value} {zs : List Int} (h : Own w b v zs) : OwnB w b w.heap.size v zs := ⟨h, fun q hq => (h.lt q hq).2⟩
theorem OwnB.below {w w' : World} {b hi : Nat} {v : Value} {zs : List Int} (h : OwnB w b hi v zs) (hb : Below w.heap.size w w') : OwnB w' b hi v zs := ⟨h.1.below hb, h.2⟩
theorem OwnB.out {w w' : World} {b hi c d : Nat} {v : Value} {zs : List Int} (h : OwnB w b hi v zs) (ho : Out c d w w') (hd : hi ≤ c ∨ d ≤ b) : OwnB w' b hi v zs :=
  ⟨h.1.out ho (by
    rcases hd with hd | hd
    · exact .inl (fun q hq => Nat.lt_of_lt_of_le (h.2 q hq) hd)
    · exact .inr hd), h.2⟩
theorem OwnB.bt {w : World} {b hi : Nat} {v : Value} {zs : List Int} (h : OwnB w b hi v zs) (hl : zs.length ≤ 1048576 ∧ Byt zs) : Bt w w.heap.size v zs := bt_own h.1 hl.1 hl.2 (Nat.le_refl _)
theorem OwnB.shape {w : World} {b hi : Nat} {v : Value} {zs : List Int} (h : OwnB w b hi v zs) : ∃ a c, v = .slice a zs.length c := own_shape h.1

theorem markPkB (w : World) (b hi : Nat) (p : Pk) (v : Value) (h : OwnB w b hi v p.b) (hk : p.b.length ≤ 1048576) :
    Calls Try.prog 20 #[pkV p v, .int .i64 1] w fun e w' => e = .returned (.int .i64 ((1 + p.b.length : Nat) : Int)) ∧ OwnB w' b hi v (marks 1 p.b.length) ∧ Out b hi w w' := by
  have := markPk w b 1 p v h.1 (by omega)
  rw [Int.natCast_one] at this
  exact this.mono fun e w' ⟨h1, h2, h3⟩ => ⟨h1, ⟨h2, h.2⟩, Out.row h3 (fun q hq => ⟨(h.1.lt q hq).1, h.2 q hq⟩)⟩
theorem heldPkB (w : World) (b hi : Nat) (p : Pk) (v : Value) (h : OwnB w b hi v (marks 1 p.b.length)) (hk : p.b.length ≤ 1048576) :
    Calls Try.prog 21 #[pkV p v, .int .i64 1] w fun e w' => e = .returned (.int .i64 ((1 + p.b.length : Nat) : Int)) ∧ Below w.heap.size w w' := by
  have := heldPk w b 1 p.b.length p v rfl h.1 (by omega)
  rw [Int.natCast_one] at this
  exact this
theorem ansK_b {w w' : World} {R : Pk × Bool} {e : Ending} (h : ansK w R e w') : ∃ v, e = .returned (.tuple #[pkV R.1 v, .bool R.2]) ∧ OwnB w' w.heap.size w'.heap.size v R.1.b ∧ Below w.heap.size w w' := by
  obtain ⟨v, h1, h2, h3⟩ := h
  exact ⟨v, h1, OwnB.of h2, h3⟩
theorem sealed_good {zs : List Int} (h : zs.length ≤ 2000) (hz : Byt zs) : (sealed zs).length ≤ 1048576 ∧ Byt (sealed zs) := by
  refine ⟨?_, hz.append (four_byt _)⟩
  unfold sealed
  rw [List.length_append, four_len]; omega
theorem nodK_good (f t base got : Int) (ms : List Ms) : (nodK f t base got ms).1.b.length ≤ 1048576 ∧ Byt (nodK f t base got ms).1.b := by
  unfold nodK
  cases lnOk f t base got ms
  · exact ⟨by simp [noK], by intro z hz; simp [noK] at hz⟩
  · exact sealed_good (Nat.le_trans (nodB_len got) (by omega)) (nodB_byt got)
end Go.Proofs.Ytoaenoakdbieaab
