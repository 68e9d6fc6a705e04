/-
  What PutText does, in the program and in its model: both answer the length and the bytes of the text (none, where it is too long) in new memory, and touch nothing that was there.
-/
import Derived.Test.YthagfdcfpffaoaaPutNumW
import Derived.Lib.AppendStr
import Derived.Laws.IdiomStrings
namespace Go.Proofs.Ythagfdcfpffaoaa
open Go.RowKit

/-- The bytes of a text, as numbers. -/
def bts (s : ByteArray) : List Int := s.data.toList.map fun b => (b.toNat : Int)
theorem bts_len (s : ByteArray) : (bts s).length = s.size := by simp [bts]
theorem bts_cells (s : ByteArray) : Lib.strCells s = (bts s).map (Value.int .u8) := by simp [bts, Lib.strCells]

def pt (s : ByteArray) : List Int := if s.size ≤ 200 then pn s.size ++ bts s else []
theorem pt_in (s : ByteArray) (h : s.size ≤ 200) : pt s = pn s.size ++ bts s := by simp [pt, h]
theorem pt_out (s : ByteArray) (h : 200 < s.size) : pt s = [] := by unfold pt; rw [if_neg (by omega)]
theorem pt_len (s : ByteArray) : (pt s).length ≤ 204 := by
  unfold pt
  have := pn_len s.size
  have := bts_len s
  split <;> simp <;> omega

theorem own_text {w : World} {b : Nat} {v : Value} {xs : List Int} {s : ByteArray} (h : w.ownsRow b 5 1 v (xs.length + s.size) (xs.map (Value.int .u8) ++ Lib.strCells s)) : Own w b v (xs ++ bts s) := by
  rw [bts_cells, ← bts_len s] at h
  exact own_more h

set_option maxRecDepth 100000 in
set_option maxHeartbeats 400000 in
theorem putTextImpl (s : ByteArray) (w : World) (hs : s.size ≤ maxLen) :
    Calls Try.prog 36 #[.string s] w fun e w' => ∃ v, e = .returned v ∧ Own w' w.heap.size v (pt s) ∧ Below w.heap.size w w' := by
  unfold maxLen at hs
  by_cases hn : 200 < s.size
  · rw [pt_out s hn]
    go_enter Try.func36, Try.ntmps36
    go_wp2
    go_ret
    exact ⟨_, rfl, World.ownsRow_nil _ _ _ _, Below.refl _ _⟩
  · rw [pt_in s (by omega)]
    have hpl := pn_len s.size
    obtain ⟨i0, hi, hz0, hz1, hz2⟩ := info_parts Try.info5
    go_enter Try.func36, Try.ntmps36
    go_wp2_with fail
    refine (putNumImpl _ _).mono ?_
    rintro e w1 ⟨v0, rfl, o0, b0⟩
    have hsz := b0.size
    go_wp2_with (first | (at_builtin; refine Lib.wpList_append_own_string _ rfl _ _ 37 9 rfl w.heap.size 5 i0 Try.underlying37 Try.underlying9 hi hz0 hz1 hz2 _ _ _ rfl o0 s rfl (by unfold maxLen; omega) (by omega) (by omega) ?_; intro v' w3 hown' hgrow3 hnil3))
    go_ret
    exact ⟨_, rfl, own_text hown', b0.grown hgrow3 hsz (fun q hq => (o0.lt q hq).1)⟩

theorem bytes_cells (w : World) (s : ByteArray) (cap : Nat) (fz : Nat × Nat) : ∀ j u, (Lib.strCells s)[j]? = some u →
    (w.alloc (.cells (bytesRow s cap) 5 fz)).cell? ((⟨w.heap.size, 0, none⟩ : Addr).add j) = some u := by
  intro j u hu
  have hj : j < s.size := by
    have := (List.getElem?_eq_some_iff.1 hu).1
    rwa [Lib.strCells_length] at this
  rw [Addr.add_lit, Nat.zero_add, cell_of_row _ w.heap.size j (bytesRow s cap) 5 fz (heap_alloc_new w _), ← hu]
  have hj' : j < s.data.size := hj
  have hl : (s.data.map fun b => Value.int .u8 (b.toNat : Int)).size = s.data.size := by simp
  rw [bytesRow, Array.getElem?_append, if_pos (by rw [hl]; exact hj')]
  simp [Lib.strCells]

set_option maxRecDepth 100000 in
set_option maxHeartbeats 400000 in
theorem putTextSpec (s : ByteArray) (w : World) (hs : s.size ≤ maxLen) :
    Calls Try.prog 33 #[.string s] w fun e w' => ∃ v, e = .returned v ∧ Own w' w.heap.size v (pt s) ∧ Below w.heap.size w w' := by
  unfold maxLen at hs
  by_cases hn : 200 < s.size
  · rw [pt_out s hn]
    go_enter Try.func33, Try.ntmps33
    go_wp2
    go_ret
    exact ⟨_, rfl, own_empty _ _ (Nat.le_refl _), (Below.refl _ _).alloc (Nat.le_refl _) _⟩
  · rw [pt_in s (by omega)]
    have hpl := pn_len s.size
    obtain ⟨i0, hi, hz0, hz1, hz2⟩ := info_parts Try.info5
    have hcv := fun W : World => run_bytes_of_string (P := Try.prog) W 9 37 5 s Try.underlying9 Try.underlying37 Try.underlying5
    go_enter Try.func33, Try.ntmps33
    go_wp2_with fail
    refine (putNumSpec _ _).mono ?_
    rintro e w1 ⟨v0, rfl, o0, b0⟩
    have hsz := b0.size
    go_wp2_with (first | (at_builtin; refine wpList_append_own _ rfl _ _ 37 rfl w.heap.size 5 i0 (.int .u8 0) 1 1 Try.underlying37 hi hz0 hz1 hz2 rfl (by decide) _ _ _ rfl (by exact World.ownsRow.alloc o0 _) ⟨w1.heap.size, 0, none⟩ s.size _ (Lib.strCells s) rfl (by simp [Lib.strCells_length]) (by exact bytes_cells w1.drew s _ _) (Lib.strCells_oneCell s) (by unfold maxLen; omega) (by omega) (by simp; omega) ?_; intro v' w3 hown' hgrow3 hnil3))
    go_ret
    exact ⟨_, rfl, own_text hown', below_app (below_drewN b0 1) hsz (o0.drewN 1) hgrow3⟩

end Go.Proofs.Ythagfdcfpffaoaa
