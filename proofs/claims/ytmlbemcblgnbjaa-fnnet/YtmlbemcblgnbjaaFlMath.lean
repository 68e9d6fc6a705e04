/-
  Bytes with one bit the other way round: still bytes, as many, and others.
-/
import Derived.Test.YtmlbemcblgnbjaaTurnW
namespace Go.Proofs.Ytmlbemcblgnbjaa
open Go.RowKit

theorem fl_all : ∀ (z : Fin 256) (k : Fin 8), (fl (z.val : Int) k.val ≠ (z.val : Int)) ∧ 0 ≤ fl (z.val : Int) k.val ∧ fl (z.val : Int) k.val ≤ 255 ∧ fl (fl (z.val : Int) k.val) k.val = (z.val : Int) := by decide +kernel

theorem fl_of (z : Int) (k : Nat) (h0 : 0 ≤ z) (h1 : z ≤ 255) (hk : k < 8) : fl z k ≠ z ∧ 0 ≤ fl z k ∧ fl z k ≤ 255 ∧ fl (fl z k) k = z := by
  obtain ⟨n, rfl⟩ := Int.eq_ofNat_of_zero_le h0
  exact fl_all ⟨n, by omega⟩ ⟨k, hk⟩

theorem turned_len (zs : List Int) (bit : Int) : (turned zs bit).length = zs.length := by
  unfold turned
  split
  · simp
  · rfl
theorem turned_byt (zs : List Int) (bit : Int) (h : Byt zs) : Byt (turned zs bit) := by
  unfold turned
  split
  · rename_i hb
    intro z hz
    rcases List.mem_or_eq_of_mem_set hz with hz | rfl
    · exact h z hz
    · have := h.at (bit / 8).toNat (by omega)
      exact ⟨(fl_of _ _ this.1 this.2 (by omega)).2.1, (fl_of _ _ this.1 this.2 (by omega)).2.2.1⟩
  · exact h
theorem turned_ne (zs : List Int) (bit : Int) (h : Byt zs) (h0 : 0 ≤ bit) (h1 : bit / 8 < zs.length) : turned zs bit ≠ zs := by
  unfold turned
  rw [if_pos ⟨h0, h1⟩]
  intro e
  have hj : (bit / 8).toNat < zs.length := by omega
  have hb := h.at (bit / 8).toNat hj
  have := congrArg (fun l => l.getD (bit / 8).toNat 0) e
  simp only [List.getD_eq_getElem?_getD, List.getElem?_set_self hj, Option.getD_some] at this
  rw [← List.getD_eq_getElem?_getD] at this
  exact (fl_of _ _ hb.1 hb.2 (by omega)).1 this
end Go.Proofs.Ytmlbemcblgnbjaa
