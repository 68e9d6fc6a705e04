/-
  A part of a row that may be read may be read.
-/
import Derived.Test.YtpgmipbanpofaaaGreatDoorJ1
namespace Go.Proofs.YtpgmipbanpofaaaGreatDoor
open Go.RowKit

theorem In.take {w : World} {B len : Nat} {a : Option Addr} {zs : List Int} (h : In w B a len zs) (n : Nat) (hn : n ≤ len) : In w B a n (zs.take n) := by
  have hl := h.1
  refine ⟨by simp; omega, by have := h.2.1; omega, fun j hj => ?_, fun hp => ?_⟩
  · have := h.2.2.1 j (by omega)
    simpa [List.getD, hj] using this
  · obtain ⟨b, o, ha, hb, hc⟩ := h.2.2.2 (by omega)
    refine ⟨b, o, ha, hb, fun j hj => ?_⟩
    have := hc j (by omega)
    rw [this]
    simp [List.getD, hj]
theorem In.drop {w : World} {B len : Nat} {b o : Nat} {zs : List Int} (h : In w B (some ⟨b, o, none⟩) len zs) (n : Nat) (hn : n ≤ len) : In w B (some ⟨b, o + n, none⟩) (len - n) (zs.drop n) := by
  have hl := h.1
  refine ⟨by simp; omega, by have := h.2.1; omega, fun j hj => ?_, fun hp => ?_⟩
  · have := h.2.2.1 (n + j) (by omega)
    simpa [List.getD] using this
  · obtain ⟨b', o', ha, hb, hc⟩ := h.2.2.2 (by omega)
    cases ha
    refine ⟨_, _, rfl, hb, fun j hj => ?_⟩
    have := hc (n + j) (by omega)
    rw [Nat.add_assoc, this]
    simp [List.getD]

end Go.Proofs.YtpgmipbanpofaaaGreatDoor
