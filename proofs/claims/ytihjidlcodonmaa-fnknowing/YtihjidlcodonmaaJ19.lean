/-
  Joined: ClcW, EvM.
-/
import Derived.Test.YtihjidlcodonmaaJ18
import Derived.Test.YtihjidlcodonmaaJ15
import Derived.Test.YtihjidlcodonmaaJ9
/-
  A row of clocks as it is read.
-/
namespace Go.Proofs.Ytihjidlcodonmaa
open Go.RowKit

theorem rws_at {w : World} {B : Nat} {cs : List (List Smp)} {v : Value} (h : Reads w B (rws cs) v) :
    ∃ a cap, v = .slice a cs.length cap ∧ cs.length ≤ cap ∧ (0 < cs.length → ∃ b o, a = some ⟨b, o, none⟩ ∧ b < B ∧ ∀ j, j < cs.length → ∃ u, w.cell? ⟨b, o + j, none⟩ = some u ∧ Reads w B (smps (cs.getD j [])) u) := by
  unfold rws Reads at h
  obtain ⟨us, ⟨hl, a, cap, rfl, h2, _, h4⟩, h5⟩ := h
  refine ⟨a, cap, rfl, h2, fun hp => ?_⟩
  obtain ⟨b, o, rfl, hb, hc⟩ := h4 hp
  refine ⟨b, o, rfl, hb, fun j hj => ⟨us.getD j undef, ?_, smps_reads h5 hj⟩⟩
  have hlen := h5.len
  rw [hc j (by omega), List.getD_eq_getElem?_getD, List.getElem?_eq_getElem (by rw [hlen, List.length_map]; exact hj)]
  rfl
end Go.Proofs.Ytihjidlcodonmaa
/-
  Events: what is right, what clashes.
-/
namespace Go.Proofs.Ytihjidlcodonmaa
open Go.RowKit

def evAt (y : Evt) : Bool := inB y.w 1 1000000 && (inB y.k 0 6 && (inB y.i 0 1000000 && inB y.a 0 7))
def evB (xs : List Evt) : Bool := xs.all evAt && decide (xs.length ≤ 3000)
theorem evB_no {xs : List Evt} {j : Nat} (hj : j < xs.length) (h : evAt (xs.getD j default) = false) : evB xs = false := by
  unfold evB
  cases c : xs.all evAt with
  | false => rfl
  | true =>
    rw [List.all_eq_true] at c
    have := c (xs.getD j default) (by rw [List.getD_eq_getElem?_getD, List.getElem?_eq_getElem hj]; exact List.getElem_mem hj)
    rw [h] at this
    cases this
theorem evB_yes {xs : List Evt} (h : ∀ i, i < xs.length → evAt (xs.getD i default) = true) : evB xs = decide (xs.length ≤ 3000) := by
  unfold evB
  have : xs.all evAt = true := by
    rw [List.all_eq_true]
    intro y hy
    obtain ⟨i, hi, rfl⟩ := List.getElem_of_mem hy
    have := h i hi
    rwa [List.getD_eq_getElem?_getD, List.getElem?_eq_getElem hi] at this
  rw [this, Bool.true_and]
def rwB (k : Int) : Bool := decide (k = 1) || decide (k = 2)
def clashB (a b : Evt) : Bool := !decide (a.w = b.w) && (decide (a.i = b.i) && (decide (a.a = b.a) && (rwB a.k && (rwB b.k && (decide (a.k = 2) || decide (b.k = 2))))))
end Go.Proofs.Ytihjidlcodonmaa
