/-
  The first and the last elements of a row, by a slice of it.
-/
import Derived.Test.YtllghgcancennaaDeep
import Derived.Laws.Slices
namespace Go.Proofs.Ytllghgcancennaa
open Go.RowKit

theorem ReadsL.take {w : World} {B : Nat} : ∀ {cs : List Dt} {us : List Value} (j : Nat), ReadsL w B cs us → ReadsL w B (cs.take j) (us.take j)
  | _, _, 0, _ => by rw [List.take_zero, List.take_zero]; exact readsL_none
  | [], us, j + 1, h => by rw [readsL_nil h]; exact readsL_none
  | c :: cs, us, j + 1, h => by
    obtain ⟨u, us', rfl, h1, h2⟩ := readsL_cons h
    rw [List.take_succ_cons, List.take_succ_cons]
    exact readsL_mk h1 (ReadsL.take j h2)
theorem ReadsL.drop {w : World} {B : Nat} : ∀ {cs : List Dt} {us : List Value} (j : Nat), ReadsL w B cs us → ReadsL w B (cs.drop j) (us.drop j)
  | _, _, 0, h => by rw [List.drop_zero, List.drop_zero]; exact h
  | [], us, j + 1, h => by rw [readsL_nil h]; exact readsL_none
  | c :: cs, us, j + 1, h => by
    obtain ⟨u, us', rfl, h1, h2⟩ := readsL_cons h
    rw [List.drop_succ_cons, List.drop_succ_cons]
    exact ReadsL.drop j h2
theorem Reads.pre {w : World} {B : Nat} {T : TypeId} {k n cap : Nat} {cs : List Dt} {a : Option Addr} (h : Reads w B (.row T k n cs) (.slice a n cap)) {j : Nat} (hj : j ≤ n) : Reads w B (.row T k j (cs.take (j * k))) (.slice a j cap) := by
  unfold Reads at h ⊢
  obtain ⟨us, ⟨h1, a', cap', e, h2, h3, h4⟩, h5⟩ := h
  cases e
  have hle := Nat.mul_le_mul_right k hj
  refine ⟨us.take (j * k), ⟨by rw [List.length_take]; omega, a, cap, rfl, by omega, h3, fun hp => ?_⟩, h5.take _⟩
  obtain ⟨b, o, rfl, hb, hc⟩ := h4 (by omega)
  refine ⟨b, o, rfl, hb, fun i hi => ?_⟩
  rw [hc i (by omega), List.getElem?_take_of_lt hi]
theorem Reads.suf {w : World} {B : Nat} {T : TypeId} {k n cap : Nat} {cs : List Dt} {a : Option Addr} (h : Reads w B (.row T k n cs) (.slice a n cap)) {j : Nat} (hj : j ≤ n) : Reads w B (.row T k (n - j) (cs.drop (j * k))) (.slice (if cap = j then a else a.map (·.add (j * k))) (n - j) (cap - j)) := by
  unfold Reads at h ⊢
  obtain ⟨us, ⟨h1, a', cap', e, h2, h3, h4⟩, h5⟩ := h
  cases e
  have hle := Nat.mul_le_mul_right k hj
  refine ⟨us.drop (j * k), ⟨by rw [List.length_drop, h1, Nat.sub_mul], _, _, rfl, by omega, ?_, fun hp => ?_⟩, h5.drop _⟩
  · intro e
    split at e
    · omega
    · cases a with
      | none => have := h3 rfl; omega
      | some x => cases e
  · obtain ⟨b, o, rfl, hb, hc⟩ := h4 (by omega)
    refine ⟨b, o + j * k, ?_, hb, fun i hi => ?_⟩
    · rw [if_neg (by omega)]
      simp [Addr.add_lit]
    · rw [Nat.sub_mul] at hi
      rw [Nat.add_assoc, hc (j * k + i) (by omega), List.getElem?_drop]
end Go.Proofs.Ytllghgcancennaa
