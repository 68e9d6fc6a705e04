/-
  All old blocks but those of an interval are as they were; sums and counts.
-/
import Derived.Test.YtllghgcancennaaDeepMk
import Derived.Test.YtllghgcancennaaDeepSz
namespace Go.Proofs.Ytllghgcancennaa
open Go.RowKit

/-- All old blocks but those from b on up to hi are as they were. -/
structure ChgI (b hi : Nat) (w w' : World) : Prop where
  os : w'.os = w.os
  tape : w'.tape = w.tape
  output : w'.output = w.output
  size : w.heap.size ≤ w'.heap.size
  block : ∀ q, q < w.heap.size → (q < b ∨ hi ≤ q) → w'.heap[q]? = w.heap[q]?
theorem Chg.int {F : List Nat} {b hi : Nat} {w w' : World} (h : Chg F w w') (hF : ∀ q ∈ F, b ≤ q ∧ q < hi) : ChgI b hi w w' := ⟨h.os, h.tape, h.output, h.size, fun q hq hr => h.block q hq (fun hm => by have := hF q hm; omega)⟩
theorem ChgI.below {b hi B : Nat} {w w' : World} (h : ChgI b hi w w') (hB : B ≤ b) (hs : B ≤ w.heap.size) : Below B w w' := ⟨h.os, h.tape, h.output, h.size, fun q hq => h.block q (by omega) (.inl (by omega))⟩
theorem OwnDL.apart {w w' : World} {b hi b' hi' : Nat} {cs : List Dt} {us : List Value} (h : OwnDL w b hi cs us) (hc : ChgI b' hi' w w') (ha : hi ≤ b' ∨ hi' ≤ b) : OwnDL w' b hi cs us := h.same (fun q h1 h2 h3 => hc.block q h3 (by omega))
theorem Reads.apart {w w' : World} {B b hi : Nat} {d : Dt} {v : Value} (h : Reads w B d v) (hc : ChgI b hi w w') (hB : B ≤ b) (hs : B ≤ w.heap.size) : Reads w' B d v := h.kept (fun k hk => hc.block k (by omega) (.inl (by omega)))
theorem tot_cnt {α : Type} (c g : α → Nat) (h : ∀ x, c x ≤ 8 * g x + 8) : ∀ xs : List α, tot c xs ≤ 8 * (xs.length + tot g xs)
  | [] => by simp [tot]
  | x :: xs => by
    have h1 := tot_cnt c g h xs
    have h2 := h x
    have e1 : tot c (x :: xs) = c x + tot c xs := by simp [tot]
    have e2 : tot g (x :: xs) = g x + tot g xs := by simp [tot]
    rw [e1, e2, List.length_cons]; omega
theorem tot_cnt0 {α : Type} (c : α → Nat) (h : ∀ x, c x ≤ 8) : ∀ xs : List α, tot c xs ≤ 8 * xs.length
  | [] => by simp [tot]
  | x :: xs => by
    have h1 := tot_cnt0 c h xs
    have h2 := h x
    have e1 : tot c (x :: xs) = c x + tot c xs := by simp [tot]
    rw [e1, List.length_cons]; omega
theorem tot_one {α : Type} (c : α → Nat) (h : ∀ x, 1 ≤ c x) : ∀ xs : List α, xs.length ≤ tot c xs
  | [] => by simp [tot]
  | x :: xs => by
    have h1 := tot_one c h xs
    have h2 := h x
    have e1 : tot c (x :: xs) = c x + tot c xs := by simp [tot]
    rw [e1, List.length_cons]; omega
theorem OwnD.apart {w w' : World} {b hi b' hi' : Nat} {d : Dt} {v : Value} (h : OwnD w b hi d v) (hc : ChgI b' hi' w w') (ha : hi ≤ b' ∨ hi' ≤ b) : OwnD w' b hi d v := h.same (fun q h1 h2 h3 => hc.block q h3 (by omega))
end Go.Proofs.Ytllghgcancennaa
