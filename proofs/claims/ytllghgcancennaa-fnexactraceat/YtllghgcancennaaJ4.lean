/-
  Joined: Copy, FlatOne.
-/
import Derived.Test.YtllghgcancennaaJ1
import Derived.Test.YtllghgcancennaaJ2
import Derived.Laws.MakeOwn
/-
  What toByteS does: a copy of the bytes in new memory.
-/
namespace Go.Proofs.Ytllghgcancennaa
open Go.RowKit

theorem copy_step (zs : List Int) (j : Nat) (h : j < zs.length) :
    ((zs.take j ++ List.replicate (zs.length - j) 0).map (Value.int .u8)).set j (.int .u8 (zs.getD j 0)) = (zs.take (j + 1) ++ List.replicate (zs.length - (j + 1)) 0).map (Value.int .u8) := by
  have e : zs.length - j = (zs.length - (j + 1)) + 1 := by omega
  rw [e, List.replicate_succ]
  simp only [List.map_append, List.map_cons]
  rw [List.set_append_right _ _ (by simp; omega)]
  have e2 : (List.map (Value.int IntKind.u8) (List.take j zs)).length = j := by simp; omega
  rw [e2, Nat.sub_self, List.set_cons_zero]
  have hg : zs.getD j 0 = zs[j] := by simp [h]
  rw [List.take_succ_eq_append_getElem h, hg, List.map_append, List.append_assoc]
  rfl

theorem copy_len (zs : List Int) (j : Nat) (h : j ≤ zs.length) : (zs.take j ++ List.replicate (zs.length - j) 0).length = zs.length := by
  simp; omega

end Go.Proofs.Ytllghgcancennaa
/-
  Rows of elements of several cells: what a store into one of them leaves.
-/
namespace Go.Proofs.Ytllghgcancennaa
open Go.RowKit

/-- A store into cell r of element j: the element turned there. -/
theorem flat_set {α : Type} (f : α → List Value) (sz : Nat) (hf : ∀ x, (f x).length = sz) : ∀ (xs : List α) (j r : Nat) (u : Value) (y : α), r < sz → j < xs.length → (∀ x, xs[j]? = some x → (f x).set r u = f y) → (xs.flatMap f).set (j * sz + r) u = (xs.set j y).flatMap f
  | [], j, r, u, y, hr, hj, h => by simp at hj
  | x :: xs, 0, r, u, y, hr, hj, h => by
    rw [List.set_cons_zero, List.flatMap_cons, List.flatMap_cons, ← h x rfl, Nat.zero_mul, Nat.zero_add, List.set_append_left _ _ (by rw [hf]; exact hr)]
  | x :: xs, j + 1, r, u, y, hr, hj, h => by
    rw [List.set_cons_succ, List.flatMap_cons, List.flatMap_cons, List.set_append_right _ _ (by rw [hf, Nat.succ_mul]; omega), hf]
    rw [show (j + 1) * sz + r - sz = j * sz + r from by rw [Nat.succ_mul]; omega]
    rw [flat_set f sz hf xs j r u y hr (by simpa using hj) (fun x hx => h x (by simpa using hx))]

/-- One element more copied. -/
theorem copy_one {α : Type} (xs : List α) (d z : α) (j : Nat) (h : j < xs.length) : (xs.take j ++ List.replicate (xs.length - j) z).set j (xs.getD j d) = xs.take (j + 1) ++ List.replicate (xs.length - (j + 1)) z := by
  have e : xs.length - j = (xs.length - (j + 1)) + 1 := by omega
  rw [e, List.replicate_succ, List.set_append_right _ _ (by simp; omega)]
  have e2 : (List.take j xs).length = j := by simp; omega
  rw [e2, Nat.sub_self, List.set_cons_zero, List.take_succ_eq_append_getElem h, List.append_assoc]
  simp [h]
theorem copy_one_len {α : Type} (xs : List α) (z : α) (j : Nat) (h : j ≤ xs.length) : (xs.take j ++ List.replicate (xs.length - j) z).length = xs.length := by
  simp; omega

/-- What 'make' lays: the zero element, n times. -/
theorem made_flat {α : Type} (f : α → List Value) (sz : Nat) (hf : ∀ x, (f x).length = sz) (hp : 0 < sz) (d : α) (z : Array Value) (hz : z.toList = f d) (n : Nat) : (madeCells z (n * sz)).toList = (List.replicate n d).flatMap f := by
  have hzs : z.size = sz := by rw [← Array.length_toList, hz, hf]
  have hl1 : (madeCells z (n * sz)).toList.length = n * sz := by rw [Array.length_toList, size_madeCells]
  have hl2 : ((List.replicate n d).flatMap f).length = n * sz := by rw [flat_len f sz hf, List.length_replicate]
  refine List.ext_getElem? fun i => ?_
  by_cases hi : i < n * sz
  · have h1 : i / sz < n := Nat.div_lt_of_lt_mul (by rw [Nat.mul_comm]; exact hi)
    have h2 : i % sz < sz := Nat.mod_lt _ hp
    have h3 : i / sz * sz + i % sz = i := by rw [Nat.mul_comm]; exact Nat.div_add_mod i sz
    have h4 := flat_get f sz hf (List.replicate n d) d (i / sz) (i % sz) (by simpa using h1) h2
    rw [h3] at h4
    rw [h4]
    have h5 : (List.replicate n d).getD (i / sz) d = d := by simp [h1]
    rw [h5, ← hz]
    simp [madeCells, hi, hzs, h2]
  · rw [List.getElem?_eq_none (by omega), List.getElem?_eq_none (by omega)]

end Go.Proofs.Ytllghgcancennaa
