/-
  Copies at a node: what is good, and how great it may be, of what the models answer.
-/
import Derived.Test.YtofnpgheppgcaaaCpM
namespace Go.Proofs.Ytofnpgheppgcaaa
open Go.RowKit

theorem tot_setC {α : Type} (g : α → Nat) : ∀ (xs : List α) (j : Nat) (y : α), tot g (xs.set j y) ≤ tot g xs + g y
  | [], _, _ => by simp [tot]
  | x :: xs, 0, y => by simp [tot]; omega
  | x :: xs, j + 1, y => by
    have ih := tot_setC g xs j y
    simp only [tot, List.set_cons_succ, List.map_cons, List.sum_cons] at ih ⊢
    omega
theorem setC_all {α : Type} {P : α → Prop} {xs : List α} {j : Nat} {y : α} (h : ∀ x ∈ xs, P x) (hy : P y) : ∀ x ∈ xs.set j y, P x := by
  intro x hx
  rcases List.mem_or_eq_of_mem_set hx with h1 | h1
  · exact h x h1
  · rw [h1]; exact hy
theorem wrOne_ok {y : Cpy} {p : Int} {v : Vl} (hg : CpyG y) (hv : VlG v) : CpyG (wrOne y p v) := by
  have e1 : vlsG (y.f.set p.toNat v) := ⟨by rw [List.length_set]; exact hg.f.1, setC_all hg.f.2 hv⟩
  have e2 : vlsG (if y.t = [] then y.f else y.t) := by
    split
    · exact hg.f
    · exact hg.t
  exact ⟨hg.i, hg.c, hg.n, e1, e2⟩
theorem wrOne_w (y : Cpy) (p : Int) (v : Vl) : cpyW (wrOne y p v) ≤ cpyW y + cpyW y := by
  have e1 : vlsW (y.f.set p.toNat v) = vlsW y.f := by unfold vlsW; rw [List.length_set]
  have e2 : vlsW (if y.t = [] then y.f else y.t) ≤ vlsW y.f + vlsW y.t := by
    split
    · omega
    · omega
  show vlsW (y.f.set p.toNat v) + vlsW (if y.t = [] then y.f else y.t) ≤ (vlsW y.f + vlsW y.t) + (vlsW y.f + vlsW y.t)
  omega
theorem writeC_ok {xs : List Cpy} {q p : Int} {v : Vl} (hg : cpysG xs) (hv : VlG v) : cpysG (writeC xs q p v) := by
  unfold writeC
  split
  · exact ⟨by rw [List.length_set]; exact hg.1, setC_all hg.2 (wrOne_ok (copyC_ok hg) hv)⟩
  · exact hg
theorem writeC_w (xs : List Cpy) (q p : Int) (v : Vl) : cpysW (writeC xs q p v) ≤ cpysW xs + cpysW xs + cpysW xs := by
  unfold writeC
  split
  · have h1 := tot_setC cpyW xs (atC xs q).toNat (wrOne (copyC xs q) p v)
    have h2 := wrOne_w (copyC xs q) p v
    have h3 := copyC_w xs q
    unfold cpysW at h3 ⊢
    rw [List.length_set]
    omega
  · omega
theorem clOne_ok {y : Cpy} (hg : CpyG y) : CpyG (clOne y) := ⟨hg.i, hg.c, hg.n, hg.f, ⟨Nat.zero_le _, fun z hz => by simp [clOne] at hz⟩⟩
theorem cleanC_ok {xs : List Cpy} {q : Int} (hg : cpysG xs) : cpysG (cleanC xs q) := by
  unfold cleanC
  split
  · exact ⟨by rw [List.length_set]; exact hg.1, setC_all hg.2 (clOne_ok (copyC_ok hg))⟩
  · exact hg
theorem cleanC_w (xs : List Cpy) (q : Int) : cpysW (cleanC xs q) ≤ cpysW xs + cpysW xs := by
  unfold cleanC
  split
  · have h1 := tot_setC cpyW xs (atC xs q).toNat (clOne (copyC xs q))
    have h2 : cpyW (clOne (copyC xs q)) ≤ cpyW (copyC xs q) := by
      have e : cpyW (clOne (copyC xs q)) = vlsW (copyC xs q).f + 0 := rfl
      have e2 : cpyW (copyC xs q) = vlsW (copyC xs q).f + vlsW (copyC xs q).t := rfl
      omega
    have h3 := copyC_w xs q
    unfold cpysW at h3 ⊢
    rw [List.length_set]
    omega
  · omega
theorem dirtyC_ok {xs : List Cpy} (hg : cpysG xs) : intsG (dirtyC xs) := by
  refine ⟨?_, fun y hy => ?_⟩
  · unfold dirtyC
    rw [List.length_map]
    exact Nat.le_trans (List.length_filter_le _ _) hg.1
  · unfold dirtyC at hy
    obtain ⟨x, hx, rfl⟩ := List.mem_map.1 hy
    exact (hg.2 x (List.mem_filter.1 hx).1).i
end Go.Proofs.Ytofnpgheppgcaaa
