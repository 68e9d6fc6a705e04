/-
  What is different, patched, apart.
-/
import Derived.Test.YtabeeppfgkeahaaCelR
import Derived.Test.YtabeeppfgkeahaaInB
namespace Go.Proofs.Ytabeeppfgkeahaa
open Go.RowKit

def eqB (x y : Vl) : Bool := x.r == y.r && x.n == y.n
theorem eqB_iff (x y : Vl) : eqB x y = true ↔ x = y := by
  cases x
  cases y
  simp [eqB]
def difN (a b : List Vl) : Nat → List Cel
  | 0 => []
  | n + 1 => difN a b n ++ (if eqB (a.getD n default) (b.getD n default) = true then [] else [Cel.mk (n : Int) (b.getD n default).r (b.getD n default).n])
def difX (a b : List Vl) : List Cel := if a.length = b.length ∧ a.length ≤ 8 then difN a b a.length else []
theorem difN_len (a b : List Vl) : ∀ n, (difN a b n).length ≤ n
  | 0 => Nat.le_refl _
  | n + 1 => by
    have ih := difN_len a b n
    unfold difN
    rw [List.length_append]
    split
    · simp only [List.length_nil]; omega
    · simp only [List.length_cons, List.length_nil]; omega
theorem difN_ok {a b : List Vl} (hb : vlsG b) : ∀ n, n ≤ b.length → n ≤ 1048576 → ∀ y ∈ difN a b n, CelG y
  | 0, _, _, y, hy => by simp [difN] at hy
  | n + 1, h1, h2, y, hy => by
    unfold difN at hy
    rcases List.mem_append.1 hy with h | h
    · exact difN_ok hb n (by omega) (by omega) y h
    · split at h
      · simp at h
      · rw [List.mem_singleton] at h
        subst h
        exact ⟨⟨by dsimp only; omega, by dsimp only; omega⟩, (getD_mem hb.2 n (by omega)).n⟩
theorem difX_ok {a b : List Vl} (hb : vlsG b) : celsG (difX a b) := by
  unfold difX
  split
  · rename_i h
    exact ⟨Nat.le_trans (difN_len a b _) (by omega), difN_ok hb _ (by omega) (by omega)⟩
  · exact ⟨Nat.zero_le _, fun y hy => by simp at hy⟩
def pat1 (xs : List Vl) (c : Cel) : List Vl := if inB c.a 0 ((xs.length : Int) - 1) = true then xs.set c.a.toNat ⟨c.r, c.n⟩ else xs
def patX (f : List Vl) (cs : List Cel) : List Vl := cs.foldl pat1 f
theorem pat1_len (xs : List Vl) (c : Cel) : (pat1 xs c).length = xs.length := by
  unfold pat1
  split
  · rw [List.length_set]
  · rfl
theorem patX_len : ∀ (cs : List Cel) (f : List Vl), (patX f cs).length = f.length
  | [], _ => rfl
  | c :: cs, f => by
    have ih := patX_len cs (pat1 f c)
    rw [pat1_len] at ih
    exact ih
theorem pat1_ok {xs : List Vl} {c : Cel} (hx : vlsG xs) (hc : CelG c) : vlsG (pat1 xs c) := by
  unfold pat1
  split
  · refine ⟨by rw [List.length_set]; exact hx.1, fun y hy => ?_⟩
    rcases List.mem_or_eq_of_mem_set hy with h | h
    · exact hx.2 y h
    · subst h
      exact ⟨hc.n⟩
  · exact hx
theorem patX_ok : ∀ {cs : List Cel} {f : List Vl}, vlsG f → (∀ c ∈ cs, CelG c) → vlsG (patX f cs)
  | [], _, hf, _ => hf
  | c :: cs, f, hf, hc => patX_ok (cs := cs) (f := pat1 f c) (pat1_ok hf (hc c (by simp))) (fun x hx => hc x (by simp [hx]))
theorem patX_snoc {f : List Vl} {cs : List Cel} {j : Nat} (h : j < cs.length) : patX f (cs.take (j + 1)) = pat1 (patX f (cs.take j)) (cs.getD j default) := by
  have e : cs.take (j + 1) = cs.take j ++ [cs.getD j default] := by
    rw [List.take_add_one, List.getElem?_eq_getElem h, List.getD_eq_getElem?_getD, List.getElem?_eq_getElem h]
    rfl
  unfold patX
  rw [e, List.foldl_append]
  rfl
def ap1 (b : List Cel) (p : Int) : Bool := b.all (fun y => !(p == y.a))
def apX (a b : List Cel) : Bool := a.all (fun x => ap1 b x.a)
theorem ap_no {a b : List Cel} {i j : Nat} (hi : i < a.length) (hj : j < b.length) (h : ((a.getD i default).a == (b.getD j default).a) = true) : apX a b = false := by
  unfold apX ap1
  rw [List.all_eq_false]
  refine ⟨a.getD i default, ?_, ?_⟩
  · rw [List.getD_eq_getElem?_getD, List.getElem?_eq_getElem hi]
    exact List.getElem_mem hi
  · rw [Bool.not_eq_true, List.all_eq_false]
    refine ⟨b.getD j default, ?_, ?_⟩
    · rw [List.getD_eq_getElem?_getD, List.getElem?_eq_getElem hj]
      exact List.getElem_mem hj
    · rw [h]
      simp
theorem ap_yes {a b : List Cel} (h : ∀ i j, i < a.length → j < b.length → ((a.getD i default).a == (b.getD j default).a) = false) : apX a b = true := by
  unfold apX ap1
  rw [List.all_eq_true]
  intro x hx
  rw [List.all_eq_true]
  intro y hy
  obtain ⟨i, hi, rfl⟩ := List.mem_iff_getElem.1 hx
  obtain ⟨j, hj, rfl⟩ := List.mem_iff_getElem.1 hy
  have := h i j hi hj
  rw [List.getD_eq_getElem?_getD, List.getElem?_eq_getElem hi, List.getD_eq_getElem?_getD, List.getElem?_eq_getElem hj] at this
  simp only [Option.getD_some] at this
  rw [this]
  rfl
end Go.Proofs.Ytabeeppfgkeahaa
