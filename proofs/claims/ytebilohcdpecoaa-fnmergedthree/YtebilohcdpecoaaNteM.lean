/-
  Notes: what is right, what is noted, what is merged.
-/
import Derived.Test.YtebilohcdpecoaaNteR
import Derived.Test.YtebilohcdpecoaaInB
namespace Go.Proofs.Ytebilohcdpecoaa
open Go.RowKit

def nteAt (xs : List Nte) (i : Nat) : Bool := inB (xs.getD i default).w 1 1000000 && (inB (xs.getD i default).n 1 16777215 && (decide (i = 0) || decide ((xs.getD (i - 1) default).w < (xs.getD i default).w)))
def nteB (xs : List Nte) : Bool := (List.range xs.length).all (nteAt xs)
theorem nteB_no {xs : List Nte} {j : Nat} (hj : j < xs.length) (h : nteAt xs j = false) : nteB xs = false := by
  unfold nteB
  cases c : (List.range xs.length).all (nteAt xs) with
  | false => rfl
  | true =>
    rw [List.all_eq_true] at c
    have := c j (List.mem_range.2 hj)
    rw [h] at this
    cases this
theorem nteB_yes {xs : List Nte} (h : ∀ i, i < xs.length → nteAt xs i = true) : nteB xs = true := by
  unfold nteB
  rw [List.all_eq_true]
  exact fun i hi => h i (List.mem_range.1 hi)
def nvX : List Nte → Int → Int
  | [], _ => 0
  | y :: ys, q => if y.w = q then y.n else nvX ys q
theorem nvX_hit {q : Int} : ∀ {xs : List Nte} {j : Nat}, j < xs.length → (xs.getD j default).w = q → (∀ i, i < j → ¬ (xs.getD i default).w = q) → nvX xs q = (xs.getD j default).n
  | [], j, h, _, _ => by simp at h
  | y :: ys, 0, _, h, _ => by
    rw [List.getD_cons_zero] at h ⊢
    unfold nvX
    rw [if_pos h]
  | y :: ys, j + 1, h, h1, h2 => by
    have h0 := h2 0 (by omega)
    rw [List.getD_cons_zero] at h0
    rw [List.getD_cons_succ] at h1 ⊢
    unfold nvX
    rw [if_neg h0]
    exact nvX_hit (by simpa using h) h1 (fun i hi => by have := h2 (i + 1) (by omega); rwa [List.getD_cons_succ] at this)
theorem nvX_no {q : Int} : ∀ {xs : List Nte}, (∀ i, i < xs.length → ¬ (xs.getD i default).w = q) → nvX xs q = 0
  | [], _ => rfl
  | y :: ys, h => by
    have h0 := h 0 (by simp)
    rw [List.getD_cons_zero] at h0
    unfold nvX
    rw [if_neg h0]
    exact nvX_no (fun i hi => by have := h (i + 1) (by simpa using hi); rwa [List.getD_cons_succ] at this)
theorem nvX_ok {q : Int} : ∀ {xs : List Nte}, (∀ y ∈ xs, NteG y) → -9223372036854775808 ≤ nvX xs q ∧ nvX xs q ≤ 9223372036854775807
  | [], _ => by unfold nvX; decide
  | y :: ys, h => by
    unfold nvX
    split
    · exact (h y (by simp)).n
    · exact nvX_ok (fun z hz => h z (by simp [hz]))
def joinN : List Nte → List Nte → List Nte
  | [], b => b
  | x :: a, [] => x :: a
  | x :: a, y :: b => if x.w < y.w then x :: joinN a (y :: b) else if y.w < x.w then y :: joinN (x :: a) b else ⟨x.w, max x.n y.n⟩ :: joinN a b
termination_by a b => a.length + b.length
theorem joinN_nil (a : List Nte) : joinN a [] = a := by cases a <;> simp [joinN]
theorem dropD {a : List Nte} {i : Nat} (h : i < a.length) : a.drop i = a.getD i default :: a.drop (i + 1) := by
  rw [List.drop_eq_getElem_cons h, List.getD_eq_getElem?_getD, List.getElem?_eq_getElem h]
  rfl
theorem joinN_a {a b : List Nte} {i k : Nat} (hi : i < a.length) (h : b.length ≤ k ∨ (k < b.length ∧ (a.getD i default).w < (b.getD k default).w)) : joinN (a.drop i) (b.drop k) = a.getD i default :: joinN (a.drop (i + 1)) (b.drop k) := by
  rcases h with h | ⟨hk, h⟩
  · rw [List.drop_eq_nil_of_le h, joinN_nil, joinN_nil]
    exact dropD hi
  · rw [dropD hi, dropD hk, joinN, if_pos h]
theorem joinN_b {a b : List Nte} {i k : Nat} (hk : k < b.length) (h : a.length ≤ i ∨ (i < a.length ∧ (b.getD k default).w < (a.getD i default).w)) : joinN (a.drop i) (b.drop k) = b.getD k default :: joinN (a.drop i) (b.drop (k + 1)) := by
  rcases h with h | ⟨hi, h⟩
  · rw [List.drop_eq_nil_of_le h, joinN, joinN]
    exact dropD hk
  · rw [dropD hi, dropD hk, joinN, if_neg (by omega), if_pos h]
theorem joinN_c {a b : List Nte} {i k : Nat} (hi : i < a.length) (hk : k < b.length) (h1 : ¬ (a.getD i default).w < (b.getD k default).w) (h2 : ¬ (b.getD k default).w < (a.getD i default).w) : joinN (a.drop i) (b.drop k) = ⟨(a.getD i default).w, max (a.getD i default).n (b.getD k default).n⟩ :: joinN (a.drop (i + 1)) (b.drop (k + 1)) := by
  rw [dropD hi, dropD hk, joinN, if_neg h1, if_neg h2]
theorem joinN_end {a b : List Nte} {i k : Nat} (hi : a.length ≤ i) (hk : b.length ≤ k) : joinN (a.drop i) (b.drop k) = [] := by
  rw [List.drop_eq_nil_of_le hi, List.drop_eq_nil_of_le hk, joinN]
theorem app1 {xs ys zs J : List Nte} {x : Nte} (h : xs ++ ys = J) (hy : ys = x :: zs) : (xs ++ [x]) ++ zs = J := by
  rw [← h, hy]; simp
theorem all_hitS {α : Type} [Inhabited α] {p : α → Bool} {l : List α} {j : Nat} (hj : j < l.length) (h : p (l.getD j default) = false) : l.all p = false := by
  cases c : l.all p with
  | false => rfl
  | true =>
    rw [List.all_eq_true] at c
    have := c (l.getD j default) (by rw [List.getD_eq_getElem?_getD, List.getElem?_eq_getElem hj]; exact List.getElem_mem hj)
    rw [h] at this
    cases this
theorem all_yesS {α : Type} [Inhabited α] {p : α → Bool} {l : List α} (h : ∀ i, i < l.length → p (l.getD i default) = true) : l.all p = true := by
  rw [List.all_eq_true]
  intro x hx
  obtain ⟨i, hi, rfl⟩ := List.getElem_of_mem hx
  have := h i hi
  rwa [List.getD_eq_getElem?_getD, List.getElem?_eq_getElem hi] at this
theorem joinN_len (a b : List Nte) : (joinN a b).length ≤ a.length + b.length := by
  induction a, b using joinN.induct with
  | case1 b => simp [joinN]
  | case2 x a => simp [joinN]
  | case3 x a y b h ih => rw [joinN, if_pos h]; simp at ih ⊢; omega
  | case4 x a y b h1 h2 ih => rw [joinN, if_neg h1, if_pos h2]; simp at ih ⊢; omega
  | case5 x a y b h1 h2 ih => rw [joinN, if_neg h1, if_neg h2]; simp at ih ⊢; omega
theorem joinN_mem (a b : List Nte) : (∀ y ∈ a, NteG y) → (∀ y ∈ b, NteG y) → ∀ y ∈ joinN a b, NteG y := by
  induction a, b using joinN.induct with
  | case1 b => intro _ h; rw [joinN]; exact h
  | case2 x a => intro h _; rw [joinN]; exact h
  | case3 x a y b h ih =>
    intro ha hb
    rw [joinN, if_pos h]
    intro z hz
    rcases List.mem_cons.1 hz with rfl | hz
    · exact ha z (by simp)
    · exact ih (fun q hq => ha q (by simp [hq])) hb z hz
  | case4 x a y b h1 h2 ih =>
    intro ha hb
    rw [joinN, if_neg h1, if_pos h2]
    intro z hz
    rcases List.mem_cons.1 hz with rfl | hz
    · exact hb z (by simp)
    · exact ih ha (fun q hq => hb q (by simp [hq])) z hz
  | case5 x a y b h1 h2 ih =>
    intro ha hb
    rw [joinN, if_neg h1, if_neg h2]
    intro z hz
    rcases List.mem_cons.1 hz with rfl | hz
    · have g1 := ha x (by simp)
      have g2 := hb y (by simp)
      exact ⟨g1.w, by have e1 := g1.n; have e2 := g2.n; show -9223372036854775808 ≤ max x.n y.n ∧ max x.n y.n ≤ 9223372036854775807; omega⟩
    · exact ih (fun q hq => ha q (by simp [hq])) (fun q hq => hb q (by simp [hq])) z hz

theorem nteB_at {xs : List Nte} (h : nteB xs = true) {i : Nat} (hi : i < xs.length) : nteAt xs i = true := by
  unfold nteB at h
  rw [List.all_eq_true] at h
  exact h i (List.mem_range.2 hi)
theorem nte_lo {xs : List Nte} (h : nteB xs = true) : ∀ i, i < xs.length → (i : Int) + 1 ≤ (xs.getD i default).w ∧ (xs.getD i default).w ≤ 1000000
  | 0, hi => by
    have h1 := nteB_at h hi
    unfold nteAt at h1
    rw [Bool.and_eq_true] at h1
    have := inB_yes h1.1
    exact ⟨by simpa using this.1, this.2⟩
  | i + 1, hi => by
    have h0 := nte_lo h i (by omega)
    have h1 := nteB_at h hi
    unfold nteAt at h1
    rw [Bool.and_eq_true, Bool.and_eq_true, Bool.or_eq_true] at h1
    have h2 := inB_yes h1.1
    rcases h1.2.2 with h3 | h3
    · have := of_decide_eq_true h3
      omega
    · have h4 := of_decide_eq_true h3
      rw [Nat.add_sub_cancel] at h4
      exact ⟨by omega, h2.2⟩
theorem nte_len {xs : List Nte} (h : nteB xs = true) : xs.length ≤ 1000000 := by
  cases hn : xs.length with
  | zero => omega
  | succ n =>
    have := nte_lo h n (by omega)
    omega

def ntkB (xs : List Nte) : Bool := nteB xs && decide (xs.length ≤ 130)
def mergeX (a b : List Nte) : List Nte := if ntkB a = true ∧ ntkB b = true ∧ ntkB (joinN a b) = true then joinN a b else a
theorem mergeX_ok {a b : List Nte} (ha : ntesG a) (hb : ntesG b) : ntesG (mergeX a b) := by
  unfold mergeX
  split
  · rename_i h
    have h2 := h.2.2
    unfold ntkB at h2
    rw [Bool.and_eq_true] at h2
    have h3 := of_decide_eq_true h2.2
    exact ⟨by omega, joinN_mem a b ha.2 hb.2⟩
  · exact ha
theorem nte1_ok {q n : Int} (hq : -9223372036854775808 ≤ q ∧ q ≤ 9223372036854775807) (hn : -9223372036854775808 ≤ n ∧ n ≤ 9223372036854775807) : ntesG [⟨q, n⟩] := ⟨by simp, fun y hy => by simp at hy; subst hy; exact ⟨hq, hn⟩⟩
def covB (a b : List Nte) : Bool := b.all (fun y => decide (y.n ≤ nvX a y.w)) && (ntkB a && ntkB b)
end Go.Proofs.Ytebilohcdpecoaa
