/-
  Joined: InB, ClkM.
-/
import Derived.Test.YtllghgcancennaaRows
import Derived.Test.YtllghgcancennaaJ1
import Derived.Test.YtllghgcancennaaJ7
/-
  Whether a number lies from one to another, asked by the program and by its model.
-/
namespace Go.Proofs.Ytllghgcancennaa
open Go.RowKit

/-- n lies from a to b. -/
def inB (n a b : Int) : Bool := decide (a ≤ n ∧ n ≤ b)
theorem inB_yes {n a b : Int} (h : inB n a b = true) : a ≤ n ∧ n ≤ b := of_decide_eq_true h
theorem inB_no {n a b : Int} (h : inB n a b = false) : n < a ∨ b < n := by
  have := of_decide_eq_false h
  omega
theorem inB_mk {n a b : Int} (h1 : a ≤ n) (h2 : n ≤ b) : inB n a b = true := decide_eq_true ⟨h1, h2⟩
theorem inB_not {n a b : Int} (h : n < a ∨ b < n) : inB n a b = false := decide_eq_false (by omega)

theorem inYes (x lo hi : Int) (w : World) (h1 : lo ≤ x) (h2 : x ≤ hi) :
    Calls Try.prog 58 #[.int .i64 x, .int .i64 lo, .int .i64 hi] w fun e w' => e = .returned (.bool true) ∧ w' = w := by
  go_enter Try.func58, Try.ntmps58
  go_wp2
  go_ret
  exact ⟨ret_bool (by simp), rfl⟩

theorem inNo (x lo hi : Int) (w : World) (h : x < lo ∨ hi < x) :
    Calls Try.prog 58 #[.int .i64 x, .int .i64 lo, .int .i64 hi] w fun e w' => e = .returned (.bool false) ∧ w' = w := by
  by_cases h1 : lo ≤ x
  · have h2 : hi < x := by omega
    clear h
    go_enter Try.func58, Try.ntmps58
    go_wp2
    go_ret
    exact ⟨ret_bool (by simp [h2]), rfl⟩
  · clear h
    go_enter Try.func58, Try.ntmps58
    go_wp2
    go_ret
    exact ⟨ret_bool (by simp), rfl⟩

theorem inSpec (n a b : Int) (w : World) :
    Calls Try.prog 58 #[.int .i64 n, .int .i64 a, .int .i64 b] w fun e w' => e = .returned (.bool (inB n a b)) ∧ w' = w := by
  cases h : inB n a b with
  | true => have := inB_yes h; exact inYes n a b w this.1 this.2
  | false => exact inNo n a b w (inB_no h)
theorem inImpl (n a b : Int) (w : World) :
    Calls Try.prog 69 #[.int .i64 n, .int .i64 a, .int .i64 b] w fun e w' => e = .returned (.bool (inB n a b)) ∧ w' = w := by
  by_cases h1 : a ≤ n
  · by_cases h2 : n ≤ b
    · rw [inB_mk h1 h2]
      go_enter Try.func69, Try.ntmps69
      go_wp2
      go_ret
      exact ⟨ret_bool (by simp), rfl⟩
    · rw [inB_not (.inr (by omega))]
      go_enter Try.func69, Try.ntmps69
      go_wp2
      go_ret
      exact ⟨ret_bool (by simp), rfl⟩
  · rw [inB_not (.inl (by omega))]
    go_enter Try.func69, Try.ntmps69
    go_wp2
    go_ret
    exact ⟨ret_bool (by simp), rfl⟩
end Go.Proofs.Ytllghgcancennaa
/-
  Clocks: what is right, what is counted, what is joined.
-/
namespace Go.Proofs.Ytllghgcancennaa
open Go.RowKit

def clkAt (xs : List Smp) (i : Nat) : Bool := inB (xs.getD i default).w 1 1000000 && (inB (xs.getD i default).n 1 16777215 && (decide (i = 0) || decide ((xs.getD (i - 1) default).w < (xs.getD i default).w)))
def clkB (xs : List Smp) : Bool := (List.range xs.length).all (clkAt xs)
theorem clkB_no {xs : List Smp} {j : Nat} (hj : j < xs.length) (h : clkAt xs j = false) : clkB xs = false := by
  unfold clkB
  cases c : (List.range xs.length).all (clkAt xs) with
  | false => rfl
  | true =>
    rw [List.all_eq_true] at c
    have := c j (List.mem_range.2 hj)
    rw [h] at this
    cases this
theorem clkB_yes {xs : List Smp} (h : ∀ i, i < xs.length → clkAt xs i = true) : clkB xs = true := by
  unfold clkB
  rw [List.all_eq_true]
  exact fun i hi => h i (List.mem_range.1 hi)
def cntX : List Smp → Int → Int
  | [], _ => 0
  | y :: ys, q => if y.w = q then y.n else cntX ys q
theorem cntX_hit {q : Int} : ∀ {xs : List Smp} {j : Nat}, j < xs.length → (xs.getD j default).w = q → (∀ i, i < j → ¬ (xs.getD i default).w = q) → cntX xs q = (xs.getD j default).n
  | [], j, h, _, _ => by simp at h
  | y :: ys, 0, _, h, _ => by
    rw [List.getD_cons_zero] at h ⊢
    unfold cntX
    rw [if_pos h]
  | y :: ys, j + 1, h, h1, h2 => by
    have h0 := h2 0 (by omega)
    rw [List.getD_cons_zero] at h0
    rw [List.getD_cons_succ] at h1 ⊢
    unfold cntX
    rw [if_neg h0]
    exact cntX_hit (by simpa using h) h1 (fun i hi => by have := h2 (i + 1) (by omega); rwa [List.getD_cons_succ] at this)
theorem cntX_no {q : Int} : ∀ {xs : List Smp}, (∀ i, i < xs.length → ¬ (xs.getD i default).w = q) → cntX xs q = 0
  | [], _ => rfl
  | y :: ys, h => by
    have h0 := h 0 (by simp)
    rw [List.getD_cons_zero] at h0
    unfold cntX
    rw [if_neg h0]
    exact cntX_no (fun i hi => by have := h (i + 1) (by simpa using hi); rwa [List.getD_cons_succ] at this)
theorem cntX_ok {q : Int} : ∀ {xs : List Smp}, (∀ y ∈ xs, SmpG y) → -9223372036854775808 ≤ cntX xs q ∧ cntX xs q ≤ 9223372036854775807
  | [], _ => by unfold cntX; decide
  | y :: ys, h => by
    unfold cntX
    split
    · exact (h y (by simp)).n
    · exact cntX_ok (fun z hz => h z (by simp [hz]))
def joinK : List Smp → List Smp → List Smp
  | [], b => b
  | x :: a, [] => x :: a
  | x :: a, y :: b => if x.w < y.w then x :: joinK a (y :: b) else if y.w < x.w then y :: joinK (x :: a) b else ⟨x.w, max x.n y.n⟩ :: joinK a b
termination_by a b => a.length + b.length
theorem joinK_nil (a : List Smp) : joinK a [] = a := by cases a <;> simp [joinK]
theorem dropD {a : List Smp} {i : Nat} (h : i < a.length) : a.drop i = a.getD i default :: a.drop (i + 1) := by
  rw [List.drop_eq_getElem_cons h, List.getD_eq_getElem?_getD, List.getElem?_eq_getElem h]
  rfl
theorem joinK_a {a b : List Smp} {i k : Nat} (hi : i < a.length) (h : b.length ≤ k ∨ (k < b.length ∧ (a.getD i default).w < (b.getD k default).w)) : joinK (a.drop i) (b.drop k) = a.getD i default :: joinK (a.drop (i + 1)) (b.drop k) := by
  rcases h with h | ⟨hk, h⟩
  · rw [List.drop_eq_nil_of_le h, joinK_nil, joinK_nil]
    exact dropD hi
  · rw [dropD hi, dropD hk, joinK, if_pos h]
theorem joinK_b {a b : List Smp} {i k : Nat} (hk : k < b.length) (h : a.length ≤ i ∨ (i < a.length ∧ (b.getD k default).w < (a.getD i default).w)) : joinK (a.drop i) (b.drop k) = b.getD k default :: joinK (a.drop i) (b.drop (k + 1)) := by
  rcases h with h | ⟨hi, h⟩
  · rw [List.drop_eq_nil_of_le h, joinK, joinK]
    exact dropD hk
  · rw [dropD hi, dropD hk, joinK, if_neg (by omega), if_pos h]
theorem joinK_c {a b : List Smp} {i k : Nat} (hi : i < a.length) (hk : k < b.length) (h1 : ¬ (a.getD i default).w < (b.getD k default).w) (h2 : ¬ (b.getD k default).w < (a.getD i default).w) : joinK (a.drop i) (b.drop k) = ⟨(a.getD i default).w, max (a.getD i default).n (b.getD k default).n⟩ :: joinK (a.drop (i + 1)) (b.drop (k + 1)) := by
  rw [dropD hi, dropD hk, joinK, if_neg h1, if_neg h2]
theorem joinK_end {a b : List Smp} {i k : Nat} (hi : a.length ≤ i) (hk : b.length ≤ k) : joinK (a.drop i) (b.drop k) = [] := by
  rw [List.drop_eq_nil_of_le hi, List.drop_eq_nil_of_le hk, joinK]
theorem app1 {xs ys zs J : List Smp} {x : Smp} (h : xs ++ ys = J) (hy : ys = x :: zs) : (xs ++ [x]) ++ zs = J := by
  rw [← h, hy]; simp
def tickX (xs : List Smp) (q : Int) : List Smp := if clkB xs = true ∧ inB q 1 1000000 = true ∧ cntX xs q < 16777215 then joinK xs [⟨q, cntX xs q + 1⟩] else xs
def joinC (a b : List Smp) : List Smp := if clkB a = true ∧ clkB b = true then joinK a b else []
theorem all_hitS {α : Type} [Inhabited α] {p : α → Bool} {l : List α} {j : Nat} (hj : j < l.length) (h : p (l.getD j default) = false) : l.all p = false := by
  cases c : l.all p with
  | false => rfl
  | true =>
    rw [List.all_eq_true] at c
    have := c (l.getD j default) (by rw [List.getD_eq_getElem?_getD, List.getElem?_eq_getElem hj]; exact List.getElem_mem hj)
    rw [h] at this
    cases this
theorem all_yesS {α : Type} [Inhabited α] {p : α → Bool} {l : List α} (h : ∀ i, i < l.length → p (l.getD i default) = true) : l.all p = true := by
  rw [List.all_eq_true]
  intro x hx
  obtain ⟨i, hi, rfl⟩ := List.getElem_of_mem hx
  have := h i hi
  rwa [List.getD_eq_getElem?_getD, List.getElem?_eq_getElem hi] at this
theorem joinK_len (a b : List Smp) : (joinK a b).length ≤ a.length + b.length := by
  induction a, b using joinK.induct with
  | case1 b => simp [joinK]
  | case2 x a => simp [joinK]
  | case3 x a y b h ih => rw [joinK, if_pos h]; simp at ih ⊢; omega
  | case4 x a y b h1 h2 ih => rw [joinK, if_neg h1, if_pos h2]; simp at ih ⊢; omega
  | case5 x a y b h1 h2 ih => rw [joinK, if_neg h1, if_neg h2]; simp at ih ⊢; omega
theorem joinK_mem (a b : List Smp) : (∀ y ∈ a, SmpG y) → (∀ y ∈ b, SmpG y) → ∀ y ∈ joinK a b, SmpG y := by
  induction a, b using joinK.induct with
  | case1 b => intro _ h; rw [joinK]; exact h
  | case2 x a => intro h _; rw [joinK]; exact h
  | case3 x a y b h ih =>
    intro ha hb
    rw [joinK, if_pos h]
    intro z hz
    rcases List.mem_cons.1 hz with rfl | hz
    · exact ha z (by simp)
    · exact ih (fun q hq => ha q (by simp [hq])) hb z hz
  | case4 x a y b h1 h2 ih =>
    intro ha hb
    rw [joinK, if_neg h1, if_pos h2]
    intro z hz
    rcases List.mem_cons.1 hz with rfl | hz
    · exact hb z (by simp)
    · exact ih ha (fun q hq => hb q (by simp [hq])) z hz
  | case5 x a y b h1 h2 ih =>
    intro ha hb
    rw [joinK, if_neg h1, if_neg h2]
    intro z hz
    rcases List.mem_cons.1 hz with rfl | hz
    · have g1 := ha x (by simp)
      have g2 := hb y (by simp)
      exact ⟨g1.w, by have e1 := g1.n; have e2 := g2.n; show -9223372036854775808 ≤ max x.n y.n ∧ max x.n y.n ≤ 9223372036854775807; omega⟩
    · exact ih (fun q hq => ha q (by simp [hq])) (fun q hq => hb q (by simp [hq])) z hz
theorem joinC_ok {a b : List Smp} (ha : smpsG a) (hb : smpsG b) (h : a.length + b.length ≤ 1048576) : smpsG (joinC a b) := by
  unfold joinC
  split
  · exact ⟨Nat.le_trans (joinK_len a b) h, joinK_mem a b ha.2 hb.2⟩
  · exact ⟨by simp, by simp⟩
theorem clkB_at {xs : List Smp} (h : clkB xs = true) {i : Nat} (hi : i < xs.length) : clkAt xs i = true := by
  unfold clkB at h
  rw [List.all_eq_true] at h
  exact h i (List.mem_range.2 hi)
theorem clk_lo {xs : List Smp} (h : clkB xs = true) : ∀ i, i < xs.length → (i : Int) + 1 ≤ (xs.getD i default).w ∧ (xs.getD i default).w ≤ 1000000
  | 0, hi => by
    have h1 := clkB_at h hi
    unfold clkAt at h1
    rw [Bool.and_eq_true] at h1
    have := inB_yes h1.1
    exact ⟨by simpa using this.1, this.2⟩
  | i + 1, hi => by
    have h0 := clk_lo h i (by omega)
    have h1 := clkB_at h hi
    unfold clkAt at h1
    rw [Bool.and_eq_true, Bool.and_eq_true, Bool.or_eq_true] at h1
    have h2 := inB_yes h1.1
    rcases h1.2.2 with h3 | h3
    · have := of_decide_eq_true h3
      omega
    · have h4 := of_decide_eq_true h3
      rw [Nat.add_sub_cancel] at h4
      exact ⟨by omega, h2.2⟩
theorem clk_len {xs : List Smp} (h : clkB xs = true) : xs.length ≤ 1000000 := by
  cases hn : xs.length with
  | zero => omega
  | succ n =>
    have := clk_lo h n (by omega)
    omega
theorem tickX_ok {xs : List Smp} {q : Int} (hg : smpsG xs) : smpsG (tickX xs q) := by
  unfold tickX
  split
  · rename_i h
    have h1 := clk_len h.1
    have h2 := inB_yes h.2.1
    have h3 := cntX_ok (q := q) hg.2
    refine ⟨Nat.le_trans (joinK_len _ _) (by simp; omega), joinK_mem _ _ hg.2 (fun y hy => ?_)⟩
    simp at hy
    subst hy
    exact ⟨by show -9223372036854775808 ≤ q ∧ q ≤ 9223372036854775807; omega, by show -9223372036854775808 ≤ cntX xs q + 1 ∧ cntX xs q + 1 ≤ 9223372036854775807; have := h.2.2; omega⟩
  · exact hg
def knowsB (a b : List Smp) : Bool := b.all (fun y => decide (y.n ≤ cntX a y.w)) && (clkB a && clkB b)
end Go.Proofs.Ytllghgcancennaa
