/-
  Joined: EvM, ClcM.
-/
import Derived.Test.YtllghgcancennaaJ9
import Derived.Test.YtllghgcancennaaJ8
/-
  Events: what is right, what clashes.
-/
namespace Go.Proofs.Ytllghgcancennaa
open Go.RowKit

def evAt (y : Evt) : Bool := inB y.w 1 1000000 && (inB y.k 0 6 && (inB y.i 0 1000000 && inB y.a 0 7))
def evB (xs : List Evt) : Bool := xs.all evAt && decide (xs.length ≤ 3000)
theorem evB_no {xs : List Evt} {j : Nat} (hj : j < xs.length) (h : evAt (xs.getD j default) = false) : evB xs = false := by
  unfold evB
  cases c : xs.all evAt with
  | false => rfl
  | true =>
    rw [List.all_eq_true] at c
    have := c (xs.getD j default) (by rw [List.getD_eq_getElem?_getD, List.getElem?_eq_getElem hj]; exact List.getElem_mem hj)
    rw [h] at this
    cases this
theorem evB_yes {xs : List Evt} (h : ∀ i, i < xs.length → evAt (xs.getD i default) = true) : evB xs = decide (xs.length ≤ 3000) := by
  unfold evB
  have : xs.all evAt = true := by
    rw [List.all_eq_true]
    intro y hy
    obtain ⟨i, hi, rfl⟩ := List.getElem_of_mem hy
    have := h i hi
    rwa [List.getD_eq_getElem?_getD, List.getElem?_eq_getElem hi] at this
  rw [this, Bool.true_and]
def rwB (k : Int) : Bool := decide (k = 1) || decide (k = 2)
def clashB (a b : Evt) : Bool := !decide (a.w = b.w) && (decide (a.i = b.i) && (decide (a.a = b.a) && (rwB a.k && (rwB b.k && (decide (a.k = 2) || decide (b.k = 2))))))
end Go.Proofs.Ytllghgcancennaa
/-
  The clocks of a list of events: what they are, that they are right, that they are short.
-/
namespace Go.Proofs.Ytllghgcancennaa
open Go.RowKit

def hitE (e : Evt) (k i w : Int) : Bool := (decide (k < 0) || (decide (e.k = k) && decide (e.i = i))) && (decide (w < 0) || decide (e.w = w))
/-- The last event of the first n, of a kind, an Id and a thread (below 0: any); -1: there is none. -/
def lastI (xs : List Evt) (k i w : Int) : Nat → Int
  | 0 => -1
  | n + 1 => if hitE (xs.getD n default) k i w = true then (n : Int) else lastI xs k i w n
def othI (xs : List Evt) (n : Nat) : Int :=
  if (xs.getD n default).k = 3 then lastI xs 4 (xs.getD n default).i (-1) n
  else if (xs.getD n default).k = 6 then lastI xs (-1) 0 (xs.getD n default).i n else -1
def ownI (xs : List Evt) (n : Nat) : Int :=
  if 0 ≤ lastI xs (-1) 0 (xs.getD n default).w n then lastI xs (-1) 0 (xs.getD n default).w n else lastI xs 5 (xs.getD n default).w (-1) n
def atC (cs : List (List Smp)) (k : Int) : List Smp := if 0 ≤ k then cs.getD k.toNat [] else []
def nextC (xs : List Evt) (cs : List (List Smp)) (n : Nat) : List Smp := tickX (joinK (atC cs (ownI xs n)) (atC cs (othI xs n))) (xs.getD n default).w
def clkN (xs : List Evt) : Nat → List (List Smp)
  | 0 => []
  | n + 1 => clkN xs n ++ [nextC xs (clkN xs n) n]

theorem lastI_lt {xs : List Evt} {k i w : Int} : ∀ n : Nat, -1 ≤ lastI xs k i w n ∧ lastI xs k i w n < (n : Int)
  | 0 => by unfold lastI; omega
  | n + 1 => by
    have := lastI_lt (xs := xs) (k := k) (i := i) (w := w) n
    unfold lastI
    split <;> omega
theorem ownI_lt (xs : List Evt) (n : Nat) : -1 ≤ ownI xs n ∧ ownI xs n < (n : Int) := by
  unfold ownI
  split <;> exact lastI_lt n
theorem othI_lt (xs : List Evt) (n : Nat) : -1 ≤ othI xs n ∧ othI xs n < (n : Int) := by
  unfold othI
  split
  · exact lastI_lt n
  · split
    · exact lastI_lt n
    · omega
theorem clkN_succ (xs : List Evt) (n : Nat) : clkN xs (n + 1) = clkN xs n ++ [nextC xs (clkN xs n) n] := rfl
theorem clkN_len (xs : List Evt) : ∀ n, (clkN xs n).length = n
  | 0 => rfl
  | n + 1 => by unfold clkN; simp [clkN_len xs n]
theorem clkN_at (xs : List Evt) {j : Nat} : ∀ {n : Nat}, j < n → (clkN xs n).getD j [] = nextC xs (clkN xs j) j
  | n + 1, h => by
    rw [clkN_succ]
    by_cases e : j = n
    · subst e
      rw [List.getD_eq_getElem?_getD, List.getElem?_append_right (by rw [clkN_len]; omega), clkN_len]
      simp
    · rw [List.getD_eq_getElem?_getD, List.getElem?_append_left (by rw [clkN_len]; omega), ← List.getD_eq_getElem?_getD]
      exact clkN_at xs (by omega)

theorem joinK_whos {y : Smp} (a b : List Smp) : y ∈ joinK a b → (∃ z ∈ a, z.w = y.w) ∨ ∃ z ∈ b, z.w = y.w := by
  induction a, b using joinK.induct with
  | case1 b => intro h; rw [joinK] at h; exact .inr ⟨y, h, rfl⟩
  | case2 x a => intro h; rw [joinK] at h; exact .inl ⟨y, h, rfl⟩
  | case3 x a z b h ih =>
    intro h2
    rw [joinK, if_pos h] at h2
    rcases List.mem_cons.1 h2 with rfl | h2
    · exact .inl ⟨y, by simp, rfl⟩
    · rcases ih h2 with ⟨u, hu, e⟩ | h3
      · exact .inl ⟨u, by simp [hu], e⟩
      · exact .inr h3
  | case4 x a z b h1 h2 ih =>
    intro h3
    rw [joinK, if_neg h1, if_pos h2] at h3
    rcases List.mem_cons.1 h3 with rfl | h3
    · exact .inr ⟨y, by simp, rfl⟩
    · rcases ih h3 with h4 | ⟨u, hu, e⟩
      · exact .inl h4
      · exact .inr ⟨u, by simp [hu], e⟩
  | case5 x a z b h1 h2 ih =>
    intro h3
    rw [joinK, if_neg h1, if_neg h2] at h3
    rcases List.mem_cons.1 h3 with rfl | h3
    · exact .inl ⟨x, by simp, rfl⟩
    · rcases ih h3 with ⟨u, hu, e⟩ | ⟨u, hu, e⟩
      · exact .inl ⟨u, by simp [hu], e⟩
      · exact .inr ⟨u, by simp [hu], e⟩
theorem srt_len : ∀ (c : List Smp) (lo : Int) (W : List Int), Srt lo c → (∀ y ∈ c, y.w ∈ W) → c.length ≤ W.length
  | [], _, _, _, _ => Nat.zero_le _
  | y :: c, lo, W, hs, hW => by
    have hy : y.w ∈ W := hW y (by simp)
    have hr : ∀ (c : List Smp) (lo : Int), Srt lo c → ∀ z ∈ c, lo < z.w := by
      intro c
      induction c with
      | nil => intro lo _ z hz; cases hz
      | cons x c ih =>
        intro lo hs z hz
        rcases List.mem_cons.1 hz with rfl | hz
        · exact hs.1
        · have := ih x.w hs.2.2.2.2 z hz
          have := hs.1
          omega
    have h1 := srt_len c y.w (W.erase y.w) hs.2.2.2.2 (fun z hz => by
      have h2 := hr c y.w hs.2.2.2.2 z hz
      exact (List.mem_erase_of_ne (by omega)).2 (hW z (by simp [hz])))
    rw [List.length_erase_of_mem hy] at h1
    have : 0 < W.length := List.length_pos_of_mem hy
    rw [List.length_cons]
    omega
/-- A clock that is right, over threads of the events. -/
def GoodC (xs : List Evt) (c : List Smp) : Prop := Srt 0 c ∧ ∀ y ∈ c, y.w ∈ xs.map Evt.w
theorem GoodC.nil (xs : List Evt) : GoodC xs [] := ⟨trivial, fun _ h => by cases h⟩
theorem GoodC.len {xs : List Evt} {c : List Smp} (h : GoodC xs c) : c.length ≤ xs.length := by
  have := srt_len c 0 _ h.1 h.2
  simpa using this
theorem GoodC.join {xs : List Evt} {a b : List Smp} (ha : GoodC xs a) (hb : GoodC xs b) : GoodC xs (joinK a b) := by
  refine ⟨srt_join _ _ 0 ha.1 hb.1, fun y hy => ?_⟩
  rcases joinK_whos _ _ hy with ⟨z, hz, e⟩ | ⟨z, hz, e⟩
  · rw [← e]; exact ha.2 z hz
  · rw [← e]; exact hb.2 z hz
theorem GoodC.tick {xs : List Evt} {a : List Smp} {q : Int} (ha : GoodC xs a) (hq : q ∈ xs.map Evt.w) : GoodC xs (tickX a q) := by
  unfold tickX
  split
  · rename_i h
    have h2 := inB_yes h.2.1
    have h3 := cnt_pos (q := q) ha.1
    exact ha.join ⟨⟨by show 0 < q; omega, by show q ≤ 1000000; omega, by show 1 ≤ cntX a q + 1; omega, by show cntX a q + 1 ≤ 16777215; have := h.2.2; omega, trivial⟩, fun y hy => by
      rcases List.mem_singleton.1 hy with rfl
      exact hq⟩
  · exact ha
theorem GoodC.g {xs : List Evt} {c : List Smp} (h : GoodC xs c) (hx : xs.length ≤ 3000) : smpsG c := by
  refine ⟨by have := h.len; omega, fun y hy => ?_⟩
  obtain ⟨i, hi, rfl⟩ := List.getElem_of_mem hy
  have h2 := srt_to c 0 h.1 i hi
  rw [List.getD_eq_getElem?_getD, List.getElem?_eq_getElem hi, Option.getD_some] at h2
  exact ⟨⟨by have := h2.2.1; omega, by have := h2.1.1; omega⟩, ⟨by have := h2.1.2.1; omega, by have := h2.1.2.2; omega⟩⟩
theorem evt_mem {xs : List Evt} {n : Nat} (h : n < xs.length) : (xs.getD n default).w ∈ xs.map Evt.w := by
  rw [List.getD_eq_getElem?_getD, List.getElem?_eq_getElem h]
  exact List.mem_map.2 ⟨_, List.getElem_mem h, rfl⟩
theorem atC_good {xs : List Evt} {cs : List (List Smp)} (h : ∀ c ∈ cs, GoodC xs c) (k : Int) : GoodC xs (atC cs k) := by
  unfold atC
  split
  · by_cases hk : k.toNat < cs.length
    · rw [List.getD_eq_getElem?_getD, List.getElem?_eq_getElem hk]
      exact h _ (List.getElem_mem hk)
    · rw [List.getD_eq_getElem?_getD, List.getElem?_eq_none (by omega)]
      exact GoodC.nil xs
  · exact GoodC.nil xs
theorem clkN_good (xs : List Evt) : ∀ n, n ≤ xs.length → ∀ c ∈ clkN xs n, GoodC xs c
  | 0, _, c, h => by cases h
  | n + 1, hn, c, h => by
    unfold clkN at h
    rcases List.mem_append.1 h with h | h
    · exact clkN_good xs n (by omega) c h
    · rcases List.mem_singleton.1 h with rfl
      have hg := clkN_good xs n (by omega)
      exact ((atC_good hg _).join (atC_good hg _)).tick (evt_mem (by omega))
theorem nextC_good {xs : List Evt} {n : Nat} (hn : n < xs.length) : GoodC xs (nextC xs (clkN xs n) n) := clkN_good xs (n + 1) hn _ (by rw [clkN_succ]; simp)
theorem clkN_goodAt {xs : List Evt} {n j : Nat} (hn : n ≤ xs.length) (hj : j < n) : GoodC xs ((clkN xs n).getD j []) := by
  refine clkN_good xs n hn _ ?_
  rw [List.getD_eq_getElem?_getD, List.getElem?_eq_getElem (by rw [clkN_len]; exact hj)]
  exact List.getElem_mem _
def clocksX (xs : List Evt) : List (List Smp) := if evB xs = true then clkN xs xs.length else []
def beforeX (xs : List Evt) (i j : Int) : Bool :=
  evB xs && (decide (0 ≤ i) && (decide (i < j) && (decide (j < (xs.length : Int)) && decide (cntX ((clkN xs xs.length).getD i.toNat []) (xs.getD i.toNat default).w ≤ cntX ((clkN xs xs.length).getD j.toNat []) (xs.getD i.toNat default).w))))
end Go.Proofs.Ytllghgcancennaa
