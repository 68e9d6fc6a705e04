/-
  What is known behind the first events, and what comes together in the next one.
-/
import Derived.Test.YtllghgcancennaaClcM
import Derived.Test.YtllghgcancennaaClcK
namespace Go.Proofs.Ytllghgcancennaa
open Go.RowKit

def idxS (xs : List Evt) (n : Nat) (k i : Int) : Int := if k = 0 then lastI xs (-1) 0 i n else if k = 4 ∨ k = 5 then lastI xs k i (-1) n else -1
def fsrc (xs : List Evt) (us : List Value) (n : Nat) (k i : Int) : Option Value := if 0 ≤ idxS xs n k i then some (us.getD (idxS xs n k i).toNat undef) else none
def fcl (xs : List Evt) (n : Nat) (k i : Int) : List Smp := atC (clkN xs n) (idxS xs n k i)
def aheadC (b : Bool) (fc : Int → Int → List Smp) (y : Evt) : List (List Smp) :=
  fc 0 y.w :: ((if b = true then [] else [fc 5 y.w]) ++ (if y.k = 3 then [fc 4 y.i] else if y.k = 6 then [fc 0 y.i] else []))
def nextF (f : Int → Int → Option Value) (y : Evt) (u : Value) : Int → Int → Option Value :=
  if y.k = 4 ∨ y.k = 5 then putF (putF f 0 y.w u) y.k y.i u else putF f 0 y.w u
theorem idxS_lt (xs : List Evt) (n : Nat) (k i : Int) : -1 ≤ idxS xs n k i ∧ idxS xs n k i < (n : Int) := by
  unfold idxS
  split
  · exact lastI_lt n
  · split
    · exact lastI_lt n
    · omega
theorem evAt_in {y : Evt} (h : evAt y = true) : (1 ≤ y.w ∧ y.w ≤ 1000000) ∧ (0 ≤ y.k ∧ y.k ≤ 6) ∧ (0 ≤ y.i ∧ y.i ≤ 1000000) := by
  unfold evAt at h
  simp only [Bool.and_eq_true] at h
  exact ⟨inB_yes h.1, inB_yes h.2.1, inB_yes h.2.2.1⟩
theorem joinK_nil2 (b : List Smp) : joinK [] b = b := by rw [joinK]
theorem ahead_fold {xs : List Evt} {us : List Value} {n : Nat} {y : Evt} (hy : xs.getD n default = y) :
    (aheadC (fsrc xs us n 0 y.w).isSome (fcl xs n) y).foldl joinK [] = joinK (atC (clkN xs n) (ownI xs n)) (atC (clkN xs n) (othI xs n)) := by
  have h0 : idxS xs n 0 y.w = lastI xs (-1) 0 y.w n := rfl
  have h5 : idxS xs n 5 y.w = lastI xs 5 y.w (-1) n := rfl
  have h4 : idxS xs n 4 y.i = lastI xs 4 y.i (-1) n := rfl
  have hj : idxS xs n 0 y.i = lastI xs (-1) 0 y.i n := rfl
  have hown : joinK (if (fsrc xs us n 0 y.w).isSome = true then fcl xs n 0 y.w else joinK (fcl xs n 0 y.w) (fcl xs n 5 y.w)) [] = atC (clkN xs n) (ownI xs n) := by
    rw [joinK_nil]
    unfold fsrc fcl ownI
    rw [hy, h0, h5]
    by_cases c : 0 ≤ lastI xs (-1) 0 y.w n
    · rw [if_pos c, if_pos c]
      rfl
    · rw [if_neg c, if_neg c]
      have e : atC (clkN xs n) (lastI xs (-1) 0 y.w n) = [] := by unfold atC; rw [if_neg c]
      rw [e, joinK_nil2]
      rfl
  have hoth : (if y.k = 3 then [fcl xs n 4 y.i] else if y.k = 6 then [fcl xs n 0 y.i] else []) = (if y.k = 3 ∨ y.k = 6 then [atC (clkN xs n) (othI xs n)] else []) := by
    unfold othI fcl
    rw [hy, h4, hj]
    by_cases c3 : y.k = 3
    · rw [if_pos c3, if_pos (.inl c3), if_pos c3]
    · rw [if_neg c3, if_neg c3]
      by_cases c6 : y.k = 6
      · rw [if_pos c6, if_pos (.inr c6), if_pos c6]
      · rw [if_neg c6, if_neg (by omega)]
  have hno : ¬ (y.k = 3 ∨ y.k = 6) → atC (clkN xs n) (othI xs n) = [] := fun c => by
    unfold othI
    rw [hy, if_neg (by omega), if_neg (by omega)]
    rfl
  unfold aheadC
  rw [hoth]
  rw [joinK_nil] at hown
  rw [← hown]
  cases (fsrc xs us n 0 y.w).isSome with
  | true =>
    by_cases c : y.k = 3 ∨ y.k = 6
    · rw [if_pos c]
      simp [joinK_nil2]
    · rw [if_neg c, hno c]
      simp [joinK_nil2, joinK_nil]
  | false =>
    by_cases c : y.k = 3 ∨ y.k = 6
    · rw [if_pos c]
      simp [joinK_nil2]
    · rw [if_neg c, hno c]
      simp [joinK_nil2, joinK_nil]
theorem idxS_succ {xs : List Evt} {n : Nat} {y : Evt} (hy : xs.getD n default = y) {k i : Int} (hk : 0 ≤ k ∧ k ≤ 6) (hi : 0 ≤ i ∧ i ≤ 1000000) :
    idxS xs (n + 1) k i = if (k = 0 ∧ y.w = i) ∨ ((k = 4 ∨ k = 5) ∧ y.k = k ∧ y.i = i) then (n : Int) else idxS xs n k i := by
  unfold idxS
  by_cases c0 : k = 0
  · subst c0
    rw [if_pos rfl, if_pos rfl, lastI, hy]
    have hh : hitE y (-1) 0 i = decide (y.w = i) := by
      unfold hitE
      simp
      omega
    rw [hh]
    by_cases c : y.w = i
    · rw [if_pos (decide_eq_true c), if_pos (.inl ⟨rfl, c⟩)]
    · rw [if_neg (by simp [c]), if_neg (by rintro (h | h) <;> omega)]
  · rw [if_neg c0, if_neg c0]
    by_cases c4 : k = 4 ∨ k = 5
    · rw [if_pos c4, if_pos c4, lastI, hy]
      have hh : hitE y k i (-1) = (decide (y.k = k) && decide (y.i = i)) := by
        unfold hitE
        have : ¬ k < 0 := by omega
        simp [this]
      rw [hh]
      by_cases c : y.k = k ∧ y.i = i
      · rw [if_pos (by simp [c]), if_pos (.inr ⟨c4, c⟩)]
      · have h1 : ¬ ((k = 0 ∧ y.w = i) ∨ ((k = 4 ∨ k = 5) ∧ y.k = k ∧ y.i = i)) := fun h => by
          rcases h with h | h
          · exact c0 h.1
          · exact c h.2
        rw [if_neg (by simpa using c), if_neg h1]
    · have h1 : ¬ ((k = 0 ∧ y.w = i) ∨ ((k = 4 ∨ k = 5) ∧ y.k = k ∧ y.i = i)) := fun h => by
        rcases h with h | h
        · exact c0 h.1
        · exact c4 h.1
      rw [if_neg c4, if_neg c4, if_neg h1]
theorem fsrc_next {xs : List Evt} {us : List Value} {n : Nat} {y : Evt} {u : Value} (hy : xs.getD n default = y) (hl : us.length = n) {k i : Int} (hk : 0 ≤ k ∧ k ≤ 6) (hi : 0 ≤ i ∧ i ≤ 1000000) :
    fsrc xs (us ++ [u]) (n + 1) k i = nextF (fsrc xs us n) y u k i := by
  have hlt := idxS_lt xs n k i
  have hold : (if 0 ≤ idxS xs n k i then some ((us ++ [u]).getD (idxS xs n k i).toNat undef) else none) = fsrc xs us n k i := by
    unfold fsrc
    by_cases c : 0 ≤ idxS xs n k i
    · rw [if_pos c, if_pos c, List.getD_eq_getElem?_getD, List.getElem?_append_left (by omega), ← List.getD_eq_getElem?_getD]
    · rw [if_neg c, if_neg c]
  have hnew : (if (0 : Int) ≤ (n : Int) then some ((us ++ [u]).getD ((n : Int)).toNat undef) else none) = some u := by
    rw [if_pos (by omega), Int.toNat_natCast, List.getD_eq_getElem?_getD, List.getElem?_append_right (by omega), hl]
    simp
  unfold fsrc
  rw [idxS_succ hy hk hi]
  by_cases c : (k = 0 ∧ y.w = i) ∨ ((k = 4 ∨ k = 5) ∧ y.k = k ∧ y.i = i)
  · rw [if_pos c, hnew]
    unfold nextF
    rcases c with ⟨rfl, rfl⟩ | ⟨c4, rfl, rfl⟩
    · split
      · unfold putF
        split
        · rfl
        · rw [if_pos ⟨rfl, rfl⟩]
      · unfold putF
        rw [if_pos ⟨rfl, rfl⟩]
    · rw [if_pos c4]
      unfold putF
      rw [if_pos ⟨rfl, rfl⟩]
  · rw [if_neg c, hold]
    unfold nextF
    have h0 : ¬ (k = 0 ∧ i = y.w) := fun h => c (.inl ⟨h.1, h.2.symm⟩)
    split
    · rename_i c4
      unfold putF
      rw [if_neg (fun h => c (.inr ⟨by rw [h.1]; exact c4, h.1.symm, h.2.symm⟩)), if_neg h0]
      rfl
    · unfold putF
      rw [if_neg h0]
      rfl
theorem foldJ_good {xs : List Evt} : ∀ {cs : List (List Smp)} {a : List Smp}, GoodC xs a → (∀ c ∈ cs, GoodC xs c) → GoodC xs (cs.foldl joinK a)
  | [], _, h, _ => h
  | c :: cs, a, h, hc => foldJ_good (cs := cs) (h.join (hc c (by simp))) (fun d hd => hc d (by simp [hd]))
theorem aheadC_all {P : List Smp → Prop} {b : Bool} {fc : Int → Int → List Smp} {y : Evt} (hy : evAt y = true) (h : ∀ k i, (0 ≤ k ∧ k ≤ 6) → (0 ≤ i ∧ i ≤ 1000000) → P (fc k i)) : ∀ c ∈ aheadC b fc y, P c := by
  obtain ⟨h1, h2, h3⟩ := evAt_in hy
  intro c hc
  unfold aheadC at hc
  rcases List.mem_cons.1 hc with rfl | hc
  · exact h _ _ (by omega) (by omega)
  · rcases List.mem_append.1 hc with hc | hc
    · split at hc
      · cases hc
      · rcases List.mem_singleton.1 hc with rfl
        exact h _ _ (by omega) (by omega)
    · split at hc
      · rcases List.mem_singleton.1 hc with rfl
        exact h _ _ (by omega) (by omega)
      · split at hc
        · rcases List.mem_singleton.1 hc with rfl
          exact h _ _ (by omega) (by omega)
        · cases hc
end Go.Proofs.Ytllghgcancennaa
