/-
  Joined: ClcX, ClcY.
-/
import Derived.Test.YtllghgcancennaaJ10
/-
  What a clock counts, and what it knows.
-/
namespace Go.Proofs.Ytllghgcancennaa
open Go.RowKit

def who (xs : List Evt) (j : Nat) : Int := (xs.getD j default).w
theorem evB_len {xs : List Evt} (h : evB xs = true) : xs.length ≤ 3000 := by
  unfold evB at h
  rw [Bool.and_eq_true] at h
  exact of_decide_eq_true h.2
theorem evB_who {xs : List Evt} (h : evB xs = true) {j : Nat} (hj : j < xs.length) : 1 ≤ who xs j ∧ who xs j ≤ 1000000 := by
  unfold evB at h
  rw [Bool.and_eq_true] at h
  have h1 := List.all_eq_true.1 h.1 (xs.getD j default) (by rw [List.getD_eq_getElem?_getD, List.getElem?_eq_getElem hj]; exact List.getElem_mem hj)
  unfold evAt at h1
  rw [Bool.and_eq_true] at h1
  exact inB_yes h1.1
/-- The clock of event j. -/
def clk (xs : List Evt) (j : Nat) : List Smp := nextC xs (clkN xs j) j
theorem clkN_clk (xs : List Evt) {n j : Nat} (h : j < n) : (clkN xs n).getD j [] = clk xs j := clkN_at xs h
theorem clk_good {xs : List Evt} {j : Nat} (h : j < xs.length) : GoodC xs (clk xs j) := nextC_good h
/-- How often a thread does one of the first n events. -/
def ne (xs : List Evt) (p : Int) : Nat → Nat
  | 0 => 0
  | n + 1 => ne xs p n + if who xs n = p then 1 else 0
theorem ne_succ (xs : List Evt) (p : Int) (n : Nat) : ne xs p (n + 1) = ne xs p n + if who xs n = p then 1 else 0 := rfl
theorem ne_mono (xs : List Evt) (p : Int) {m : Nat} : ∀ {n : Nat}, m ≤ n → ne xs p m ≤ ne xs p n
  | 0, h => by have : m = 0 := by omega
               subst this; exact Nat.le_refl _
  | n + 1, h => by
    by_cases e : m = n + 1
    · subst e; exact Nat.le_refl _
    · have := ne_mono xs p (m := m) (n := n) (by omega)
      rw [ne_succ]
      split <;> omega
theorem ne_le (xs : List Evt) (p : Int) : ∀ n, ne xs p n ≤ n
  | 0 => Nat.le_refl _
  | n + 1 => by
    have := ne_le xs p n
    rw [ne_succ]
    split <;> omega
theorem ne_hit {xs : List Evt} {p : Int} {n : Nat} (h : who xs n = p) : ne xs p (n + 1) = ne xs p n + 1 := by rw [ne_succ, if_pos h]
theorem hit_who (e : Evt) (q : Int) (hq : 0 ≤ q) : hitE e (-1) 0 q = decide (e.w = q) := by
  unfold hitE
  have : ¬ q < 0 := by omega
  simp [this]
/-- The last event of a thread. -/
theorem last_spec {xs : List Evt} {q : Int} (hq : 0 ≤ q) : ∀ n : Nat, (lastI xs (-1) 0 q n = -1 ∧ ne xs q n = 0) ∨ ∃ m : Nat, lastI xs (-1) 0 q n = (m : Int) ∧ m < n ∧ who xs m = q ∧ ne xs q n = ne xs q (m + 1)
  | 0 => .inl ⟨rfl, rfl⟩
  | n + 1 => by
    rw [lastI, hit_who _ _ hq]
    by_cases c : (xs.getD n default).w = q
    · rw [if_pos (decide_eq_true c)]
      exact .inr ⟨n, rfl, by omega, c, rfl⟩
    · rw [if_neg (by simpa using c)]
      have e : ne xs q (n + 1) = ne xs q n := by
        rw [ne_succ, if_neg (show ¬ who xs n = q from c)]
        rfl
      rw [e]
      rcases last_spec (xs := xs) hq n with h | ⟨m, h1, h2, h3, h4⟩
      · exact .inl h
      · exact .inr ⟨m, h1, by omega, h3, h4⟩
theorem tick_le {a : List Smp} {w : Int} (h : Srt 0 a) (q : Int) : cntX (tickX a w) q ≤ cntX a q + (if q = w then 1 else 0) := by
  unfold tickX
  split
  · rename_i hc
    have h2 := inB_yes hc.2.1
    have h3 := cnt_pos (q := w) h
    have h4 := cnt_pos (q := q) h
    have hs : Srt 0 [⟨w, cntX a w + 1⟩] := ⟨by show 0 < w; omega, by show w ≤ 1000000; omega, by show 1 ≤ cntX a w + 1; omega, by show cntX a w + 1 ≤ 16777215; have := hc.2.2; omega, trivial⟩
    rw [cnt_join q _ _ 0 h hs]
    by_cases e : q = w
    · subst e
      rw [if_pos rfl]
      simp [cntX]
      omega
    · rw [if_neg e]
      have : cntX [⟨w, cntX a w + 1⟩] q = 0 := by simp [cntX]; omega
      rw [this]
      omega
  · split <;> omega
theorem tick_ge {a : List Smp} {w : Int} (h : Srt 0 a) (hw : 1 ≤ w ∧ w ≤ 1000000) (hc : cntX a w < 16777215) (q : Int) : cntX a q + (if q = w then 1 else 0) ≤ cntX (tickX a w) q := by
  have hb : inB w 1 1000000 = true := by unfold inB; simp [hw]
  have h3 := cnt_pos (q := w) h
  have et : tickX a w = joinK a [⟨w, cntX a w + 1⟩] := by
    unfold tickX
    exact if_pos ⟨srt_clkB h, hb, hc⟩
  rw [et]
  have hs : Srt 0 [⟨w, cntX a w + 1⟩] := ⟨by show 0 < w; omega, by show w ≤ 1000000; omega, by show 1 ≤ cntX a w + 1; omega, by show cntX a w + 1 ≤ 16777215; omega, trivial⟩
  rw [cnt_join q _ _ 0 h hs]
  by_cases e : q = w
  · subst e
    rw [if_pos rfl]
    simp [cntX]
    omega
  · rw [if_neg e]
    omega
theorem atC_clk (xs : List Evt) {j : Nat} {k : Int} (hk : k < (j : Int)) : (0 ≤ k ∧ atC (clkN xs j) k = clk xs k.toNat) ∨ (k < 0 ∧ atC (clkN xs j) k = []) := by
  unfold atC
  by_cases c : 0 ≤ k
  · rw [if_pos c]
    exact .inl ⟨c, clkN_clk xs (by omega)⟩
  · rw [if_neg c]
    exact .inr ⟨by omega, rfl⟩
theorem srt_at {xs : List Evt} {j : Nat} (hj : j ≤ xs.length) (k : Int) : Srt 0 (atC (clkN xs j) k) := (atC_good (clkN_good xs j hj) k).1
theorem join_at {xs : List Evt} {j : Nat} (hj : j ≤ xs.length) (q : Int) :
    cntX (joinK (atC (clkN xs j) (ownI xs j)) (atC (clkN xs j) (othI xs j))) q = max (cntX (atC (clkN xs j) (ownI xs j)) q) (cntX (atC (clkN xs j) (othI xs j)) q) := cnt_join q _ _ 0 (srt_at hj _) (srt_at hj _)
/-- No clock counts a thread more often than it was there. -/
theorem cnt_up {xs : List Evt} (q : Int) (j : Nat) (hj : j < xs.length) : cntX (clk xs j) q ≤ (ne xs q (j + 1) : Int) := by
  induction j using Nat.strongRecOn with
  | _ j ih =>
    have hs : Srt 0 (joinK (atC (clkN xs j) (ownI xs j)) (atC (clkN xs j) (othI xs j))) := srt_join _ _ 0 (srt_at (by omega) _) (srt_at (by omega) _)
    have h1 := tick_le (w := who xs j) hs q
    rw [join_at (by omega)] at h1
    have part : ∀ k : Int, k < (j : Int) → cntX (atC (clkN xs j) k) q ≤ (ne xs q j : Int) := fun k hk => by
      rcases atC_clk xs hk with ⟨c, e⟩ | ⟨_, e⟩
      · rw [e]
        have h2 := ih k.toNat (by omega) (by omega)
        have h3 := ne_mono xs q (m := k.toNat + 1) (n := j) (by omega)
        omega
      · rw [e]
        simp [cntX]
    have h2 := part _ (ownI_lt xs j).2
    have h3 := part _ (othI_lt xs j).2
    have h4 : (ne xs q (j + 1) : Int) = (ne xs q j : Int) + (if q = who xs j then 1 else 0) := by
      rw [ne_succ]
      by_cases e : who xs j = q
      · rw [if_pos e, if_pos e.symm]; simp
      · rw [if_neg e, if_neg (fun h => e h.symm)]; simp
    have h5 : clk xs j = tickX (joinK (atC (clkN xs j) (ownI xs j)) (atC (clkN xs j) (othI xs j))) (who xs j) := rfl
    rw [h4, h5]
    omega
/-- What a clock counts, of what came together in it. -/
theorem cnt_eq {xs : List Evt} (he : evB xs = true) {j : Nat} (hj : j < xs.length) (q : Int) :
    cntX (clk xs j) q = max (cntX (atC (clkN xs j) (ownI xs j)) q) (cntX (atC (clkN xs j) (othI xs j)) q) + (if q = who xs j then 1 else 0) := by
  have hx := evB_len he
  have hw := evB_who he hj
  have hs : Srt 0 (joinK (atC (clkN xs j) (ownI xs j)) (atC (clkN xs j) (othI xs j))) := srt_join _ _ 0 (srt_at (by omega) _) (srt_at (by omega) _)
  have part : ∀ k : Int, k < (j : Int) → cntX (atC (clkN xs j) k) (who xs j) ≤ 3000 := fun k hk => by
    rcases atC_clk xs hk with ⟨c, e⟩ | ⟨_, e⟩
    · rw [e]
      have h2 := cnt_up (who xs j) k.toNat (show k.toNat < xs.length by omega)
      have h3 := ne_le xs (who xs j) (k.toNat + 1)
      omega
    · rw [e]
      simp [cntX]
  have h1 := tick_le (w := who xs j) hs q
  have h2 := tick_ge (w := who xs j) hs hw (by
    rw [join_at (by omega)]
    have a := part _ (ownI_lt xs j).2
    have b := part _ (othI_lt xs j).2
    omega) q
  rw [join_at (by omega)] at h1 h2
  have h5 : cntX (clk xs j) q = cntX (tickX (joinK (atC (clkN xs j) (ownI xs j)) (atC (clkN xs j) (othI xs j))) (who xs j)) q := rfl
  rw [h5]
  omega
/-- A thread's own events are all counted. -/
theorem own_last {xs : List Evt} (he : evB xs = true) {j : Nat} (hj : j < xs.length) :
    (ne xs (who xs j) j = 0) ∨ ∃ m : Nat, m < j ∧ who xs m = who xs j ∧ ne xs (who xs j) j = ne xs (who xs j) (m + 1) ∧ atC (clkN xs j) (ownI xs j) = clk xs m := by
  have hw := evB_who he hj
  rcases last_spec (xs := xs) (q := who xs j) (by omega) j with ⟨_, h⟩ | ⟨m, h1, h2, h3, h4⟩
  · exact .inl h
  · refine .inr ⟨m, h2, h3, h4, ?_⟩
    have e : ownI xs j = (m : Int) := by
      unfold ownI
      show (if 0 ≤ lastI xs (-1) 0 (who xs j) j then lastI xs (-1) 0 (who xs j) j else _) = _
      rw [h1, if_pos (by omega)]
    rw [e]
    rcases atC_clk xs (j := j) (k := (m : Int)) (by omega) with ⟨_, e2⟩ | ⟨c, _⟩
    · rw [e2, Int.toNat_natCast]
    · omega
theorem cnt_own {xs : List Evt} (he : evB xs = true) (j : Nat) (hj : j < xs.length) : (ne xs (who xs j) (j + 1) : Int) ≤ cntX (clk xs j) (who xs j) := by
  induction j using Nat.strongRecOn with
  | _ j ih =>
    rw [cnt_eq he hj, if_pos rfl, ne_hit rfl]
    have hp := cnt_pos (q := who xs j) (srt_at (xs := xs) (j := j) (by omega) (ownI xs j))
    rcases own_last he hj with h | ⟨m, h1, h2, h3, h4⟩
    · rw [h]
      omega
    · rw [h4]
      have h5 := ih m h1 (by omega)
      rw [h2] at h5
      omega
/-- A thread knows what it knew. -/
theorem thread_mono {xs : List Evt} (he : evB xs = true) {i : Nat} (j : Nat) (hij : i < j) (hj : j < xs.length) (hw : who xs i = who xs j) (q : Int) : cntX (clk xs i) q ≤ cntX (clk xs j) q := by
  induction j using Nat.strongRecOn with
  | _ j ih =>
    rw [cnt_eq he hj]
    rcases own_last he hj with h | ⟨m, h1, h2, h3, h4⟩
    · exfalso
      have a := ne_mono xs (who xs j) (m := i + 1) (n := j) (by omega)
      have b := ne_hit hw
      omega
    · rw [h4]
      have hmi : i ≤ m := by
        by_cases c : i ≤ m
        · exact c
        · exfalso
          have a := ne_mono xs (who xs j) (m := i + 1) (n := j) (by omega)
          have b := ne_hit hw
          have d := ne_mono xs (who xs j) (m := m + 1) (n := i) (by omega)
          omega
      have hx : cntX (clk xs i) q ≤ cntX (clk xs m) q := by
        by_cases e : i = m
        · rw [e]
          exact Int.le_refl _
        · exact ih m h1 (by omega) (by omega) (hw.trans h2.symm)
      split <;> omega
/-- WHO COUNTS AN EVENT OF A THREAD KNOWS ITS CLOCK. -/
theorem knowing {xs : List Evt} (he : evB xs = true) {k : Nat} (j : Nat) (hkj : k < j) (hj : j < xs.length) (h : cntX (clk xs k) (who xs k) ≤ cntX (clk xs j) (who xs k)) (q : Int) : cntX (clk xs k) q ≤ cntX (clk xs j) q := by
  induction j using Nat.strongRecOn with
  | _ j ih =>
    by_cases hw : who xs k = who xs j
    · exact thread_mono he j hkj hj hw q
    · rw [cnt_eq he hj] at h ⊢
      rw [if_neg hw] at h
      have hN := cnt_own he k (by omega)
      have hN2 := ne_hit (xs := xs) (n := k) (p := who xs k) rfl
      have src : ∀ s : Int, s < (j : Int) → cntX (clk xs k) (who xs k) ≤ cntX (atC (clkN xs j) s) (who xs k) → cntX (clk xs k) q ≤ cntX (atC (clkN xs j) s) q := fun s hs hc => by
        rcases atC_clk xs hs with ⟨c, e⟩ | ⟨_, e⟩
        · rw [e] at hc ⊢
          by_cases c1 : s.toNat = k
          · rw [c1]
            exact Int.le_refl _
          · by_cases c2 : k < s.toNat
            · exact ih s.toNat (by omega) c2 (by omega) hc
            · exfalso
              have a := cnt_up (who xs k) s.toNat (show s.toNat < xs.length by omega)
              have b := ne_mono xs (who xs k) (m := s.toNat + 1) (n := k) (by omega)
              omega
        · rw [e] at hc
          exfalso
          have : cntX [] (who xs k) = 0 := rfl
          omega
      have h1 := src _ (ownI_lt xs j).2
      have h2 := src _ (othI_lt xs j).2
      by_cases c : cntX (clk xs k) (who xs k) ≤ cntX (atC (clkN xs j) (ownI xs j)) (who xs k)
      · have := h1 c
        split <;> omega
      · have := h2 (by omega)
        split <;> omega
theorem before_clk {xs : List Evt} (he : evB xs = true) {k j : Nat} (hkj : k < j) (hj : j < xs.length) : beforeX xs (k : Int) (j : Int) = decide (cntX (clk xs k) (who xs k) ≤ cntX (clk xs j) (who xs k)) := by
  unfold beforeX
  rw [he, decide_eq_true (show (0 : Int) ≤ (k : Int) by omega), decide_eq_true (show (k : Int) < (j : Int) by omega), decide_eq_true (show (j : Int) < (xs.length : Int) by omega), Int.toNat_natCast, Int.toNat_natCast, clkN_clk xs hj, clkN_clk xs (show k < xs.length by omega)]
  rfl
theorem before_knows {xs : List Evt} (he : evB xs = true) {k j : Nat} (hkj : k < j) (hj : j < xs.length) : knowsB (clk xs j) (clk xs k) = beforeX xs (k : Int) (j : Int) := by
  rw [before_clk he hkj hj]
  have ck := srt_clkB (clk_good (xs := xs) (j := k) (by omega)).1
  have cj := srt_clkB (clk_good (xs := xs) hj).1
  by_cases h : cntX (clk xs k) (who xs k) ≤ cntX (clk xs j) (who xs k)
  · rw [decide_eq_true h]
    exact knows_mk cj ck (fun q => knowing he j hkj hj h q)
  · rw [decide_eq_false h]
    cases c : knowsB (clk xs j) (clk xs k) with
    | false => rfl
    | true => exact absurd (knows_le c (who xs k)) h
end Go.Proofs.Ytllghgcancennaa
/-
  The first race of a list of events, and the accesses that it is enough to keep.
-/
namespace Go.Proofs.Ytllghgcancennaa
open Go.RowKit

def raceB (xs : List Evt) (i j : Nat) : Bool := clashB (xs.getD i default) (xs.getD j default) && decide (cntX (clk xs j) (who xs i) < cntX (clk xs i) (who xs i))
def racesAt (xs : List Evt) (j : Nat) : Bool := (List.range j).any (fun i => raceB xs i j)
def raceX (xs : List Evt) : Int := if evB xs = true then (match (List.range xs.length).find? (racesAt xs) with | some j => (j : Int) | none => -1) else -1
theorem racesAt_yes {xs : List Evt} {i j : Nat} (hi : i < j) (h : raceB xs i j = true) : racesAt xs j = true := by
  unfold racesAt
  rw [List.any_eq_true]
  exact ⟨i, List.mem_range.2 hi, h⟩
theorem racesAt_no {xs : List Evt} {j : Nat} (h : ∀ i, i < j → raceB xs i j = false) : racesAt xs j = false := by
  unfold racesAt
  rw [List.any_eq_false]
  intro i hi
  rw [h i (List.mem_range.1 hi)]
  simp
theorem racesAt_none {xs : List Evt} {i j : Nat} (h : racesAt xs j = false) (hi : i < j) : raceB xs i j = false := by
  unfold racesAt at h
  rw [List.any_eq_false] at h
  have := h i (List.mem_range.2 hi)
  simpa using this
theorem find_range {p : Nat → Bool} : ∀ (n : Nat), (∀ j, j < n → p j = false) → (List.range n).find? p = none := fun n h => by
  rw [List.find?_eq_none]
  intro j hj
  rw [h j (List.mem_range.1 hj)]
  simp
theorem find_range_hit {p : Nat → Bool} {n j : Nat} (hj : j < n) (hp : p j = true) (h : ∀ i, i < j → p i = false) : (List.range n).find? p = some j := by
  rw [List.find?_range_eq_some]
  exact ⟨hp, List.mem_range.2 hj, fun i hi => by rw [h i hi]; rfl⟩
theorem raceX_hit {xs : List Evt} (he : evB xs = true) {j : Nat} (hj : j < xs.length) (hr : racesAt xs j = true) (h : ∀ i, i < j → racesAt xs i = false) : raceX xs = (j : Int) := by
  unfold raceX
  rw [if_pos he, find_range_hit hj hr h]
theorem raceX_none {xs : List Evt} (h : ∀ i, i < xs.length → racesAt xs i = false) : raceX xs = -1 := by
  unfold raceX
  split
  · rw [find_range _ h]
  · rfl
theorem raceX_no {xs : List Evt} (h : evB xs = false) : raceX xs = -1 := by
  unfold raceX
  rw [h]
  rfl

theorem clash_iff (a b : Evt) : clashB a b = true ↔ a.w ≠ b.w ∧ a.i = b.i ∧ a.a = b.a ∧ rwB a.k = true ∧ rwB b.k = true ∧ (a.k = 2 ∨ b.k = 2) := by
  unfold clashB
  simp [Bool.and_eq_true, Bool.or_eq_true, decide_eq_true_eq]
instance : DecidableEq Evt := fun a b => decidable_of_iff (a.w = b.w ∧ a.k = b.k ∧ a.i = b.i ∧ a.a = b.a) (by cases a; cases b; simp)
/-- What is kept of the first n events at a field. -/
def accF (xs : List Evt) (p q : Int) : Nat → Evt → Option Int
  | 0, _ => none
  | n + 1, a =>
    if rwB (xs.getD n default).k = true ∧ (xs.getD n default).i = p ∧ (xs.getD n default).a = q then
      (if a = xs.getD n default then some (cntX (clk xs n) (who xs n)) else if (xs.getD n default).k = 2 then none else accF xs p q n a)
    else accF xs p q n a
/-- An event that touches a field. -/
def tch (xs : List Evt) (p q : Int) (i : Nat) : Prop := rwB (xs.getD i default).k = true ∧ (xs.getD i default).i = p ∧ (xs.getD i default).a = q
theorem accF_yes {xs : List Evt} {p q : Int} {n : Nat} (h : tch xs p q n) (a : Evt) : accF xs p q (n + 1) a = if a = xs.getD n default then some (cntX (clk xs n) (who xs n)) else if (xs.getD n default).k = 2 then none else accF xs p q n a := by
  unfold tch at h
  rw [accF, if_pos h]
theorem accF_no {xs : List Evt} {p q : Int} {n : Nat} (h : ¬ tch xs p q n) (a : Evt) : accF xs p q (n + 1) a = accF xs p q n a := by
  unfold tch at h
  rw [accF, if_neg h]
theorem acc_sound {xs : List Evt} {p q : Int} : ∀ {n : Nat} {a : Evt} {c : Int}, accF xs p q n a = some c → ∃ i, i < n ∧ xs.getD i default = a ∧ tch xs p q i ∧ c = cntX (clk xs i) (who xs i)
  | 0, a, c, h => by cases h
  | n + 1, a, c, h => by
    have up : accF xs p q n a = some c → ∃ i, i < n + 1 ∧ xs.getD i default = a ∧ tch xs p q i ∧ c = cntX (clk xs i) (who xs i) := fun h => by
      obtain ⟨i, h1, h2⟩ := acc_sound h
      exact ⟨i, by omega, h2⟩
    by_cases t : tch xs p q n
    · rw [accF_yes t] at h
      split at h
      · rename_i e
        cases h
        exact ⟨n, by omega, e.symm, t, rfl⟩
      · split at h
        · cases h
        · exact up h
    · rw [accF_no t] at h
      exact up h
/-- What is kept covers all that is ahead. -/
theorem acc_covers {xs : List Evt} (he : evB xs = true) {p q : Int} : ∀ {n : Nat}, n ≤ xs.length → (∀ j, j < n → racesAt xs j = false) → ∀ i, i < n → tch xs p q i →
    (∃ c, accF xs p q n (xs.getD i default) = some c ∧ cntX (clk xs i) (who xs i) ≤ c) ∨
    ∃ l, i < l ∧ l < n ∧ tch xs p q l ∧ (xs.getD l default).k = 2 ∧ (∃ c, accF xs p q n (xs.getD l default) = some c ∧ cntX (clk xs l) (who xs l) ≤ c) ∧ cntX (clk xs i) (who xs i) ≤ cntX (clk xs l) (who xs i)
  | 0, _, _, i, hi, _ => by omega
  | n + 1, hn, hr, i, hi, ht => by
    have ih := acc_covers he (p := p) (q := q) (n := n) (by omega) (fun j hj => hr j (by omega))
    by_cases t : tch xs p q n
    · by_cases e : i = n
      · subst e
        left
        exact ⟨_, by rw [accF_yes t, if_pos rfl], Int.le_refl _⟩
      · have hin : i < n := by omega
        by_cases k2 : (xs.getD n default).k = 2
        · right
          refine ⟨n, hin, by omega, t, k2, ⟨_, by rw [accF_yes t, if_pos rfl], Int.le_refl _⟩, ?_⟩
          by_cases hw : who xs i = who xs n
          · exact thread_mono he n hin (by omega) hw _
          · have h1 := racesAt_none (hr n (by omega)) hin
            unfold raceB at h1
            have h2 : clashB (xs.getD i default) (xs.getD n default) = true := (clash_iff _ _).2 ⟨hw, ht.2.1.trans t.2.1.symm, ht.2.2.trans t.2.2.symm, ht.1, t.1, .inr k2⟩
            rw [h2, Bool.true_and, decide_eq_false_iff_not] at h1
            omega
        · have keep : ∀ m, m < n → ∀ c, accF xs p q n (xs.getD m default) = some c → cntX (clk xs m) (who xs m) ≤ c → ∃ c', accF xs p q (n + 1) (xs.getD m default) = some c' ∧ cntX (clk xs m) (who xs m) ≤ c' := fun m hm c h1 h2 => by
            rw [accF_yes t]
            by_cases e2 : xs.getD m default = xs.getD n default
            · rw [if_pos e2]
              refine ⟨_, rfl, ?_⟩
              have hw : who xs m = who xs n := by unfold who; rw [e2]
              have := thread_mono he n hm (by omega) hw (who xs m)
              rw [← hw]
              exact this
            · rw [if_neg e2, if_neg k2]
              exact ⟨c, h1, h2⟩
          rcases ih i hin ht with ⟨c, h1, h2⟩ | ⟨l, l1, l2, l3, l4, ⟨c, h1, h2⟩, l5⟩
          · exact .inl (keep i hin c h1 h2)
          · exact .inr ⟨l, l1, by omega, l3, l4, keep l l2 c h1 h2, l5⟩
    · have e : i ≠ n := fun e => t (e ▸ ht)
      rcases ih i (by omega) ht with ⟨c, h1, h2⟩ | ⟨l, l1, l2, l3, l4, ⟨c, h1, h2⟩, l5⟩
      · exact .inl ⟨c, by rw [accF_no t]; exact h1, h2⟩
      · exact .inr ⟨l, l1, by omega, l3, l4, ⟨c, by rw [accF_no t]; exact h1, h2⟩, l5⟩
/-- The accesses that are kept tell whether an event races. -/
theorem acc_tells {xs : List Evt} (he : evB xs = true) {j : Nat} (hj : j < xs.length) (hr : ∀ i, i < j → racesAt xs i = false) {y : Evt} (hy : xs.getD j default = y) :
    racesAt xs j = true ↔ ∃ a c, accF xs y.i y.a j a = some c ∧ clashB a y = true ∧ cntX (clk xs j) a.w < c := by
  constructor
  · intro h
    unfold racesAt at h
    rw [List.any_eq_true] at h
    obtain ⟨i, hi, h⟩ := h
    have hij := List.mem_range.1 hi
    unfold raceB at h
    rw [Bool.and_eq_true, decide_eq_true_eq, hy] at h
    obtain ⟨hc, hlt⟩ := h
    have hc' := (clash_iff _ _).1 hc
    have ht : tch xs y.i y.a i := ⟨hc'.2.2.2.1, hc'.2.1, hc'.2.2.1⟩
    rcases acc_covers he (by omega) hr i hij ht with ⟨c, h1, h2⟩ | ⟨l, l1, l2, l3, l4, ⟨c, h1, h2⟩, l5⟩
    · exact ⟨_, c, h1, hc, by show cntX (clk xs j) (who xs i) < c; omega⟩
    · by_cases hw : who xs l = who xs j
      · exfalso
        have := thread_mono he j l2 hj hw (who xs i)
        omega
      · by_cases hk : cntX (clk xs j) (who xs l) < c
        · refine ⟨_, c, h1, (clash_iff _ _).2 ⟨?_, l3.2.1, l3.2.2, l3.1, hc'.2.2.2.2.1, .inl l4⟩, hk⟩
          unfold who at hw
          rw [hy] at hw
          exact hw
        · exfalso
          have := knowing he j l2 hj (by omega) (who xs i)
          omega
  · rintro ⟨a, c, h1, h2, h3⟩
    obtain ⟨i, h4, h5, h6, h7⟩ := acc_sound h1
    refine racesAt_yes h4 ?_
    unfold raceB
    rw [h5, hy, h2, Bool.true_and, decide_eq_true_eq]
    have : who xs i = a.w := by unfold who; rw [h5]
    rw [this] at h7 ⊢
    omega
theorem race_rw {xs : List Evt} {j : Nat} (h : rwB (xs.getD j default).k = false) : racesAt xs j = false := by
  refine racesAt_no (fun i _ => ?_)
  unfold raceB
  cases c : clashB (xs.getD i default) (xs.getD j default) with
  | false => rfl
  | true =>
    have := ((clash_iff _ _).1 c).2.2.2.2.1
    rw [h] at this
    cases this
end Go.Proofs.Ytllghgcancennaa
