/-
  Joined: ClcM, ClcX.
-/
import Derived.Test.YtihjidlcodonmaaJ10
import Derived.Test.YtihjidlcodonmaaJ16
/-
  The clocks of a list of events: what they are, that they are right, that they are short.
-/
namespace Go.Proofs.Ytihjidlcodonmaa
open Go.RowKit

def hitE (e : Evt) (k i w : Int) : Bool := (decide (k < 0) || (decide (e.k = k) && decide (e.i = i))) && (decide (w < 0) || decide (e.w = w))
/-- The last event of the first n, of a kind, an Id and a thread (below 0: any); -1: there is none. -/
def lastI (xs : List Evt) (k i w : Int) : Nat → Int
  | 0 => -1
  | n + 1 => if hitE (xs.getD n default) k i w = true then (n : Int) else lastI xs k i w n
def othI (xs : List Evt) (n : Nat) : Int :=
  if (xs.getD n default).k = 3 then lastI xs 4 (xs.getD n default).i (-1) n
  else if (xs.getD n default).k = 6 then lastI xs (-1) 0 (xs.getD n default).i n else -1
def ownI (xs : List Evt) (n : Nat) : Int :=
  if 0 ≤ lastI xs (-1) 0 (xs.getD n default).w n then lastI xs (-1) 0 (xs.getD n default).w n else lastI xs 5 (xs.getD n default).w (-1) n
def atC (cs : List (List Smp)) (k : Int) : List Smp := if 0 ≤ k then cs.getD k.toNat [] else []
def nextC (xs : List Evt) (cs : List (List Smp)) (n : Nat) : List Smp := tickX (joinK (atC cs (ownI xs n)) (atC cs (othI xs n))) (xs.getD n default).w
def clkN (xs : List Evt) : Nat → List (List Smp)
  | 0 => []
  | n + 1 => clkN xs n ++ [nextC xs (clkN xs n) n]

theorem lastI_lt {xs : List Evt} {k i w : Int} : ∀ n : Nat, -1 ≤ lastI xs k i w n ∧ lastI xs k i w n < (n : Int)
  | 0 => by unfold lastI; omega
  | n + 1 => by
    have := lastI_lt (xs := xs) (k := k) (i := i) (w := w) n
    unfold lastI
    split <;> omega
theorem ownI_lt (xs : List Evt) (n : Nat) : -1 ≤ ownI xs n ∧ ownI xs n < (n : Int) := by
  unfold ownI
  split <;> exact lastI_lt n
theorem othI_lt (xs : List Evt) (n : Nat) : -1 ≤ othI xs n ∧ othI xs n < (n : Int) := by
  unfold othI
  split
  · exact lastI_lt n
  · split
    · exact lastI_lt n
    · omega
theorem clkN_succ (xs : List Evt) (n : Nat) : clkN xs (n + 1) = clkN xs n ++ [nextC xs (clkN xs n) n] := rfl
theorem clkN_len (xs : List Evt) : ∀ n, (clkN xs n).length = n
  | 0 => rfl
  | n + 1 => by unfold clkN; simp [clkN_len xs n]
theorem clkN_at (xs : List Evt) {j : Nat} : ∀ {n : Nat}, j < n → (clkN xs n).getD j [] = nextC xs (clkN xs j) j
  | n + 1, h => by
    rw [clkN_succ]
    by_cases e : j = n
    · subst e
      rw [List.getD_eq_getElem?_getD, List.getElem?_append_right (by rw [clkN_len]; omega), clkN_len]
      simp
    · rw [List.getD_eq_getElem?_getD, List.getElem?_append_left (by rw [clkN_len]; omega), ← List.getD_eq_getElem?_getD]
      exact clkN_at xs (by omega)

theorem joinK_whos {y : Smp} (a b : List Smp) : y ∈ joinK a b → (∃ z ∈ a, z.w = y.w) ∨ ∃ z ∈ b, z.w = y.w := by
  induction a, b using joinK.induct with
  | case1 b => intro h; rw [joinK] at h; exact .inr ⟨y, h, rfl⟩
  | case2 x a => intro h; rw [joinK] at h; exact .inl ⟨y, h, rfl⟩
  | case3 x a z b h ih =>
    intro h2
    rw [joinK, if_pos h] at h2
    rcases List.mem_cons.1 h2 with rfl | h2
    · exact .inl ⟨y, by simp, rfl⟩
    · rcases ih h2 with ⟨u, hu, e⟩ | h3
      · exact .inl ⟨u, by simp [hu], e⟩
      · exact .inr h3
  | case4 x a z b h1 h2 ih =>
    intro h3
    rw [joinK, if_neg h1, if_pos h2] at h3
    rcases List.mem_cons.1 h3 with rfl | h3
    · exact .inr ⟨y, by simp, rfl⟩
    · rcases ih h3 with h4 | ⟨u, hu, e⟩
      · exact .inl h4
      · exact .inr ⟨u, by simp [hu], e⟩
  | case5 x a z b h1 h2 ih =>
    intro h3
    rw [joinK, if_neg h1, if_neg h2] at h3
    rcases List.mem_cons.1 h3 with rfl | h3
    · exact .inl ⟨x, by simp, rfl⟩
    · rcases ih h3 with ⟨u, hu, e⟩ | ⟨u, hu, e⟩
      · exact .inl ⟨u, by simp [hu], e⟩
      · exact .inr ⟨u, by simp [hu], e⟩
theorem srt_len : ∀ (c : List Smp) (lo : Int) (W : List Int), Srt lo c → (∀ y ∈ c, y.w ∈ W) → c.length ≤ W.length
  | [], _, _, _, _ => Nat.zero_le _
  | y :: c, lo, W, hs, hW => by
    have hy : y.w ∈ W := hW y (by simp)
    have hr : ∀ (c : List Smp) (lo : Int), Srt lo c → ∀ z ∈ c, lo < z.w := by
      intro c
      induction c with
      | nil => intro lo _ z hz; cases hz
      | cons x c ih =>
        intro lo hs z hz
        rcases List.mem_cons.1 hz with rfl | hz
        · exact hs.1
        · have := ih x.w hs.2.2.2.2 z hz
          have := hs.1
          omega
    have h1 := srt_len c y.w (W.erase y.w) hs.2.2.2.2 (fun z hz => by
      have h2 := hr c y.w hs.2.2.2.2 z hz
      exact (List.mem_erase_of_ne (by omega)).2 (hW z (by simp [hz])))
    rw [List.length_erase_of_mem hy] at h1
    have : 0 < W.length := List.length_pos_of_mem hy
    rw [List.length_cons]
    omega
/-- A clock that is right, over threads of the events. -/
def GoodC (xs : List Evt) (c : List Smp) : Prop := Srt 0 c ∧ ∀ y ∈ c, y.w ∈ xs.map Evt.w
theorem GoodC.nil (xs : List Evt) : GoodC xs [] := ⟨trivial, fun _ h => by cases h⟩
theorem GoodC.len {xs : List Evt} {c : List Smp} (h : GoodC xs c) : c.length ≤ xs.length := by
  have := srt_len c 0 _ h.1 h.2
  simpa using this
theorem GoodC.join {xs : List Evt} {a b : List Smp} (ha : GoodC xs a) (hb : GoodC xs b) : GoodC xs (joinK a b) := by
  refine ⟨srt_join _ _ 0 ha.1 hb.1, fun y hy => ?_⟩
  rcases joinK_whos _ _ hy with ⟨z, hz, e⟩ | ⟨z, hz, e⟩
  · rw [← e]; exact ha.2 z hz
  · rw [← e]; exact hb.2 z hz
theorem GoodC.tick {xs : List Evt} {a : List Smp} {q : Int} (ha : GoodC xs a) (hq : q ∈ xs.map Evt.w) : GoodC xs (tickX a q) := by
  unfold tickX
  split
  · rename_i h
    have h2 := inB_yes h.2.1
    have h3 := cnt_pos (q := q) ha.1
    exact ha.join ⟨⟨by show 0 < q; omega, by show q ≤ 1000000; omega, by show 1 ≤ cntX a q + 1; omega, by show cntX a q + 1 ≤ 16777215; have := h.2.2; omega, trivial⟩, fun y hy => by
      rcases List.mem_singleton.1 hy with rfl
      exact hq⟩
  · exact ha
theorem GoodC.g {xs : List Evt} {c : List Smp} (h : GoodC xs c) (hx : xs.length ≤ 3000) : smpsG c := by
  refine ⟨by have := h.len; omega, fun y hy => ?_⟩
  obtain ⟨i, hi, rfl⟩ := List.getElem_of_mem hy
  have h2 := srt_to c 0 h.1 i hi
  rw [List.getD_eq_getElem?_getD, List.getElem?_eq_getElem hi, Option.getD_some] at h2
  exact ⟨⟨by have := h2.2.1; omega, by have := h2.1.1; omega⟩, ⟨by have := h2.1.2.1; omega, by have := h2.1.2.2; omega⟩⟩
theorem evt_mem {xs : List Evt} {n : Nat} (h : n < xs.length) : (xs.getD n default).w ∈ xs.map Evt.w := by
  rw [List.getD_eq_getElem?_getD, List.getElem?_eq_getElem h]
  exact List.mem_map.2 ⟨_, List.getElem_mem h, rfl⟩
theorem atC_good {xs : List Evt} {cs : List (List Smp)} (h : ∀ c ∈ cs, GoodC xs c) (k : Int) : GoodC xs (atC cs k) := by
  unfold atC
  split
  · by_cases hk : k.toNat < cs.length
    · rw [List.getD_eq_getElem?_getD, List.getElem?_eq_getElem hk]
      exact h _ (List.getElem_mem hk)
    · rw [List.getD_eq_getElem?_getD, List.getElem?_eq_none (by omega)]
      exact GoodC.nil xs
  · exact GoodC.nil xs
theorem clkN_good (xs : List Evt) : ∀ n, n ≤ xs.length → ∀ c ∈ clkN xs n, GoodC xs c
  | 0, _, c, h => by cases h
  | n + 1, hn, c, h => by
    unfold clkN at h
    rcases List.mem_append.1 h with h | h
    · exact clkN_good xs n (by omega) c h
    · rcases List.mem_singleton.1 h with rfl
      have hg := clkN_good xs n (by omega)
      exact ((atC_good hg _).join (atC_good hg _)).tick (evt_mem (by omega))
theorem nextC_good {xs : List Evt} {n : Nat} (hn : n < xs.length) : GoodC xs (nextC xs (clkN xs n) n) := clkN_good xs (n + 1) hn _ (by rw [clkN_succ]; simp)
theorem clkN_goodAt {xs : List Evt} {n j : Nat} (hn : n ≤ xs.length) (hj : j < n) : GoodC xs ((clkN xs n).getD j []) := by
  refine clkN_good xs n hn _ ?_
  rw [List.getD_eq_getElem?_getD, List.getElem?_eq_getElem (by rw [clkN_len]; exact hj)]
  exact List.getElem_mem _
def clocksX (xs : List Evt) : List (List Smp) := if evB xs = true then clkN xs xs.length else []
def beforeX (xs : List Evt) (i j : Int) : Bool :=
  evB xs && (decide (0 ≤ i) && (decide (i < j) && (decide (j < (xs.length : Int)) && decide (cntX ((clkN xs xs.length).getD i.toNat []) (xs.getD i.toNat default).w ≤ cntX ((clkN xs xs.length).getD j.toNat []) (xs.getD i.toNat default).w))))
end Go.Proofs.Ytihjidlcodonmaa
/-
  What a clock counts, and what it knows.
-/
namespace Go.Proofs.Ytihjidlcodonmaa
open Go.RowKit

def who (xs : List Evt) (j : Nat) : Int := (xs.getD j default).w
theorem evB_len {xs : List Evt} (h : evB xs = true) : xs.length ≤ 3000 := by
  unfold evB at h
  rw [Bool.and_eq_true] at h
  exact of_decide_eq_true h.2
theorem evB_who {xs : List Evt} (h : evB xs = true) {j : Nat} (hj : j < xs.length) : 1 ≤ who xs j ∧ who xs j ≤ 1000000 := by
  unfold evB at h
  rw [Bool.and_eq_true] at h
  have h1 := List.all_eq_true.1 h.1 (xs.getD j default) (by rw [List.getD_eq_getElem?_getD, List.getElem?_eq_getElem hj]; exact List.getElem_mem hj)
  unfold evAt at h1
  rw [Bool.and_eq_true] at h1
  exact inB_yes h1.1
/-- The clock of event j. -/
def clk (xs : List Evt) (j : Nat) : List Smp := nextC xs (clkN xs j) j
theorem clkN_clk (xs : List Evt) {n j : Nat} (h : j < n) : (clkN xs n).getD j [] = clk xs j := clkN_at xs h
theorem clk_good {xs : List Evt} {j : Nat} (h : j < xs.length) : GoodC xs (clk xs j) := nextC_good h
/-- How often a thread does one of the first n events. -/
def ne (xs : List Evt) (p : Int) : Nat → Nat
  | 0 => 0
  | n + 1 => ne xs p n + if who xs n = p then 1 else 0
theorem ne_succ (xs : List Evt) (p : Int) (n : Nat) : ne xs p (n + 1) = ne xs p n + if who xs n = p then 1 else 0 := rfl
theorem ne_mono (xs : List Evt) (p : Int) {m : Nat} : ∀ {n : Nat}, m ≤ n → ne xs p m ≤ ne xs p n
  | 0, h => by have : m = 0 := by omega
               subst this; exact Nat.le_refl _
  | n + 1, h => by
    by_cases e : m = n + 1
    · subst e; exact Nat.le_refl _
    · have := ne_mono xs p (m := m) (n := n) (by omega)
      rw [ne_succ]
      split <;> omega
theorem ne_le (xs : List Evt) (p : Int) : ∀ n, ne xs p n ≤ n
  | 0 => Nat.le_refl _
  | n + 1 => by
    have := ne_le xs p n
    rw [ne_succ]
    split <;> omega
theorem ne_hit {xs : List Evt} {p : Int} {n : Nat} (h : who xs n = p) : ne xs p (n + 1) = ne xs p n + 1 := by rw [ne_succ, if_pos h]
theorem hit_who (e : Evt) (q : Int) (hq : 0 ≤ q) : hitE e (-1) 0 q = decide (e.w = q) := by
  unfold hitE
  have : ¬ q < 0 := by omega
  simp [this]
/-- The last event of a thread. -/
theorem last_spec {xs : List Evt} {q : Int} (hq : 0 ≤ q) : ∀ n : Nat, (lastI xs (-1) 0 q n = -1 ∧ ne xs q n = 0) ∨ ∃ m : Nat, lastI xs (-1) 0 q n = (m : Int) ∧ m < n ∧ who xs m = q ∧ ne xs q n = ne xs q (m + 1)
  | 0 => .inl ⟨rfl, rfl⟩
  | n + 1 => by
    rw [lastI, hit_who _ _ hq]
    by_cases c : (xs.getD n default).w = q
    · rw [if_pos (decide_eq_true c)]
      exact .inr ⟨n, rfl, by omega, c, rfl⟩
    · rw [if_neg (by simpa using c)]
      have e : ne xs q (n + 1) = ne xs q n := by
        rw [ne_succ, if_neg (show ¬ who xs n = q from c)]
        rfl
      rw [e]
      rcases last_spec (xs := xs) hq n with h | ⟨m, h1, h2, h3, h4⟩
      · exact .inl h
      · exact .inr ⟨m, h1, by omega, h3, h4⟩
theorem tick_le {a : List Smp} {w : Int} (h : Srt 0 a) (q : Int) : cntX (tickX a w) q ≤ cntX a q + (if q = w then 1 else 0) := by
  unfold tickX
  split
  · rename_i hc
    have h2 := inB_yes hc.2.1
    have h3 := cnt_pos (q := w) h
    have h4 := cnt_pos (q := q) h
    have hs : Srt 0 [⟨w, cntX a w + 1⟩] := ⟨by show 0 < w; omega, by show w ≤ 1000000; omega, by show 1 ≤ cntX a w + 1; omega, by show cntX a w + 1 ≤ 16777215; have := hc.2.2; omega, trivial⟩
    rw [cnt_join q _ _ 0 h hs]
    by_cases e : q = w
    · subst e
      rw [if_pos rfl]
      simp [cntX]
      omega
    · rw [if_neg e]
      have : cntX [⟨w, cntX a w + 1⟩] q = 0 := by simp [cntX]; omega
      rw [this]
      omega
  · split <;> omega
theorem tick_ge {a : List Smp} {w : Int} (h : Srt 0 a) (hw : 1 ≤ w ∧ w ≤ 1000000) (hc : cntX a w < 16777215) (q : Int) : cntX a q + (if q = w then 1 else 0) ≤ cntX (tickX a w) q := by
  have hb : inB w 1 1000000 = true := by unfold inB; simp [hw]
  have h3 := cnt_pos (q := w) h
  have et : tickX a w = joinK a [⟨w, cntX a w + 1⟩] := by
    unfold tickX
    exact if_pos ⟨srt_clkB h, hb, hc⟩
  rw [et]
  have hs : Srt 0 [⟨w, cntX a w + 1⟩] := ⟨by show 0 < w; omega, by show w ≤ 1000000; omega, by show 1 ≤ cntX a w + 1; omega, by show cntX a w + 1 ≤ 16777215; omega, trivial⟩
  rw [cnt_join q _ _ 0 h hs]
  by_cases e : q = w
  · subst e
    rw [if_pos rfl]
    simp [cntX]
    omega
  · rw [if_neg e]
    omega
theorem atC_clk (xs : List Evt) {j : Nat} {k : Int} (hk : k < (j : Int)) : (0 ≤ k ∧ atC (clkN xs j) k = clk xs k.toNat) ∨ (k < 0 ∧ atC (clkN xs j) k = []) := by
  unfold atC
  by_cases c : 0 ≤ k
  · rw [if_pos c]
    exact .inl ⟨c, clkN_clk xs (by omega)⟩
  · rw [if_neg c]
    exact .inr ⟨by omega, rfl⟩
theorem srt_at {xs : List Evt} {j : Nat} (hj : j ≤ xs.length) (k : Int) : Srt 0 (atC (clkN xs j) k) := (atC_good (clkN_good xs j hj) k).1
theorem join_at {xs : List Evt} {j : Nat} (hj : j ≤ xs.length) (q : Int) :
    cntX (joinK (atC (clkN xs j) (ownI xs j)) (atC (clkN xs j) (othI xs j))) q = max (cntX (atC (clkN xs j) (ownI xs j)) q) (cntX (atC (clkN xs j) (othI xs j)) q) := cnt_join q _ _ 0 (srt_at hj _) (srt_at hj _)
/-- No clock counts a thread more often than it was there. -/
theorem cnt_up {xs : List Evt} (q : Int) (j : Nat) (hj : j < xs.length) : cntX (clk xs j) q ≤ (ne xs q (j + 1) : Int) := by
  induction j using Nat.strongRecOn with
  | _ j ih =>
    have hs : Srt 0 (joinK (atC (clkN xs j) (ownI xs j)) (atC (clkN xs j) (othI xs j))) := srt_join _ _ 0 (srt_at (by omega) _) (srt_at (by omega) _)
    have h1 := tick_le (w := who xs j) hs q
    rw [join_at (by omega)] at h1
    have part : ∀ k : Int, k < (j : Int) → cntX (atC (clkN xs j) k) q ≤ (ne xs q j : Int) := fun k hk => by
      rcases atC_clk xs hk with ⟨c, e⟩ | ⟨_, e⟩
      · rw [e]
        have h2 := ih k.toNat (by omega) (by omega)
        have h3 := ne_mono xs q (m := k.toNat + 1) (n := j) (by omega)
        omega
      · rw [e]
        simp [cntX]
    have h2 := part _ (ownI_lt xs j).2
    have h3 := part _ (othI_lt xs j).2
    have h4 : (ne xs q (j + 1) : Int) = (ne xs q j : Int) + (if q = who xs j then 1 else 0) := by
      rw [ne_succ]
      by_cases e : who xs j = q
      · rw [if_pos e, if_pos e.symm]; simp
      · rw [if_neg e, if_neg (fun h => e h.symm)]; simp
    have h5 : clk xs j = tickX (joinK (atC (clkN xs j) (ownI xs j)) (atC (clkN xs j) (othI xs j))) (who xs j) := rfl
    rw [h4, h5]
    omega
/-- What a clock counts, of what came together in it. -/
theorem cnt_eq {xs : List Evt} (he : evB xs = true) {j : Nat} (hj : j < xs.length) (q : Int) :
    cntX (clk xs j) q = max (cntX (atC (clkN xs j) (ownI xs j)) q) (cntX (atC (clkN xs j) (othI xs j)) q) + (if q = who xs j then 1 else 0) := by
  have hx := evB_len he
  have hw := evB_who he hj
  have hs : Srt 0 (joinK (atC (clkN xs j) (ownI xs j)) (atC (clkN xs j) (othI xs j))) := srt_join _ _ 0 (srt_at (by omega) _) (srt_at (by omega) _)
  have part : ∀ k : Int, k < (j : Int) → cntX (atC (clkN xs j) k) (who xs j) ≤ 3000 := fun k hk => by
    rcases atC_clk xs hk with ⟨c, e⟩ | ⟨_, e⟩
    · rw [e]
      have h2 := cnt_up (who xs j) k.toNat (show k.toNat < xs.length by omega)
      have h3 := ne_le xs (who xs j) (k.toNat + 1)
      omega
    · rw [e]
      simp [cntX]
  have h1 := tick_le (w := who xs j) hs q
  have h2 := tick_ge (w := who xs j) hs hw (by
    rw [join_at (by omega)]
    have a := part _ (ownI_lt xs j).2
    have b := part _ (othI_lt xs j).2
    omega) q
  rw [join_at (by omega)] at h1 h2
  have h5 : cntX (clk xs j) q = cntX (tickX (joinK (atC (clkN xs j) (ownI xs j)) (atC (clkN xs j) (othI xs j))) (who xs j)) q := rfl
  rw [h5]
  omega
/-- A thread's own events are all counted. -/
theorem own_last {xs : List Evt} (he : evB xs = true) {j : Nat} (hj : j < xs.length) :
    (ne xs (who xs j) j = 0) ∨ ∃ m : Nat, m < j ∧ who xs m = who xs j ∧ ne xs (who xs j) j = ne xs (who xs j) (m + 1) ∧ atC (clkN xs j) (ownI xs j) = clk xs m := by
  have hw := evB_who he hj
  rcases last_spec (xs := xs) (q := who xs j) (by omega) j with ⟨_, h⟩ | ⟨m, h1, h2, h3, h4⟩
  · exact .inl h
  · refine .inr ⟨m, h2, h3, h4, ?_⟩
    have e : ownI xs j = (m : Int) := by
      unfold ownI
      show (if 0 ≤ lastI xs (-1) 0 (who xs j) j then lastI xs (-1) 0 (who xs j) j else _) = _
      rw [h1, if_pos (by omega)]
    rw [e]
    rcases atC_clk xs (j := j) (k := (m : Int)) (by omega) with ⟨_, e2⟩ | ⟨c, _⟩
    · rw [e2, Int.toNat_natCast]
    · omega
theorem cnt_own {xs : List Evt} (he : evB xs = true) (j : Nat) (hj : j < xs.length) : (ne xs (who xs j) (j + 1) : Int) ≤ cntX (clk xs j) (who xs j) := by
  induction j using Nat.strongRecOn with
  | _ j ih =>
    rw [cnt_eq he hj, if_pos rfl, ne_hit rfl]
    have hp := cnt_pos (q := who xs j) (srt_at (xs := xs) (j := j) (by omega) (ownI xs j))
    rcases own_last he hj with h | ⟨m, h1, h2, h3, h4⟩
    · rw [h]
      omega
    · rw [h4]
      have h5 := ih m h1 (by omega)
      rw [h2] at h5
      omega
/-- A thread knows what it knew. -/
theorem thread_mono {xs : List Evt} (he : evB xs = true) {i : Nat} (j : Nat) (hij : i < j) (hj : j < xs.length) (hw : who xs i = who xs j) (q : Int) : cntX (clk xs i) q ≤ cntX (clk xs j) q := by
  induction j using Nat.strongRecOn with
  | _ j ih =>
    rw [cnt_eq he hj]
    rcases own_last he hj with h | ⟨m, h1, h2, h3, h4⟩
    · exfalso
      have a := ne_mono xs (who xs j) (m := i + 1) (n := j) (by omega)
      have b := ne_hit hw
      omega
    · rw [h4]
      have hmi : i ≤ m := by
        by_cases c : i ≤ m
        · exact c
        · exfalso
          have a := ne_mono xs (who xs j) (m := i + 1) (n := j) (by omega)
          have b := ne_hit hw
          have d := ne_mono xs (who xs j) (m := m + 1) (n := i) (by omega)
          omega
      have hx : cntX (clk xs i) q ≤ cntX (clk xs m) q := by
        by_cases e : i = m
        · rw [e]
          exact Int.le_refl _
        · exact ih m h1 (by omega) (by omega) (hw.trans h2.symm)
      split <;> omega
/-- WHO COUNTS AN EVENT OF A THREAD KNOWS ITS CLOCK. -/
theorem knowing {xs : List Evt} (he : evB xs = true) {k : Nat} (j : Nat) (hkj : k < j) (hj : j < xs.length) (h : cntX (clk xs k) (who xs k) ≤ cntX (clk xs j) (who xs k)) (q : Int) : cntX (clk xs k) q ≤ cntX (clk xs j) q := by
  induction j using Nat.strongRecOn with
  | _ j ih =>
    by_cases hw : who xs k = who xs j
    · exact thread_mono he j hkj hj hw q
    · rw [cnt_eq he hj] at h ⊢
      rw [if_neg hw] at h
      have hN := cnt_own he k (by omega)
      have hN2 := ne_hit (xs := xs) (n := k) (p := who xs k) rfl
      have src : ∀ s : Int, s < (j : Int) → cntX (clk xs k) (who xs k) ≤ cntX (atC (clkN xs j) s) (who xs k) → cntX (clk xs k) q ≤ cntX (atC (clkN xs j) s) q := fun s hs hc => by
        rcases atC_clk xs hs with ⟨c, e⟩ | ⟨_, e⟩
        · rw [e] at hc ⊢
          by_cases c1 : s.toNat = k
          · rw [c1]
            exact Int.le_refl _
          · by_cases c2 : k < s.toNat
            · exact ih s.toNat (by omega) c2 (by omega) hc
            · exfalso
              have a := cnt_up (who xs k) s.toNat (show s.toNat < xs.length by omega)
              have b := ne_mono xs (who xs k) (m := s.toNat + 1) (n := k) (by omega)
              omega
        · rw [e] at hc
          exfalso
          have : cntX [] (who xs k) = 0 := rfl
          omega
      have h1 := src _ (ownI_lt xs j).2
      have h2 := src _ (othI_lt xs j).2
      by_cases c : cntX (clk xs k) (who xs k) ≤ cntX (atC (clkN xs j) (ownI xs j)) (who xs k)
      · have := h1 c
        split <;> omega
      · have := h2 (by omega)
        split <;> omega
theorem before_clk {xs : List Evt} (he : evB xs = true) {k j : Nat} (hkj : k < j) (hj : j < xs.length) : beforeX xs (k : Int) (j : Int) = decide (cntX (clk xs k) (who xs k) ≤ cntX (clk xs j) (who xs k)) := by
  unfold beforeX
  rw [he, decide_eq_true (show (0 : Int) ≤ (k : Int) by omega), decide_eq_true (show (k : Int) < (j : Int) by omega), decide_eq_true (show (j : Int) < (xs.length : Int) by omega), Int.toNat_natCast, Int.toNat_natCast, clkN_clk xs hj, clkN_clk xs (show k < xs.length by omega)]
  rfl
theorem before_knows {xs : List Evt} (he : evB xs = true) {k j : Nat} (hkj : k < j) (hj : j < xs.length) : knowsB (clk xs j) (clk xs k) = beforeX xs (k : Int) (j : Int) := by
  rw [before_clk he hkj hj]
  have ck := srt_clkB (clk_good (xs := xs) (j := k) (by omega)).1
  have cj := srt_clkB (clk_good (xs := xs) hj).1
  by_cases h : cntX (clk xs k) (who xs k) ≤ cntX (clk xs j) (who xs k)
  · rw [decide_eq_true h]
    exact knows_mk cj ck (fun q => knowing he j hkj hj h q)
  · rw [decide_eq_false h]
    cases c : knowsB (clk xs j) (clk xs k) with
    | false => rfl
    | true => exact absurd (knows_le c (who xs k)) h
end Go.Proofs.Ytihjidlcodonmaa
