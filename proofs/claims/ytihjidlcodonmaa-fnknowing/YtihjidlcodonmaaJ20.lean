/-
  Joined: ClcM, ClcK.
-/
import Derived.Test.YtihjidlcodonmaaJ10
import Derived.Test.YtihjidlcodonmaaJ19
import Derived.Test.YtihjidlcodonmaaJ13
import Derived.Maps.OwnSet
import Derived.Maps.OwnIn
import Derived.DeepKeys4
/-
  The clocks of a list of events: what they are, that they are right, that they are short.
-/
namespace Go.Proofs.Ytihjidlcodonmaa
open Go.RowKit

def hitE (e : Evt) (k i w : Int) : Bool := (decide (k < 0) || (decide (e.k = k) && decide (e.i = i))) && (decide (w < 0) || decide (e.w = w))
/-- The last event of the first n, of a kind, an Id and a thread (below 0: any); -1: there is none. -/
def lastI (xs : List Evt) (k i w : Int) : Nat → Int
  | 0 => -1
  | n + 1 => if hitE (xs.getD n default) k i w = true then (n : Int) else lastI xs k i w n
def othI (xs : List Evt) (n : Nat) : Int :=
  if (xs.getD n default).k = 3 then lastI xs 4 (xs.getD n default).i (-1) n
  else if (xs.getD n default).k = 6 then lastI xs (-1) 0 (xs.getD n default).i n else -1
def ownI (xs : List Evt) (n : Nat) : Int :=
  if 0 ≤ lastI xs (-1) 0 (xs.getD n default).w n then lastI xs (-1) 0 (xs.getD n default).w n else lastI xs 5 (xs.getD n default).w (-1) n
def atC (cs : List (List Smp)) (k : Int) : List Smp := if 0 ≤ k then cs.getD k.toNat [] else []
def nextC (xs : List Evt) (cs : List (List Smp)) (n : Nat) : List Smp := tickX (joinK (atC cs (ownI xs n)) (atC cs (othI xs n))) (xs.getD n default).w
def clkN (xs : List Evt) : Nat → List (List Smp)
  | 0 => []
  | n + 1 => clkN xs n ++ [nextC xs (clkN xs n) n]

theorem lastI_lt {xs : List Evt} {k i w : Int} : ∀ n : Nat, -1 ≤ lastI xs k i w n ∧ lastI xs k i w n < (n : Int)
  | 0 => by unfold lastI; omega
  | n + 1 => by
    have := lastI_lt (xs := xs) (k := k) (i := i) (w := w) n
    unfold lastI
    split <;> omega
theorem ownI_lt (xs : List Evt) (n : Nat) : -1 ≤ ownI xs n ∧ ownI xs n < (n : Int) := by
  unfold ownI
  split <;> exact lastI_lt n
theorem othI_lt (xs : List Evt) (n : Nat) : -1 ≤ othI xs n ∧ othI xs n < (n : Int) := by
  unfold othI
  split
  · exact lastI_lt n
  · split
    · exact lastI_lt n
    · omega
theorem clkN_succ (xs : List Evt) (n : Nat) : clkN xs (n + 1) = clkN xs n ++ [nextC xs (clkN xs n) n] := rfl
theorem clkN_len (xs : List Evt) : ∀ n, (clkN xs n).length = n
  | 0 => rfl
  | n + 1 => by unfold clkN; simp [clkN_len xs n]
theorem clkN_at (xs : List Evt) {j : Nat} : ∀ {n : Nat}, j < n → (clkN xs n).getD j [] = nextC xs (clkN xs j) j
  | n + 1, h => by
    rw [clkN_succ]
    by_cases e : j = n
    · subst e
      rw [List.getD_eq_getElem?_getD, List.getElem?_append_right (by rw [clkN_len]; omega), clkN_len]
      simp
    · rw [List.getD_eq_getElem?_getD, List.getElem?_append_left (by rw [clkN_len]; omega), ← List.getD_eq_getElem?_getD]
      exact clkN_at xs (by omega)

theorem joinK_whos {y : Smp} (a b : List Smp) : y ∈ joinK a b → (∃ z ∈ a, z.w = y.w) ∨ ∃ z ∈ b, z.w = y.w := by
  induction a, b using joinK.induct with
  | case1 b => intro h; rw [joinK] at h; exact .inr ⟨y, h, rfl⟩
  | case2 x a => intro h; rw [joinK] at h; exact .inl ⟨y, h, rfl⟩
  | case3 x a z b h ih =>
    intro h2
    rw [joinK, if_pos h] at h2
    rcases List.mem_cons.1 h2 with rfl | h2
    · exact .inl ⟨y, by simp, rfl⟩
    · rcases ih h2 with ⟨u, hu, e⟩ | h3
      · exact .inl ⟨u, by simp [hu], e⟩
      · exact .inr h3
  | case4 x a z b h1 h2 ih =>
    intro h3
    rw [joinK, if_neg h1, if_pos h2] at h3
    rcases List.mem_cons.1 h3 with rfl | h3
    · exact .inr ⟨y, by simp, rfl⟩
    · rcases ih h3 with h4 | ⟨u, hu, e⟩
      · exact .inl h4
      · exact .inr ⟨u, by simp [hu], e⟩
  | case5 x a z b h1 h2 ih =>
    intro h3
    rw [joinK, if_neg h1, if_neg h2] at h3
    rcases List.mem_cons.1 h3 with rfl | h3
    · exact .inl ⟨x, by simp, rfl⟩
    · rcases ih h3 with ⟨u, hu, e⟩ | ⟨u, hu, e⟩
      · exact .inl ⟨u, by simp [hu], e⟩
      · exact .inr ⟨u, by simp [hu], e⟩
theorem srt_len : ∀ (c : List Smp) (lo : Int) (W : List Int), Srt lo c → (∀ y ∈ c, y.w ∈ W) → c.length ≤ W.length
  | [], _, _, _, _ => Nat.zero_le _
  | y :: c, lo, W, hs, hW => by
    have hy : y.w ∈ W := hW y (by simp)
    have hr : ∀ (c : List Smp) (lo : Int), Srt lo c → ∀ z ∈ c, lo < z.w := by
      intro c
      induction c with
      | nil => intro lo _ z hz; cases hz
      | cons x c ih =>
        intro lo hs z hz
        rcases List.mem_cons.1 hz with rfl | hz
        · exact hs.1
        · have := ih x.w hs.2.2.2.2 z hz
          have := hs.1
          omega
    have h1 := srt_len c y.w (W.erase y.w) hs.2.2.2.2 (fun z hz => by
      have h2 := hr c y.w hs.2.2.2.2 z hz
      exact (List.mem_erase_of_ne (by omega)).2 (hW z (by simp [hz])))
    rw [List.length_erase_of_mem hy] at h1
    have : 0 < W.length := List.length_pos_of_mem hy
    rw [List.length_cons]
    omega
/-- A clock that is right, over threads of the events. -/
def GoodC (xs : List Evt) (c : List Smp) : Prop := Srt 0 c ∧ ∀ y ∈ c, y.w ∈ xs.map Evt.w
theorem GoodC.nil (xs : List Evt) : GoodC xs [] := ⟨trivial, fun _ h => by cases h⟩
theorem GoodC.len {xs : List Evt} {c : List Smp} (h : GoodC xs c) : c.length ≤ xs.length := by
  have := srt_len c 0 _ h.1 h.2
  simpa using this
theorem GoodC.join {xs : List Evt} {a b : List Smp} (ha : GoodC xs a) (hb : GoodC xs b) : GoodC xs (joinK a b) := by
  refine ⟨srt_join _ _ 0 ha.1 hb.1, fun y hy => ?_⟩
  rcases joinK_whos _ _ hy with ⟨z, hz, e⟩ | ⟨z, hz, e⟩
  · rw [← e]; exact ha.2 z hz
  · rw [← e]; exact hb.2 z hz
theorem GoodC.tick {xs : List Evt} {a : List Smp} {q : Int} (ha : GoodC xs a) (hq : q ∈ xs.map Evt.w) : GoodC xs (tickX a q) := by
  unfold tickX
  split
  · rename_i h
    have h2 := inB_yes h.2.1
    have h3 := cnt_pos (q := q) ha.1
    exact ha.join ⟨⟨by show 0 < q; omega, by show q ≤ 1000000; omega, by show 1 ≤ cntX a q + 1; omega, by show cntX a q + 1 ≤ 16777215; have := h.2.2; omega, trivial⟩, fun y hy => by
      rcases List.mem_singleton.1 hy with rfl
      exact hq⟩
  · exact ha
theorem GoodC.g {xs : List Evt} {c : List Smp} (h : GoodC xs c) (hx : xs.length ≤ 3000) : smpsG c := by
  refine ⟨by have := h.len; omega, fun y hy => ?_⟩
  obtain ⟨i, hi, rfl⟩ := List.getElem_of_mem hy
  have h2 := srt_to c 0 h.1 i hi
  rw [List.getD_eq_getElem?_getD, List.getElem?_eq_getElem hi, Option.getD_some] at h2
  exact ⟨⟨by have := h2.2.1; omega, by have := h2.1.1; omega⟩, ⟨by have := h2.1.2.1; omega, by have := h2.1.2.2; omega⟩⟩
theorem evt_mem {xs : List Evt} {n : Nat} (h : n < xs.length) : (xs.getD n default).w ∈ xs.map Evt.w := by
  rw [List.getD_eq_getElem?_getD, List.getElem?_eq_getElem h]
  exact List.mem_map.2 ⟨_, List.getElem_mem h, rfl⟩
theorem atC_good {xs : List Evt} {cs : List (List Smp)} (h : ∀ c ∈ cs, GoodC xs c) (k : Int) : GoodC xs (atC cs k) := by
  unfold atC
  split
  · by_cases hk : k.toNat < cs.length
    · rw [List.getD_eq_getElem?_getD, List.getElem?_eq_getElem hk]
      exact h _ (List.getElem_mem hk)
    · rw [List.getD_eq_getElem?_getD, List.getElem?_eq_none (by omega)]
      exact GoodC.nil xs
  · exact GoodC.nil xs
theorem clkN_good (xs : List Evt) : ∀ n, n ≤ xs.length → ∀ c ∈ clkN xs n, GoodC xs c
  | 0, _, c, h => by cases h
  | n + 1, hn, c, h => by
    unfold clkN at h
    rcases List.mem_append.1 h with h | h
    · exact clkN_good xs n (by omega) c h
    · rcases List.mem_singleton.1 h with rfl
      have hg := clkN_good xs n (by omega)
      exact ((atC_good hg _).join (atC_good hg _)).tick (evt_mem (by omega))
theorem nextC_good {xs : List Evt} {n : Nat} (hn : n < xs.length) : GoodC xs (nextC xs (clkN xs n) n) := clkN_good xs (n + 1) hn _ (by rw [clkN_succ]; simp)
theorem clkN_goodAt {xs : List Evt} {n j : Nat} (hn : n ≤ xs.length) (hj : j < n) : GoodC xs ((clkN xs n).getD j []) := by
  refine clkN_good xs n hn _ ?_
  rw [List.getD_eq_getElem?_getD, List.getElem?_eq_getElem (by rw [clkN_len]; exact hj)]
  exact List.getElem_mem _
def clocksX (xs : List Evt) : List (List Smp) := if evB xs = true then clkN xs xs.length else []
def beforeX (xs : List Evt) (i j : Int) : Bool :=
  evB xs && (decide (0 ≤ i) && (decide (i < j) && (decide (j < (xs.length : Int)) && decide (cntX ((clkN xs xs.length).getD i.toNat []) (xs.getD i.toNat default).w ≤ cntX ((clkN xs xs.length).getD j.toNat []) (xs.getD i.toNat default).w))))
end Go.Proofs.Ytihjidlcodonmaa
/-
  What is known, a map of clocks by their sources: looked up, put, carried.
-/
namespace Go.Proofs.Ytihjidlcodonmaa
open Go.RowKit Go.Maps

theorem srcLaid : laidOutB Try.prog = true := by kernel_rfl
theorem srcRow : (89 : TypeId) < Try.prog.types.size := of_decide_eq_true (by kernel_rfl)
theorem srcWide : (match Try.prog.underlying 89 with | some (.array _ _) | some (.struct _) => true | _ => false) = true := by rw [Try.underlying89]
theorem srcKeyed : Keyed Try.prog 89 := Keyed.of_law (deep_law_laid srcLaid (m := 2) (by omega) srcRow (by kernel_rfl) srcWide)
def srcV (k i : Int) : Value := .agg #[.int .i64 k, .int .i64 i]
def srcK (k i : Int) : Lit := .string (keyBytes [.int .i64 k, .int .i64 i])
theorem srcKey (k i : Int) (hk : -9223372036854775808 ≤ k ∧ k ≤ 9223372036854775807) (hi : -9223372036854775808 ≤ i ∧ i ≤ 9223372036854775807) : keyOf Try.prog 89 (srcV k i) = some (srcK k i) := by
  have h1 : Try.prog.keyType 89 = true := by kernel_rfl
  have c2 : Try.prog.cellsOf 89 = 2 := by kernel_rfl
  have c1 : Try.prog.cellsOf 3 = 1 := by kernel_rfl
  have w1 : (Lit.int .i64 k).wf = true := WalkArith.wf_i64 hk
  have w2 : (Lit.int .i64 i).wf = true := WalkArith.wf_i64 hi
  have hf : (srcV k i).formed Try.prog 89 = true := by simp [srcV, Value.formed, Try.underlying89, c2]
  have hs : ∃ m, Try.prog.types.size = m + 1 := ⟨Try.prog.types.size - 1, by have : 0 < Try.prog.types.size := of_decide_eq_true (by kernel_rfl); omega⟩
  obtain ⟨m, hm⟩ := hs
  have hi1 : ∀ n, Try.prog.keyLits (m + 1) 3 [.int .i64 n] = if (Lit.int .i64 n).wf = true then some [.int .i64 n] else none := fun n => by
    unfold Program.keyLits
    simp [Try.underlying3]
  unfold keyOf
  rw [Try.underlying89]
  simp only [h1, hf, Bool.and_self, if_true]
  rw [hm]
  unfold Program.keyLits
  simp [Try.underlying89, srcV, Value.cells, c2, c1, hi1, w1, w2, srcK]
theorem srcK_ne {k i k' i' : Int} (hk : -9223372036854775808 ≤ k ∧ k ≤ 9223372036854775807) (hi : -9223372036854775808 ≤ i ∧ i ≤ 9223372036854775807) (hk' : -9223372036854775808 ≤ k' ∧ k' ≤ 9223372036854775807) (hi' : -9223372036854775808 ≤ i' ∧ i' ≤ 9223372036854775807) (h : ¬ (k' = k ∧ i' = i)) : srcK k' i' ≠ srcK k i := fun e => by
  have h1 := srcKey k i hk hi
  have h2 := srcKey k' i' hk' hi'
  rw [e] at h2
  have h3 := srcKeyed.inj h2 h1
  unfold srcV at h3
  injection h3 with h4
  simp at h4
  exact h h4

/-- A slice's value, as it reads. -/
def clR (v : Value) : Option (DataW Unit × List MemPlace) :=
  match v with
  | .slice none n c => some (.agg [.lit (.int .i64 n), .lit (.int .i64 c)], [])
  | .slice (some ⟨b, o, none⟩) n c => some (.agg [.lit (.int .i64 b), .lit (.int .i64 o), .lit (.int .i64 n), .lit (.int .i64 c)], [])
  | _ => none
theorem clR_inj {v u : Value} {z z' : DataW Unit × List MemPlace} (h : clR v = some z) (h' : clR u = some z') (e : z.1 = z'.1) : v = u := by
  unfold clR at h h'
  split at h
  · cases h
    split at h'
    · cases h'
      simp at e
      obtain ⟨e1, e2⟩ := e
      rw [Int.ofNat_inj.1 e1, Int.ofNat_inj.1 e2]
    · cases h'
      simp at e
    · cases h'
  · cases h
    split at h'
    · cases h'
      simp at e
    · cases h'
      simp at e
      obtain ⟨e1, e2, e3, e4⟩ := e
      rw [Int.ofNat_inj.1 e1, Int.ofNat_inj.1 e2, Int.ofNat_inj.1 e3, Int.ofNat_inj.1 e4]
    · cases h'
  · cases h
theorem clR_places {v : Value} {z : DataW Unit × List MemPlace} (h : clR v = some z) : z.2 = [] := by
  unfold clR at h
  split at h
  · cases h; rfl
  · cases h; rfl
  · cases h
theorem clR_nil : clR (.slice none 0 0) = some (.agg [.lit (.int .i64 0), .lit (.int .i64 0)], []) := rfl
theorem clR_own {w : World} {b hi : Nat} {T : TypeId} {k n : Nat} {cs : List Dt} {v : Value} (h : OwnD w b hi (.row T k n cs) v) : ∃ d, clR v = some (d, []) := by
  obtain ⟨F, h1, _, _⟩ := h
  unfold Owns at h1
  obtain ⟨us, G, h2, _, _⟩ := h1
  rcases h2.2 with ⟨rfl, _⟩ | ⟨g, cap, cur, rfl, _⟩
  · exact ⟨_, rfl⟩
  · exact ⟨_, rfl⟩
/-- Block g is what is known: at the source (k, i) the value f k i, if there is one. -/
def KnM (w : World) (g n : Nat) (f : Int → Int → Option Value) : Prop :=
  ∃ D, w.ownsMap Try.prog 89 clR g n D ∧ ∀ k i, (0 ≤ k ∧ k ≤ 6) → (0 ≤ i ∧ i ≤ 1000000) →
    (f k i = none → Maps.has D (srcK k i) = false ∧ ∀ z, D.atKey (srcK k i) z = z) ∧ ∀ u, f k i = some u → Maps.has D (srcK k i) = true ∧ ∃ d, clR u = some (d, []) ∧ ∀ z, D.atKey (srcK k i) z = d
theorem KnM.lt {w : World} {g n : Nat} {f : Int → Int → Option Value} (h : KnM w g n f) : g < w.heap.size := World.ownsMap.lt h.choose_spec.1
theorem KnM.below {w w' : World} {g n : Nat} {f : Int → Int → Option Value} (h : KnM w g n f) (hb : Below w.heap.size w w') : KnM w' g n f := by
  have hl := h.lt
  obtain ⟨D, ⟨es, clock, h1, r⟩, h2⟩ := h
  exact ⟨D, ⟨es, clock, (hb.block g hl).trans h1, r⟩, h2⟩
theorem KnM.grown {w w' : World} {g n : Nat} {f : Int → Int → Option Value} {own : Option Nat} (h : KnM w g n f) (hb : w.grownBy w' own) (hne : own ≠ some g) : KnM w' g n f := by
  have hl := h.lt
  obtain ⟨D, ⟨es, clock, h1, r⟩, h2⟩ := h
  exact ⟨D, ⟨es, clock, (hb.block g hl (Ne.symm hne)).trans h1, r⟩, h2⟩
theorem KnM.congr {w : World} {g n : Nat} {f f' : Int → Int → Option Value} (h : KnM w g n f) (e : ∀ k i, (0 ≤ k ∧ k ≤ 6) → (0 ≤ i ∧ i ≤ 1000000) → f' k i = f k i) : KnM w g n f' := by
  obtain ⟨D, h1, h2⟩ := h
  refine ⟨D, h1, fun k i hk hi => ?_⟩
  rw [e k i hk hi]
  exact h2 k i hk hi
theorem zeroCl (w : World) : (zeroValue 47).run Try.prog w = .ok (.slice none 0 0) w := by kernel_rfl
theorem KnM.made (w : World) : KnM (w.alloc (.map #[] 0)) w.heap.size 0 (fun _ _ => none) :=
  ⟨.map [], World.ownsMap_made w _ _ _, fun k i _ _ => ⟨fun _ => ⟨rfl, fun z => rfl⟩, fun u h => by cases h⟩⟩
theorem KnM.lookB {w : World} {g n : Nat} {f : Int → Int → Option Value} (h : KnM w g n f) {k i : Int} (hk : 0 ≤ k ∧ k ≤ 6) (hi : 0 ≤ i ∧ i ≤ 1000000) :
    (Instr.lookup 56 (.map (some g)) (srcV k i) true).run Try.prog w = .ok (.tuple #[(f k i).getD (.slice none 0 0), .bool (f k i).isSome]) w := by
  obtain ⟨D, h1, h2⟩ := h
  obtain ⟨v, ps, hrun, hv⟩ := World.ownsMap.look_ok h1 srcKeyed Try.underlying56 (zeroCl w) clR_nil (srcKey k i (by omega) (by omega))
  have h3 := h2 k i hk hi
  cases hf : f k i with
  | none =>
    obtain ⟨e1, e2⟩ := h3.1 hf
    rw [e2] at hv
    have := clR_inj hv clR_nil rfl
    subst this
    rw [hrun, e1]
    rfl
  | some u =>
    obtain ⟨e1, d, e2, e3⟩ := h3.2 u hf
    rw [e3] at hv
    have := clR_inj hv e2 rfl
    subst this
    rw [hrun, e1]
    rfl
theorem KnM.look {w : World} {g n : Nat} {f : Int → Int → Option Value} (h : KnM w g n f) {k i : Int} (hk : 0 ≤ k ∧ k ≤ 6) (hi : 0 ≤ i ∧ i ≤ 1000000) :
    (Instr.lookup 56 (.map (some g)) (srcV k i) false).run Try.prog w = .ok ((f k i).getD (.slice none 0 0)) w := by
  obtain ⟨D, h1, h2⟩ := h
  obtain ⟨v, ps, hrun, hv⟩ := World.ownsMap.lookup h1 srcKeyed Try.underlying56 (zeroCl w) clR_nil (srcKey k i (by omega) (by omega))
  have h3 := h2 k i hk hi
  cases hf : f k i with
  | none =>
    obtain ⟨e1, e2⟩ := h3.1 hf
    rw [e2] at hv
    have := clR_inj hv clR_nil rfl
    subst this
    exact hrun
  | some u =>
    obtain ⟨e1, d, e2, e3⟩ := h3.2 u hf
    rw [e3] at hv
    have := clR_inj hv e2 rfl
    subst this
    exact hrun
def putF (f : Int → Int → Option Value) (k i : Int) (u : Value) : Int → Int → Option Value := fun k' i' => if k' = k ∧ i' = i then some u else f k' i'
theorem KnM.put {w : World} {g n : Nat} {f : Int → Int → Option Value} (h : KnM w g n f) (hn : n < maxLen) {k i : Int} (hk : 0 ≤ k ∧ k ≤ 6) (hi : 0 ≤ i ∧ i ≤ 1000000) {u : Value} {d : DataW Unit} (hu : clR u = some (d, [])) :
    ∃ w', (Instr.mapUpdate 56 (.map (some g)) (srcV k i) u).run Try.prog w = .ok () w' ∧ KnM w' g (n + 1) (putF f k i u) ∧ w.grownBy w' (some g) := by
  obtain ⟨D, h1, h2⟩ := h
  have hkey := srcKey k i (by omega) (by omega)
  obtain ⟨w', hrun, r1, r2⟩ := h1.update srcKeyed Try.underlying56 hn hkey hu
  refine ⟨w', hrun, ⟨_, r1, fun k' i' hk' hi' => ?_⟩, r2⟩
  unfold putF
  by_cases he : k' = k ∧ i' = i
  · rw [if_pos he, he.1, he.2]
    refine ⟨fun h => (by cases h), fun v hv => ?_⟩
    cases hv
    exact ⟨has_put_same h1.isMap (srcKeyed.key hkey) _, d, hu, fun z => atKey_put_same h1.isMap (srcKeyed.key hkey) _ _⟩
  · rw [if_neg he]
    have hne := srcK_ne (k := k) (i := i) (k' := k') (i' := i') (by omega) (by omega) (by omega) (by omega) he
    have h3 := h2 k' i' hk' hi'
    refine ⟨fun h => ?_, fun v hv => ?_⟩
    · obtain ⟨e1, e2⟩ := h3.1 h
      exact ⟨by rw [has_put_other hne]; exact e1, fun z => by rw [atKey_put_other hne]; exact e2 z⟩
    · obtain ⟨e1, d', e2, e3⟩ := h3.2 v hv
      exact ⟨by rw [has_put_other hne]; exact e1, d', e2, fun z => by rw [atKey_put_other hne]; exact e3 z⟩
section
variable {w : World} {ops : Array Oper} {rest : List Oper} {o : Oper} {a : Act} {Q : Exit → Act → World → Prop}
theorem wp_known (hg : o.guard = none) (m x v : Operand) (hop : o.op = Op.mapUpdate 56 m x v) (b n : Nat) (f : Int → Int → Option Value) (hm : a.eval m = .map (some b)) (hown : KnM w b n f) (hn : n < maxLen)
    (k i : Int) (hk : 0 ≤ k ∧ k ≤ 6) (hi : 0 ≤ i ∧ i ≤ 1000000) (hx : a.eval x = srcV k i) (u : Value) (d : DataW Unit) (hu : clR u = some (d, [])) (hv : a.eval v = u)
    (hK : ∀ w', KnM w' b (n + 1) (putF f k i u) → w.grownBy w' (some b) → wpList Try.prog ops Q rest (a.put o.dst undef) w') :
    wpList Try.prog ops Q (o :: rest) a w := by
  refine wpList_plain hg fun K' hK' => ?_
  obtain ⟨w', hrun, r1, r2⟩ := hown.put hn hk hi hu
  unfold Oper.wp
  simp [execOp, hop, hm, hx, hv, hrun, Result.andThen]
  exact hK' _ _ (hK w' r1 r2)
end
end Go.Proofs.Ytihjidlcodonmaa
