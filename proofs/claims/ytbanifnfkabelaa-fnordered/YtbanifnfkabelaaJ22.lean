/-
  Joined: ClcK, ClcN.
-/
import Derived.Test.YtbanifnfkabelaaJ17
import Derived.Test.YtbanifnfkabelaaJ13
import Derived.Maps.OwnSet
import Derived.Maps.OwnIn
import Derived.DeepKeys4
/-
  What is known, a map of clocks by their sources: looked up, put, carried.
-/
namespace Go.Proofs.Ytbanifnfkabelaa
open Go.RowKit Go.Maps

theorem srcLaid : laidOutB Try.prog = true := by kernel_rfl
theorem srcRow : (74 : TypeId) < Try.prog.types.size := of_decide_eq_true (by kernel_rfl)
theorem srcWide : (match Try.prog.underlying 74 with | some (.array _ _) | some (.struct _) => true | _ => false) = true := by rw [Try.underlying74]
theorem srcKeyed : Keyed Try.prog 74 := Keyed.of_law (deep_law_laid srcLaid (m := 2) (by omega) srcRow (by kernel_rfl) srcWide)
def srcV (k i : Int) : Value := .agg #[.int .i64 k, .int .i64 i]
def srcK (k i : Int) : Lit := .string (keyBytes [.int .i64 k, .int .i64 i])
theorem srcKey (k i : Int) (hk : -9223372036854775808 ≤ k ∧ k ≤ 9223372036854775807) (hi : -9223372036854775808 ≤ i ∧ i ≤ 9223372036854775807) : keyOf Try.prog 74 (srcV k i) = some (srcK k i) := by
  have h1 : Try.prog.keyType 74 = true := by kernel_rfl
  have c2 : Try.prog.cellsOf 74 = 2 := by kernel_rfl
  have c1 : Try.prog.cellsOf 3 = 1 := by kernel_rfl
  have w1 : (Lit.int .i64 k).wf = true := WalkArith.wf_i64 hk
  have w2 : (Lit.int .i64 i).wf = true := WalkArith.wf_i64 hi
  have hf : (srcV k i).formed Try.prog 74 = true := by simp [srcV, Value.formed, Try.underlying74, c2]
  have hs : ∃ m, Try.prog.types.size = m + 1 := ⟨Try.prog.types.size - 1, by have : 0 < Try.prog.types.size := of_decide_eq_true (by kernel_rfl); omega⟩
  obtain ⟨m, hm⟩ := hs
  have hi1 : ∀ n, Try.prog.keyLits (m + 1) 3 [.int .i64 n] = if (Lit.int .i64 n).wf = true then some [.int .i64 n] else none := fun n => by
    unfold Program.keyLits
    simp [Try.underlying3]
  unfold keyOf
  rw [Try.underlying74]
  simp only [h1, hf, Bool.and_self, if_true]
  rw [hm]
  unfold Program.keyLits
  simp [Try.underlying74, srcV, Value.cells, c2, c1, hi1, w1, w2, srcK]
theorem srcK_ne {k i k' i' : Int} (hk : -9223372036854775808 ≤ k ∧ k ≤ 9223372036854775807) (hi : -9223372036854775808 ≤ i ∧ i ≤ 9223372036854775807) (hk' : -9223372036854775808 ≤ k' ∧ k' ≤ 9223372036854775807) (hi' : -9223372036854775808 ≤ i' ∧ i' ≤ 9223372036854775807) (h : ¬ (k' = k ∧ i' = i)) : srcK k' i' ≠ srcK k i := fun e => by
  have h1 := srcKey k i hk hi
  have h2 := srcKey k' i' hk' hi'
  rw [e] at h2
  have h3 := srcKeyed.inj h2 h1
  unfold srcV at h3
  injection h3 with h4
  simp at h4
  exact h h4

/-- A slice's value, as it reads. -/
def clR (v : Value) : Option (DataW Unit × List MemPlace) :=
  match v with
  | .slice none n c => some (.agg [.lit (.int .i64 n), .lit (.int .i64 c)], [])
  | .slice (some ⟨b, o, none⟩) n c => some (.agg [.lit (.int .i64 b), .lit (.int .i64 o), .lit (.int .i64 n), .lit (.int .i64 c)], [])
  | _ => none
theorem clR_inj {v u : Value} {z z' : DataW Unit × List MemPlace} (h : clR v = some z) (h' : clR u = some z') (e : z.1 = z'.1) : v = u := by
  unfold clR at h h'
  split at h
  · cases h
    split at h'
    · cases h'
      simp at e
      obtain ⟨e1, e2⟩ := e
      rw [Int.ofNat_inj.1 e1, Int.ofNat_inj.1 e2]
    · cases h'
      simp at e
    · cases h'
  · cases h
    split at h'
    · cases h'
      simp at e
    · cases h'
      simp at e
      obtain ⟨e1, e2, e3, e4⟩ := e
      rw [Int.ofNat_inj.1 e1, Int.ofNat_inj.1 e2, Int.ofNat_inj.1 e3, Int.ofNat_inj.1 e4]
    · cases h'
  · cases h
theorem clR_places {v : Value} {z : DataW Unit × List MemPlace} (h : clR v = some z) : z.2 = [] := by
  unfold clR at h
  split at h
  · cases h; rfl
  · cases h; rfl
  · cases h
theorem clR_nil : clR (.slice none 0 0) = some (.agg [.lit (.int .i64 0), .lit (.int .i64 0)], []) := rfl
theorem clR_own {w : World} {b hi : Nat} {T : TypeId} {k n : Nat} {cs : List Dt} {v : Value} (h : OwnD w b hi (.row T k n cs) v) : ∃ d, clR v = some (d, []) := by
  obtain ⟨F, h1, _, _⟩ := h
  unfold Owns at h1
  obtain ⟨us, G, h2, _, _⟩ := h1
  rcases h2.2 with ⟨rfl, _⟩ | ⟨g, cap, cur, rfl, _⟩
  · exact ⟨_, rfl⟩
  · exact ⟨_, rfl⟩
/-- Block g is what is known: at the source (k, i) the value f k i, if there is one. -/
def KnM (w : World) (g n : Nat) (f : Int → Int → Option Value) : Prop :=
  ∃ D, w.ownsMap Try.prog 74 clR g n D ∧ ∀ k i, (0 ≤ k ∧ k ≤ 6) → (0 ≤ i ∧ i ≤ 1000000) →
    (f k i = none → Maps.has D (srcK k i) = false ∧ ∀ z, D.atKey (srcK k i) z = z) ∧ ∀ u, f k i = some u → Maps.has D (srcK k i) = true ∧ ∃ d, clR u = some (d, []) ∧ ∀ z, D.atKey (srcK k i) z = d
theorem KnM.lt {w : World} {g n : Nat} {f : Int → Int → Option Value} (h : KnM w g n f) : g < w.heap.size := World.ownsMap.lt h.choose_spec.1
theorem KnM.below {w w' : World} {g n : Nat} {f : Int → Int → Option Value} (h : KnM w g n f) (hb : Below w.heap.size w w') : KnM w' g n f := by
  have hl := h.lt
  obtain ⟨D, ⟨es, clock, h1, r⟩, h2⟩ := h
  exact ⟨D, ⟨es, clock, (hb.block g hl).trans h1, r⟩, h2⟩
theorem KnM.grown {w w' : World} {g n : Nat} {f : Int → Int → Option Value} {own : Option Nat} (h : KnM w g n f) (hb : w.grownBy w' own) (hne : own ≠ some g) : KnM w' g n f := by
  have hl := h.lt
  obtain ⟨D, ⟨es, clock, h1, r⟩, h2⟩ := h
  exact ⟨D, ⟨es, clock, (hb.block g hl (Ne.symm hne)).trans h1, r⟩, h2⟩
theorem KnM.congr {w : World} {g n : Nat} {f f' : Int → Int → Option Value} (h : KnM w g n f) (e : ∀ k i, (0 ≤ k ∧ k ≤ 6) → (0 ≤ i ∧ i ≤ 1000000) → f' k i = f k i) : KnM w g n f' := by
  obtain ⟨D, h1, h2⟩ := h
  refine ⟨D, h1, fun k i hk hi => ?_⟩
  rw [e k i hk hi]
  exact h2 k i hk hi
theorem zeroCl (w : World) : (zeroValue 42).run Try.prog w = .ok (.slice none 0 0) w := by kernel_rfl
theorem KnM.made (w : World) : KnM (w.alloc (.map #[] 0)) w.heap.size 0 (fun _ _ => none) :=
  ⟨.map [], World.ownsMap_made w _ _ _, fun k i _ _ => ⟨fun _ => ⟨rfl, fun z => rfl⟩, fun u h => by cases h⟩⟩
theorem KnM.lookB {w : World} {g n : Nat} {f : Int → Int → Option Value} (h : KnM w g n f) {k i : Int} (hk : 0 ≤ k ∧ k ≤ 6) (hi : 0 ≤ i ∧ i ≤ 1000000) :
    (Instr.lookup 56 (.map (some g)) (srcV k i) true).run Try.prog w = .ok (.tuple #[(f k i).getD (.slice none 0 0), .bool (f k i).isSome]) w := by
  obtain ⟨D, h1, h2⟩ := h
  obtain ⟨v, ps, hrun, hv⟩ := World.ownsMap.look_ok h1 srcKeyed Try.underlying56 (zeroCl w) clR_nil (srcKey k i (by omega) (by omega))
  have h3 := h2 k i hk hi
  cases hf : f k i with
  | none =>
    obtain ⟨e1, e2⟩ := h3.1 hf
    rw [e2] at hv
    have := clR_inj hv clR_nil rfl
    subst this
    rw [hrun, e1]
    rfl
  | some u =>
    obtain ⟨e1, d, e2, e3⟩ := h3.2 u hf
    rw [e3] at hv
    have := clR_inj hv e2 rfl
    subst this
    rw [hrun, e1]
    rfl
theorem KnM.look {w : World} {g n : Nat} {f : Int → Int → Option Value} (h : KnM w g n f) {k i : Int} (hk : 0 ≤ k ∧ k ≤ 6) (hi : 0 ≤ i ∧ i ≤ 1000000) :
    (Instr.lookup 56 (.map (some g)) (srcV k i) false).run Try.prog w = .ok ((f k i).getD (.slice none 0 0)) w := by
  obtain ⟨D, h1, h2⟩ := h
  obtain ⟨v, ps, hrun, hv⟩ := World.ownsMap.lookup h1 srcKeyed Try.underlying56 (zeroCl w) clR_nil (srcKey k i (by omega) (by omega))
  have h3 := h2 k i hk hi
  cases hf : f k i with
  | none =>
    obtain ⟨e1, e2⟩ := h3.1 hf
    rw [e2] at hv
    have := clR_inj hv clR_nil rfl
    subst this
    exact hrun
  | some u =>
    obtain ⟨e1, d, e2, e3⟩ := h3.2 u hf
    rw [e3] at hv
    have := clR_inj hv e2 rfl
    subst this
    exact hrun
def putF (f : Int → Int → Option Value) (k i : Int) (u : Value) : Int → Int → Option Value := fun k' i' => if k' = k ∧ i' = i then some u else f k' i'
theorem KnM.put {w : World} {g n : Nat} {f : Int → Int → Option Value} (h : KnM w g n f) (hn : n < maxLen) {k i : Int} (hk : 0 ≤ k ∧ k ≤ 6) (hi : 0 ≤ i ∧ i ≤ 1000000) {u : Value} {d : DataW Unit} (hu : clR u = some (d, [])) :
    ∃ w', (Instr.mapUpdate 56 (.map (some g)) (srcV k i) u).run Try.prog w = .ok () w' ∧ KnM w' g (n + 1) (putF f k i u) ∧ w.grownBy w' (some g) := by
  obtain ⟨D, h1, h2⟩ := h
  have hkey := srcKey k i (by omega) (by omega)
  obtain ⟨w', hrun, r1, r2⟩ := h1.update srcKeyed Try.underlying56 hn hkey hu
  refine ⟨w', hrun, ⟨_, r1, fun k' i' hk' hi' => ?_⟩, r2⟩
  unfold putF
  by_cases he : k' = k ∧ i' = i
  · rw [if_pos he, he.1, he.2]
    refine ⟨fun h => (by cases h), fun v hv => ?_⟩
    cases hv
    exact ⟨has_put_same h1.isMap (srcKeyed.key hkey) _, d, hu, fun z => atKey_put_same h1.isMap (srcKeyed.key hkey) _ _⟩
  · rw [if_neg he]
    have hne := srcK_ne (k := k) (i := i) (k' := k') (i' := i') (by omega) (by omega) (by omega) (by omega) he
    have h3 := h2 k' i' hk' hi'
    refine ⟨fun h => ?_, fun v hv => ?_⟩
    · obtain ⟨e1, e2⟩ := h3.1 h
      exact ⟨by rw [has_put_other hne]; exact e1, fun z => by rw [atKey_put_other hne]; exact e2 z⟩
    · obtain ⟨e1, d', e2, e3⟩ := h3.2 v hv
      exact ⟨by rw [has_put_other hne]; exact e1, d', e2, fun z => by rw [atKey_put_other hne]; exact e3 z⟩
section
variable {w : World} {ops : Array Oper} {rest : List Oper} {o : Oper} {a : Act} {Q : Exit → Act → World → Prop}
theorem wp_known (hg : o.guard = none) (m x v : Operand) (hop : o.op = Op.mapUpdate 56 m x v) (b n : Nat) (f : Int → Int → Option Value) (hm : a.eval m = .map (some b)) (hown : KnM w b n f) (hn : n < maxLen)
    (k i : Int) (hk : 0 ≤ k ∧ k ≤ 6) (hi : 0 ≤ i ∧ i ≤ 1000000) (hx : a.eval x = srcV k i) (u : Value) (d : DataW Unit) (hu : clR u = some (d, [])) (hv : a.eval v = u)
    (hK : ∀ w', KnM w' b (n + 1) (putF f k i u) → w.grownBy w' (some b) → wpList Try.prog ops Q rest (a.put o.dst undef) w') :
    wpList Try.prog ops Q (o :: rest) a w := by
  refine wpList_plain hg fun K' hK' => ?_
  obtain ⟨w', hrun, r1, r2⟩ := hown.put hn hk hi hu
  unfold Oper.wp
  simp [execOp, hop, hm, hx, hv, hrun, Result.andThen]
  exact hK' _ _ (hK w' r1 r2)
end
end Go.Proofs.Ytbanifnfkabelaa
/-
  What is known behind the first events, and what comes together in the next one.
-/
namespace Go.Proofs.Ytbanifnfkabelaa
open Go.RowKit

def idxS (xs : List Evt) (n : Nat) (k i : Int) : Int := if k = 0 then lastI xs (-1) 0 i n else if k = 4 ∨ k = 5 then lastI xs k i (-1) n else -1
def fsrc (xs : List Evt) (us : List Value) (n : Nat) (k i : Int) : Option Value := if 0 ≤ idxS xs n k i then some (us.getD (idxS xs n k i).toNat undef) else none
def fcl (xs : List Evt) (n : Nat) (k i : Int) : List Smp := atC (clkN xs n) (idxS xs n k i)
def aheadC (b : Bool) (fc : Int → Int → List Smp) (y : Evt) : List (List Smp) :=
  fc 0 y.w :: ((if b = true then [] else [fc 5 y.w]) ++ (if y.k = 3 then [fc 4 y.i] else if y.k = 6 then [fc 0 y.i] else []))
def nextF (f : Int → Int → Option Value) (y : Evt) (u : Value) : Int → Int → Option Value :=
  if y.k = 4 ∨ y.k = 5 then putF (putF f 0 y.w u) y.k y.i u else putF f 0 y.w u
theorem idxS_lt (xs : List Evt) (n : Nat) (k i : Int) : -1 ≤ idxS xs n k i ∧ idxS xs n k i < (n : Int) := by
  unfold idxS
  split
  · exact lastI_lt n
  · split
    · exact lastI_lt n
    · omega
theorem evAt_in {y : Evt} (h : evAt y = true) : (1 ≤ y.w ∧ y.w ≤ 1000000) ∧ (0 ≤ y.k ∧ y.k ≤ 6) ∧ (0 ≤ y.i ∧ y.i ≤ 1000000) := by
  unfold evAt at h
  simp only [Bool.and_eq_true] at h
  exact ⟨inB_yes h.1, inB_yes h.2.1, inB_yes h.2.2.1⟩
theorem joinK_nil2 (b : List Smp) : joinK [] b = b := by rw [joinK]
theorem ahead_fold {xs : List Evt} {us : List Value} {n : Nat} {y : Evt} (hy : xs.getD n default = y) :
    (aheadC (fsrc xs us n 0 y.w).isSome (fcl xs n) y).foldl joinK [] = joinK (atC (clkN xs n) (ownI xs n)) (atC (clkN xs n) (othI xs n)) := by
  have h0 : idxS xs n 0 y.w = lastI xs (-1) 0 y.w n := rfl
  have h5 : idxS xs n 5 y.w = lastI xs 5 y.w (-1) n := rfl
  have h4 : idxS xs n 4 y.i = lastI xs 4 y.i (-1) n := rfl
  have hj : idxS xs n 0 y.i = lastI xs (-1) 0 y.i n := rfl
  have hown : joinK (if (fsrc xs us n 0 y.w).isSome = true then fcl xs n 0 y.w else joinK (fcl xs n 0 y.w) (fcl xs n 5 y.w)) [] = atC (clkN xs n) (ownI xs n) := by
    rw [joinK_nil]
    unfold fsrc fcl ownI
    rw [hy, h0, h5]
    by_cases c : 0 ≤ lastI xs (-1) 0 y.w n
    · rw [if_pos c, if_pos c]
      rfl
    · rw [if_neg c, if_neg c]
      have e : atC (clkN xs n) (lastI xs (-1) 0 y.w n) = [] := by unfold atC; rw [if_neg c]
      rw [e, joinK_nil2]
      rfl
  have hoth : (if y.k = 3 then [fcl xs n 4 y.i] else if y.k = 6 then [fcl xs n 0 y.i] else []) = (if y.k = 3 ∨ y.k = 6 then [atC (clkN xs n) (othI xs n)] else []) := by
    unfold othI fcl
    rw [hy, h4, hj]
    by_cases c3 : y.k = 3
    · rw [if_pos c3, if_pos (.inl c3), if_pos c3]
    · rw [if_neg c3, if_neg c3]
      by_cases c6 : y.k = 6
      · rw [if_pos c6, if_pos (.inr c6), if_pos c6]
      · rw [if_neg c6, if_neg (by omega)]
  have hno : ¬ (y.k = 3 ∨ y.k = 6) → atC (clkN xs n) (othI xs n) = [] := fun c => by
    unfold othI
    rw [hy, if_neg (by omega), if_neg (by omega)]
    rfl
  unfold aheadC
  rw [hoth]
  rw [joinK_nil] at hown
  rw [← hown]
  cases (fsrc xs us n 0 y.w).isSome with
  | true =>
    by_cases c : y.k = 3 ∨ y.k = 6
    · rw [if_pos c]
      simp [joinK_nil2]
    · rw [if_neg c, hno c]
      simp [joinK_nil2, joinK_nil]
  | false =>
    by_cases c : y.k = 3 ∨ y.k = 6
    · rw [if_pos c]
      simp [joinK_nil2]
    · rw [if_neg c, hno c]
      simp [joinK_nil2, joinK_nil]
theorem idxS_succ {xs : List Evt} {n : Nat} {y : Evt} (hy : xs.getD n default = y) {k i : Int} (hk : 0 ≤ k ∧ k ≤ 6) (hi : 0 ≤ i ∧ i ≤ 1000000) :
    idxS xs (n + 1) k i = if (k = 0 ∧ y.w = i) ∨ ((k = 4 ∨ k = 5) ∧ y.k = k ∧ y.i = i) then (n : Int) else idxS xs n k i := by
  unfold idxS
  by_cases c0 : k = 0
  · subst c0
    rw [if_pos rfl, if_pos rfl, lastI, hy]
    have hh : hitE y (-1) 0 i = decide (y.w = i) := by
      unfold hitE
      simp
      omega
    rw [hh]
    by_cases c : y.w = i
    · rw [if_pos (decide_eq_true c), if_pos (.inl ⟨rfl, c⟩)]
    · rw [if_neg (by simp [c]), if_neg (by rintro (h | h) <;> omega)]
  · rw [if_neg c0, if_neg c0]
    by_cases c4 : k = 4 ∨ k = 5
    · rw [if_pos c4, if_pos c4, lastI, hy]
      have hh : hitE y k i (-1) = (decide (y.k = k) && decide (y.i = i)) := by
        unfold hitE
        have : ¬ k < 0 := by omega
        simp [this]
      rw [hh]
      by_cases c : y.k = k ∧ y.i = i
      · rw [if_pos (by simp [c]), if_pos (.inr ⟨c4, c⟩)]
      · have h1 : ¬ ((k = 0 ∧ y.w = i) ∨ ((k = 4 ∨ k = 5) ∧ y.k = k ∧ y.i = i)) := fun h => by
          rcases h with h | h
          · exact c0 h.1
          · exact c h.2
        rw [if_neg (by simpa using c), if_neg h1]
    · have h1 : ¬ ((k = 0 ∧ y.w = i) ∨ ((k = 4 ∨ k = 5) ∧ y.k = k ∧ y.i = i)) := fun h => by
        rcases h with h | h
        · exact c0 h.1
        · exact c4 h.1
      rw [if_neg c4, if_neg c4, if_neg h1]
theorem fsrc_next {xs : List Evt} {us : List Value} {n : Nat} {y : Evt} {u : Value} (hy : xs.getD n default = y) (hl : us.length = n) {k i : Int} (hk : 0 ≤ k ∧ k ≤ 6) (hi : 0 ≤ i ∧ i ≤ 1000000) :
    fsrc xs (us ++ [u]) (n + 1) k i = nextF (fsrc xs us n) y u k i := by
  have hlt := idxS_lt xs n k i
  have hold : (if 0 ≤ idxS xs n k i then some ((us ++ [u]).getD (idxS xs n k i).toNat undef) else none) = fsrc xs us n k i := by
    unfold fsrc
    by_cases c : 0 ≤ idxS xs n k i
    · rw [if_pos c, if_pos c, List.getD_eq_getElem?_getD, List.getElem?_append_left (by omega), ← List.getD_eq_getElem?_getD]
    · rw [if_neg c, if_neg c]
  have hnew : (if (0 : Int) ≤ (n : Int) then some ((us ++ [u]).getD ((n : Int)).toNat undef) else none) = some u := by
    rw [if_pos (by omega), Int.toNat_natCast, List.getD_eq_getElem?_getD, List.getElem?_append_right (by omega), hl]
    simp
  unfold fsrc
  rw [idxS_succ hy hk hi]
  by_cases c : (k = 0 ∧ y.w = i) ∨ ((k = 4 ∨ k = 5) ∧ y.k = k ∧ y.i = i)
  · rw [if_pos c, hnew]
    unfold nextF
    rcases c with ⟨rfl, rfl⟩ | ⟨c4, rfl, rfl⟩
    · split
      · unfold putF
        split
        · rfl
        · rw [if_pos ⟨rfl, rfl⟩]
      · unfold putF
        rw [if_pos ⟨rfl, rfl⟩]
    · rw [if_pos c4]
      unfold putF
      rw [if_pos ⟨rfl, rfl⟩]
  · rw [if_neg c, hold]
    unfold nextF
    have h0 : ¬ (k = 0 ∧ i = y.w) := fun h => c (.inl ⟨h.1, h.2.symm⟩)
    split
    · rename_i c4
      unfold putF
      rw [if_neg (fun h => c (.inr ⟨by rw [h.1]; exact c4, h.1.symm, h.2.symm⟩)), if_neg h0]
      rfl
    · unfold putF
      rw [if_neg h0]
      rfl
theorem foldJ_good {xs : List Evt} : ∀ {cs : List (List Smp)} {a : List Smp}, GoodC xs a → (∀ c ∈ cs, GoodC xs c) → GoodC xs (cs.foldl joinK a)
  | [], _, h, _ => h
  | c :: cs, a, h, hc => foldJ_good (cs := cs) (h.join (hc c (by simp))) (fun d hd => hc d (by simp [hd]))
theorem aheadC_all {P : List Smp → Prop} {b : Bool} {fc : Int → Int → List Smp} {y : Evt} (hy : evAt y = true) (h : ∀ k i, (0 ≤ k ∧ k ≤ 6) → (0 ≤ i ∧ i ≤ 1000000) → P (fc k i)) : ∀ c ∈ aheadC b fc y, P c := by
  obtain ⟨h1, h2, h3⟩ := evAt_in hy
  intro c hc
  unfold aheadC at hc
  rcases List.mem_cons.1 hc with rfl | hc
  · exact h _ _ (by omega) (by omega)
  · rcases List.mem_append.1 hc with hc | hc
    · split at hc
      · cases hc
      · rcases List.mem_singleton.1 hc with rfl
        exact h _ _ (by omega) (by omega)
    · split at hc
      · rcases List.mem_singleton.1 hc with rfl
        exact h _ _ (by omega) (by omega)
      · split at hc
        · rcases List.mem_singleton.1 hc with rfl
          exact h _ _ (by omega) (by omega)
        · cases hc
end Go.Proofs.Ytbanifnfkabelaa
