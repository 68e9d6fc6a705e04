/-
  Joined: ClcK, ClcU.
-/
import Derived.Test.YtllghgcancennaaJ10
import Derived.Test.YtllghgcancennaaJ14
import Derived.Maps.OwnSet
import Derived.Maps.OwnIn
import Derived.DeepKeys4
import Derived.Test.YtllghgcancennaaJ11
import Derived.Maps.RangeWalk
/-
  What is known, a map of clocks by their sources: looked up, put, carried.
-/
namespace Go.Proofs.Ytllghgcancennaa
open Go.RowKit Go.Maps

theorem srcLaid : laidOutB Try.prog = true := by kernel_rfl
theorem srcRow : (89 : TypeId) < Try.prog.types.size := of_decide_eq_true (by kernel_rfl)
theorem srcWide : (match Try.prog.underlying 89 with | some (.array _ _) | some (.struct _) => true | _ => false) = true := by rw [Try.underlying89]
theorem srcKeyed : Keyed Try.prog 89 := Keyed.of_law (deep_law_laid srcLaid (m := 2) (by omega) srcRow (by kernel_rfl) srcWide)
def srcV (k i : Int) : Value := .agg #[.int .i64 k, .int .i64 i]
def srcK (k i : Int) : Lit := .string (keyBytes [.int .i64 k, .int .i64 i])
theorem srcKey (k i : Int) (hk : -9223372036854775808 ≤ k ∧ k ≤ 9223372036854775807) (hi : -9223372036854775808 ≤ i ∧ i ≤ 9223372036854775807) : keyOf Try.prog 89 (srcV k i) = some (srcK k i) := by
  have h1 : Try.prog.keyType 89 = true := by kernel_rfl
  have c2 : Try.prog.cellsOf 89 = 2 := by kernel_rfl
  have c1 : Try.prog.cellsOf 3 = 1 := by kernel_rfl
  have w1 : (Lit.int .i64 k).wf = true := WalkArith.wf_i64 hk
  have w2 : (Lit.int .i64 i).wf = true := WalkArith.wf_i64 hi
  have hf : (srcV k i).formed Try.prog 89 = true := by simp [srcV, Value.formed, Try.underlying89, c2]
  have hs : ∃ m, Try.prog.types.size = m + 1 := ⟨Try.prog.types.size - 1, by have : 0 < Try.prog.types.size := of_decide_eq_true (by kernel_rfl); omega⟩
  obtain ⟨m, hm⟩ := hs
  have hi1 : ∀ n, Try.prog.keyLits (m + 1) 3 [.int .i64 n] = if (Lit.int .i64 n).wf = true then some [.int .i64 n] else none := fun n => by
    unfold Program.keyLits
    simp [Try.underlying3]
  unfold keyOf
  rw [Try.underlying89]
  simp only [h1, hf, Bool.and_self, if_true]
  rw [hm]
  unfold Program.keyLits
  simp [Try.underlying89, srcV, Value.cells, c2, c1, hi1, w1, w2, srcK]
theorem srcK_ne {k i k' i' : Int} (hk : -9223372036854775808 ≤ k ∧ k ≤ 9223372036854775807) (hi : -9223372036854775808 ≤ i ∧ i ≤ 9223372036854775807) (hk' : -9223372036854775808 ≤ k' ∧ k' ≤ 9223372036854775807) (hi' : -9223372036854775808 ≤ i' ∧ i' ≤ 9223372036854775807) (h : ¬ (k' = k ∧ i' = i)) : srcK k' i' ≠ srcK k i := fun e => by
  have h1 := srcKey k i hk hi
  have h2 := srcKey k' i' hk' hi'
  rw [e] at h2
  have h3 := srcKeyed.inj h2 h1
  unfold srcV at h3
  injection h3 with h4
  simp at h4
  exact h h4

/-- A slice's value, as it reads. -/
def clR (v : Value) : Option (DataW Unit × List MemPlace) :=
  match v with
  | .slice none n c => some (.agg [.lit (.int .i64 n), .lit (.int .i64 c)], [])
  | .slice (some ⟨b, o, none⟩) n c => some (.agg [.lit (.int .i64 b), .lit (.int .i64 o), .lit (.int .i64 n), .lit (.int .i64 c)], [])
  | _ => none
theorem clR_inj {v u : Value} {z z' : DataW Unit × List MemPlace} (h : clR v = some z) (h' : clR u = some z') (e : z.1 = z'.1) : v = u := by
  unfold clR at h h'
  split at h
  · cases h
    split at h'
    · cases h'
      simp at e
      obtain ⟨e1, e2⟩ := e
      rw [Int.ofNat_inj.1 e1, Int.ofNat_inj.1 e2]
    · cases h'
      simp at e
    · cases h'
  · cases h
    split at h'
    · cases h'
      simp at e
    · cases h'
      simp at e
      obtain ⟨e1, e2, e3, e4⟩ := e
      rw [Int.ofNat_inj.1 e1, Int.ofNat_inj.1 e2, Int.ofNat_inj.1 e3, Int.ofNat_inj.1 e4]
    · cases h'
  · cases h
theorem clR_places {v : Value} {z : DataW Unit × List MemPlace} (h : clR v = some z) : z.2 = [] := by
  unfold clR at h
  split at h
  · cases h; rfl
  · cases h; rfl
  · cases h
theorem clR_nil : clR (.slice none 0 0) = some (.agg [.lit (.int .i64 0), .lit (.int .i64 0)], []) := rfl
theorem clR_own {w : World} {b hi : Nat} {T : TypeId} {k n : Nat} {cs : List Dt} {v : Value} (h : OwnD w b hi (.row T k n cs) v) : ∃ d, clR v = some (d, []) := by
  obtain ⟨F, h1, _, _⟩ := h
  unfold Owns at h1
  obtain ⟨us, G, h2, _, _⟩ := h1
  rcases h2.2 with ⟨rfl, _⟩ | ⟨g, cap, cur, rfl, _⟩
  · exact ⟨_, rfl⟩
  · exact ⟨_, rfl⟩
/-- Block g is what is known: at the source (k, i) the value f k i, if there is one. -/
def KnM (w : World) (g n : Nat) (f : Int → Int → Option Value) : Prop :=
  ∃ D, w.ownsMap Try.prog 89 clR g n D ∧ ∀ k i, (0 ≤ k ∧ k ≤ 6) → (0 ≤ i ∧ i ≤ 1000000) →
    (f k i = none → Maps.has D (srcK k i) = false ∧ ∀ z, D.atKey (srcK k i) z = z) ∧ ∀ u, f k i = some u → Maps.has D (srcK k i) = true ∧ ∃ d, clR u = some (d, []) ∧ ∀ z, D.atKey (srcK k i) z = d
theorem KnM.lt {w : World} {g n : Nat} {f : Int → Int → Option Value} (h : KnM w g n f) : g < w.heap.size := World.ownsMap.lt h.choose_spec.1
theorem KnM.below {w w' : World} {g n : Nat} {f : Int → Int → Option Value} (h : KnM w g n f) (hb : Below w.heap.size w w') : KnM w' g n f := by
  have hl := h.lt
  obtain ⟨D, ⟨es, clock, h1, r⟩, h2⟩ := h
  exact ⟨D, ⟨es, clock, (hb.block g hl).trans h1, r⟩, h2⟩
theorem KnM.grown {w w' : World} {g n : Nat} {f : Int → Int → Option Value} {own : Option Nat} (h : KnM w g n f) (hb : w.grownBy w' own) (hne : own ≠ some g) : KnM w' g n f := by
  have hl := h.lt
  obtain ⟨D, ⟨es, clock, h1, r⟩, h2⟩ := h
  exact ⟨D, ⟨es, clock, (hb.block g hl (Ne.symm hne)).trans h1, r⟩, h2⟩
theorem KnM.congr {w : World} {g n : Nat} {f f' : Int → Int → Option Value} (h : KnM w g n f) (e : ∀ k i, (0 ≤ k ∧ k ≤ 6) → (0 ≤ i ∧ i ≤ 1000000) → f' k i = f k i) : KnM w g n f' := by
  obtain ⟨D, h1, h2⟩ := h
  refine ⟨D, h1, fun k i hk hi => ?_⟩
  rw [e k i hk hi]
  exact h2 k i hk hi
theorem zeroCl (w : World) : (zeroValue 44).run Try.prog w = .ok (.slice none 0 0) w := by kernel_rfl
theorem KnM.made (w : World) : KnM (w.alloc (.map #[] 0)) w.heap.size 0 (fun _ _ => none) :=
  ⟨.map [], World.ownsMap_made w _ _ _, fun k i _ _ => ⟨fun _ => ⟨rfl, fun z => rfl⟩, fun u h => by cases h⟩⟩
theorem KnM.lookB {w : World} {g n : Nat} {f : Int → Int → Option Value} (h : KnM w g n f) {k i : Int} (hk : 0 ≤ k ∧ k ≤ 6) (hi : 0 ≤ i ∧ i ≤ 1000000) :
    (Instr.lookup 56 (.map (some g)) (srcV k i) true).run Try.prog w = .ok (.tuple #[(f k i).getD (.slice none 0 0), .bool (f k i).isSome]) w := by
  obtain ⟨D, h1, h2⟩ := h
  obtain ⟨v, ps, hrun, hv⟩ := World.ownsMap.look_ok h1 srcKeyed Try.underlying56 (zeroCl w) clR_nil (srcKey k i (by omega) (by omega))
  have h3 := h2 k i hk hi
  cases hf : f k i with
  | none =>
    obtain ⟨e1, e2⟩ := h3.1 hf
    rw [e2] at hv
    have := clR_inj hv clR_nil rfl
    subst this
    rw [hrun, e1]
    rfl
  | some u =>
    obtain ⟨e1, d, e2, e3⟩ := h3.2 u hf
    rw [e3] at hv
    have := clR_inj hv e2 rfl
    subst this
    rw [hrun, e1]
    rfl
theorem KnM.look {w : World} {g n : Nat} {f : Int → Int → Option Value} (h : KnM w g n f) {k i : Int} (hk : 0 ≤ k ∧ k ≤ 6) (hi : 0 ≤ i ∧ i ≤ 1000000) :
    (Instr.lookup 56 (.map (some g)) (srcV k i) false).run Try.prog w = .ok ((f k i).getD (.slice none 0 0)) w := by
  obtain ⟨D, h1, h2⟩ := h
  obtain ⟨v, ps, hrun, hv⟩ := World.ownsMap.lookup h1 srcKeyed Try.underlying56 (zeroCl w) clR_nil (srcKey k i (by omega) (by omega))
  have h3 := h2 k i hk hi
  cases hf : f k i with
  | none =>
    obtain ⟨e1, e2⟩ := h3.1 hf
    rw [e2] at hv
    have := clR_inj hv clR_nil rfl
    subst this
    exact hrun
  | some u =>
    obtain ⟨e1, d, e2, e3⟩ := h3.2 u hf
    rw [e3] at hv
    have := clR_inj hv e2 rfl
    subst this
    exact hrun
def putF (f : Int → Int → Option Value) (k i : Int) (u : Value) : Int → Int → Option Value := fun k' i' => if k' = k ∧ i' = i then some u else f k' i'
theorem KnM.put {w : World} {g n : Nat} {f : Int → Int → Option Value} (h : KnM w g n f) (hn : n < maxLen) {k i : Int} (hk : 0 ≤ k ∧ k ≤ 6) (hi : 0 ≤ i ∧ i ≤ 1000000) {u : Value} {d : DataW Unit} (hu : clR u = some (d, [])) :
    ∃ w', (Instr.mapUpdate 56 (.map (some g)) (srcV k i) u).run Try.prog w = .ok () w' ∧ KnM w' g (n + 1) (putF f k i u) ∧ w.grownBy w' (some g) := by
  obtain ⟨D, h1, h2⟩ := h
  have hkey := srcKey k i (by omega) (by omega)
  obtain ⟨w', hrun, r1, r2⟩ := h1.update srcKeyed Try.underlying56 hn hkey hu
  refine ⟨w', hrun, ⟨_, r1, fun k' i' hk' hi' => ?_⟩, r2⟩
  unfold putF
  by_cases he : k' = k ∧ i' = i
  · rw [if_pos he, he.1, he.2]
    refine ⟨fun h => (by cases h), fun v hv => ?_⟩
    cases hv
    exact ⟨has_put_same h1.isMap (srcKeyed.key hkey) _, d, hu, fun z => atKey_put_same h1.isMap (srcKeyed.key hkey) _ _⟩
  · rw [if_neg he]
    have hne := srcK_ne (k := k) (i := i) (k' := k') (i' := i') (by omega) (by omega) (by omega) (by omega) he
    have h3 := h2 k' i' hk' hi'
    refine ⟨fun h => ?_, fun v hv => ?_⟩
    · obtain ⟨e1, e2⟩ := h3.1 h
      exact ⟨by rw [has_put_other hne]; exact e1, fun z => by rw [atKey_put_other hne]; exact e2 z⟩
    · obtain ⟨e1, d', e2, e3⟩ := h3.2 v hv
      exact ⟨by rw [has_put_other hne]; exact e1, d', e2, fun z => by rw [atKey_put_other hne]; exact e3 z⟩
section
variable {w : World} {ops : Array Oper} {rest : List Oper} {o : Oper} {a : Act} {Q : Exit → Act → World → Prop}
theorem wp_known (hg : o.guard = none) (m x v : Operand) (hop : o.op = Op.mapUpdate 56 m x v) (b n : Nat) (f : Int → Int → Option Value) (hm : a.eval m = .map (some b)) (hown : KnM w b n f) (hn : n < maxLen)
    (k i : Int) (hk : 0 ≤ k ∧ k ≤ 6) (hi : 0 ≤ i ∧ i ≤ 1000000) (hx : a.eval x = srcV k i) (u : Value) (d : DataW Unit) (hu : clR u = some (d, [])) (hv : a.eval v = u)
    (hK : ∀ w', KnM w' b (n + 1) (putF f k i u) → w.grownBy w' (some b) → wpList Try.prog ops Q rest (a.put o.dst undef) w') :
    wpList Try.prog ops Q (o :: rest) a w := by
  refine wpList_plain hg fun K' hK' => ?_
  obtain ⟨w', hrun, r1, r2⟩ := hown.put hn hk hi hu
  unfold Oper.wp
  simp [execOp, hop, hm, hx, hv, hrun, Result.andThen]
  exact hK' _ _ (hK w' r1 r2)
end
end Go.Proofs.Ytllghgcancennaa
/-
  Maps of accesses by events, and of such maps by fields.
-/
namespace Go.Proofs.Ytllghgcancennaa
open Go.RowKit Go.Maps

def evV (y : Evt) : Value := .agg #[.int .i64 y.w, .int .i64 y.k, .int .i64 y.i, .int .i64 y.a]
def evK (y : Evt) : Lit := .string (keyBytes [.int .i64 y.w, .int .i64 y.k, .int .i64 y.i, .int .i64 y.a])
theorem evRow : (40 : TypeId) < Try.prog.types.size := of_decide_eq_true (by kernel_rfl)
theorem evWide : (match Try.prog.underlying 40 with | some (.array _ _) | some (.struct _) => true | _ => false) = true := by rw [Try.underlying40]
theorem evKeyed : Keyed Try.prog 40 := Keyed.of_law (deep_law_laid srcLaid (m := 2) (by omega) evRow (by kernel_rfl) evWide)
theorem evKey (y : Evt) (h : EvtR y) : keyOf Try.prog 40 (Value.agg #[.int .i64 y.w, .int .i64 y.k, .int .i64 y.i, .int .i64 y.a]) = some (.string (keyBytes [.int .i64 y.w, .int .i64 y.k, .int .i64 y.i, .int .i64 y.a])) := by
  have h1 : Try.prog.keyType 40 = true := by kernel_rfl
  have c2 : Try.prog.cellsOf 40 = 4 := by kernel_rfl
  have c1 : Try.prog.cellsOf 3 = 1 := by kernel_rfl
  have w1 : (Lit.int .i64 y.w).wf = true := WalkArith.wf_i64 h.w
  have w2 : (Lit.int .i64 y.k).wf = true := WalkArith.wf_i64 h.k
  have w3 : (Lit.int .i64 y.i).wf = true := WalkArith.wf_i64 h.i
  have w4 : (Lit.int .i64 y.a).wf = true := WalkArith.wf_i64 h.a
  have hf : (Value.agg #[.int .i64 y.w, .int .i64 y.k, .int .i64 y.i, .int .i64 y.a]).formed Try.prog 40 = true := by simp [Value.formed, Try.underlying40, c2]
  have hs : ∃ m, Try.prog.types.size = m + 1 := ⟨Try.prog.types.size - 1, by have : 0 < Try.prog.types.size := of_decide_eq_true (by kernel_rfl); omega⟩
  obtain ⟨m, hm⟩ := hs
  have hi1 : ∀ n, Try.prog.keyLits (m + 1) 3 [.int .i64 n] = if (Lit.int .i64 n).wf = true then some [.int .i64 n] else none := fun n => by
    unfold Program.keyLits
    simp [Try.underlying3]
  unfold keyOf
  rw [Try.underlying40]
  simp only [h1, hf, Bool.and_self, if_true]
  rw [hm]
  unfold Program.keyLits
  simp [Try.underlying40, Value.cells, c2, c1, hi1, w1, w2, w3, w4]
theorem evKey_inv {v : Value} {kl : Lit} (h : keyOf Try.prog 40 v = some kl) : ∃ y, v = evV y ∧ EvtR y ∧ kl = evK y := by
  have c2 : Try.prog.cellsOf 40 = 4 := by kernel_rfl
  have c1 : Try.prog.cellsOf 3 = 1 := by kernel_rfl
  have hs : ∃ m, Try.prog.types.size = m + 1 := ⟨Try.prog.types.size - 1, by have : 0 < Try.prog.types.size := of_decide_eq_true (by kernel_rfl); omega⟩
  obtain ⟨m, hm⟩ := hs
  have hint : ∀ cs l, Try.prog.keyLits (m + 1) 3 cs = some l → ∃ n, cs = [.int .i64 n] ∧ l = [.int .i64 n] ∧ (-9223372036854775808 ≤ n ∧ n ≤ 9223372036854775807) := fun cs l hl => by
    obtain ⟨n, rfl, rfl⟩ := keyLits_int' Try.underlying3 hl
    refine ⟨n, rfl, rfl, ?_⟩
    unfold Program.keyLits at hl
    simp [Try.underlying3] at hl
    simp [Lit.wf, IntKind.min, IntKind.max, IntKind.signed, IntKind.bits] at hl
    omega
  unfold keyOf at h
  rw [Try.underlying40] at h
  simp only at h
  split at h
  · rename_i hf
    rw [Bool.and_eq_true] at hf
    have hf2 := hf.2
    cases v with
    | agg cs =>
      simp only [Value.formed, Try.underlying40, c2, beq_iff_eq] at hf2
      obtain ⟨l⟩ := cs
      match l, hf2 with
      | [v0, v1, v2, v3], _ =>
        rw [hm] at h
        unfold Program.keyLits at h
        simp [Try.underlying40, Value.cells, c2, c1] at h
        cases h0 : Try.prog.keyLits (m + 1) 3 [v0] with
        | none => simp [h0] at h
        | some l0 =>
        cases h1 : Try.prog.keyLits (m + 1) 3 [v1] with
        | none => simp [h0, h1] at h
        | some l1 =>
        cases h2 : Try.prog.keyLits (m + 1) 3 [v2] with
        | none => simp [h0, h1, h2] at h
        | some l2 =>
        cases h3 : Try.prog.keyLits (m + 1) 3 [v3] with
        | none => simp [h0, h1, h2, h3] at h
        | some l3 =>
        obtain ⟨n0, e0, r0, b0⟩ := hint _ _ h0
        obtain ⟨n1, e1, r1, b1⟩ := hint _ _ h1
        obtain ⟨n2, e2, r2, b2⟩ := hint _ _ h2
        obtain ⟨n3, e3, r3, b3⟩ := hint _ _ h3
        simp [h0, h1, h2, h3] at h
        simp at e0 e1 e2 e3
        subst e0 e1 e2 e3 r0 r1 r2 r3
        subst h
        exact ⟨⟨n0, n1, n2, n3⟩, rfl, ⟨b0, b1, b2, b3⟩, rfl⟩
    | _ => simp [Value.formed, Try.underlying40] at hf2
  · cases h
end Go.Proofs.Ytllghgcancennaa
