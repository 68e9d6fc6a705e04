/-
  The parts of a const, as a map by their places: what is put, struck, looked up and gone through.
-/
import Derived.Test.YthagfdcfpffaoaaNameW
import Derived.Test.YthagfdcfpffaoaaConstS
import Derived.Test.YthagfdcfpffaoaaLow
import Derived.Maps.OwnSet
import Derived.Maps.RangeWalk
namespace Go.Proofs.Ythagfdcfpffaoaa
open Go.RowKit Go.Maps

/-- A part of a const, as it reads. -/
def dPart (n : Int) (s : ByteArray) : DataW Unit := .agg [.lit (.int .i64 n), .lit (.string s.data.toList)]
def partR (v : Value) : Option (DataW Unit × List MemPlace) :=
  match v with
  | .agg cs => match cs.toList with
    | [.int .i64 n, .string s] => some (dPart n s, [])
    | _ => none
  | _ => none
/-- A part of a const, as a value. -/
def partV (x : Int × ByteArray) : Value := .agg #[.int .i64 x.1, .string x.2]

theorem partR_mk (n : Int) (s : ByteArray) : partR (.agg #[.int .i64 n, .string s]) = some (dPart n s, []) := rfl
theorem partR_inv {v : Value} {z : DataW Unit × List MemPlace} (h : partR v = some z) : ∃ n s, v = .agg #[.int .i64 n, .string s] ∧ z = (dPart n s, []) := by
  unfold partR at h
  split at h
  · rename_i cs
    split at h
    · rename_i n s hc
      cases h
      exact ⟨n, s, by cases cs; simp_all, rfl⟩
    · cases h
  · cases h
theorem dPart_inj {n m : Int} {s t : ByteArray} (h : dPart n s = dPart m t) : n = m ∧ s = t := by
  unfold dPart at h
  simp only [DataW.agg.injEq, List.cons.injEq, DataW.lit.injEq, Lit.int.injEq, Lit.string.injEq, true_and, and_true] at h
  refine ⟨h.1, ?_⟩
  obtain ⟨⟨a⟩⟩ := s
  obtain ⟨⟨b⟩⟩ := t
  simp at h
  rw [h.2]

theorem keyI : Keyed Try.prog 3 := int_keyed Try.underlying3
theorem keyAt (k : Int) (h0 : 0 ≤ k) (h1 : k ≤ 1000) : keyOf Try.prog 3 (.int .i64 k) = some (.int .i64 k) := keyOf_int_mk Try.underlying3 (WalkArith.wf_i64 (by omega))
theorem zeroPart (w : World) : (zeroValue 97).run Try.prog w = .ok (.agg #[.int .i64 0, .string noS]) w := by kernel_rfl

/-- Block g holds the parts D. -/
def Pool (w : World) (g : Nat) (D : DataW Unit) : Prop := w.ownsMap Try.prog 3 partR g 100 D
theorem Pool.kept {w w' : World} {g : Nat} {D : DataW Unit} (h : Pool w g D) (hb : w'.heap[g]? = w.heap[g]?) : Pool w' g D := by
  obtain ⟨es, clock, h1, r⟩ := h
  exact ⟨es, clock, hb.trans h1, r⟩
theorem Pool.below {w w' : World} {g : Nat} {D : DataW Unit} (h : Pool w g D) (hb : Below w.heap.size w w') : Pool w' g D := h.kept (hb.block g (World.ownsMap.lt h))

section
variable {w : World} {ops : Array Oper} {rest : List Oper} {o : Oper} {a : Act} {Q : Exit → Act → World → Prop}

/-- A literal's entry. -/
theorem wp_insert (hg : o.guard = none) (m x v : Operand) (hop : o.op = Op.insert 94 m x v) (b n : Nat) (D : DataW Unit) (hm : a.eval m = .map (some b)) (hown : w.ownsMap Try.prog 3 partR b n D) (hn : n < 100)
    (k : Int) (hk : 0 ≤ k ∧ k ≤ 1000) (hx : a.eval x = .int .i64 k) (y : Int) (s : ByteArray) (hv : a.eval v = .agg #[.int .i64 y, .string s])
    (hK : ∀ w', w'.ownsMap Try.prog 3 partR b (n + 1) (D.put (.int .i64 k) (dPart y s)) → w.grownBy w' (some b) → wpList Try.prog ops Q rest (a.put o.dst undef) w') :
    wpList Try.prog ops Q (o :: rest) a w := by
  refine wpList_plain hg fun K' hK' => ?_
  obtain ⟨w', hrun, r1, r2⟩ := hown.update keyI Try.underlying94 (Nat.lt_of_lt_of_le hn (by unfold maxLen; omega)) (keyAt k hk.1 hk.2) (partR_mk y s)
  unfold Oper.wp
  simp [execOp, hop, hm, hx, hv, hrun, Result.andThen]
  exact hK' _ _ (hK w' r1 r2)

/-- An entry that is stored. -/
theorem wp_store (hg : o.guard = none) (m x v : Operand) (hop : o.op = Op.mapUpdate 94 m x v) (b n : Nat) (D : DataW Unit) (hm : a.eval m = .map (some b)) (hown : w.ownsMap Try.prog 3 partR b n D) (hn : n < 100)
    (k : Int) (hk : 0 ≤ k ∧ k ≤ 1000) (hx : a.eval x = .int .i64 k) (y : Int) (s : ByteArray) (hv : a.eval v = .agg #[.int .i64 y, .string s])
    (hK : ∀ w', w'.ownsMap Try.prog 3 partR b (n + 1) (D.put (.int .i64 k) (dPart y s)) → w.grownBy w' (some b) → wpList Try.prog ops Q rest (a.put o.dst undef) w') :
    wpList Try.prog ops Q (o :: rest) a w := by
  refine wpList_plain hg fun K' hK' => ?_
  obtain ⟨w', hrun, r1, r2⟩ := hown.update keyI Try.underlying94 (Nat.lt_of_lt_of_le hn (by unfold maxLen; omega)) (keyAt k hk.1 hk.2) (partR_mk y s)
  unfold Oper.wp
  simp [execOp, hop, hm, hx, hv, hrun, Result.andThen]
  exact hK' _ _ (hK w' r1 r2)
end

theorem look_run {w : World} {g : Nat} {D : DataW Unit} (h : Pool w g D) {k : Int} (hk : 0 ≤ k ∧ k ≤ 1000) {n : Int} {s : ByteArray} (hat : D.atKey (.int .i64 k) (dPart 0 noS) = dPart n s) :
    (Instr.lookup 94 (.map (some g)) (.int .i64 k) false).run Try.prog w = .ok (.agg #[.int .i64 n, .string s]) w := by
  obtain ⟨v, ps, hrun, hv⟩ := World.ownsMap.lookup h keyI Try.underlying94 (zeroPart w) (partR_mk 0 noS) (keyAt k hk.1 hk.2)
  obtain ⟨n', s', rfl, hz⟩ := partR_inv hv
  rw [hat] at hz
  obtain ⟨rfl, rfl⟩ := dPart_inj (congrArg Prod.fst hz)
  exact hrun
theorem look_ok {w : World} {g : Nat} {D : DataW Unit} (h : Pool w g D) {k : Int} (hk : 0 ≤ k ∧ k ≤ 1000) {n : Int} {s : ByteArray} (hat : D.atKey (.int .i64 k) (dPart 0 noS) = dPart n s) :
    (Instr.lookup 94 (.map (some g)) (.int .i64 k) true).run Try.prog w = .ok (.tuple #[.agg #[.int .i64 n, .string s], .bool (Maps.has D (.int .i64 k))]) w := by
  obtain ⟨v, ps, hrun, hv⟩ := World.ownsMap.look_ok h keyI Try.underlying94 (zeroPart w) (partR_mk 0 noS) (keyAt k hk.1 hk.2)
  obtain ⟨n', s', rfl, hz⟩ := partR_inv hv
  rw [hat] at hz
  obtain ⟨rfl, rfl⟩ := dPart_inj (congrArg Prod.fst hz)
  exact hrun

/-- What a kind refers to. -/
def refB (k p : Int) : Bool := if k = 1 then p == 0 else if k = 2 then p == 1 else if k = 3 ∨ k = 4 then (p == 1 || p == 2) else false
/-- The parts of a const. -/
def pD (k n : Int) (a b : ByteArray) : DataW Unit :=
  .map (if k = 1 then [(.int .i64 0, dPart n noS)] else if k = 2 then [(.int .i64 1, dPart 0 a)] else if k = 3 ∨ k = 4 then [(.int .i64 1, dPart 0 a), (.int .i64 2, dPart 0 b)] else [])
def allD (n : Int) (a b : ByteArray) : DataW Unit := .map [(.int .i64 0, dPart n noS), (.int .i64 1, dPart 0 a), (.int .i64 2, dPart 0 b)]
/-- .. while those that are not referred to are struck. -/
def stD (k n : Int) (a b : ByteArray) : Nat → DataW Unit
  | 0 => allD n a b
  | j + 1 => bif refB k j then stD k n a b j else (stD k n a b j).del (.int .i64 j)
theorem stD_end (k n : Int) (a b : ByteArray) : stD k n a b 3 = pD k n a b := by
  by_cases h1 : k = 1
  · subst h1; rfl
  · by_cases h2 : k = 2
    · subst h2; rfl
    · by_cases h3 : k = 3
      · subst h3; rfl
      · by_cases h4 : k = 4
        · subst h4; rfl
        · have hr : ∀ p, refB k p = false := fun p => by simp [refB, h1, h2, h3, h4]
          simp only [stD, hr, pD, h1, h2, h3, h4, if_false, or_self, cond_false]
          rfl
theorem allD_put (n : Int) (a b : ByteArray) : (((DataW.map []).put (.int .i64 0) (dPart n noS)).put (.int .i64 1) (dPart 0 a)).put (.int .i64 2) (dPart 0 b) = allD n a b := rfl

/-- A part is right. -/
def partB (p n : Int) (s : ByteArray) : Bool := bif p == 0 then inB n (-2147483648) 2147483647 else nameB s
end Go.Proofs.Ythagfdcfpffaoaa
