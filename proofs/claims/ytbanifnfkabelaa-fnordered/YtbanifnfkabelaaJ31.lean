/-
  Joined: ClcU, ClcF.
-/
import Derived.Test.YtbanifnfkabelaaJ18
import Derived.Test.YtbanifnfkabelaaJ22
import Derived.Maps.RangeWalk
/-
  Maps of accesses by events, and of such maps by fields.
-/
namespace Go.Proofs.Ytbanifnfkabelaa
open Go.RowKit Go.Maps

def evV (y : Evt) : Value := .agg #[.int .i64 y.w, .int .i64 y.k, .int .i64 y.i, .int .i64 y.a]
def evK (y : Evt) : Lit := .string (keyBytes [.int .i64 y.w, .int .i64 y.k, .int .i64 y.i, .int .i64 y.a])
theorem evRow : (29 : TypeId) < Try.prog.types.size := of_decide_eq_true (by kernel_rfl)
theorem evWide : (match Try.prog.underlying 29 with | some (.array _ _) | some (.struct _) => true | _ => false) = true := by rw [Try.underlying29]
theorem evKeyed : Keyed Try.prog 29 := Keyed.of_law (deep_law_laid srcLaid (m := 2) (by omega) evRow (by kernel_rfl) evWide)
theorem evKey (y : Evt) (h : EvtR y) : keyOf Try.prog 29 (Value.agg #[.int .i64 y.w, .int .i64 y.k, .int .i64 y.i, .int .i64 y.a]) = some (.string (keyBytes [.int .i64 y.w, .int .i64 y.k, .int .i64 y.i, .int .i64 y.a])) := by
  have h1 : Try.prog.keyType 29 = true := by kernel_rfl
  have c2 : Try.prog.cellsOf 29 = 4 := by kernel_rfl
  have c1 : Try.prog.cellsOf 3 = 1 := by kernel_rfl
  have w1 : (Lit.int .i64 y.w).wf = true := WalkArith.wf_i64 h.w
  have w2 : (Lit.int .i64 y.k).wf = true := WalkArith.wf_i64 h.k
  have w3 : (Lit.int .i64 y.i).wf = true := WalkArith.wf_i64 h.i
  have w4 : (Lit.int .i64 y.a).wf = true := WalkArith.wf_i64 h.a
  have hf : (Value.agg #[.int .i64 y.w, .int .i64 y.k, .int .i64 y.i, .int .i64 y.a]).formed Try.prog 29 = true := by simp [Value.formed, Try.underlying29, c2]
  have hs : ∃ m, Try.prog.types.size = m + 1 := ⟨Try.prog.types.size - 1, by have : 0 < Try.prog.types.size := of_decide_eq_true (by kernel_rfl); omega⟩
  obtain ⟨m, hm⟩ := hs
  have hi1 : ∀ n, Try.prog.keyLits (m + 1) 3 [.int .i64 n] = if (Lit.int .i64 n).wf = true then some [.int .i64 n] else none := fun n => by
    unfold Program.keyLits
    simp [Try.underlying3]
  unfold keyOf
  rw [Try.underlying29]
  simp only [h1, hf, Bool.and_self, if_true]
  rw [hm]
  unfold Program.keyLits
  simp [Try.underlying29, Value.cells, c2, c1, hi1, w1, w2, w3, w4]
theorem evKey_inv {v : Value} {kl : Lit} (h : keyOf Try.prog 29 v = some kl) : ∃ y, v = evV y ∧ EvtR y ∧ kl = evK y := by
  have c2 : Try.prog.cellsOf 29 = 4 := by kernel_rfl
  have c1 : Try.prog.cellsOf 3 = 1 := by kernel_rfl
  have hs : ∃ m, Try.prog.types.size = m + 1 := ⟨Try.prog.types.size - 1, by have : 0 < Try.prog.types.size := of_decide_eq_true (by kernel_rfl); omega⟩
  obtain ⟨m, hm⟩ := hs
  have hint : ∀ cs l, Try.prog.keyLits (m + 1) 3 cs = some l → ∃ n, cs = [.int .i64 n] ∧ l = [.int .i64 n] ∧ (-9223372036854775808 ≤ n ∧ n ≤ 9223372036854775807) := fun cs l hl => by
    obtain ⟨n, rfl, rfl⟩ := keyLits_int' Try.underlying3 hl
    refine ⟨n, rfl, rfl, ?_⟩
    unfold Program.keyLits at hl
    simp [Try.underlying3] at hl
    simp [Lit.wf, IntKind.min, IntKind.max, IntKind.signed, IntKind.bits] at hl
    omega
  unfold keyOf at h
  rw [Try.underlying29] at h
  simp only at h
  split at h
  · rename_i hf
    rw [Bool.and_eq_true] at hf
    have hf2 := hf.2
    cases v with
    | agg cs =>
      simp only [Value.formed, Try.underlying29, c2, beq_iff_eq] at hf2
      obtain ⟨l⟩ := cs
      match l, hf2 with
      | [v0, v1, v2, v3], _ =>
        rw [hm] at h
        unfold Program.keyLits at h
        simp [Try.underlying29, Value.cells, c2, c1] at h
        cases h0 : Try.prog.keyLits (m + 1) 3 [v0] with
        | none => simp [h0] at h
        | some l0 =>
        cases h1 : Try.prog.keyLits (m + 1) 3 [v1] with
        | none => simp [h0, h1] at h
        | some l1 =>
        cases h2 : Try.prog.keyLits (m + 1) 3 [v2] with
        | none => simp [h0, h1, h2] at h
        | some l2 =>
        cases h3 : Try.prog.keyLits (m + 1) 3 [v3] with
        | none => simp [h0, h1, h2, h3] at h
        | some l3 =>
        obtain ⟨n0, e0, r0, b0⟩ := hint _ _ h0
        obtain ⟨n1, e1, r1, b1⟩ := hint _ _ h1
        obtain ⟨n2, e2, r2, b2⟩ := hint _ _ h2
        obtain ⟨n3, e3, r3, b3⟩ := hint _ _ h3
        simp [h0, h1, h2, h3] at h
        simp at e0 e1 e2 e3
        subst e0 e1 e2 e3 r0 r1 r2 r3
        subst h
        exact ⟨⟨n0, n1, n2, n3⟩, rfl, ⟨b0, b1, b2, b3⟩, rfl⟩
    | _ => simp [Value.formed, Try.underlying29] at hf2
  · cases h
end Go.Proofs.Ytbanifnfkabelaa
/-
  What is kept of accesses: maps by events, and fields with such maps.
-/
namespace Go.Proofs.Ytbanifnfkabelaa
open Go.RowKit Go.Maps
open Go.MapKept (heap_set stamped_empty)

theorem evK_ne {y x : Evt} (hy : EvtR y) (hx : EvtR x) (h : x ≠ y) : evK x ≠ evK y := fun e => by
  have h1 := evKey y hy
  have h2 := evKey x hx
  unfold evK at e
  rw [e] at h2
  have h3 := evKeyed.inj h2 h1
  injection h3 with h4
  simp at h4
  obtain ⟨a, b, c, d⟩ := h4
  exact h (by cases x; cases y; simp_all)
theorem plainI (c : Int) (hc : -9223372036854775808 ≤ c ∧ c ≤ 9223372036854775807) : plainElem (H := Unit) Try.prog 3 (.int .i64 c) = some (.lit (.int .i64 c), []) := plainElem_int Try.underlying3 (WalkArith.wf_i64 hc)
/-- Block b has of each event that is kept what A says. -/
def AccM (w : World) (b n : Nat) (A : Evt → Option Int) : Prop :=
  ∃ D : DataW Unit, w.ownsMap Try.prog 29 (plainElem Try.prog 3) b n D ∧ ∀ y, EvtR y →
    (A y = none → Maps.has D (evK y) = false ∧ ∀ z, D.atKey (evK y) z = z) ∧ ∀ c, A y = some c → Maps.has D (evK y) = true ∧ ∀ z, D.atKey (evK y) z = .lit (.int .i64 c)
theorem AccM.lt {w : World} {b n : Nat} {A : Evt → Option Int} (h : AccM w b n A) : b < w.heap.size := World.ownsMap.lt h.choose_spec.1
theorem AccM.kept {w w' : World} {b n : Nat} {A : Evt → Option Int} (h : AccM w b n A) (hb : w'.heap[b]? = w.heap[b]?) : AccM w' b n A := by
  obtain ⟨D, ⟨es, clock, h1, r⟩, h2⟩ := h
  exact ⟨D, ⟨es, clock, hb.trans h1, r⟩, h2⟩
theorem AccM.below {w w' : World} {b n : Nat} {A : Evt → Option Int} (h : AccM w b n A) (hb : Below w.heap.size w w') : AccM w' b n A := h.kept (hb.block b h.lt)
theorem AccM.grown {w w' : World} {b n g : Nat} {A : Evt → Option Int} (h : AccM w b n A) (hb : w.grownBy w' (some g)) (hne : b ≠ g) : AccM w' b n A := h.kept (hb.block b h.lt (fun e => by injection e with e; exact hne e))
theorem AccM.mono {w : World} {b n m : Nat} {A : Evt → Option Int} (h : AccM w b n A) (hm : n ≤ m) : AccM w b m A := by
  obtain ⟨D, h1, h2⟩ := h
  exact ⟨D, h1.mono hm, h2⟩
theorem AccM.congr {w : World} {b n : Nat} {A A' : Evt → Option Int} (h : AccM w b n A) (e : ∀ y, A' y = A y) : AccM w b n A' := by
  have : A' = A := funext e
  rw [this]
  exact h
theorem AccM.made (w : World) : AccM (w.alloc (.map #[] 0)) w.heap.size 0 (fun _ => none) :=
  ⟨.map [], World.ownsMap_made w _ _ _, fun y _ => ⟨fun _ => ⟨rfl, fun z => rfl⟩, fun c h => by cases h⟩⟩
def accPut (A : Evt → Option Int) (y : Evt) (c : Int) (a : Evt) : Option Int := if a = y then some c else A a
theorem AccM.put {w : World} {b n : Nat} {A : Evt → Option Int} (h : AccM w b n A) (hn : n < maxLen) {y : Evt} (hy : EvtR y) {c : Int} (hc : -9223372036854775808 ≤ c ∧ c ≤ 9223372036854775807) :
    ∃ w', (Instr.mapUpdate 47 (.map (some b)) (evV y) (.int .i64 c)).run Try.prog w = .ok () w' ∧ AccM w' b (n + 1) (accPut A y c) ∧ w.grownBy w' (some b) := by
  obtain ⟨D, h1, h2⟩ := h
  have hkey := evKey y hy
  obtain ⟨w', hrun, r1, r2⟩ := h1.update evKeyed Try.underlying47 hn hkey (plainI c hc)
  refine ⟨w', hrun, ⟨_, r1, fun x hx => ?_⟩, r2⟩
  unfold accPut
  by_cases he : x = y
  · subst he
    rw [if_pos rfl]
    refine ⟨fun h => (by cases h), fun v hv => ?_⟩
    cases hv
    exact ⟨has_put_same h1.isMap (evKeyed.key hkey) _, fun z => atKey_put_same h1.isMap (evKeyed.key hkey) _ _⟩
  · rw [if_neg he]
    have hne := evK_ne hy hx he
    have h3 := h2 x hx
    refine ⟨fun h => ?_, fun v hv => ?_⟩
    · obtain ⟨e1, e2⟩ := h3.1 h
      exact ⟨(has_put_other hne _).trans e1, fun z => (atKey_put_other hne _ _).trans (e2 z)⟩
    · obtain ⟨e1, e2⟩ := h3.2 v hv
      exact ⟨(has_put_other hne _).trans e1, fun z => (atKey_put_other hne _ _).trans (e2 z)⟩
theorem AccM.clear {w : World} {b n : Nat} {A : Evt → Option Int} (h : AccM w b n A) :
    ∃ w', (∀ ty, (Builtin.clear_ #[47] ty #[.map (some b)]).run Try.prog w = .ok (.tuple #[]) w') ∧ AccM w' b 0 (fun _ => none) ∧ w.grownBy w' (some b) := by
  obtain ⟨D, ⟨es, clock, hb, F, hs, hD⟩, h2⟩ := h
  have hset := heap_set (o' := .map #[] clock) hb
  refine ⟨{ w with heap := w.heap.setIfInBounds b (.map #[] clock) }, fun ty => ?_, ⟨.map [], ⟨#[], clock, hset.1, ⟨by simp, stamped_empty clock, by simp⟩, by simp, rfl⟩, fun y _ => ⟨fun _ => ⟨rfl, fun z => rfl⟩, fun c h => by cases h⟩⟩, ⟨rfl, rfl, rfl, by simp, fun k _ hk => hset.2 k (fun e => hk (by rw [e]))⟩⟩
  simp [Builtin.clear_, run_underlying Try.underlying47, Go.MapKept.run_getObj_map hb, Go.MapKept.run_setObj_map _ hb, Result.andThen]
def mpR (v : Value) : Option (DataW Unit × List MemPlace) :=
  match v with
  | .map none => some (.agg [], [])
  | .map (some b) => some (.agg [.lit (.int .i64 b)], [])
  | _ => none
theorem mpR_inj {v u : Value} {z z' : DataW Unit × List MemPlace} (h : mpR v = some z) (h' : mpR u = some z') (e : z.1 = z'.1) : v = u := by
  unfold mpR at h h'
  split at h
  · cases h
    split at h'
    · rfl
    · cases h'
      simp at e
    · cases h'
  · cases h
    split at h'
    · cases h'
      simp at e
    · cases h'
      simp at e
      rw [Int.ofNat_inj.1 e]
    · cases h'
  · cases h
theorem spRow : (50 : TypeId) < Try.prog.types.size := of_decide_eq_true (by kernel_rfl)
theorem spWide : (match Try.prog.underlying 50 with | some (.array _ _) | some (.struct _) => true | _ => false) = true := by rw [Try.underlying50]
theorem spKeyed : Keyed Try.prog 50 := Keyed.of_law (deep_law_laid srcLaid (m := 2) (by omega) spRow (by kernel_rfl) spWide)
theorem spKey (p q : Int) (hp : 0 ≤ p ∧ p ≤ 1000000) (hq : 0 ≤ q ∧ q ≤ 1000000) : keyOf Try.prog 50 (Value.agg #[.int .i64 p, .int .i64 q]) = some (.string (keyBytes [.int .i64 p, .int .i64 q])) := by
  have h1 : Try.prog.keyType 50 = true := by kernel_rfl
  have c2 : Try.prog.cellsOf 50 = 2 := by kernel_rfl
  have c1 : Try.prog.cellsOf 3 = 1 := by kernel_rfl
  have w1 : (Lit.int .i64 p).wf = true := WalkArith.wf_i64 (by omega)
  have w2 : (Lit.int .i64 q).wf = true := WalkArith.wf_i64 (by omega)
  have hf : (Value.agg #[.int .i64 p, .int .i64 q]).formed Try.prog 50 = true := by simp [Value.formed, Try.underlying50, c2]
  have hs : ∃ m, Try.prog.types.size = m + 1 := ⟨Try.prog.types.size - 1, by have : 0 < Try.prog.types.size := of_decide_eq_true (by kernel_rfl); omega⟩
  obtain ⟨m, hm⟩ := hs
  have hi1 : ∀ n, Try.prog.keyLits (m + 1) 3 [.int .i64 n] = if (Lit.int .i64 n).wf = true then some [.int .i64 n] else none := fun n => by
    unfold Program.keyLits
    simp [Try.underlying3]
  unfold keyOf
  rw [Try.underlying50]
  simp only [h1, hf, Bool.and_self, if_true]
  rw [hm]
  unfold Program.keyLits
  simp [Try.underlying50, Value.cells, c2, c1, hi1, w1, w2]
def spK (p q : Int) : Lit := .string (keyBytes [.int .i64 p, .int .i64 q])
theorem spK_ne {p q p' q' : Int} (hp : 0 ≤ p ∧ p ≤ 1000000) (hq : 0 ≤ q ∧ q ≤ 1000000) (hp' : 0 ≤ p' ∧ p' ≤ 1000000) (hq' : 0 ≤ q' ∧ q' ≤ 1000000) (h : ¬ (p' = p ∧ q' = q)) : spK p' q' ≠ spK p q := fun e => by
  have h1 := spKey p q hp hq
  have h2 := spKey p' q' hp' hq'
  unfold spK at e
  rw [e] at h2
  have h3 := spKeyed.inj h2 h1
  injection h3 with h4
  simp at h4
  exact h h4
def mpV (b : Option Nat) : Value := .map b
/-- Block g is the fields: at (p, q) the map in the block F p q, if there is one. -/
def FldM (w : World) (g n : Nat) (F : Int → Int → Option Nat) : Prop :=
  ∃ D, w.ownsMap Try.prog 50 mpR g n D ∧ ∀ p q, (0 ≤ p ∧ p ≤ 1000000) → (0 ≤ q ∧ q ≤ 1000000) →
    (F p q = none → Maps.has D (spK p q) = false ∧ ∀ z, D.atKey (spK p q) z = z) ∧ ∀ b, F p q = some b → Maps.has D (spK p q) = true ∧ ∀ z, D.atKey (spK p q) z = .agg [.lit (.int .i64 b)]
theorem FldM.lt {w : World} {g n : Nat} {F : Int → Int → Option Nat} (h : FldM w g n F) : g < w.heap.size := World.ownsMap.lt h.choose_spec.1
theorem FldM.kept {w w' : World} {g n : Nat} {F : Int → Int → Option Nat} (h : FldM w g n F) (hb : w'.heap[g]? = w.heap[g]?) : FldM w' g n F := by
  obtain ⟨D, ⟨es, clock, h1, r⟩, h2⟩ := h
  exact ⟨D, ⟨es, clock, hb.trans h1, r⟩, h2⟩
theorem FldM.below {w w' : World} {g n : Nat} {F : Int → Int → Option Nat} (h : FldM w g n F) (hb : Below w.heap.size w w') : FldM w' g n F := h.kept (hb.block g h.lt)
theorem FldM.grown {w w' : World} {g n b : Nat} {F : Int → Int → Option Nat} (h : FldM w g n F) (hb : w.grownBy w' (some b)) (hne : g ≠ b) : FldM w' g n F := h.kept (hb.block g h.lt (fun e => by injection e with e; exact hne e))
theorem FldM.mono {w : World} {g n m : Nat} {F : Int → Int → Option Nat} (h : FldM w g n F) (hm : n ≤ m) : FldM w g m F := by
  obtain ⟨D, h1, h2⟩ := h
  exact ⟨D, h1.mono hm, h2⟩
theorem FldM.made (w : World) : FldM (w.alloc (.map #[] 0)) w.heap.size 0 (fun _ _ => none) :=
  ⟨.map [], World.ownsMap_made w _ _ _, fun p q _ _ => ⟨fun _ => ⟨rfl, fun z => rfl⟩, fun b h => by cases h⟩⟩
theorem zeroMp (w : World) : (zeroValue 47).run Try.prog w = .ok (.map none) w := by kernel_rfl
theorem FldM.look {w : World} {g n : Nat} {F : Int → Int → Option Nat} (h : FldM w g n F) {p q : Int} (hp : 0 ≤ p ∧ p ≤ 1000000) (hq : 0 ≤ q ∧ q ≤ 1000000) :
    (Instr.lookup 44 (.map (some g)) (.agg #[.int .i64 p, .int .i64 q]) true).run Try.prog w = .ok (.tuple #[.map (F p q), .bool (F p q).isSome]) w := by
  obtain ⟨D, h1, h2⟩ := h
  obtain ⟨v, ps, hrun, hv⟩ := World.ownsMap.look_ok h1 spKeyed Try.underlying44 (zeroMp w) (zd := .agg []) (zp := []) rfl (spKey p q hp hq)
  have h3 := h2 p q hp hq
  cases hf : F p q with
  | none =>
    obtain ⟨e1, e2⟩ := h3.1 hf
    have e2' : D.atKey (.string (keyBytes [.int .i64 p, .int .i64 q])) (.agg []) = .agg [] := e2 _
    rw [e2'] at hv
    have := mpR_inj hv (u := .map none) (z' := (.agg [], [])) rfl rfl
    subst this
    have e1' : Maps.has D (.string (keyBytes [.int .i64 p, .int .i64 q])) = false := e1
    rw [hrun, e1']
    rfl
  | some b =>
    obtain ⟨e1, e3⟩ := h3.2 b hf
    have e3' : D.atKey (.string (keyBytes [.int .i64 p, .int .i64 q])) (.agg []) = .agg [.lit (.int .i64 b)] := e3 _
    rw [e3'] at hv
    have := mpR_inj hv (u := .map (some b)) (z' := (.agg [.lit (.int .i64 b)], [])) rfl rfl
    subst this
    have e1' : Maps.has D (.string (keyBytes [.int .i64 p, .int .i64 q])) = true := e1
    rw [hrun, e1']
    rfl
def putS (F : Int → Int → Option Nat) (p q : Int) (b : Nat) : Int → Int → Option Nat := fun p' q' => if p' = p ∧ q' = q then some b else F p' q'
theorem FldM.put {w : World} {g n : Nat} {F : Int → Int → Option Nat} (h : FldM w g n F) (hn : n < maxLen) {p q : Int} (hp : 0 ≤ p ∧ p ≤ 1000000) (hq : 0 ≤ q ∧ q ≤ 1000000) (b : Nat) :
    ∃ w', (Instr.mapUpdate 44 (.map (some g)) (.agg #[.int .i64 p, .int .i64 q]) (.map (some b))).run Try.prog w = .ok () w' ∧ FldM w' g (n + 1) (putS F p q b) ∧ w.grownBy w' (some g) := by
  obtain ⟨D, h1, h2⟩ := h
  have hkey := spKey p q hp hq
  obtain ⟨w', hrun, r1, r2⟩ := h1.update spKeyed Try.underlying44 hn hkey (val := .map (some b)) (d := .agg [.lit (.int .i64 b)]) (ps := []) rfl
  refine ⟨w', hrun, ⟨_, r1, fun p' q' hp' hq' => ?_⟩, r2⟩
  unfold putS
  by_cases he : p' = p ∧ q' = q
  · rw [if_pos he, he.1, he.2]
    refine ⟨fun h => (by cases h), fun v hv => ?_⟩
    cases hv
    exact ⟨has_put_same h1.isMap (spKeyed.key hkey) _, fun z => atKey_put_same h1.isMap (spKeyed.key hkey) _ _⟩
  · rw [if_neg he]
    have hne := spK_ne hp hq hp' hq' he
    have h3 := h2 p' q' hp' hq'
    refine ⟨fun h => ?_, fun v hv => ?_⟩
    · obtain ⟨e1, e2⟩ := h3.1 h
      exact ⟨(has_put_other hne _).trans e1, fun z => (atKey_put_other hne _ _).trans (e2 z)⟩
    · obtain ⟨e1, e2⟩ := h3.2 v hv
      exact ⟨(has_put_other hne _).trans e1, fun z => (atKey_put_other hne _ _).trans (e2 z)⟩
section
variable {w : World} {ops : Array Oper} {rest : List Oper} {o : Oper} {a : Act} {Q : Exit → Act → World → Prop}
theorem wp_field (hg : o.guard = none) (m x v : Operand) (hop : o.op = Op.mapUpdate 44 m x v) (g n : Nat) (F : Int → Int → Option Nat) (hm : a.eval m = .map (some g)) (hown : FldM w g n F) (hn : n < maxLen)
    (p q : Int) (hp : 0 ≤ p ∧ p ≤ 1000000) (hq : 0 ≤ q ∧ q ≤ 1000000) (hx : a.eval x = .agg #[.int .i64 p, .int .i64 q]) (b : Nat) (hv : a.eval v = .map (some b))
    (hK : ∀ w', FldM w' g (n + 1) (putS F p q b) → w.grownBy w' (some g) → wpList Try.prog ops Q rest (a.put o.dst undef) w') :
    wpList Try.prog ops Q (o :: rest) a w := by
  refine wpList_plain hg fun K' hK' => ?_
  obtain ⟨w', hrun, r1, r2⟩ := hown.put hn hp hq b
  unfold Oper.wp
  simp [execOp, hop, hm, hx, hv, hrun, Result.andThen]
  exact hK' _ _ (hK w' r1 r2)
end
end Go.Proofs.Ytbanifnfkabelaa
