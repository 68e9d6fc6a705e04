/-
  Joined: ClcF, ClcN.
-/
import Derived.Test.YtllghgcancennaaJ20
import Derived.Test.YtllghgcancennaaJ10
/-
  What is kept of accesses: maps by events, and fields with such maps.
-/
namespace Go.Proofs.Ytllghgcancennaa
open Go.RowKit Go.Maps
open Go.MapKept (heap_set stamped_empty)

theorem evK_ne {y x : Evt} (hy : EvtR y) (hx : EvtR x) (h : x ≠ y) : evK x ≠ evK y := fun e => by
  have h1 := evKey y hy
  have h2 := evKey x hx
  unfold evK at e
  rw [e] at h2
  have h3 := evKeyed.inj h2 h1
  injection h3 with h4
  simp at h4
  obtain ⟨a, b, c, d⟩ := h4
  exact h (by cases x; cases y; simp_all)
theorem plainI (c : Int) (hc : -9223372036854775808 ≤ c ∧ c ≤ 9223372036854775807) : plainElem (H := Unit) Try.prog 3 (.int .i64 c) = some (.lit (.int .i64 c), []) := plainElem_int Try.underlying3 (WalkArith.wf_i64 hc)
/-- Block b has of each event that is kept what A says. -/
def AccM (w : World) (b n : Nat) (A : Evt → Option Int) : Prop :=
  ∃ D : DataW Unit, w.ownsMap Try.prog 40 (plainElem Try.prog 3) b n D ∧ ∀ y, EvtR y →
    (A y = none → Maps.has D (evK y) = false ∧ ∀ z, D.atKey (evK y) z = z) ∧ ∀ c, A y = some c → Maps.has D (evK y) = true ∧ ∀ z, D.atKey (evK y) z = .lit (.int .i64 c)
theorem AccM.lt {w : World} {b n : Nat} {A : Evt → Option Int} (h : AccM w b n A) : b < w.heap.size := World.ownsMap.lt h.choose_spec.1
theorem AccM.kept {w w' : World} {b n : Nat} {A : Evt → Option Int} (h : AccM w b n A) (hb : w'.heap[b]? = w.heap[b]?) : AccM w' b n A := by
  obtain ⟨D, ⟨es, clock, h1, r⟩, h2⟩ := h
  exact ⟨D, ⟨es, clock, hb.trans h1, r⟩, h2⟩
theorem AccM.below {w w' : World} {b n : Nat} {A : Evt → Option Int} (h : AccM w b n A) (hb : Below w.heap.size w w') : AccM w' b n A := h.kept (hb.block b h.lt)
theorem AccM.grown {w w' : World} {b n g : Nat} {A : Evt → Option Int} (h : AccM w b n A) (hb : w.grownBy w' (some g)) (hne : b ≠ g) : AccM w' b n A := h.kept (hb.block b h.lt (fun e => by injection e with e; exact hne e))
theorem AccM.mono {w : World} {b n m : Nat} {A : Evt → Option Int} (h : AccM w b n A) (hm : n ≤ m) : AccM w b m A := by
  obtain ⟨D, h1, h2⟩ := h
  exact ⟨D, h1.mono hm, h2⟩
theorem AccM.congr {w : World} {b n : Nat} {A A' : Evt → Option Int} (h : AccM w b n A) (e : ∀ y, A' y = A y) : AccM w b n A' := by
  have : A' = A := funext e
  rw [this]
  exact h
theorem AccM.made (w : World) : AccM (w.alloc (.map #[] 0)) w.heap.size 0 (fun _ => none) :=
  ⟨.map [], World.ownsMap_made w _ _ _, fun y _ => ⟨fun _ => ⟨rfl, fun z => rfl⟩, fun c h => by cases h⟩⟩
def accPut (A : Evt → Option Int) (y : Evt) (c : Int) (a : Evt) : Option Int := if a = y then some c else A a
theorem AccM.put {w : World} {b n : Nat} {A : Evt → Option Int} (h : AccM w b n A) (hn : n < maxLen) {y : Evt} (hy : EvtR y) {c : Int} (hc : -9223372036854775808 ≤ c ∧ c ≤ 9223372036854775807) :
    ∃ w', (Instr.mapUpdate 61 (.map (some b)) (evV y) (.int .i64 c)).run Try.prog w = .ok () w' ∧ AccM w' b (n + 1) (accPut A y c) ∧ w.grownBy w' (some b) := by
  obtain ⟨D, h1, h2⟩ := h
  have hkey := evKey y hy
  obtain ⟨w', hrun, r1, r2⟩ := h1.update evKeyed Try.underlying61 hn hkey (plainI c hc)
  refine ⟨w', hrun, ⟨_, r1, fun x hx => ?_⟩, r2⟩
  unfold accPut
  by_cases he : x = y
  · subst he
    rw [if_pos rfl]
    refine ⟨fun h => (by cases h), fun v hv => ?_⟩
    cases hv
    exact ⟨has_put_same h1.isMap (evKeyed.key hkey) _, fun z => atKey_put_same h1.isMap (evKeyed.key hkey) _ _⟩
  · rw [if_neg he]
    have hne := evK_ne hy hx he
    have h3 := h2 x hx
    refine ⟨fun h => ?_, fun v hv => ?_⟩
    · obtain ⟨e1, e2⟩ := h3.1 h
      exact ⟨(has_put_other hne _).trans e1, fun z => (atKey_put_other hne _ _).trans (e2 z)⟩
    · obtain ⟨e1, e2⟩ := h3.2 v hv
      exact ⟨(has_put_other hne _).trans e1, fun z => (atKey_put_other hne _ _).trans (e2 z)⟩
theorem AccM.clear {w : World} {b n : Nat} {A : Evt → Option Int} (h : AccM w b n A) :
    ∃ w', (∀ ty, (Builtin.clear_ #[61] ty #[.map (some b)]).run Try.prog w = .ok (.tuple #[]) w') ∧ AccM w' b 0 (fun _ => none) ∧ w.grownBy w' (some b) := by
  obtain ⟨D, ⟨es, clock, hb, F, hs, hD⟩, h2⟩ := h
  have hset := heap_set (o' := .map #[] clock) hb
  refine ⟨{ w with heap := w.heap.setIfInBounds b (.map #[] clock) }, fun ty => ?_, ⟨.map [], ⟨#[], clock, hset.1, ⟨by simp, stamped_empty clock, by simp⟩, by simp, rfl⟩, fun y _ => ⟨fun _ => ⟨rfl, fun z => rfl⟩, fun c h => by cases h⟩⟩, ⟨rfl, rfl, rfl, by simp, fun k _ hk => hset.2 k (fun e => hk (by rw [e]))⟩⟩
  simp [Builtin.clear_, run_underlying Try.underlying61, Go.MapKept.run_getObj_map hb, Go.MapKept.run_setObj_map _ hb, Result.andThen]
def mpR (v : Value) : Option (DataW Unit × List MemPlace) :=
  match v with
  | .map none => some (.agg [], [])
  | .map (some b) => some (.agg [.lit (.int .i64 b)], [])
  | _ => none
theorem mpR_inj {v u : Value} {z z' : DataW Unit × List MemPlace} (h : mpR v = some z) (h' : mpR u = some z') (e : z.1 = z'.1) : v = u := by
  unfold mpR at h h'
  split at h
  · cases h
    split at h'
    · rfl
    · cases h'
      simp at e
    · cases h'
  · cases h
    split at h'
    · cases h'
      simp at e
    · cases h'
      simp at e
      rw [Int.ofNat_inj.1 e]
    · cases h'
  · cases h
theorem spRow : (64 : TypeId) < Try.prog.types.size := of_decide_eq_true (by kernel_rfl)
theorem spWide : (match Try.prog.underlying 64 with | some (.array _ _) | some (.struct _) => true | _ => false) = true := by rw [Try.underlying64]
theorem spKeyed : Keyed Try.prog 64 := Keyed.of_law (deep_law_laid srcLaid (m := 2) (by omega) spRow (by kernel_rfl) spWide)
theorem spKey (p q : Int) (hp : 0 ≤ p ∧ p ≤ 1000000) (hq : 0 ≤ q ∧ q ≤ 1000000) : keyOf Try.prog 64 (Value.agg #[.int .i64 p, .int .i64 q]) = some (.string (keyBytes [.int .i64 p, .int .i64 q])) := by
  have h1 : Try.prog.keyType 64 = true := by kernel_rfl
  have c2 : Try.prog.cellsOf 64 = 2 := by kernel_rfl
  have c1 : Try.prog.cellsOf 3 = 1 := by kernel_rfl
  have w1 : (Lit.int .i64 p).wf = true := WalkArith.wf_i64 (by omega)
  have w2 : (Lit.int .i64 q).wf = true := WalkArith.wf_i64 (by omega)
  have hf : (Value.agg #[.int .i64 p, .int .i64 q]).formed Try.prog 64 = true := by simp [Value.formed, Try.underlying64, c2]
  have hs : ∃ m, Try.prog.types.size = m + 1 := ⟨Try.prog.types.size - 1, by have : 0 < Try.prog.types.size := of_decide_eq_true (by kernel_rfl); omega⟩
  obtain ⟨m, hm⟩ := hs
  have hi1 : ∀ n, Try.prog.keyLits (m + 1) 3 [.int .i64 n] = if (Lit.int .i64 n).wf = true then some [.int .i64 n] else none := fun n => by
    unfold Program.keyLits
    simp [Try.underlying3]
  unfold keyOf
  rw [Try.underlying64]
  simp only [h1, hf, Bool.and_self, if_true]
  rw [hm]
  unfold Program.keyLits
  simp [Try.underlying64, Value.cells, c2, c1, hi1, w1, w2]
def spK (p q : Int) : Lit := .string (keyBytes [.int .i64 p, .int .i64 q])
theorem spK_ne {p q p' q' : Int} (hp : 0 ≤ p ∧ p ≤ 1000000) (hq : 0 ≤ q ∧ q ≤ 1000000) (hp' : 0 ≤ p' ∧ p' ≤ 1000000) (hq' : 0 ≤ q' ∧ q' ≤ 1000000) (h : ¬ (p' = p ∧ q' = q)) : spK p' q' ≠ spK p q := fun e => by
  have h1 := spKey p q hp hq
  have h2 := spKey p' q' hp' hq'
  unfold spK at e
  rw [e] at h2
  have h3 := spKeyed.inj h2 h1
  injection h3 with h4
  simp at h4
  exact h h4
def mpV (b : Option Nat) : Value := .map b
/-- Block g is the fields: at (p, q) the map in the block F p q, if there is one. -/
def FldM (w : World) (g n : Nat) (F : Int → Int → Option Nat) : Prop :=
  ∃ D, w.ownsMap Try.prog 64 mpR g n D ∧ ∀ p q, (0 ≤ p ∧ p ≤ 1000000) → (0 ≤ q ∧ q ≤ 1000000) →
    (F p q = none → Maps.has D (spK p q) = false ∧ ∀ z, D.atKey (spK p q) z = z) ∧ ∀ b, F p q = some b → Maps.has D (spK p q) = true ∧ ∀ z, D.atKey (spK p q) z = .agg [.lit (.int .i64 b)]
theorem FldM.lt {w : World} {g n : Nat} {F : Int → Int → Option Nat} (h : FldM w g n F) : g < w.heap.size := World.ownsMap.lt h.choose_spec.1
theorem FldM.kept {w w' : World} {g n : Nat} {F : Int → Int → Option Nat} (h : FldM w g n F) (hb : w'.heap[g]? = w.heap[g]?) : FldM w' g n F := by
  obtain ⟨D, ⟨es, clock, h1, r⟩, h2⟩ := h
  exact ⟨D, ⟨es, clock, hb.trans h1, r⟩, h2⟩
theorem FldM.below {w w' : World} {g n : Nat} {F : Int → Int → Option Nat} (h : FldM w g n F) (hb : Below w.heap.size w w') : FldM w' g n F := h.kept (hb.block g h.lt)
theorem FldM.grown {w w' : World} {g n b : Nat} {F : Int → Int → Option Nat} (h : FldM w g n F) (hb : w.grownBy w' (some b)) (hne : g ≠ b) : FldM w' g n F := h.kept (hb.block g h.lt (fun e => by injection e with e; exact hne e))
theorem FldM.mono {w : World} {g n m : Nat} {F : Int → Int → Option Nat} (h : FldM w g n F) (hm : n ≤ m) : FldM w g m F := by
  obtain ⟨D, h1, h2⟩ := h
  exact ⟨D, h1.mono hm, h2⟩
theorem FldM.made (w : World) : FldM (w.alloc (.map #[] 0)) w.heap.size 0 (fun _ _ => none) :=
  ⟨.map [], World.ownsMap_made w _ _ _, fun p q _ _ => ⟨fun _ => ⟨rfl, fun z => rfl⟩, fun b h => by cases h⟩⟩
theorem zeroMp (w : World) : (zeroValue 61).run Try.prog w = .ok (.map none) w := by kernel_rfl
theorem FldM.look {w : World} {g n : Nat} {F : Int → Int → Option Nat} (h : FldM w g n F) {p q : Int} (hp : 0 ≤ p ∧ p ≤ 1000000) (hq : 0 ≤ q ∧ q ≤ 1000000) :
    (Instr.lookup 58 (.map (some g)) (.agg #[.int .i64 p, .int .i64 q]) true).run Try.prog w = .ok (.tuple #[.map (F p q), .bool (F p q).isSome]) w := by
  obtain ⟨D, h1, h2⟩ := h
  obtain ⟨v, ps, hrun, hv⟩ := World.ownsMap.look_ok h1 spKeyed Try.underlying58 (zeroMp w) (zd := .agg []) (zp := []) rfl (spKey p q hp hq)
  have h3 := h2 p q hp hq
  cases hf : F p q with
  | none =>
    obtain ⟨e1, e2⟩ := h3.1 hf
    have e2' : D.atKey (.string (keyBytes [.int .i64 p, .int .i64 q])) (.agg []) = .agg [] := e2 _
    rw [e2'] at hv
    have := mpR_inj hv (u := .map none) (z' := (.agg [], [])) rfl rfl
    subst this
    have e1' : Maps.has D (.string (keyBytes [.int .i64 p, .int .i64 q])) = false := e1
    rw [hrun, e1']
    rfl
  | some b =>
    obtain ⟨e1, e3⟩ := h3.2 b hf
    have e3' : D.atKey (.string (keyBytes [.int .i64 p, .int .i64 q])) (.agg []) = .agg [.lit (.int .i64 b)] := e3 _
    rw [e3'] at hv
    have := mpR_inj hv (u := .map (some b)) (z' := (.agg [.lit (.int .i64 b)], [])) rfl rfl
    subst this
    have e1' : Maps.has D (.string (keyBytes [.int .i64 p, .int .i64 q])) = true := e1
    rw [hrun, e1']
    rfl
def putS (F : Int → Int → Option Nat) (p q : Int) (b : Nat) : Int → Int → Option Nat := fun p' q' => if p' = p ∧ q' = q then some b else F p' q'
theorem FldM.put {w : World} {g n : Nat} {F : Int → Int → Option Nat} (h : FldM w g n F) (hn : n < maxLen) {p q : Int} (hp : 0 ≤ p ∧ p ≤ 1000000) (hq : 0 ≤ q ∧ q ≤ 1000000) (b : Nat) :
    ∃ w', (Instr.mapUpdate 58 (.map (some g)) (.agg #[.int .i64 p, .int .i64 q]) (.map (some b))).run Try.prog w = .ok () w' ∧ FldM w' g (n + 1) (putS F p q b) ∧ w.grownBy w' (some g) := by
  obtain ⟨D, h1, h2⟩ := h
  have hkey := spKey p q hp hq
  obtain ⟨w', hrun, r1, r2⟩ := h1.update spKeyed Try.underlying58 hn hkey (val := .map (some b)) (d := .agg [.lit (.int .i64 b)]) (ps := []) rfl
  refine ⟨w', hrun, ⟨_, r1, fun p' q' hp' hq' => ?_⟩, r2⟩
  unfold putS
  by_cases he : p' = p ∧ q' = q
  · rw [if_pos he, he.1, he.2]
    refine ⟨fun h => (by cases h), fun v hv => ?_⟩
    cases hv
    exact ⟨has_put_same h1.isMap (spKeyed.key hkey) _, fun z => atKey_put_same h1.isMap (spKeyed.key hkey) _ _⟩
  · rw [if_neg he]
    have hne := spK_ne hp hq hp' hq' he
    have h3 := h2 p' q' hp' hq'
    refine ⟨fun h => ?_, fun v hv => ?_⟩
    · obtain ⟨e1, e2⟩ := h3.1 h
      exact ⟨(has_put_other hne _).trans e1, fun z => (atKey_put_other hne _ _).trans (e2 z)⟩
    · obtain ⟨e1, e2⟩ := h3.2 v hv
      exact ⟨(has_put_other hne _).trans e1, fun z => (atKey_put_other hne _ _).trans (e2 z)⟩
section
variable {w : World} {ops : Array Oper} {rest : List Oper} {o : Oper} {a : Act} {Q : Exit → Act → World → Prop}
theorem wp_field (hg : o.guard = none) (m x v : Operand) (hop : o.op = Op.mapUpdate 58 m x v) (g n : Nat) (F : Int → Int → Option Nat) (hm : a.eval m = .map (some g)) (hown : FldM w g n F) (hn : n < maxLen)
    (p q : Int) (hp : 0 ≤ p ∧ p ≤ 1000000) (hq : 0 ≤ q ∧ q ≤ 1000000) (hx : a.eval x = .agg #[.int .i64 p, .int .i64 q]) (b : Nat) (hv : a.eval v = .map (some b))
    (hK : ∀ w', FldM w' g (n + 1) (putS F p q b) → w.grownBy w' (some g) → wpList Try.prog ops Q rest (a.put o.dst undef) w') :
    wpList Try.prog ops Q (o :: rest) a w := by
  refine wpList_plain hg fun K' hK' => ?_
  obtain ⟨w', hrun, r1, r2⟩ := hown.put hn hp hq b
  unfold Oper.wp
  simp [execOp, hop, hm, hx, hv, hrun, Result.andThen]
  exact hK' _ _ (hK w' r1 r2)
end
end Go.Proofs.Ytllghgcancennaa
/-
  What is known behind the first events, and what comes together in the next one.
-/
namespace Go.Proofs.Ytllghgcancennaa
open Go.RowKit

def idxS (xs : List Evt) (n : Nat) (k i : Int) : Int := if k = 0 then lastI xs (-1) 0 i n else if k = 4 ∨ k = 5 then lastI xs k i (-1) n else -1
def fsrc (xs : List Evt) (us : List Value) (n : Nat) (k i : Int) : Option Value := if 0 ≤ idxS xs n k i then some (us.getD (idxS xs n k i).toNat undef) else none
def fcl (xs : List Evt) (n : Nat) (k i : Int) : List Smp := atC (clkN xs n) (idxS xs n k i)
def aheadC (b : Bool) (fc : Int → Int → List Smp) (y : Evt) : List (List Smp) :=
  fc 0 y.w :: ((if b = true then [] else [fc 5 y.w]) ++ (if y.k = 3 then [fc 4 y.i] else if y.k = 6 then [fc 0 y.i] else []))
def nextF (f : Int → Int → Option Value) (y : Evt) (u : Value) : Int → Int → Option Value :=
  if y.k = 4 ∨ y.k = 5 then putF (putF f 0 y.w u) y.k y.i u else putF f 0 y.w u
theorem idxS_lt (xs : List Evt) (n : Nat) (k i : Int) : -1 ≤ idxS xs n k i ∧ idxS xs n k i < (n : Int) := by
  unfold idxS
  split
  · exact lastI_lt n
  · split
    · exact lastI_lt n
    · omega
theorem evAt_in {y : Evt} (h : evAt y = true) : (1 ≤ y.w ∧ y.w ≤ 1000000) ∧ (0 ≤ y.k ∧ y.k ≤ 6) ∧ (0 ≤ y.i ∧ y.i ≤ 1000000) := by
  unfold evAt at h
  simp only [Bool.and_eq_true] at h
  exact ⟨inB_yes h.1, inB_yes h.2.1, inB_yes h.2.2.1⟩
theorem joinK_nil2 (b : List Smp) : joinK [] b = b := by rw [joinK]
theorem ahead_fold {xs : List Evt} {us : List Value} {n : Nat} {y : Evt} (hy : xs.getD n default = y) :
    (aheadC (fsrc xs us n 0 y.w).isSome (fcl xs n) y).foldl joinK [] = joinK (atC (clkN xs n) (ownI xs n)) (atC (clkN xs n) (othI xs n)) := by
  have h0 : idxS xs n 0 y.w = lastI xs (-1) 0 y.w n := rfl
  have h5 : idxS xs n 5 y.w = lastI xs 5 y.w (-1) n := rfl
  have h4 : idxS xs n 4 y.i = lastI xs 4 y.i (-1) n := rfl
  have hj : idxS xs n 0 y.i = lastI xs (-1) 0 y.i n := rfl
  have hown : joinK (if (fsrc xs us n 0 y.w).isSome = true then fcl xs n 0 y.w else joinK (fcl xs n 0 y.w) (fcl xs n 5 y.w)) [] = atC (clkN xs n) (ownI xs n) := by
    rw [joinK_nil]
    unfold fsrc fcl ownI
    rw [hy, h0, h5]
    by_cases c : 0 ≤ lastI xs (-1) 0 y.w n
    · rw [if_pos c, if_pos c]
      rfl
    · rw [if_neg c, if_neg c]
      have e : atC (clkN xs n) (lastI xs (-1) 0 y.w n) = [] := by unfold atC; rw [if_neg c]
      rw [e, joinK_nil2]
      rfl
  have hoth : (if y.k = 3 then [fcl xs n 4 y.i] else if y.k = 6 then [fcl xs n 0 y.i] else []) = (if y.k = 3 ∨ y.k = 6 then [atC (clkN xs n) (othI xs n)] else []) := by
    unfold othI fcl
    rw [hy, h4, hj]
    by_cases c3 : y.k = 3
    · rw [if_pos c3, if_pos (.inl c3), if_pos c3]
    · rw [if_neg c3, if_neg c3]
      by_cases c6 : y.k = 6
      · rw [if_pos c6, if_pos (.inr c6), if_pos c6]
      · rw [if_neg c6, if_neg (by omega)]
  have hno : ¬ (y.k = 3 ∨ y.k = 6) → atC (clkN xs n) (othI xs n) = [] := fun c => by
    unfold othI
    rw [hy, if_neg (by omega), if_neg (by omega)]
    rfl
  unfold aheadC
  rw [hoth]
  rw [joinK_nil] at hown
  rw [← hown]
  cases (fsrc xs us n 0 y.w).isSome with
  | true =>
    by_cases c : y.k = 3 ∨ y.k = 6
    · rw [if_pos c]
      simp [joinK_nil2]
    · rw [if_neg c, hno c]
      simp [joinK_nil2, joinK_nil]
  | false =>
    by_cases c : y.k = 3 ∨ y.k = 6
    · rw [if_pos c]
      simp [joinK_nil2]
    · rw [if_neg c, hno c]
      simp [joinK_nil2, joinK_nil]
theorem idxS_succ {xs : List Evt} {n : Nat} {y : Evt} (hy : xs.getD n default = y) {k i : Int} (hk : 0 ≤ k ∧ k ≤ 6) (hi : 0 ≤ i ∧ i ≤ 1000000) :
    idxS xs (n + 1) k i = if (k = 0 ∧ y.w = i) ∨ ((k = 4 ∨ k = 5) ∧ y.k = k ∧ y.i = i) then (n : Int) else idxS xs n k i := by
  unfold idxS
  by_cases c0 : k = 0
  · subst c0
    rw [if_pos rfl, if_pos rfl, lastI, hy]
    have hh : hitE y (-1) 0 i = decide (y.w = i) := by
      unfold hitE
      simp
      omega
    rw [hh]
    by_cases c : y.w = i
    · rw [if_pos (decide_eq_true c), if_pos (.inl ⟨rfl, c⟩)]
    · rw [if_neg (by simp [c]), if_neg (by rintro (h | h) <;> omega)]
  · rw [if_neg c0, if_neg c0]
    by_cases c4 : k = 4 ∨ k = 5
    · rw [if_pos c4, if_pos c4, lastI, hy]
      have hh : hitE y k i (-1) = (decide (y.k = k) && decide (y.i = i)) := by
        unfold hitE
        have : ¬ k < 0 := by omega
        simp [this]
      rw [hh]
      by_cases c : y.k = k ∧ y.i = i
      · rw [if_pos (by simp [c]), if_pos (.inr ⟨c4, c⟩)]
      · have h1 : ¬ ((k = 0 ∧ y.w = i) ∨ ((k = 4 ∨ k = 5) ∧ y.k = k ∧ y.i = i)) := fun h => by
          rcases h with h | h
          · exact c0 h.1
          · exact c h.2
        rw [if_neg (by simpa using c), if_neg h1]
    · have h1 : ¬ ((k = 0 ∧ y.w = i) ∨ ((k = 4 ∨ k = 5) ∧ y.k = k ∧ y.i = i)) := fun h => by
        rcases h with h | h
        · exact c0 h.1
        · exact c4 h.1
      rw [if_neg c4, if_neg c4, if_neg h1]
theorem fsrc_next {xs : List Evt} {us : List Value} {n : Nat} {y : Evt} {u : Value} (hy : xs.getD n default = y) (hl : us.length = n) {k i : Int} (hk : 0 ≤ k ∧ k ≤ 6) (hi : 0 ≤ i ∧ i ≤ 1000000) :
    fsrc xs (us ++ [u]) (n + 1) k i = nextF (fsrc xs us n) y u k i := by
  have hlt := idxS_lt xs n k i
  have hold : (if 0 ≤ idxS xs n k i then some ((us ++ [u]).getD (idxS xs n k i).toNat undef) else none) = fsrc xs us n k i := by
    unfold fsrc
    by_cases c : 0 ≤ idxS xs n k i
    · rw [if_pos c, if_pos c, List.getD_eq_getElem?_getD, List.getElem?_append_left (by omega), ← List.getD_eq_getElem?_getD]
    · rw [if_neg c, if_neg c]
  have hnew : (if (0 : Int) ≤ (n : Int) then some ((us ++ [u]).getD ((n : Int)).toNat undef) else none) = some u := by
    rw [if_pos (by omega), Int.toNat_natCast, List.getD_eq_getElem?_getD, List.getElem?_append_right (by omega), hl]
    simp
  unfold fsrc
  rw [idxS_succ hy hk hi]
  by_cases c : (k = 0 ∧ y.w = i) ∨ ((k = 4 ∨ k = 5) ∧ y.k = k ∧ y.i = i)
  · rw [if_pos c, hnew]
    unfold nextF
    rcases c with ⟨rfl, rfl⟩ | ⟨c4, rfl, rfl⟩
    · split
      · unfold putF
        split
        · rfl
        · rw [if_pos ⟨rfl, rfl⟩]
      · unfold putF
        rw [if_pos ⟨rfl, rfl⟩]
    · rw [if_pos c4]
      unfold putF
      rw [if_pos ⟨rfl, rfl⟩]
  · rw [if_neg c, hold]
    unfold nextF
    have h0 : ¬ (k = 0 ∧ i = y.w) := fun h => c (.inl ⟨h.1, h.2.symm⟩)
    split
    · rename_i c4
      unfold putF
      rw [if_neg (fun h => c (.inr ⟨by rw [h.1]; exact c4, h.1.symm, h.2.symm⟩)), if_neg h0]
      rfl
    · unfold putF
      rw [if_neg h0]
      rfl
theorem foldJ_good {xs : List Evt} : ∀ {cs : List (List Smp)} {a : List Smp}, GoodC xs a → (∀ c ∈ cs, GoodC xs c) → GoodC xs (cs.foldl joinK a)
  | [], _, h, _ => h
  | c :: cs, a, h, hc => foldJ_good (cs := cs) (h.join (hc c (by simp))) (fun d hd => hc d (by simp [hd]))
theorem aheadC_all {P : List Smp → Prop} {b : Bool} {fc : Int → Int → List Smp} {y : Evt} (hy : evAt y = true) (h : ∀ k i, (0 ≤ k ∧ k ≤ 6) → (0 ≤ i ∧ i ≤ 1000000) → P (fc k i)) : ∀ c ∈ aheadC b fc y, P c := by
  obtain ⟨h1, h2, h3⟩ := evAt_in hy
  intro c hc
  unfold aheadC at hc
  rcases List.mem_cons.1 hc with rfl | hc
  · exact h _ _ (by omega) (by omega)
  · rcases List.mem_append.1 hc with hc | hc
    · split at hc
      · cases hc
      · rcases List.mem_singleton.1 hc with rfl
        exact h _ _ (by omega) (by omega)
    · split at hc
      · rcases List.mem_singleton.1 hc with rfl
        exact h _ _ (by omega) (by omega)
      · split at hc
        · rcases List.mem_singleton.1 hc with rfl
          exact h _ _ (by omega) (by omega)
        · cases hc
end Go.Proofs.Ytllghgcancennaa
