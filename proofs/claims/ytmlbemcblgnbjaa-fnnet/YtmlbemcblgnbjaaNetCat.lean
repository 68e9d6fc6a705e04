/-
  Rows of packets cut and put together; what Post does in the program.
-/
import Derived.Test.YtmlbemcblgnbjaaNetPost
import Derived.ArgAppend
import Derived.Deep.Upon
import Derived.Deep.RegionHeldLaw
namespace Go.Proofs.Ytmlbemcblgnbjaa
open Go.RowKit

theorem pkC_one {w : World} {B : Nat} {x : Pk × Value} (h : Bt w B x.2 x.1.b) : ∀ u ∈ pkC x, u.oneCell' = true := by
  obtain ⟨a, c, e, _⟩ := h
  intro u hu
  unfold pkC at hu
  rw [e] at hu
  simp at hu
  rcases hu with rfl | rfl | rfl | rfl <;> rfl
theorem pks_one {w : World} {B : Nat} {xs : List (Pk × Value)} (h : ∀ x ∈ xs, Bt w B x.2 x.1.b) : ∀ u ∈ xs.flatMap pkC, u.oneCell' = true := by
  intro u hu
  obtain ⟨x, hx, hu⟩ := List.mem_flatMap.1 hu
  exact pkC_one (h x hx) u hu

/-- The first i packets. -/
theorem RdP.take {w : World} {B n c i m : Nat} {a : Option Addr} {ps : List Pk} (h : RdP w B (.slice a n c) ps) (hi : i ≤ ps.length) (hm : i ≤ m) (hmc : m ≤ c) : RdP w B (.slice a i m) (ps.take i) := by
  obtain ⟨xs, rfl, ⟨h0, a', c', e, h2, h3, h4⟩, h5⟩ := h
  rw [List.length_map] at hi
  simp only [Value.slice.injEq] at e
  obtain ⟨rfl, rfl, rfl⟩ := e
  have hl : (xs.take i).length = i := by simp; omega
  refine ⟨xs.take i, by rw [List.map_take], ⟨by rw [flat_len pkC 4 pkC_len], a, m, by rw [hl], by omega, fun e => by have := h3 e; omega, fun hp => ?_⟩, fun x hx => h5 x (List.mem_of_mem_take hx)⟩
  rw [hl] at hp ⊢
  obtain ⟨b, o, e, hb, hc⟩ := h4 (by omega)
  refine ⟨b, o, e, hb, fun q hq => ?_⟩
  rw [hc q (by omega)]
  have : xs.flatMap pkC = (xs.take i).flatMap pkC ++ (xs.drop i).flatMap pkC := by rw [← List.flatMap_append, List.take_append_drop]
  rw [this, List.getElem?_append_left (by rw [flat_len pkC 4 pkC_len, hl]; exact hq)]

/-- The packets from i on. -/
theorem RdP.drop {w : World} {B n c i b o : Nat} {ps : List Pk} (h : RdP w B (.slice (some ⟨b, o, none⟩) n c) ps) (hi : i ≤ ps.length) : RdP w B (.slice (some (if c = i then ⟨b, o, none⟩ else ⟨b, o + i * 4, none⟩)) (n - i) (c - i)) (ps.drop i) := by
  obtain ⟨xs, rfl, ⟨h0, a', c', e, h2, h3, h4⟩, h5⟩ := h
  rw [List.length_map] at hi
  simp only [Value.slice.injEq] at e
  obtain ⟨rfl, rfl, rfl⟩ := e
  have hl : (xs.drop i).length = xs.length - i := by simp
  refine ⟨xs.drop i, by rw [List.map_drop], ⟨by rw [flat_len pkC 4 pkC_len], _, c - i, by rw [hl], by omega, fun e => (by cases e), fun hp => ?_⟩, fun x hx => h5 x (List.mem_of_mem_drop hx)⟩
  rw [hl] at hp ⊢
  rw [if_neg (by omega)]
  obtain ⟨b', o', e, hb, hc⟩ := h4 (by omega)
  simp only [Option.some.injEq, Addr.mk.injEq, and_true] at e
  obtain ⟨rfl, rfl⟩ := e
  refine ⟨b, o + i * 4, rfl, hb, fun q hq => ?_⟩
  rw [Nat.add_assoc, hc (i * 4 + q) (by omega)]
  have : xs.flatMap pkC = (xs.take i).flatMap pkC ++ (xs.drop i).flatMap pkC := by rw [← List.flatMap_append, List.take_append_drop]
  have hl2 : ((xs.take i).flatMap pkC).length = i * 4 := by rw [flat_len pkC 4 pkC_len]; simp; omega
  rw [this, List.getElem?_append_right (by omega), hl2]
  congr 1; omega

theorem RdP.cells {w : World} {B : Nat} {ad : Addr} {n c : Nat} {xs : List (Pk × Value)} (h : Rd w B 4 (.slice (some ad) n c) xs.length (xs.flatMap pkC)) : ∀ j u, (xs.flatMap pkC)[j]? = some u → w.cell? (ad.add j) = some u := by
  intro j u hu
  obtain ⟨h0, a', c', e, h2, h3, h4⟩ := h
  have hj := (List.getElem?_eq_some_iff.1 hu).1
  rw [h0] at hj
  obtain ⟨b, o, e2, _, hc⟩ := h4 (by omega)
  simp only [Value.slice.injEq] at e
  rw [← e.1] at e2
  cases e2
  rw [Addr.add_lit, hc j hj, hu]

/-- The same, the bytes below block B. -/
def RdQ (w : World) (B2 B : Nat) (v : Value) (ps : List Pk) : Prop :=
  ∃ xs : List (Pk × Value), xs.map Prod.fst = ps ∧ Rd w B2 4 v xs.length (xs.flatMap pkC) ∧ ∀ x ∈ xs, Bt w B x.2 x.1.b
theorem RdP.q {w : World} {B : Nat} {v : Value} {ps : List Pk} (h : RdP w B v ps) : RdQ w B B v ps := h
/-- v may be read wherever the blocks below B, and those from lo up to hi, are as in w. -/
def Lasts (w : World) (B lo : Nat) (v : Value) (ps : List Pk) : Prop := ∀ w'', w.heap.size ≤ w''.heap.size → (∀ k, k < w.heap.size → (k < B ∨ lo ≤ k) → w''.heap[k]? = w.heap[k]?) → RdP w'' w''.heap.size v ps

/-- 'append(s, x...)' where s has no spare room: its packets, and x's behind them. -/
theorem run_cat {w : World} (ty : TypeId) (B2 B n m c : Nat) (a : Option Addr) (ad : Addr) (ps qs : List Pk) (h1 : RdP w B (.slice a n n) ps) (h2 : RdQ w B2 B (.slice (some ad) m c) qs) (hB : B ≤ w.heap.size) (hl : ps.length + qs.length ≤ 3000000) :
    ∃ a' c' w', (Builtin.append_ #[24, 24] ty #[.slice a n n, .slice (some ad) m c]).run Try.prog w = .ok (.slice a' (ps.length + qs.length) c') w' ∧ Lasts w' B w.heap.size (.slice a' (ps.length + qs.length) c') (ps ++ qs) ∧ Below w.heap.size w w' := by
  obtain ⟨i0, hi0, hz0, hz1, hz2⟩ := info_parts Try.infoPk
  obtain ⟨xs, rfl, r1, k1⟩ := h1
  obtain ⟨ys, rfl, r2, k2⟩ := h2
  have c2 := RdP.cells r2
  have o2 := pks_one k2
  have hn : n = xs.length := by obtain ⟨_, a', c', e, _⟩ := r1; cases e; rfl
  have hm : m = ys.length := by obtain ⟨_, a', c', e, _⟩ := r2; cases e; rfl
  subst hn hm
  rw [List.length_map, List.length_map] at hl ⊢
  by_cases h0 : ys.length = 0
  · have hy := List.eq_nil_of_length_eq_zero h0
    subst hy
    have hs : Src Try.prog i0.size 24 (.slice (some ad) 0 c) 0 [] w := Src.ofSlice w Try.underlying24 ad 0 c [] (by simp) (fun j u hu => by simp at hu) (fun u hu => by simp at hu)
    refine ⟨_, _, _, run_append_nothing (P := Try.prog) w _ _ ty 28 i0 Try.underlying24 hi0 a xs.length xs.length (Nat.le_refl _) _ hs, fun w'' hz hk => ?_, Below.refl _ _⟩
    rw [List.map_nil, List.append_nil]
    have hp : RdP w B (.slice a xs.length xs.length) (xs.map Prod.fst) := ⟨xs, rfl, r1, k1⟩
    exact (hp.kept (fun k hk2 => hk k (by omega) (.inl hk2))).up (by omega)
  · have key : ∃ v' w', (Builtin.append_ #[24, 24] ty #[.slice a xs.length xs.length, .slice (some ad) ys.length c]).run Try.prog w = .ok v' w' ∧ w'.ownsRow w.heap.size 28 4 v' (xs.length + ys.length) (xs.flatMap pkC ++ ys.flatMap pkC) ∧ w.grownBy w' none := by
      cases a with
      | some b =>
        exact run_append_arg_grows (P := Try.prog) w _ ty 28 i0 _ 4 48 Try.underlying24 hi0 hz0 hz1 hz2 rfl (by decide) b xs.length xs.length (xs.flatMap pkC) (flat_len pkC 4 pkC_len xs) (RdP.cells r1) ad ys.length c (ys.flatMap pkC) (flat_len pkC 4 pkC_len ys) c2 (by omega) (by unfold maxLen; omega) (by omega)
      | none =>
        have hx : xs.length = 0 := by
          obtain ⟨_, a', c', e, h2, h3, _⟩ := r1
          simp only [Value.slice.injEq] at e
          have := h3 e.1.symm
          omega
        have hx2 := List.eq_nil_of_length_eq_zero hx
        subst hx2
        obtain ⟨v', w', hr, r3, r4, _⟩ := run_append_own (P := Try.prog) w w.heap.size _ ty 28 i0 _ 4 48 Try.underlying24 hi0 hz0 hz1 hz2 rfl (by decide) (.slice none 0 0) 0 [] (World.ownsRow_nil w _ _ _) ad ys.length c (ys.flatMap pkC) (flat_len pkC 4 pkC_len ys) c2 o2 (by unfold maxLen; omega) (by omega) (Nat.le_refl _)
        exact ⟨v', w', hr, r3, r4⟩
    obtain ⟨v', w', hr, ho, hg⟩ := key
    have hb : Below w.heap.size w w' := (Below.refl _ _).grown hg (Nat.le_refl _) (fun q hq => by cases hq)
    obtain ⟨a', c', rfl⟩ : ∃ a' c', v' = .slice a' (xs.length + ys.length) c' := by
      rcases ho.2 with ⟨rfl, h0⟩ | ⟨g, c, _, rfl, _⟩
      · exact ⟨_, _, by rw [h0]⟩
      · exact ⟨_, _, rfl⟩
    refine ⟨a', c', w', hr, fun w'' hz hk => ⟨xs ++ ys, by rw [List.map_append], ?_, fun x hx => ?_⟩, hb⟩
    · rw [List.length_append, List.flatMap_append]
      exact rd_own (owns_same ho (fun q hq => hk q (World.ownsRow.lt ho q hq).2 (.inr (World.ownsRow.lt ho q hq).1))) (Nat.le_refl _)
    · have hbb : Bt w B x.2 x.1.b := by
        rcases List.mem_append.1 hx with hx | hx
        · exact k1 x hx
        · exact k2 x hx
      exact ((hbb.low hb hB).kept (fun k hk2 => hk k (by have := hb.size; omega) (.inl hk2))).up (by have := hb.size; omega)

theorem wp_cat {w : World} {o : Oper} {act : Act} {K : Act → World → Prop} {Q : Exit → Act → World → Prop} (s x : Operand)
    (ho : o.op = .call { callee := .builtin .append, args := #[s, x], argTypes := #[24, 24] }) (B2 B n m c : Nat) (a : Option Addr) (ad : Addr) (ps qs : List Pk) (hs : act.eval s = .slice a n n) (hx : act.eval x = .slice (some ad) m c)
    (h1 : RdP w B (.slice a n n) ps) (h2 : RdQ w B2 B (.slice (some ad) m c) qs) (hB : B ≤ w.heap.size) (hl : ps.length + qs.length ≤ 3000000) (N : Nat) (hN : ps.length + qs.length = N)
    (h : ∀ a' c' w', Lasts w' B w.heap.size (.slice a' N c') (ps ++ qs) → Below w.heap.size w w' → K (act.put o.dst (.slice a' N c')) w') :
    Oper.wp Try.prog o act w K Q := by
  subst hN
  obtain ⟨a', c', w', hr, r1, r2⟩ := run_cat o.type B2 B n m c a ad ps qs h1 h2 hB hl
  unfold Oper.wp execOp
  simp only [ho, resolve, invoke, builtin, Sem.run_bind, Sem.run_pure, Result.andThen_ok, List.map_toArray, List.map_cons, List.map_nil, hs, hx, hr]
  exact h a' c' w' r1 r2

theorem step_cat {w : World} {ops : Array Oper} {o : Oper} {act : Act} {K : Act → World → Prop} {Q : Exit → Act → World → Prop} {E : Prop} (hgd : o.guard = none) (s x : Operand)
    (ho : o.op = .call { callee := .builtin .append, args := #[s, x], argTypes := #[24, 24] }) (B2 B n m c : Nat) (a : Option Addr) (ad : Addr) (ps qs : List Pk) (hs : act.eval s = .slice a n n) (hx : act.eval x = .slice (some ad) m c)
    (h1 : RdP w B (.slice a n n) ps) (h2 : RdQ w B2 B (.slice (some ad) m c) qs) (hB : B ≤ w.heap.size) (hl : ps.length + qs.length ≤ 3000000) (N : Nat) (hN : ps.length + qs.length = N)
    (h : ∀ a' c' w', Lasts w' B w.heap.size (.slice a' N c') (ps ++ qs) → Below w.heap.size w w' → K (act.put o.dst (.slice a' N c')) w') :
    if Region.wanted o (yielded ops act.tmps) = true then Oper.wp Try.prog o act w K Q else E := by
  have hw : Region.wanted o (yielded ops act.tmps) = true := by simp [Region.wanted, hgd]
  rw [if_pos hw]
  exact wp_cat s x ho B2 B n m c a ad ps qs hs hx h1 h2 hB hl N hN h

/-- A packet that lies in a box of its own, as a row of one. -/
theorem one_rd {w : World} {B g c : Nat} {p : Pk} {u : Value} (hb : Box w g (pkC (p, u))) (hu : Bt w B u p.b) (hc : 1 ≤ c) : RdQ w (g + 1) B (.slice (some ⟨g, 0, none⟩) 1 c) [p] := by
  refine ⟨[(p, u)], rfl, ⟨by simp [pkC], some ⟨g, 0, none⟩, c, rfl, hc, fun e => (by cases e), fun _ => ⟨g, 0, rfl, Nat.lt_succ_self _, fun i hi => ?_⟩⟩, fun x hx => ?_⟩
  · have hi4 : i < (pkC (p, u)).length := by simpa [pkC] using hi
    rw [Nat.zero_add, hb i _ (List.getElem?_eq_getElem hi4)]
    simp
  · obtain rfl := List.mem_singleton.1 hx
    exact hu

theorem firstPks (w : World) (a : Option Addr) (len cap m : Nat) (h : m ≤ cap) (ha : a = none → m = 0) :
    Calls Try.prog 24 #[.slice a len cap, .int .i64 (m : Int)] w fun e w' => e = .returned (.slice a m m) ∧ w' = w := by
  cases a with
  | none =>
    obtain rfl := ha rfl
    go_enter Try.func24, Try.ntmps24
    go_wp2
    go_ret
    exact ⟨rfl, rfl⟩
  | some b =>
    go_enter Try.func24, Try.ntmps24
    go_wp2
    go_ret
    exact ⟨by simp, rfl⟩
end Go.Proofs.Ytmlbemcblgnbjaa
