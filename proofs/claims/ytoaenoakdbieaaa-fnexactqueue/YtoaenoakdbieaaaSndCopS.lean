/-
  Messages and senders copied by the model.
-/
import Derived.Test.YtoaenoakdbieaaaSndCopI
import Derived.Maps.AppendAt
import Derived.Deep.RegionLaw
import Derived.Deep.DrawnRows
import Derived.Deep.CutRange
import Derived.BigRegion
namespace Go.Proofs.Ytoaenoakdbieaaa
open Go.RowKit

/-- 'append(v, message)', v being a row of one's own, the message with parts of its own. -/
theorem run_app_Ms {w : World} (ty : TypeId) (base hi g c : Nat) (v : Value) (xs : List MsX) (y : MsX) (hown : OwnY w base hi v xs)
    (hb : Box w g (msC y)) (hc : OwnC w base y.2.1 y.1.cs) (hn : OwnN w base y.2.2 y.1.ns) (hf1 : ∀ q, y.2.1.ownBlock = some q → v.ownBlock ≠ some q ∧ ∀ z ∈ vals xs, z.ownBlock ≠ some q)
    (hf2 : ∀ q, y.2.2.ownBlock = some q → v.ownBlock ≠ some q ∧ (∀ z ∈ vals xs, z.ownBlock ≠ some q) ∧ y.2.1.ownBlock ≠ some q) (hsm : xs.length ≤ 2000000) (hbase : base ≤ w.heap.size) :
    ∃ v' w', (Builtin.append_ #[49, 49] ty #[v, .slice (some ⟨g, 0, none⟩) 1 c]).run Try.prog w = .ok v' w' ∧ OwnY w' base w'.heap.size v' (xs ++ [y]) ∧ w.grownBy w' v.ownBlock ∧ (v'.ownBlock = v.ownBlock ∨ v'.ownBlock = some w.heap.size) := by
  obtain ⟨i0, hi0, hz0, hz1, hz2⟩ := info_parts Try.infoMs
  obtain ⟨ay, cy, hy⟩ := ownC_shape hc
  obtain ⟨an, cn, hy2⟩ := ownN_shape hn
  obtain ⟨v', w', hr, ho', hg', _, ha'⟩ := run_append_own_at (P := Try.prog) w base 49 ty 65 i0 (.agg #[.int .i64 0, .int .i64 0, .int .i64 0, .int .i64 0, .int .i64 0, .slice none 0 0, .slice none 0 0]) 7 88 Try.underlying49 hi0 hz0 hz1 hz2 rfl (by decide) v xs.length (xs.flatMap msC) hown.1 ⟨g, 0, none⟩ 1 c (msC y) rfl (fun j u hu => by rw [Addr.add_lit, Nat.zero_add]; exact hb j u hu) (fun u hu => by unfold msC at hu; rw [hy, hy2] at hu; simp at hu; rcases hu with rfl | rfl | rfl | rfl | rfl | rfl | rfl <;> rfl) (by unfold maxLen; omega) (by omega) hbase
  obtain ⟨h0, h1, h2, h3, h4⟩ := hown
  have hs := sep_snoc h2 hf1 hf2
  have hlt : ∀ z ∈ vals (xs ++ [y]), ∀ q, z.ownBlock = some q → q < w.heap.size := by
    intro z hz q hq
    obtain ⟨t, ht, hz⟩ := List.mem_flatMap.1 hz
    have hp : OwnC w base t.2.1 t.1.cs ∧ OwnN w base t.2.2 t.1.ns := by
      rcases List.mem_append.1 ht with ht | ht
      · exact h1 t ht
      · obtain rfl := List.mem_singleton.1 ht
        exact ⟨hc, hn⟩
    simp at hz
    rcases hz with rfl | rfl
    · exact (hp.1.lt q hq).2
    · exact (hp.2.lt q hq).2
  refine ⟨v', w', hr, ⟨?_, ?_, ⟨?_, hs.2⟩, fun q hq => (World.ownsRow.lt ho' q hq).2, fun z hz q hq => Nat.lt_of_lt_of_le (hlt z hz q hq) hg'.size⟩, hg', ha'⟩
  · rw [List.length_append, List.flatMap_append]
    simpa using ho'
  · intro t ht
    have hk := vals_mem ht
    have hp : OwnC w base t.2.1 t.1.cs ∧ OwnN w base t.2.2 t.1.ns := by
      rcases List.mem_append.1 ht with ht | ht
      · exact h1 t ht
      · obtain rfl := List.mem_singleton.1 ht
        exact ⟨hc, hn⟩
    exact ⟨ownC_kept hp.1 hg' (fun q hq => hs.1 _ hk.1 q hq), ownN_kept hp.2 hg' (fun q hq => hs.1 _ hk.2 q hq)⟩
  · intro z hz q hq e
    have hq2 := hlt z hz q hq
    rcases ha' with ha | ha
    · rw [ha] at e
      exact hs.1 z hz q hq e
    · rw [ha] at e; cases e; omega

theorem wp_app_Ms {w : World} {o : Oper} {act : Act} {K : Act → World → Prop} {Q : Exit → Act → World → Prop} (s x : Operand)
    (ho : o.op = .call { callee := .builtin .append, args := #[s, x], argTypes := #[49, 49] }) (base hi g c : Nat) (v : Value) (xs : List MsX) (y : MsX) (hs : act.eval s = v) (hown : OwnY w base hi v xs)
    (hx : act.eval x = .slice (some ⟨g, 0, none⟩) 1 c) (hb : Box w g (msC y)) (hc : OwnC w base y.2.1 y.1.cs) (hn : OwnN w base y.2.2 y.1.ns) (hf1 : ∀ q, y.2.1.ownBlock = some q → v.ownBlock ≠ some q ∧ ∀ z ∈ vals xs, z.ownBlock ≠ some q)
    (hf2 : ∀ q, y.2.2.ownBlock = some q → v.ownBlock ≠ some q ∧ (∀ z ∈ vals xs, z.ownBlock ≠ some q) ∧ y.2.1.ownBlock ≠ some q) (hsm : xs.length ≤ 2000000) (hbase : base ≤ w.heap.size)
    (h : ∀ v' w', OwnY w' base w'.heap.size v' (xs ++ [y]) → w.grownBy w' v.ownBlock → (v'.ownBlock = v.ownBlock ∨ v'.ownBlock = some w.heap.size) → K (act.put o.dst v') w') :
    Oper.wp Try.prog o act w K Q := by
  obtain ⟨v', w', hr, h1, h2, h3⟩ := run_app_Ms o.type base hi g c v xs y hown hb hc hn hf1 hf2 hsm hbase
  unfold Oper.wp execOp
  simp only [ho, resolve, invoke, builtin, Sem.run_bind, Sem.run_pure, Result.andThen_ok, List.map_toArray, List.map_cons, List.map_nil, hs, hx, hr]
  exact h v' w' h1 h2 h3

/-- The same at a step of a region that draws its order. -/
theorem step_app_Ms {w : World} {ops : Array Oper} {o : Oper} {act : Act} {K : Act → World → Prop} {Q : Exit → Act → World → Prop} {E : Prop} (hgd : o.guard = none) (s x : Operand)
    (ho : o.op = .call { callee := .builtin .append, args := #[s, x], argTypes := #[49, 49] }) (base hi g c : Nat) (v : Value) (xs : List MsX) (y : MsX) (hs : act.eval s = v) (hown : OwnY w base hi v xs)
    (hx : act.eval x = .slice (some ⟨g, 0, none⟩) 1 c) (hb : Box w g (msC y)) (hc : OwnC w base y.2.1 y.1.cs) (hn : OwnN w base y.2.2 y.1.ns) (hf1 : ∀ q, y.2.1.ownBlock = some q → v.ownBlock ≠ some q ∧ ∀ z ∈ vals xs, z.ownBlock ≠ some q)
    (hf2 : ∀ q, y.2.2.ownBlock = some q → v.ownBlock ≠ some q ∧ (∀ z ∈ vals xs, z.ownBlock ≠ some q) ∧ y.2.1.ownBlock ≠ some q) (hsm : xs.length ≤ 2000000) (hbase : base ≤ w.heap.size)
    (h : ∀ v' w', OwnY w' base w'.heap.size v' (xs ++ [y]) → w.grownBy w' v.ownBlock → (v'.ownBlock = v.ownBlock ∨ v'.ownBlock = some w.heap.size) → K (act.put o.dst v') w') :
    if Region.wanted o (yielded ops act.tmps) = true then Oper.wp Try.prog o act w K Q else E := by
  have hw : Region.wanted o (yielded ops act.tmps) = true := by simp [Region.wanted, hgd]
  rw [if_pos hw]
  exact wp_app_Ms s x ho base hi g c v xs y hs hown hx hb hc hn hf1 hf2 hsm hbase h

theorem OwnY.shape {w : World} {b hi : Nat} {v : Value} {xs : List MsX} (h : OwnY w b hi v xs) : ∃ a c, v = .slice a xs.length c := by
  rcases h.1.2 with ⟨rfl, h0⟩ | ⟨g, c, _, rfl, _⟩
  · exact ⟨_, _, by rw [h0]⟩
  · exact ⟨_, _, rfl⟩

theorem step_callM {P : Program} {ops : Array Oper} {o : Oper} {a : Act} {w : World} {K : Act → World → Prop} {Q : Exit → Act → World → Prop} {E : Prop} {R : Ending → World → Prop} (hgd : o.guard = none) (f : FuncId) (xs : Array Operand) (ts : Array TypeId) (_ho : o.op = .call { callee := .value (.func f), args := xs, argTypes := ts })
    (args : Array Value) (hrun : (execOp a.eval o).run P w = .ok (.enter f args) w) (hc : Calls P f args w R) (h : ∀ e w', R e w' → ∃ v, e = .returned v ∧ K (a.put o.dst v) w') :
    if Region.wanted o (yielded ops a.tmps) = true then Oper.wp P o a w K Q else E := by
  have hw : Region.wanted o (yielded ops a.tmps) = true := by simp [Region.wanted, hgd]
  rw [if_pos hw]
  unfold Oper.wp
  rw [hrun, Oper.upon_enter]
  refine hc.mono fun e w' hh => ?_
  obtain ⟨v, rfl, hk⟩ := h e w' hh
  exact hk

/-- 'append(v, src...)', v a row of one's own, src what may be read. -/
theorem app_rows {P : Program} {w : World} {ops : Array Oper} {rest : List Oper} {o : Oper} {act : Act} {Q : Exit → Act → World → Prop} (hgd : o.guard = none) (s x : Operand) (t : TypeId)
    (ho : o.op = .call { callee := .builtin .append, args := #[s, x], argTypes := #[t, t] })
    (base : Nat) (e : TypeId) (i : TypeInfo) (z : Value) (size bytes : Nat) (ht : P.underlying t = some (.slice e)) (hi : P.info? e = some i) (hz : i.zero = some z)
    (hsize : i.size = size) (hby : i.bytes = bytes) (hzs : z.cells.size = size) (hsz : 0 < size)
    (v : Value) (n : Nat) (xs : List Value) (hs : act.eval s = v) (hown : w.ownsRow base e size v n xs)
    (a : Option Addr) (m c B : Nat) (news : List Value) (hx : act.eval x = .slice a m c) (hrd : Rd w B size (.slice a m c) m news) (h1 : ∀ u ∈ news, u.oneCell' = true)
    (h63 : n + m ≤ maxLen) (hbytes : (n + m) * bytes ≤ 140737488355328) (hbase : base ≤ w.heap.size)
    (h : ∀ v' w', w'.ownsRow base e size v' (n + m) (xs ++ news) → w.grownBy w' v.ownBlock → (v'.ownBlock = v.ownBlock ∨ v'.ownBlock = some w.heap.size) → wpList P ops Q rest (act.put o.dst v') w') :
    wpList P ops Q (o :: rest) act w := by
  obtain ⟨hl, a', c', ea, hcap, hnone, hc⟩ := hrd
  cases ea
  cases a with
  | none =>
    obtain rfl := hnone rfl
    obtain rfl : m = 0 := by omega
    have hnil : news = [] := List.eq_nil_of_length_eq_zero (by simpa using hl)
    subst hnil
    refine wpList_append_own_none hgd s x t ho base e i size ht hi v n xs hs hown hx (h v w ?_ (World.grownBy.refl _ _) (.inl rfl))
    rw [List.append_nil]; exact hown
  | some ad =>
    refine wpList_append_own_at w hgd s x t ho base e i z size bytes ht hi hz hsize hby hzs hsz v n xs hs hown ad m c news hx hl (fun j u hu => ?_) h1 h63 hbytes hbase (fun v' w' ho' hg' _ ha' => h v' w' ho' hg' ha')
    have hj := (List.getElem?_eq_some_iff.1 hu).1
    have hp : 0 < m := by
      rcases Nat.eq_zero_or_pos m with h0 | h0
      · rw [hl, h0] at hj; omega
      · exact h0
    obtain ⟨b, o', e, _, hcc⟩ := hc hp
    cases e
    rw [Addr.add_lit, hcc j (by omega)]
    exact hu

theorem own_none {w : World} {T sz : Nat} : (w.alloc (.cells #[] T)).ownsRow w.heap.size T sz (.slice (some ⟨w.heap.size, 0, none⟩) 0 0) 0 [] :=
  ⟨by simp, .inr ⟨w.heap.size, 0, #[], rfl, Nat.le_refl _, heap_alloc_new w _, Nat.le_refl _, by simp, by simp, by simp⟩⟩

set_option maxRecDepth 100000 in
set_option maxHeartbeats 4000000 in
theorem copyMsS (w : World) (m : Ms) (cv nv : Value) (h : Mt w w.heap.size (m, cv, nv)) (hg : GoodM m) :
    Calls Try.prog 69 #[msV m cv nv] w fun e w' => ∃ v5 v6, e = .returned (msV m v5 v6) ∧ OwnC w' w.heap.size v5 m.cs ∧ OwnN w' w.heap.size v6 m.ns ∧ Below w.heap.size w w' ∧ (∀ b, v5.ownBlock = some b → ∀ b', v6.ownBlock = some b' → b < b') := by
  have HC := hide h.1
  have HN := hide h.2
  obtain ⟨a5, cap5, e5, _⟩ := cells_at h.1
  obtain ⟨a6, cap6, e6, _⟩ := notes_at h.2
  simp only at e5 e6
  subst e5 e6
  clear h
  obtain ⟨k, i, u, c, n, cs, ns⟩ := m
  simp only at HC HN hg
  have hgc : cs.length ≤ 1048576 := hg.1
  have hgn : ns.length ≤ 1048576 := hg.2
  clear hg
  obtain ⟨i5, hi5, hx0, hx1, hx2⟩ := info_parts Try.infoCell
  obtain ⟨i6, hi6, hy0, hy1, hy2⟩ := info_parts Try.infoNote
  unfold msV msgV
  simp only
  have bA := ((Below.refl w.heap.size w).alloc (Nat.le_refl _) (.cells #[.int .i64 k, .int .i64 i, .int .i64 u, .int .i64 c, .int .i64 n, .slice a5 cs.length cap5, .slice a6 ns.length cap6] 65)).alloc (by simp) (.cells #[.int .i64 0, .int .i64 0, .int .i64 0, .int .i64 0, .int .i64 0, .slice none 0 0, .slice none 0 0] 65)
  have HE0 := hide ((Below.heap_alloc (w.alloc (.cells #[.int .i64 k, .int .i64 i, .int .i64 u, .int .i64 c, .int .i64 n, .slice a5 cs.length cap5, .slice a6 ns.length cap6] 65)) (.cells #[.int .i64 0, .int .i64 0, .int .i64 0, .int .i64 0, .int .i64 0, .slice none 0 0, .slice none 0 0] 65) w.heap.size (by simp)).trans (heap_alloc_new w (.cells #[.int .i64 k, .int .i64 i, .int .i64 u, .int .i64 c, .int .i64 n, .slice a5 cs.length cap5, .slice a6 ns.length cap6] 65)))
  have HE1 := hide (heap_alloc_new (w.alloc (.cells #[.int .i64 k, .int .i64 i, .int .i64 u, .int .i64 c, .int .i64 n, .slice a5 cs.length cap5, .slice a6 ns.length cap6] 65)) (.cells #[.int .i64 0, .int .i64 0, .int .i64 0, .int .i64 0, .int .i64 0, .slice none 0 0, .slice none 0 0] 65))
  simp only [World.size_alloc] at HE1
  have HB0 := hide bA
  have hsz : ((w.alloc (.cells #[.int .i64 k, .int .i64 i, .int .i64 u, .int .i64 c, .int .i64 n, .slice a5 cs.length cap5, .slice a6 ns.length cap6] 65)).alloc (.cells #[.int .i64 0, .int .i64 0, .int .i64 0, .int .i64 0, .int .i64 0, .slice none 0 0, .slice none 0 0] 65)).heap.size = w.heap.size + 1 + 1 := by simp
  clear bA
  go_enter Try.func69, Try.ntmps69
  go_upto_region 1 with fail
  generalize (w.alloc (.cells #[.int .i64 k, .int .i64 i, .int .i64 u, .int .i64 c, .int .i64 n, .slice a5 cs.length cap5, .slice a6 ns.length cap6] 65)).alloc (.cells #[.int .i64 0, .int .i64 0, .int .i64 0, .int .i64 0, .int .i64 0, .slice none 0 0, .slice none 0 0] 65) = W at *
  have bD := (Below.refl W.heap.size W).alloc (Nat.le_refl _) (.cells #[] 130)
  have f5 := (bD.cell (p := ⟨w.heap.size, 5, none⟩) (by dsimp only; omega)).trans ((box_of HE0.out).1 5 _ rfl)
  have HO := hide (own_none (w := W) (T := 130) (sz := 3))
  have HR5 := hide ((HC.out.at HB0.out).at bD)
  have HBD := hide bD
  have HSZ := hide hsz
  have m0 : ¬ w.heap.size = W.heap.size := by omega
  clear bD hsz
  go_upto_region 2 with (at_builtin; refine app_rows rfl _ _ 62 rfl W.heap.size 130 i5 (.agg #[.int .i64 0, .bool false, .int .i64 0]) 3 24 Try.underlying62 hi5 hx0 hx1 hx2 rfl (by omega) (.slice (some ⟨W.heap.size, 0, none⟩) 0 0) 0 [] rfl HO.out a5 cs.length cap5 _ (cs.flatMap cellC) rfl HR5.out (one_cellC cs) (by unfold maxLen; omega) (by omega) (by simp) ?_; intro v5 w1 o5 g5 n5; have o5' : OwnC w1 W.heap.size v5 cs := (by unfold OwnC; simpa using o5); have g1 : W.grownBy w1 none := ⟨g5.os.trans HBD.out.os, g5.tape.trans HBD.out.tape, g5.output.trans HBD.out.output, Nat.le_trans HBD.out.size g5.size, fun q hq _ => (g5.block q (Nat.lt_of_lt_of_le hq HBD.out.size) (fun e => by simp [Value.ownBlock] at e; omega)).trans (HBD.out.block q hq)⟩; have E0 := (g1.block w.heap.size (by rw [HSZ.out]; omega) (by simp)).trans HE0.out; have E1 := (g1.block (w.heap.size + 1) (by rw [HSZ.out]; omega) (by simp)).trans HE1.out; have hs1 : w.heap.size + 1 + 1 ≤ w1.heap.size := (by have := g1.size; rw [HSZ.out] at this; exact this); have HB1 := hide (HB0.out.grown g1 HB0.out.size (fun q hq => by cases hq)); obtain ⟨a7, c7, e7⟩ := ownC_shape o5'; subst e7; have HO5 := hide o5'; have k5 := (box_of E0).1 5 _ rfl; have k6 := (box_of E0).1 6 _ rfl; have kz := (box_of E0).2; have HE := hide (And.intro E0 E1); clear o5 o5' g5 n5 g1 E0 E1)
  have HEa := hide (heap_setCell_same w1 w.heap.size 5 _ 65 (.slice a7 cs.length c7) HE.out.1)
  have HEb := hide ((heap_setCell_other w1 ⟨w.heap.size, 5, none⟩ (w.heap.size + 1) (.slice a7 cs.length c7) (by simp)).trans HE.out.2)
  simp at HEa
  have HO6 := hide (ownsRow_setCell_below HO5.out (a := ⟨w.heap.size, 5, none⟩) (by dsimp only; rw [HSZ.out]; omega) (.slice a7 cs.length c7))
  replace HB1 := hide (HB1.out.setCell (p := ⟨w.heap.size, 5, none⟩) (Nat.le_refl _) (.slice a7 cs.length c7))
  have hs2 : w.heap.size + 1 + 1 ≤ (w1.setCell ⟨w.heap.size, 5, none⟩ (.slice a7 cs.length c7)).heap.size := by simpa using hs1
  have hW2 : Hid (w.heap.size + 1 + 1 ≤ W.heap.size) := hide (by rw [HSZ.out]; exact Nat.le_refl _)
  clear k5 k6 kz HE HO5 hs1 f5 HO HR5 HBD HE0 HE1 HB0 m0 hx0 hx1 hx2
  generalize w1.setCell ⟨w.heap.size, 5, none⟩ (.slice a7 cs.length c7) = W2 at *
  have bD := (Below.refl W2.heap.size W2).alloc (Nat.le_refl _) (.cells #[] 136)
  have f6 := (bD.cell (p := ⟨w.heap.size, 6, none⟩) (by dsimp only; omega)).trans ((box_of HEa.out).1 6 _ rfl)
  have HO := hide (own_none (w := W2) (T := 136) (sz := 2))
  have HR6 := hide ((HN.out.at HB1.out).at bD)
  have HBD := hide bD
  have m0 : ¬ w.heap.size = W2.heap.size := by omega
  clear bD
  go_upto_region 3 with (at_builtin; refine app_rows rfl _ _ 63 rfl W2.heap.size 136 i6 (.agg #[.int .i64 0, .int .i64 0]) 2 16 Try.underlying63 hi6 hy0 hy1 hy2 rfl (by omega) (.slice (some ⟨W2.heap.size, 0, none⟩) 0 0) 0 [] rfl HO.out a6 ns.length cap6 _ (ns.flatMap noteC) rfl HR6.out (one_noteC ns) (by unfold maxLen; omega) (by omega) (by simp) ?_; intro v6 w3 o6 g6 n6; have o6' : OwnN w3 W2.heap.size v6 ns := (by unfold OwnN; simpa using o6); have g3 : W2.grownBy w3 none := ⟨g6.os.trans HBD.out.os, g6.tape.trans HBD.out.tape, g6.output.trans HBD.out.output, Nat.le_trans HBD.out.size g6.size, fun q hq _ => (g6.block q (Nat.lt_of_lt_of_le hq HBD.out.size) (fun e => by simp [Value.ownBlock] at e; omega)).trans (HBD.out.block q hq)⟩; have E0 := (g3.block w.heap.size (by omega) (by simp)).trans HEa.out; have E1 := (g3.block (w.heap.size + 1) (by omega) (by simp)).trans HEb.out; have HB3 := hide (HB1.out.grown g3 HB1.out.size (fun q hq => by cases hq)); obtain ⟨a8, c8, e8⟩ := ownN_shape o6'; subst e8; have HN6 := hide o6'; have HC6 := hide (ownC_kept HO6.out g3 (fun q _ => by simp)); have hlt : Hid (∀ b, (Value.slice a7 cs.length c7).ownBlock = some b → ∀ b', (Value.slice a8 ns.length c8).ownBlock = some b' → b < b') := hide (fun b hb b' hb' => Nat.lt_of_lt_of_le (World.ownsRow.lt HO6.out b hb).2 (o6'.lt b' hb').1); have k6 := (box_of E0).1 6 _ rfl; have kz := (box_of E0).2; have HE := hide (And.intro E0 E1); have hs3 := g3.size; clear o6 o6' g6 n6 g3 E0 E1)
  have HEa2 := hide (heap_setCell_same w3 w.heap.size 6 _ 65 (.slice a8 ns.length c8) HE.out.1)
  simp at HEa2
  have HEb2 := hide ((heap_setCell_other w3 ⟨w.heap.size, 6, none⟩ (w.heap.size + 1) (.slice a8 ns.length c8) (by simp)).trans HE.out.2)
  have HN7 := hide (ownsRow_setCell_below HN6.out (a := ⟨w.heap.size, 6, none⟩) (by dsimp only; omega) (.slice a8 ns.length c8))
  have HC7 := hide (ownsRow_setCell_below HC6.out (a := ⟨w.heap.size, 6, none⟩) (by dsimp only; have := hW2.out; omega) (.slice a8 ns.length c8))
  replace HB3 := hide (HB3.out.setCell (p := ⟨w.heap.size, 6, none⟩) (Nat.le_refl _) (.slice a8 ns.length c8))
  clear k6 kz HE HN6 HC6 f6 HO HR6 HBD HEa HEb HB1 m0
  generalize w3.setCell ⟨w.heap.size, 6, none⟩ (.slice a8 ns.length c8) = W3 at *
  have HX0 := hide (box_of HEa2.out).1
  have HX1 := hide (box_of HEb2.out).1
  have z1 := (box_of HEb2.out).2
  have f0 := HX0.out 0 _ rfl
  have f1 := HX0.out 1 _ rfl
  have f2 := HX0.out 2 _ rfl
  have f3 := HX0.out 3 _ rfl
  have f4 := HX0.out 4 _ rfl
  have f5 := HX0.out 5 _ rfl
  have f6 := HX0.out 6 _ rfl
  have r0 := HX1.out 0 _ rfl
  have r1 := HX1.out 1 _ rfl
  have r2 := HX1.out 2 _ rfl
  have r3 := HX1.out 3 _ rfl
  have r4 := HX1.out 4 _ rfl
  have r5 := HX1.out 5 _ rfl
  have r6 := HX1.out 6 _ rfl
  clear HX0 HX1
  go_wp2
  refine bodyPost_ret (v := .agg #[.int .i64 k, .int .i64 i, .int .i64 u, .int .i64 c, .int .i64 n, .slice a7 cs.length c7, .slice a8 ns.length c8]) (results_one Try.results69 _ _ _ rfl (load7 (put7 HEb2.out _ _ _ _ _ _ _))) rfl ⟨_, _, rfl, ?_, ?_, ?_, hlt.out⟩
  · refine OwnC.mono (b := W.heap.size) (ownsRow_setCell_below (ownsRow_setCell_below (ownsRow_setCell_below (ownsRow_setCell_below (ownsRow_setCell_below (ownsRow_setCell_below (ownsRow_setCell_below HC7.out ?_ _) ?_ _) ?_ _) ?_ _) ?_ _) ?_ _) ?_ _) (by have := hW2.out; omega)
    all_goals (dsimp only; have := hW2.out; omega)
  · refine OwnN.mono (b := W2.heap.size) (ownsRow_setCell_below (ownsRow_setCell_below (ownsRow_setCell_below (ownsRow_setCell_below (ownsRow_setCell_below (ownsRow_setCell_below (ownsRow_setCell_below HN7.out ?_ _) ?_ _) ?_ _) ?_ _) ?_ _) ?_ _) ?_ _) (by omega)
    all_goals (dsimp only; omega)
  · refine ((((((HB3.out.setCell ?_ _).setCell ?_ _).setCell ?_ _).setCell ?_ _).setCell ?_ _).setCell ?_ _).setCell ?_ _
    all_goals (dsimp only; omega)
attribute [local go_sem ↓] Go.wp_at_zero Go.wp_at_succ
set_option maxRecDepth 100000 in
set_option maxHeartbeats 4000000 in
theorem copySndS (w : World) (size : Int) (v : Value) (ps : List Ms) (B : Nat) (h : RdS w B v ps) (hB : B ≤ w.heap.size) (hm : ps.length ≤ 1048576) (hgd : GoodS ps) :
    Calls Try.prog 68 #[sndV size v] w fun e w' => ∃ v', e = .returned (sndV size v') ∧ OwnS w' w.heap.size w'.heap.size v' ps ∧ Below w.heap.size w w' := by
  have HX : Hid (∀ wr, Below w.heap.size w wr → _) := hide (fun wr hb => ms_at (h.low hb hB))
  have HGG : Hid (∀ j, j < ps.length → GoodM (ps.getD j default)) := hide (fun j hj => hgd.at hj)
  obtain ⟨a, cap, rfl, _⟩ := ms_at h
  clear h hgd
  generalize hn : ps.length = n at *
  unfold sndV
  have HB1 := hide ((((Below.refl w.heap.size w).alloc (Nat.le_refl _) (.cells #[.int .i64 size, .slice a n cap] 51)).alloc (by simp) (.cells #[.int .i64 0, .slice none 0 0] 51)).alloc (by simp; omega) (.cells #[.int .i64 size, .slice none 0 0] 51))
  have HE0 := hide ((Below.heap_alloc ((w.alloc (.cells #[.int .i64 size, .slice a n cap] 51)).alloc (.cells #[.int .i64 0, .slice none 0 0] 51)) (.cells #[.int .i64 size, .slice none 0 0] 51) w.heap.size (by simp; omega)).trans ((Below.heap_alloc (w.alloc (.cells #[.int .i64 size, .slice a n cap] 51)) (.cells #[.int .i64 0, .slice none 0 0] 51) w.heap.size (by simp)).trans (heap_alloc_new w (.cells #[.int .i64 size, .slice a n cap] 51))))
  have HE1 := hide ((Below.heap_alloc ((w.alloc (.cells #[.int .i64 size, .slice a n cap] 51)).alloc (.cells #[.int .i64 0, .slice none 0 0] 51)) (.cells #[.int .i64 size, .slice none 0 0] 51) (w.heap.size + 1) (by simp)).trans (by have := heap_alloc_new (w.alloc (.cells #[.int .i64 size, .slice a n cap] 51)) (.cells #[.int .i64 0, .slice none 0 0] 51); simp only [World.size_alloc] at this; exact this))
  have HE2 := hide (heap_alloc_new ((w.alloc (.cells #[.int .i64 size, .slice a n cap] 51)).alloc (.cells #[.int .i64 0, .slice none 0 0] 51)) (.cells #[.int .i64 size, .slice none 0 0] 51))
  have hsz : (((w.alloc (.cells #[.int .i64 size, .slice a n cap] 51)).alloc (.cells #[.int .i64 0, .slice none 0 0] 51)).alloc (.cells #[.int .i64 size, .slice none 0 0] 51)).heap.size = w.heap.size + 1 + 1 + 1 := by simp
  simp only [World.size_alloc] at HE2
  go_enter Try.func68, Try.ntmps68
  go_wp2
  generalize ((w.alloc (.cells #[.int .i64 size, .slice a n cap] 51)).alloc (.cells #[.int .i64 0, .slice none 0 0] 51)).alloc (.cells #[.int .i64 size, .slice none 0 0] 51) = w1 at *
  have HS := hide hsz
  clear hsz
  go_loopw [4] (fun i wr => ∃ (j : Nat) (ys : List MsX) (al : Option Addr) (cl : Nat), Hid (wr.heap[w.heap.size + 1 + 1]? = some (.cells #[.int .i64 size, .slice al j cl] 51 (0, 0))) ∧ j ≤ n ∧ i = .int .i64 (j : Int) ∧ Hid (ys.length = j ∧ ys.map Prod.fst = ps.take j) ∧ Hid (OwnY wr (w.heap.size + 1 + 1 + 1) wr.heap.size (.slice al j cl) ys) ∧ Hid (Below (w.heap.size + 1 + 1) w1 wr) ∧ w.heap.size + 1 + 1 + 1 ≤ wr.heap.size) (fun i _ => n - (intOf i).toNat)
  case atStart => exact ⟨0, [], none, 0, HE2, Nat.zero_le _, rfl, hide ⟨rfl, by simp⟩, hide (ownY_nil _ _ _), hide (Below.refl _ _), by rw [HS.out]; omega⟩
  case round =>
    obtain ⟨j, ys, al, cl, HL, hj, rfl, HY, HO, HB, hs⟩ := hrel
    have HW := hide (HB1.out.trans (HB.out.mono (by omega)))
    have E0 := (HB.out.block w.heap.size (by omega)).trans HE0.out
    have f1 := (box_of E0).1 1 _ rfl
    have k0 := (box_of HL.out).1 0 _ rfl
    have k1 := (box_of HL.out).1 1 _ rfl
    have kz := (box_of HL.out).2 1
    clear E0
    by_cases hlt : j < n
    · obtain ⟨a', cap', ea, _, _, hx⟩ := HX.out wr HW.out
      cases ea
      obtain ⟨b, o, rfl, hb, hc⟩ := hx (by omega)
      obtain ⟨cv, nv, e0, e1, e2, e3, e4, e5, e6, hmt⟩ := hc j hlt
      have HGj := hide (HGG.out j hlt)
      obtain ⟨a5, c5, ec, _⟩ := cells_at hmt.1
      obtain ⟨a6, c6, en, _⟩ := notes_at hmt.2
      simp only at ec en
      subst ec en
      have HP : Hid (ps.take (j + 1) = ps.take j ++ [ps.getD j default]) := hide (by rw [List.take_succ_eq_append_getElem (by omega)]; simp [show j < ps.length by omega])
      have HT := hide (show Mt wr.drew wr.drew.heap.size (ps.getD j default, .slice a5 (ps.getD j default).cs.length c5, .slice a6 (ps.getD j default).ns.length c6) from (hmt.up (show B ≤ wr.heap.size by omega)).drewN 1)
      clear hc hx hmt
      generalize ps.getD j default = p at *
      have hnn : Hid (ys.length ≤ 2000000) := hide (by rw [HY.out.1]; omega)
      go_wp2
      go_region_law
        (first
          | (refine step_callM rfl 69 _ _ rfl #[msV p (.slice a5 p.cs.length c5) (.slice a6 p.ns.length c6)] (by kernel_rfl) (copyMsS _ p _ _ HT.out HGj.out) ?_; rintro e w2 ⟨u5, u6, rfl, o5, o6, b2, hord⟩; refine ⟨_, rfl, ?_⟩; obtain ⟨au, cu, rfl⟩ := ownC_shape o5; obtain ⟨av, cw, rfl⟩ := ownN_shape o6; have c0 := (below_of_drew b2).cell (p := ⟨w.heap.size + 1 + 1, 1, none⟩) (by simp; omega); rw [k1] at c0; have bB := below_of_drew b2; have hsB := bB.size; have HB2 := hide (HB.out.trans (bB.mono (by omega))); have HO2 := hide (HO.out.below bB); have HU := hide (OwnC.mono o5 (show w.heap.size + 1 + 1 + 1 ≤ wr.drew.heap.size from hs)); have HV := hide (OwnN.mono o6 (show w.heap.size + 1 + 1 + 1 ≤ wr.drew.heap.size from hs));
              have HF : Hid (∀ q, (Value.slice au p.cs.length cu).ownBlock = some q → (Value.slice al j cl).ownBlock ≠ some q ∧ ∀ z ∈ vals ys, z.ownBlock ≠ some q) := hide (fun q hq => by
                have h1 : wr.heap.size ≤ q := (o5.lt q hq).1
                exact ⟨fun e => by have := HO.out.2.2.2.1 q e; omega, fun z hz e => by have := HO.out.2.2.2.2 z hz q e; omega⟩);
              have HF2 : Hid (∀ q, (Value.slice av p.ns.length cw).ownBlock = some q → (Value.slice al j cl).ownBlock ≠ some q ∧ (∀ z ∈ vals ys, z.ownBlock ≠ some q) ∧ (Value.slice au p.cs.length cu).ownBlock ≠ some q) := hide (fun q hq => by
                have h1 : wr.heap.size ≤ q := (o6.lt q hq).1
                exact ⟨fun e => by have := HO.out.2.2.2.1 q e; omega, fun z hz e => by have := HO.out.2.2.2.2 z hz q e; omega, fun e => by have := hord q e q hq; omega⟩);
              have HL2 := hide ((bB.block (w.heap.size + 1 + 1) (by omega)).trans HL.out); have HBB := hide bB; clear b2 bB o5 o6 hord;
              have HBx := hide (Box.new w2 #[.int .i64 p.k, .int .i64 p.i, .int .i64 p.u, .int .i64 p.c, .int .i64 p.n, .slice au p.cs.length cu, .slice av p.ns.length cw] 65);
              have bD := (Below.refl w2.heap.size w2).alloc (Nat.le_refl _) (.cells #[.int .i64 p.k, .int .i64 p.i, .int .i64 p.u, .int .i64 p.c, .int .i64 p.n, .slice au p.cs.length cu, .slice av p.ns.length cw] 65);
              have HO3 := hide (HO2.out.below bD); have HU3 := hide (OwnC.below HU.out bD); have HV3 := hide (OwnN.below HV.out bD); have HB3 := hide (HB2.out.trans (bD.mono (by omega))); have HL3 := hide ((bD.block (w.heap.size + 1 + 1) (by omega)).trans HL2.out);
              have HSD : Hid (w.heap.size + 1 + 1 + 1 ≤ (w2.alloc (.cells #[.int .i64 p.k, .int .i64 p.i, .int .i64 p.u, .int .i64 p.c, .int .i64 p.n, .slice au p.cs.length cu, .slice av p.ns.length cw] 65)).heap.size) := hide (Nat.le_trans hs (Nat.le_trans hsB bD.size)); have HQ2 : Hid (∀ r : Addr, r.block < wr.heap.size → (w2.alloc (.cells #[.int .i64 p.k, .int .i64 p.i, .int .i64 p.u, .int .i64 p.c, .int .i64 p.n, .slice au p.cs.length cu, .slice av p.ns.length cw] 65)).cell? r = wr.cell? r) := hide (fun r hr => (HBB.out.trans (bD.mono hsB)).cell hr); have x0 := (HQ2.out ⟨w.heap.size + 1 + 1, 1, none⟩ (by simp; omega)).trans k1; clear bD HO2 HU HV HB2 HL2 HBB; unfold msV msgV)
          | (refine step_app_Ms (by rfl) _ _ (by rfl) (w.heap.size + 1 + 1 + 1) _ w2.heap.size 1 _ ys (p, .slice au p.cs.length cu, .slice av p.ns.length cw) (by rfl) HO3.out (by rfl) HBx.out HU3.out HV3.out HF.out HF2.out hnn.out HSD.out ?_; intro v4 w4 o4 g4 _; obtain ⟨a4, c4', e4⟩ := o4.shape; have HO4 := hide o4; rw [List.length_append, HY.out.1] at e4; subst e4;
              have hlo : Hid (∀ q, q < w.heap.size + 1 + 1 + 1 → some q ≠ (Value.slice al j cl).ownBlock) := hide (fun q hq e => by have := (World.ownsRow.lt HO3.out.1 q e.symm).1; omega);
              have HL4 := hide ((g4.block (w.heap.size + 1 + 1) (by have := HSD.out; omega) (hlo.out _ (by omega))).trans HL3.out); have HB4 := hide (HB3.out.grown g4 (by have := HSD.out; omega) (fun q hq => by have := (World.ownsRow.lt HO3.out.1 q hq).1; omega)); have hs4 := g4.size;
              have q4 : ∀ r : Addr, r.block < w.heap.size + 1 + 1 + 1 → w4.cell? r = wr.cell? r := fun r hr => (World.cell?_of_block (g4.block r.block (by have := HSD.out; omega) (hlo.out _ hr))).trans (HQ2.out r (by omega)); have d1 := (q4 ⟨w.heap.size, 1, none⟩ (by simp; omega)).trans f1; have d2 := (q4 ⟨b, o + j * 7, none⟩ (by simp; omega)).trans e0; have d3 := (q4 ⟨b, o + j * 7 + 1, none⟩ (by simp; omega)).trans e1; have d4 := (q4 ⟨b, o + j * 7 + 2, none⟩ (by simp; omega)).trans e2; have d5 := (q4 ⟨b, o + j * 7 + 3, none⟩ (by simp; omega)).trans e3; have d6 := (q4 ⟨b, o + j * 7 + 4, none⟩ (by simp; omega)).trans e4; have d7 := (q4 ⟨b, o + j * 7 + 5, none⟩ (by simp; omega)).trans e5; have d8 := (q4 ⟨b, o + j * 7 + 6, none⟩ (by simp; omega)).trans e6; clear q4; have d0 := (box_of HL4.out).1 1 _ rfl; have dz := (box_of HL4.out).2 1;
              clear o4))
      all_goals (
        have HL5 : Hid ((w4.setCell ⟨w.heap.size + 1 + 1, 1, none⟩ (.slice a4 (j + 1) c4')).heap[w.heap.size + 1 + 1]? = some (.cells #[.int .i64 size, .slice a4 (j + 1) c4'] 51 (0, 0))) := hide (heap_setCell_same w4 (w.heap.size + 1 + 1) 1 _ 51 (.slice a4 (j + 1) c4') HL4.out)
        have HO5 := hide ((HO4.out.same (w' := w4.setCell ⟨w.heap.size + 1 + 1, 1, none⟩ (.slice a4 (j + 1) c4')) (fun q hq _ _ => heap_setCell_other w4 _ q _ (by simp; omega))).up (hi' := (w4.setCell ⟨w.heap.size + 1 + 1, 1, none⟩ (.slice a4 (j + 1) c4')).heap.size) (by simp))
        have HB5 := hide (HB4.out.setCell (p := ⟨w.heap.size + 1 + 1, 1, none⟩) (Nat.le_refl _) (.slice a4 (j + 1) c4'))
        have hs5 : w.heap.size + 1 + 1 + 1 ≤ (w4.setCell ⟨w.heap.size + 1 + 1, 1, none⟩ (.slice a4 (j + 1) c4')).heap.size := by simp; have := HSD.out; omega
        go_wp2
        exact ⟨⟨j + 1, ys ++ [(p, .slice au p.cs.length cu, .slice av p.ns.length cw)], a4, c4', HL5, by omega, by go_num, hide ⟨by rw [List.length_append, HY.out.1]; rfl, by rw [List.map_append, HY.out.2, HP.out]; rfl⟩, HO5, HB5, hs5⟩, by simp [intOf]; omega⟩)
    · obtain rfl : j = n := by omega
      have HF : Hid (OwnS wr (w.heap.size + 1 + 1 + 1) wr.heap.size (.slice al j cl) ps) := hide ⟨ys, by rw [HY.out.2, ← hn, List.take_length], HO.out⟩
      have E1 := (HB.out.block (w.heap.size + 1) (by omega)).trans HE1.out
      have r0 := (box_of E1).1 0 _ rfl
      have r1 := (box_of E1).1 1 _ rfl
      have z1 := (box_of E1).2
      have HE := hide E1
      clear E1
      go_wp2
      refine bodyPost_ret (v := .agg #[.int .i64 size, .slice al j cl]) (results_one Try.results68 _ _ _ rfl (loadS (put2 HE.out _ _))) rfl ⟨_, rfl, ?_, ?_⟩
      · refine ((OwnS.same HF.out (fun q hq _ _ => ?_)).mono (by omega)).up (by simp)
        rw [heap_setCell_other _ _ _ _ (by simp; omega), heap_setCell_other _ _ _ _ (by simp; omega)]
      · exact (HW.out.setCell (by simp) _).setCell (by simp) _
end Go.Proofs.Ytoaenoakdbieaaa
