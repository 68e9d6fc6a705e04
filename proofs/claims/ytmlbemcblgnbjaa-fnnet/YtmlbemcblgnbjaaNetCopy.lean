/-
  Packets and nets copied by the program and by its model.
-/
import Derived.Test.YtmlbemcblgnbjaaNetW
import Derived.Maps.AppendAt
namespace Go.Proofs.Ytmlbemcblgnbjaa
open Go.RowKit

/-- 'append(v, packet)', v being a row of one's own, the packet with bytes of its own. -/
theorem run_app_Pk {w : World} (ty : TypeId) (base hi g c : Nat) (v : Value) (xs : List (Pk × Value)) (y : Pk × Value) (hown : OwnX w base hi v xs)
    (hb : Box w g (pkC y)) (hu : Own w base y.2 y.1.b) (hf : ∀ q, y.2.ownBlock = some q → v.ownBlock ≠ some q ∧ ∀ z ∈ xs.map Prod.snd, z.ownBlock ≠ some q)
    (hsm : xs.length ≤ 2000000) (hbase : base ≤ w.heap.size) :
    ∃ v' w', (Builtin.append_ #[24, 24] ty #[v, .slice (some ⟨g, 0, none⟩) 1 c]).run Try.prog w = .ok v' w' ∧ OwnX w' base w'.heap.size v' (xs ++ [y]) ∧ w.grownBy w' v.ownBlock ∧ (v'.ownBlock = v.ownBlock ∨ v'.ownBlock = some w.heap.size) := by
  obtain ⟨i0, hi0, hz0, hz1, hz2⟩ := info_parts Try.infoPk
  obtain ⟨ay, cy, hy⟩ := own_shape hu
  obtain ⟨v', w', hr, ho', hg', _, ha'⟩ := run_append_own_at (P := Try.prog) w base 24 ty 28 i0 (.agg #[.int .i64 0, .int .i64 0, .slice none 0 0, .bool false]) 4 48 Try.underlying24 hi0 hz0 hz1 hz2 rfl (by decide) v xs.length (xs.flatMap pkC) hown.1 ⟨g, 0, none⟩ 1 c (pkC y) rfl (fun j u hu => by rw [Addr.add_lit, Nat.zero_add]; exact hb j u hu) (fun u hu => by unfold pkC at hu; rw [hy] at hu; simp at hu; rcases hu with rfl | rfl | rfl | rfl <;> rfl) (by unfold maxLen; omega) (by omega) hbase
  obtain ⟨h0, h1, h2, h3, h4⟩ := hown
  have hlt : ∀ z ∈ (xs ++ [y]).map Prod.snd, ∀ q, z.ownBlock = some q → q < w.heap.size := by
    intro z hz q hq
    obtain ⟨t, ht, rfl⟩ := List.mem_map.1 hz
    rcases List.mem_append.1 ht with ht | ht
    · exact ((h1 t ht).lt q hq).2
    · obtain rfl := List.mem_singleton.1 ht
      exact (hu.lt q hq).2
  refine ⟨v', w', hr, ⟨?_, ?_, ⟨?_, ?_⟩, fun q hq => (World.ownsRow.lt ho' q hq).2, fun z hz q hq => Nat.lt_of_lt_of_le (hlt z hz q hq) hg'.size⟩, hg', ha'⟩
  · rw [List.length_append, List.flatMap_append]
    simpa using ho'
  · intro t ht
    rcases List.mem_append.1 ht with ht | ht
    · exact ownKept (h1 t ht) hg' (fun q hq => h2.1 _ (List.mem_map_of_mem ht) q hq)
    · obtain rfl := List.mem_singleton.1 ht
      exact ownKept hu hg' (fun q hq => (hf q hq).1)
  · intro z hz q hq e
    have hq2 := hlt z hz q hq
    rcases ha' with ha | ha
    · rw [ha] at e
      obtain ⟨t, ht, rfl⟩ := List.mem_map.1 hz
      rcases List.mem_append.1 ht with ht | ht
      · exact h2.1 _ (List.mem_map_of_mem ht) q hq e
      · obtain rfl := List.mem_singleton.1 ht
        exact (hf q hq).1 e
    · rw [ha] at e; cases e; omega
  · rw [List.map_append, List.pairwise_append]
    refine ⟨h2.2, List.pairwise_singleton _ _, fun a ha b hb q hq e => ?_⟩
    obtain rfl := List.mem_singleton.1 hb
    exact (hf q e).2 a ha hq

theorem wp_app_Pk {w : World} {o : Oper} {act : Act} {K : Act → World → Prop} {Q : Exit → Act → World → Prop} (s x : Operand)
    (ho : o.op = .call { callee := .builtin .append, args := #[s, x], argTypes := #[24, 24] }) (base hi g c : Nat) (v : Value) (xs : List (Pk × Value)) (y : Pk × Value) (hs : act.eval s = v) (hown : OwnX w base hi v xs)
    (hx : act.eval x = .slice (some ⟨g, 0, none⟩) 1 c) (hb : Box w g (pkC y)) (hu : Own w base y.2 y.1.b) (hf : ∀ q, y.2.ownBlock = some q → v.ownBlock ≠ some q ∧ ∀ z ∈ xs.map Prod.snd, z.ownBlock ≠ some q)
    (hsm : xs.length ≤ 2000000) (hbase : base ≤ w.heap.size)
    (h : ∀ v' w', OwnX w' base w'.heap.size v' (xs ++ [y]) → w.grownBy w' v.ownBlock → (v'.ownBlock = v.ownBlock ∨ v'.ownBlock = some w.heap.size) → K (act.put o.dst v') w') :
    Oper.wp Try.prog o act w K Q := by
  obtain ⟨v', w', hr, h1, h2, h3⟩ := run_app_Pk o.type base hi g c v xs y hown hb hu hf hsm hbase
  unfold Oper.wp execOp
  simp only [ho, resolve, invoke, builtin, Sem.run_bind, Sem.run_pure, Result.andThen_ok, List.map_toArray, List.map_cons, List.map_nil, hs, hx, hr]
  exact h v' w' h1 h2 h3

theorem app_Pk {w : World} {ops : Array Oper} {rest : List Oper} {o : Oper} {act : Act} {Q : Exit → Act → World → Prop} (hgd : o.guard = none) (s x : Operand)
    (ho : o.op = .call { callee := .builtin .append, args := #[s, x], argTypes := #[24, 24] }) (base hi g c : Nat) (v : Value) (xs : List (Pk × Value)) (y : Pk × Value) (hs : act.eval s = v) (hown : OwnX w base hi v xs)
    (hx : act.eval x = .slice (some ⟨g, 0, none⟩) 1 c) (hb : Box w g (pkC y)) (hu : Own w base y.2 y.1.b) (hf : ∀ q, y.2.ownBlock = some q → v.ownBlock ≠ some q ∧ ∀ z ∈ xs.map Prod.snd, z.ownBlock ≠ some q)
    (hsm : xs.length ≤ 2000000) (hbase : base ≤ w.heap.size)
    (h : ∀ v' w', OwnX w' base w'.heap.size v' (xs ++ [y]) → w.grownBy w' v.ownBlock → (v'.ownBlock = v.ownBlock ∨ v'.ownBlock = some w.heap.size) → wpList Try.prog ops Q rest (act.put o.dst v') w') :
    wpList Try.prog ops Q (o :: rest) act w :=
  wpList_plain hgd fun _ hK => wp_app_Pk s x ho base hi g c v xs y hs hown hx hb hu hf hsm hbase fun v' w' h1 h2 h3 => hK _ _ (h v' w' h1 h2 h3)

/-- The same at a step of a region that draws its order. -/
theorem step_app_Pk {w : World} {ops : Array Oper} {o : Oper} {act : Act} {K : Act → World → Prop} {Q : Exit → Act → World → Prop} {E : Prop} (hgd : o.guard = none) (s x : Operand)
    (ho : o.op = .call { callee := .builtin .append, args := #[s, x], argTypes := #[24, 24] }) (base hi g c : Nat) (v : Value) (xs : List (Pk × Value)) (y : Pk × Value) (hs : act.eval s = v) (hown : OwnX w base hi v xs)
    (hx : act.eval x = .slice (some ⟨g, 0, none⟩) 1 c) (hb : Box w g (pkC y)) (hu : Own w base y.2 y.1.b) (hf : ∀ q, y.2.ownBlock = some q → v.ownBlock ≠ some q ∧ ∀ z ∈ xs.map Prod.snd, z.ownBlock ≠ some q)
    (hsm : xs.length ≤ 2000000) (hbase : base ≤ w.heap.size)
    (h : ∀ v' w', OwnX w' base w'.heap.size v' (xs ++ [y]) → w.grownBy w' v.ownBlock → (v'.ownBlock = v.ownBlock ∨ v'.ownBlock = some w.heap.size) → K (act.put o.dst v') w') :
    if Region.wanted o (yielded ops act.tmps) = true then Oper.wp Try.prog o act w K Q else E := by
  have hw : Region.wanted o (yielded ops act.tmps) = true := by simp [Region.wanted, hgd]
  rw [if_pos hw]
  exact wp_app_Pk s x ho base hi g c v xs y hs hown hx hb hu hf hsm hbase h

theorem OwnX.shape {w : World} {b hi : Nat} {v : Value} {xs : List (Pk × Value)} (h : OwnX w b hi v xs) : ∃ a c, v = .slice a xs.length c := by
  rcases h.1.2 with ⟨rfl, h0⟩ | ⟨g, c, _, rfl, _⟩
  · exact ⟨_, _, by rw [h0]⟩
  · exact ⟨_, _, rfl⟩

set_option maxRecDepth 100000 in
set_option maxHeartbeats 2000000 in
theorem copyPkI (w : World) (p : Pk) (bv : Value) (h : Bt w w.heap.size bv p.b) :
    Calls Try.prog 34 #[pkV p bv] w fun e w' => ∃ v', e = .returned (pkV p v') ∧ Own w' w.heap.size v' p.b ∧ Below w.heap.size w w' := by
  obtain ⟨a, cap, rfl, hc, hin⟩ := h
  obtain ⟨f, t, zs, s⟩ := p
  simp only at hin
  unfold pkV
  simp only
  have bA := ((Below.refl w.heap.size w).alloc (Nat.le_refl _) (.cells #[.int .i64 f, .int .i64 t, .slice a zs.length cap, .bool s] 28)).alloc (by simp) (.cells #[.int .i64 0, .int .i64 0, .slice none 0 0, .bool false] 28)
  have G0 := heap_alloc_new w (.cells #[.int .i64 f, .int .i64 t, .slice a zs.length cap, .bool s] 28)
  have G1 := heap_alloc_new (w.alloc (.cells #[.int .i64 f, .int .i64 t, .slice a zs.length cap, .bool s] 28)) (.cells #[.int .i64 0, .int .i64 0, .slice none 0 0, .bool false] 28)
  have HG := hide (And.intro G0 G1)
  have HI := hide (hin.at bA)
  have HB := hide bA
  clear bA hin G0 G1
  have HN := hide (World.ownsRow_nil ((w.alloc (.cells #[.int .i64 f, .int .i64 t, .slice a zs.length cap, .bool s] 28)).alloc (.cells #[.int .i64 0, .int .i64 0, .slice none 0 0, .bool false] 28)) (w.heap.size + 1 + 1) 5 1)
  go_enter Try.func34, Try.ntmps34
  go_wp2_with (at_builtin; refine app_in rfl _ _ rfl (w.heap.size + 1 + 1) _ _ [] rfl HN.out _ _ _ zs rfl hc HI.out (by simp) (by simp) ?_; intro v1 w1 o1 g1 n1; have E0 : w1.heap[w.heap.size]? = some (.cells #[.int .i64 f, .int .i64 t, .slice a zs.length cap, .bool s] 28 (0, 0)) := (g1.block w.heap.size (by simp; omega) (fun e => by cases e)).trans ((Below.heap_alloc _ _ _ (by simp)).trans HG.out.1); have E1 : w1.heap[w.heap.size + 1]? = some (.cells #[.int .i64 0, .int .i64 0, .slice none 0 0, .bool false] 28 (0, 0)) := (g1.block (w.heap.size + 1) (by simp) (fun e => by cases e)).trans (by simpa using HG.out.2); have HW := hide (HB.out.grown g1 (by simp; omega) (fun q hq => by cases hq)); have HO := hide o1; obtain ⟨a1, c1, e1⟩ := own_shape o1; simp only [List.nil_append] at e1 HO; subst e1; have X0 := (box_of E0).1; have f0 := X0 0 _ rfl; have f1 := X0 1 _ rfl; have f2 := X0 2 _ rfl; have f3 := X0 3 _ rfl; have z0 := (box_of E0).2; have X1 := (box_of E1).1; have k0 := X1 0 _ rfl; have k1 := X1 1 _ rfl; have k2 := X1 2 _ rfl; have k3 := X1 3 _ rfl; have z1 := (box_of E1).2; have HE := hide E1; clear E0 E1 X0 X1 g1 n1 o1)
  refine bodyPost_ret (v := .agg #[.int .i64 f, .int .i64 t, .slice a1 zs.length c1, .bool s]) (results_one Try.results34 _ _ _ rfl (load4 (put4 ((heap_setCell_other _ _ _ _ (by simp)).trans HE.out) _ _ _ _))) rfl ⟨_, rfl, ?_, ?_⟩
  · exact Own.mono (b := w.heap.size + 1 + 1) (own_set (own_set (own_set (own_set (own_set HO.out (by omega) _ _) (by omega) _ _) (by omega) _ _) (by omega) _ _) (by omega) _ _) (by omega)
  · exact ((((HW.out.setCell (by simp) _).setCell (by simp) _).setCell (by simp) _).setCell (by simp) _).setCell (by simp) _

set_option maxRecDepth 100000 in
set_option maxHeartbeats 4000000 in
theorem copyNetI (w : World) (size : Int) (v : Value) (ps : List Pk) (B : Nat) (h : RdP w B v ps) (hB : B ≤ w.heap.size) (hm : ps.length ≤ 1048576) :
    Calls Try.prog 26 #[netV size v] w fun e w' => ∃ v', e = .returned (netV size v') ∧ OwnP w' w.heap.size w'.heap.size v' ps ∧ Below w.heap.size w w' := by
  have HX : Hid (∀ wr, Below w.heap.size w wr → _) := hide (fun wr hb => pk_at (h.low hb hB))
  obtain ⟨a, cap, rfl, _⟩ := pk_at h
  clear h
  generalize hn : ps.length = n at *
  unfold netV
  have HB1 := hide (((Below.refl w.heap.size w).alloc (Nat.le_refl _) (.cells #[.int .i64 size, .slice a n cap] 26)).alloc (by simp) (.cells #[.int .i64 0, .slice none 0 0] 26))
  have HE0 := hide ((Below.heap_alloc (w.alloc (.cells #[.int .i64 size, .slice a n cap] 26)) (.cells #[.int .i64 0, .slice none 0 0] 26) w.heap.size (by simp)).trans (heap_alloc_new w (.cells #[.int .i64 size, .slice a n cap] 26)))
  have HE1 := hide (heap_alloc_new (w.alloc (.cells #[.int .i64 size, .slice a n cap] 26)) (.cells #[.int .i64 0, .slice none 0 0] 26))
  have hsz : ((w.alloc (.cells #[.int .i64 size, .slice a n cap] 26)).alloc (.cells #[.int .i64 0, .slice none 0 0] 26)).heap.size = w.heap.size + 1 + 1 := by simp
  simp only [World.size_alloc] at HE1
  go_enter Try.func26, Try.ntmps26
  go_wp2
  generalize (w.alloc (.cells #[.int .i64 size, .slice a n cap] 26)).alloc (.cells #[.int .i64 0, .slice none 0 0] 26) = w1 at *
  have HS := hide hsz
  clear hsz
  go_loopw [3, 9] (fun l i wr => ∃ (j : Nat) (ys : List (Pk × Value)) (al : Option Addr) (cl : Nat), l = .slice al j cl ∧ j ≤ n ∧ i = .int .i64 (j : Int) ∧ Hid (ys.length = j ∧ ys.map Prod.fst = ps.take j) ∧ Hid (OwnX wr (w.heap.size + 1 + 1) wr.heap.size (.slice al j cl) ys) ∧ Hid (Below (w.heap.size + 1 + 1) w1 wr)) (fun _ i _ => n - (intOf i).toNat)
  case atStart => exact ⟨0, [], none, 0, rfl, Nat.zero_le _, rfl, hide ⟨rfl, by simp⟩, hide (ownX_nil _ _ _), hide (Below.refl _ _)⟩
  case round =>
    obtain ⟨j, ys, al, cl, rfl, hj, rfl, HY, HO, HB⟩ := hrel
    have HW := hide (HB1.out.trans (HB.out.mono (by omega)))
    have hs : w.heap.size + 1 + 1 ≤ wr.heap.size := by have := HB.out.size; rw [HS.out] at this; exact this
    by_cases hlt : j < n
    · obtain ⟨a', cap', ea, _, _, hx⟩ := HX.out wr HW.out
      cases ea
      obtain ⟨b, o, rfl, hb, hc⟩ := hx (by omega)
      obtain ⟨a2, c2, e0, e1, e2, e3, hc0, hin⟩ := hc j hlt
      have HP : Hid (ps.take (j + 1) = ps.take j ++ [ps.getD j default]) := hide (by rw [List.take_succ_eq_append_getElem (by omega)]; simp [show j < ps.length by omega])
      have bA := (Below.refl wr.heap.size wr).alloc (Nat.le_refl _) (.cells #[.int .i64 (ps.getD j default).f, .int .i64 (ps.getD j default).t, .slice a2 (ps.getD j default).b.length c2, .bool (ps.getD j default).s] 28)
      have HT := hide (show Bt (wr.alloc (.cells #[.int .i64 (ps.getD j default).f, .int .i64 (ps.getD j default).t, .slice a2 (ps.getD j default).b.length c2, .bool (ps.getD j default).s] 28)) _ (.slice a2 (ps.getD j default).b.length c2) (ps.getD j default).b from Bt.at ⟨a2, c2, rfl, hc0, hin.up (by omega)⟩ bA)
      have HA := hide bA
      clear hc hx hin hc0 bA
      generalize ps.getD j default = p at *
      go_wp2_with fail
      refine (copyPkI _ p _ HT.out).mono ?_
      rintro e w2 ⟨u, rfl, ou, b2⟩
      obtain ⟨au, cu, rfl⟩ := own_shape ou
      have hs2 := b2.size
      have bB := HA.out.trans (b2.mono HA.out.size)
      have HO2 := hide (HO.out.below bB)
      have hsB := bB.size
      have HB2 := hide (HB.out.trans (bB.mono hs))
      have HU := hide (ou.mono (show w.heap.size + 1 + 1 ≤ _ from Nat.le_trans hs HA.out.size))
      have HF : Hid (∀ q, (Value.slice au p.b.length cu).ownBlock = some q → (Value.slice al j cl).ownBlock ≠ some q ∧ ∀ z ∈ ys.map Prod.snd, z.ownBlock ≠ some q) := hide (fun q hq => by
        have h1 := (ou.lt q hq).1
        have h2 := HA.out.size
        exact ⟨fun e => by have := HO.out.2.2.2.1 q e; omega, fun z hz e => by have := HO.out.2.2.2.2 z hz q e; omega⟩)
      have hnn : ys.length ≤ 2000000 := by rw [HY.out.1]; omega
      clear b2 ou bB HT HA
      have HBx := hide (Box.new w2 #[.int .i64 p.f, .int .i64 p.t, .slice au p.b.length cu, .bool p.s] 28)
      have bD := (Below.refl w2.heap.size w2).alloc (Nat.le_refl _) (.cells #[.int .i64 p.f, .int .i64 p.t, .slice au p.b.length cu, .bool p.s] 28)
      have HO3 := hide (HO2.out.below bD)
      have HU3 := hide (HU.out.below bD)
      have HB3 := hide (HB2.out.trans (bD.mono (Nat.le_trans hs hsB)))
      have hsD : w.heap.size + 1 + 1 ≤ (w2.alloc (.cells #[.int .i64 p.f, .int .i64 p.t, .slice au p.b.length cu, .bool p.s] 28)).heap.size := Nat.le_trans hs (Nat.le_trans hsB bD.size)
      have HSD := hide hsD
      clear bD HO2 HU HB2 hsD
      unfold pkV
      go_wp2_with (at_builtin; refine app_Pk rfl _ _ rfl (w.heap.size + 1 + 1) _ w2.heap.size 1 _ ys (p, .slice au p.b.length cu) rfl HO3.out rfl HBx.out HU3.out HF.out hnn HSD.out ?_; intro v4 w4 o4 g4 _; obtain ⟨a4, c4, e4⟩ := o4.shape; have HO4 := hide o4; rw [List.length_append, HY.out.1] at e4; subst e4; have HB4 := hide (HB3.out.grown g4 HSD.out (fun q hq => (World.ownsRow.lt HO3.out.1 q hq).1)); clear o4 g4)
      exact ⟨⟨j + 1, ys ++ [(p, .slice au p.b.length cu)], a4, c4, rfl, by omega, by go_num, hide ⟨by rw [List.length_append, HY.out.1]; rfl, by rw [List.map_append, HY.out.2, HP.out]; rfl⟩, HO4, HB4⟩, by simp [intOf]; omega⟩
    · obtain rfl : j = n := by omega
      have HF : Hid (OwnP wr (w.heap.size + 1 + 1) wr.heap.size (.slice al j cl) ps) := hide ⟨ys, by rw [HY.out.2, ← hn, List.take_length], HO.out⟩
      have E0 := (HB.out.block w.heap.size (by omega)).trans HE0.out
      have E1 := (HB.out.block (w.heap.size + 1) (by omega)).trans HE1.out
      have f0 := (box_of E0).1 0 _ rfl
      have k0 := (box_of E1).1 0 _ rfl
      have k1 := (box_of E1).1 1 _ rfl
      have z1 := (box_of E1).2
      have HE := hide E1
      clear E0 E1
      go_wp2
      refine bodyPost_ret (v := .agg #[.int .i64 size, .slice al j cl]) (results_one Try.results26 _ _ _ rfl (load2 (put2 HE.out _ _))) rfl ⟨_, rfl, ?_, ?_⟩
      · refine ((OwnP.same HF.out (fun q hq _ _ => ?_)).mono (by omega)).up (by simp)
        rw [heap_setCell_other _ _ _ _ (by simp; omega), heap_setCell_other _ _ _ _ (by simp; omega)]
      · exact (HW.out.setCell (by simp) _).setCell (by simp) _
end Go.Proofs.Ytmlbemcblgnbjaa
