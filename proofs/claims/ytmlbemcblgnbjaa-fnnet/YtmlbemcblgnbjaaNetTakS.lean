/-
  What Take does in the model.
-/
import Derived.Test.YtmlbemcblgnbjaaNetTake
import Derived.Test.YtmlbemcblgnbjaaNetMark
import Derived.RegionTactic
namespace Go.Proofs.Ytmlbemcblgnbjaa
open Go.RowKit

/-- An answer that may be read: a net and a packet. -/
def ansR (w : World) (r : ((Int × List Pk) × Pk) × Bool) (e : Ending) (w' : World) : Prop := ∃ v u, e = .returned (.tuple #[netV r.1.1.1 v, pkV r.1.2 u, .bool r.2]) ∧ RdP w' w'.heap.size v r.1.1.2 ∧ Bt w' w'.heap.size u r.1.2.b ∧ Below w.heap.size w w'

/-- 'append(v, x...)', v being a row of one's own: x's packets behind v's. -/
theorem run_own_cat {w : World} (ty : TypeId) (base B2 m c : Nat) (v : Value) (ad : Addr) (xs ys : List (Pk × Value)) (h1 : w.ownsRow base 28 4 v xs.length (xs.flatMap pkC)) (h2 : Rd w B2 4 (.slice (some ad) m c) ys.length (ys.flatMap pkC))
    (o2 : ∀ u ∈ ys.flatMap pkC, u.oneCell' = true) (hbase : base ≤ w.heap.size) (hl : xs.length + ys.length ≤ 3000000) :
    ∃ v' w', (Builtin.append_ #[24, 24] ty #[v, .slice (some ad) m c]).run Try.prog w = .ok v' w' ∧ w'.ownsRow base 28 4 v' (xs ++ ys).length ((xs ++ ys).flatMap pkC) ∧ w.grownBy w' v.ownBlock ∧ (v'.ownBlock = v.ownBlock ∨ v'.ownBlock = some w.heap.size) := by
  obtain ⟨i0, hi0, hz0, hz1, hz2⟩ := info_parts Try.infoPk
  have hm : m = ys.length := by obtain ⟨_, a', c', e, _⟩ := h2; cases e; rfl
  subst hm
  obtain ⟨v', w', hr, ho', hg', _, ha'⟩ := run_append_own_at (P := Try.prog) w base 24 ty 28 i0 (.agg #[.int .i64 0, .int .i64 0, .slice none 0 0, .bool false]) 4 48 Try.underlying24 hi0 hz0 hz1 hz2 rfl (by decide) v xs.length (xs.flatMap pkC) h1 ad ys.length c (ys.flatMap pkC) (flat_len pkC 4 pkC_len ys) (RdP.cells h2) o2 (by unfold maxLen; omega) (by omega) hbase
  exact ⟨v', w', hr, by rw [List.length_append, List.flatMap_append]; exact ho', hg', ha'⟩

theorem step_own_cat {w : World} {ops : Array Oper} {o : Oper} {act : Act} {K : Act → World → Prop} {Q : Exit → Act → World → Prop} {E : Prop} (d : Option Tmp) (hd : o.dst = d) (hgd : o.guard = none) (s x : Operand)
    (ho : o.op = .call { callee := .builtin .append, args := #[s, x], argTypes := #[24, 24] }) (base B2 m c : Nat) (v : Value) (ad : Addr) (xs ys : List (Pk × Value)) (hs : act.eval s = v) (hx : act.eval x = .slice (some ad) m c)
    (h1 : w.ownsRow base 28 4 v xs.length (xs.flatMap pkC)) (h2 : Rd w B2 4 (.slice (some ad) m c) ys.length (ys.flatMap pkC)) (o2 : ∀ u ∈ ys.flatMap pkC, u.oneCell' = true) (hbase : base ≤ w.heap.size) (hl : xs.length + ys.length ≤ 3000000)
    (N : Nat) (hN : xs.length + ys.length = N)
    (h : ∀ a' c' w', w'.ownsRow base 28 4 (.slice a' N c') (xs ++ ys).length ((xs ++ ys).flatMap pkC) → w.grownBy w' v.ownBlock → ((Value.slice a' N c').ownBlock = v.ownBlock ∨ (Value.slice a' N c').ownBlock = some w.heap.size) → K (act.put d (.slice a' N c')) w') :
    if Region.wanted o (yielded ops act.tmps) = true then Oper.wp Try.prog o act w K Q else E := by
  subst hd hN
  have hw : Region.wanted o (yielded ops act.tmps) = true := by simp [Region.wanted, hgd]
  rw [if_pos hw]
  obtain ⟨v', w', hr, r1, r2, r3⟩ := run_own_cat o.type base B2 m c v ad xs ys h1 h2 o2 hbase hl
  obtain ⟨a', c', rfl⟩ : ∃ a' c', v' = .slice a' (xs.length + ys.length) c' := by
    rw [List.length_append] at r1
    rcases r1.2 with ⟨rfl, h0⟩ | ⟨g, c, _, rfl, _⟩
    · exact ⟨_, _, by rw [h0]⟩
    · exact ⟨_, _, rfl⟩
  unfold Oper.wp execOp
  simp only [ho, resolve, invoke, builtin, Sem.run_bind, Sem.run_pure, Result.andThen_ok, List.map_toArray, List.map_cons, List.map_nil, hs, hx, hr]
  exact h a' c' w' r1 r2 r3

/-- Part of a row, from its beginning; and from a place on. -/
theorem rd_take {w : World} {B n c i m : Nat} {a : Option Addr} {xs : List (Pk × Value)} (h : Rd w B 4 (.slice a n c) xs.length (xs.flatMap pkC)) (hi : i ≤ xs.length) (hm : i ≤ m) (hmc : m ≤ c) : Rd w B 4 (.slice a i m) (xs.take i).length ((xs.take i).flatMap pkC) := by
  obtain ⟨h0, a', c', e, h2, h3, h4⟩ := h
  simp only [Value.slice.injEq] at e
  obtain ⟨rfl, rfl, rfl⟩ := e
  have hl : (xs.take i).length = i := by simp; omega
  refine ⟨by rw [flat_len pkC 4 pkC_len], a, m, by rw [hl], by omega, fun e => by have := h3 e; omega, fun hp => ?_⟩
  rw [hl] at hp ⊢
  obtain ⟨b, o, e, hb, hc⟩ := h4 (by omega)
  refine ⟨b, o, e, hb, fun q hq => ?_⟩
  rw [hc q (by omega)]
  have : xs.flatMap pkC = (xs.take i).flatMap pkC ++ (xs.drop i).flatMap pkC := by rw [← List.flatMap_append, List.take_append_drop]
  rw [this, List.getElem?_append_left (by rw [flat_len pkC 4 pkC_len, hl]; exact hq)]
theorem rd_drop {w : World} {B n c i b o : Nat} {xs : List (Pk × Value)} (h : Rd w B 4 (.slice (some ⟨b, o, none⟩) n c) xs.length (xs.flatMap pkC)) (hi : i ≤ xs.length) : Rd w B 4 (.slice (some (if c = i then ⟨b, o, none⟩ else ⟨b, o + i * 4, none⟩)) (n - i) (c - i)) (xs.drop i).length ((xs.drop i).flatMap pkC) := by
  obtain ⟨h0, a', c', e, h2, h3, h4⟩ := h
  simp only [Value.slice.injEq] at e
  obtain ⟨rfl, rfl, rfl⟩ := e
  have hl : (xs.drop i).length = xs.length - i := by simp
  refine ⟨by rw [flat_len pkC 4 pkC_len], _, c - i, by rw [hl], by omega, fun e => (by cases e), fun hp => ?_⟩
  rw [hl] at hp ⊢
  rw [if_neg (by omega)]
  obtain ⟨b', o', e, hb, hc⟩ := h4 (by omega)
  simp only [Option.some.injEq, Addr.mk.injEq, and_true] at e
  obtain ⟨rfl, rfl⟩ := e
  refine ⟨b, o + i * 4, rfl, hb, fun q hq => ?_⟩
  rw [Nat.add_assoc, hc (i * 4 + q) (by omega)]
  have : xs.flatMap pkC = (xs.take i).flatMap pkC ++ (xs.drop i).flatMap pkC := by rw [← List.flatMap_append, List.take_append_drop]
  have hl2 : ((xs.take i).flatMap pkC).length = i * 4 := by rw [flat_len pkC 4 pkC_len]; simp; omega
  rw [this, List.getElem?_append_right (by omega), hl2]
  congr 1; omega

theorem drew_heap (w : World) : w.drew.heap = w.heap := rfl
theorem res6d {w : World} {g g' : Nat} {T T' : TypeId} {a0 a1 c0 c1 c2 c3 : Value} (h : w.heap[g]? = some (.cells #[a0, a1] T (0, 0))) (h' : w.heap[g']? = some (.cells #[c0, c1, c2, c3] T' (0, 0))) (hne : g ≠ g') (y0 y1 z0 z1 z2 z3 : Value) :
    (((((((w.setCell ⟨g, 0, none⟩ y0).setCell ⟨g, 1, none⟩ y1).setCell ⟨g', 0, none⟩ z0).setCell ⟨g', 1, none⟩ z1).setCell ⟨g', 2, none⟩ z2).setCell ⟨g', 3, none⟩ z3).drew).heap[g]? = some (.cells #[y0, y1] T (0, 0)) ∧
    (((((((w.setCell ⟨g, 0, none⟩ y0).setCell ⟨g, 1, none⟩ y1).setCell ⟨g', 0, none⟩ z0).setCell ⟨g', 1, none⟩ z1).setCell ⟨g', 2, none⟩ z2).setCell ⟨g', 3, none⟩ z3).drew).heap[g']? = some (.cells #[z0, z1, z2, z3] T' (0, 0)) := by
  rw [drew_heap]
  exact res6 h h' hne y0 y1 z0 z1 z2 z3
theorem cell_drewE {w : World} {p : Addr} : w.drew.cell? p = w.cell? p := rfl
attribute [local go_sem ↓] Go.wp_at_zero Go.wp_at_succ
set_option maxRecDepth 100000 in
set_option maxHeartbeats 8000000 in
theorem takeSpec (w : World) (size : Int) (v : Value) (ps : List Pk) (i : Int) (h : RdP w w.heap.size v ps) (hm : ps.length ≤ 1048576) :
    Calls Try.prog 12 #[netV size v, .int .i64 i] w (ansR w (takeN size ps i)) := by
  have HR := hide h
  have HGD := hide h.good
  obtain ⟨a, cap, rfl, hcap, hca, _⟩ := pk_at h
  clear h
  unfold netV
  have HB := hide ((((Below.refl w.heap.size w).alloc (Nat.le_refl _) (.cells #[.int .i64 size, .slice a ps.length cap] 26)).alloc (by simp) (.cells #[.int .i64 0, .slice none 0 0] 26)).alloc (by simp; omega) (.cells #[.int .i64 0, .int .i64 0, .slice none 0 0, .bool false] 28))
  have HE0 := hide ((Below.heap_alloc ((w.alloc (.cells #[.int .i64 size, .slice a ps.length cap] 26)).alloc (.cells #[.int .i64 0, .slice none 0 0] 26)) (.cells #[.int .i64 0, .int .i64 0, .slice none 0 0, .bool false] 28) w.heap.size (by simp; omega)).trans ((Below.heap_alloc (w.alloc (.cells #[.int .i64 size, .slice a ps.length cap] 26)) (.cells #[.int .i64 0, .slice none 0 0] 26) w.heap.size (by simp)).trans (heap_alloc_new w (.cells #[.int .i64 size, .slice a ps.length cap] 26))))
  have HE1 := hide ((Below.heap_alloc ((w.alloc (.cells #[.int .i64 size, .slice a ps.length cap] 26)).alloc (.cells #[.int .i64 0, .slice none 0 0] 26)) (.cells #[.int .i64 0, .int .i64 0, .slice none 0 0, .bool false] 28) (w.heap.size + 1) (by simp)).trans (by have := heap_alloc_new (w.alloc (.cells #[.int .i64 size, .slice a ps.length cap] 26)) (.cells #[.int .i64 0, .slice none 0 0] 26); simp only [World.size_alloc] at this; exact this))
  have HE2 := hide (heap_alloc_new ((w.alloc (.cells #[.int .i64 size, .slice a ps.length cap] 26)).alloc (.cells #[.int .i64 0, .slice none 0 0] 26)) (.cells #[.int .i64 0, .int .i64 0, .slice none 0 0, .bool false] 28))
  have hsz : (((w.alloc (.cells #[.int .i64 size, .slice a ps.length cap] 26)).alloc (.cells #[.int .i64 0, .slice none 0 0] 26)).alloc (.cells #[.int .i64 0, .int .i64 0, .slice none 0 0, .bool false] 28)).heap.size = w.heap.size + 1 + 1 + 1 := by simp
  simp only [World.size_alloc] at HE2
  have HS := hide hsz
  clear hsz
  go_enter Try.func12, Try.ntmps12
  go_wp2_with fail
  generalize ((w.alloc (.cells #[.int .i64 size, .slice a ps.length cap] 26)).alloc (.cells #[.int .i64 0, .slice none 0 0] 26)).alloc (.cells #[.int .i64 0, .int .i64 0, .slice none 0 0, .bool false] 28) = w0 at *
  refine (netSpec _ size _ ps _ (HR.out.at HB.out) (Nat.le_refl _) hm).mono ?_
  rintro e w1 ⟨rfl, b1⟩
  have E0 := (b1.block w.heap.size (by have := HS.out; omega)).trans HE0.out
  have E1 := (b1.block (w.heap.size + 1) (by have := HS.out; omega)).trans HE1.out
  have E2 := (b1.block (w.heap.size + 1 + 1) (by have := HS.out; omega)).trans HE2.out
  have hs1 : w.heap.size + 1 + 1 + 1 ≤ w1.heap.size := by have := HS.out; have := b1.size; omega
  replace HB := hide (HB.out.trans (b1.mono HB.out.size))
  clear b1 HE0 HE1 HE2 HS
  have f0 := (box_of E0).1 0 _ rfl
  have f1 := (box_of E0).1 1 _ rfl
  have H0 := hide E0
  have H1 := hide E1
  have H2 := hide E2
  clear E0 E1 E2
  cases hnet : netOk size ps with
  | false =>
    have hok2 : hasN size ps i = false := by unfold hasN; rw [hnet]; rfl
    have r0 := (box_of H1.out).1 0 _ rfl
    have r1 := (box_of H1.out).1 1 _ rfl
    have z1 := (box_of H1.out).2
    have k0 := (box_of H2.out).1 0 _ rfl
    have k1 := (box_of H2.out).1 1 _ rfl
    have k2 := (box_of H2.out).1 2 _ rfl
    have k3 := (box_of H2.out).1 3 _ rfl
    have z2 := (box_of H2.out).2
    have HE := hide (res6 H1.out H2.out (by omega))
    go_wp2
    refine bodyPost_ret (v := .tuple #[.agg #[.int .i64 0, .slice none 0 0], .agg #[.int .i64 0, .int .i64 0, .slice none 0 0, .bool false], .bool false]) (results_cct Try.results12 _ _ _ rfl rfl (load2 (HE.out _ _ _ _ _ _).1) (load4 (HE.out _ _ _ _ _ _).2)) rfl (show ansR w (takeN size ps i) _ _ from by
      rw [takeN_no hok2, asN_no hnet]
      exact ⟨.slice none 0 0, .slice none 0 0, rfl, (ownP_nil _ 0 0).rd (fun p hp => by simp at hp) (Nat.le_refl _), bt_own (b := 0) (World.ownsRow_nil _ _ _ _) (by simp [zeroP]) (fun z hz => by simp [zeroP] at hz) (Nat.le_refl _), below_set6 HB.out (by omega) (by omega)⟩)
  | true =>
    have h60 := (netOk_all hnet).2.1
    go_wp2_with fail
    clear f0 f1
    refine (copyNetS _ size _ ps _ (HR.out.at HB.out) (Nat.le_refl _) hm).mono ?_
    rintro e w3 ⟨v3, rfl, o3, b3⟩
    obtain ⟨xs, hxs, hox⟩ := o3
    have hxl : xs.length = ps.length := by rw [← hxs]; simp
    obtain ⟨av, cv, ev⟩ := OwnX.shape hox
    rw [hxl] at ev
    subst ev
    have HOX := hide hox
    have HXS := hide hxs
    have HXL := hide hxl
    have hs3 := b3.size
    replace H0 := hide ((b3.block w.heap.size (by omega)).trans H0.out)
    replace H1 := hide ((b3.block (w.heap.size + 1) (by omega)).trans H1.out)
    replace H2 := hide ((b3.block (w.heap.size + 1 + 1) (by omega)).trans H2.out)
    replace HB := hide (HB.out.trans (b3.mono HB.out.size))
    clear b3 hox hxs hxl
    unfold netV
    have bD := (Below.refl w3.heap.size w3).alloc (Nat.le_refl _) (.cells #[.int .i64 size, .slice av ps.length cv] 26)
    have HX := hide (heap_alloc_new w3 (.cells #[.int .i64 size, .slice av ps.length cv] 26))
    replace H0 := hide ((bD.block w.heap.size (by omega)).trans H0.out)
    replace H1 := hide ((bD.block (w.heap.size + 1) (by omega)).trans H1.out)
    replace H2 := hide ((bD.block (w.heap.size + 1 + 1) (by omega)).trans H2.out)
    replace HOX := hide (HOX.out.below bD)
    have hs4 : (w3.alloc (.cells #[.int .i64 size, .slice av ps.length cv] 26)).heap.size = w3.heap.size + 1 := by simp
    have HS4 := hide hs4
    replace HB := hide (HB.out.trans (bD.mono HB.out.size))
    clear bD hs4
    have f1 := (box_of H0.out).1 1 _ rfl
    have x0 := (box_of HX.out).1 0 _ rfl
    have x1 := (box_of HX.out).1 1 _ rfl
    have xz := (box_of HX.out).2
    have r0 := (box_of H1.out).1 0 _ rfl
    have r1 := (box_of H1.out).1 1 _ rfl
    have z1 := (box_of H1.out).2
    have k0 := (box_of H2.out).1 0 _ rfl
    have k1 := (box_of H2.out).1 1 _ rfl
    have k2 := (box_of H2.out).1 2 _ rfl
    have k3 := (box_of H2.out).1 3 _ rfl
    have z2 := (box_of H2.out).2
    cases hin : inB i 0 ((ps.length : Int) - 1) with
    | false =>
      have hok2 : hasN size ps i = false := by unfold hasN; rw [hnet, hin]; rfl
      have HE := hide (res6 H1.out H2.out (by omega))
      have m1 : ¬ w.heap.size + 1 = w3.heap.size := by omega
      have m2 : ¬ w.heap.size + 1 + 1 = w3.heap.size := by omega
      go_wp2_with (go_at_call 32; refine (inSpec _ _ _ _).mono ?_; rw [hin]; rintro e w9 ⟨rfl, hw9⟩; subst w9)
      refine bodyPost_ret (v := .tuple #[.agg #[.int .i64 size, .slice av ps.length cv], .agg #[.int .i64 0, .int .i64 0, .slice none 0 0, .bool false], .bool false]) (results_cct Try.results12 _ _ _ rfl rfl (load2 (HE.out _ _ _ _ _ _).1) (load4 (HE.out _ _ _ _ _ _).2)) rfl (show ansR w (takeN size ps i) _ _ from by
        rw [takeN_no hok2, asN_yes hnet]
        refine ⟨_, .slice none 0 0, rfl, ?_, bt_own (b := 0) (World.ownsRow_nil _ _ _ _) (by simp [zeroP]) (fun z hz => by simp [zeroP] at hz) (Nat.le_refl _), below_set6 HB.out (by omega) (by omega)⟩
        have ho := HOX.out.same (w' := _) (fun q hq _ _ => heap_set6 (w := w3.alloc (.cells #[.int .i64 size, .slice av ps.length cv] 26)) (g := w.heap.size + 1) (g' := w.heap.size + 1 + 1) (q := q) (y0 := .int .i64 size) (y1 := .slice av ps.length cv) (z0 := .int .i64 0) (z1 := .int .i64 0) (z2 := .slice none 0 0) (z3 := .bool false) (by omega) (by omega))
        have := ho.rd (by rw [HXS.out]; exact HGD.out) (Nat.le_refl _)
        rw [HXS.out] at this
        exact this)
    | true =>
      have hok2 : hasN size ps i = true := by unfold hasN; rw [hnet, hin]; rfl
      obtain ⟨j, rfl, hj, _⟩ := hasN_at hok2
      obtain ⟨g, rfl⟩ : ∃ g, av = some ⟨g, 0, none⟩ := by
        rcases HOX.out.1.2 with ⟨e, h1⟩ | ⟨g, c', _, e, _⟩
        · rw [HXL.out] at h1; omega
        · simp only [Value.slice.injEq] at e; exact ⟨g, e.1⟩
      have hrow := HOX.out.1
      rw [HXL.out] at hrow
      have fc : ∀ r, r < 4 → (w3.alloc (.cells #[.int .i64 size, .slice (some ⟨g, 0, none⟩) ps.length cv] 26)).cell? ⟨g, j * 4 + r, none⟩ = (pkC (xs.getD j default))[r]? := fun r hr => by
        rw [World.ownsRow.cellAt hrow _ (by omega), flat_get pkC 4 pkC_len _ default j r (by rw [HXL.out]; exact hj) hr]
      have hgl := (World.ownsRow.lt hrow g rfl).1
      have hgh := HOX.out.2.2.2.1 g rfl
      have hxj : xs.getD j default ∈ xs := getD_mem xs j (by rw [HXL.out]; exact hj)
      have hpj : (xs.getD j default).1 = ps.getD j default := by
        rw [← HXS.out]
        simp [List.getD, show j < xs.length by rw [HXL.out]; exact hj]
      have ou := HOX.out.2.1 _ hxj
      obtain ⟨au, cu, eu⟩ := own_shape ou
      have HGP := hide (HGD.out _ (getD_mem ps j hj))
      have HGJ : Hid (takeN size ps (j : Int) = (((size, ps.take j ++ ps.drop (j + 1)), ps.getD j default), true)) := hide (by rw [takeN_yes hok2]; rfl)
      generalize hxe : xs.getD j default = x at *
      clear hxe
      obtain ⟨p, u⟩ := x
      simp only at hpj ou eu
      subst eu
      rw [← hpj] at HGP HGJ
      clear hpj
      have d0 := fc 0 (by omega)
      have d1 := fc 1 (by omega)
      have d2 := fc 2 (by omega)
      have d3 := fc 3 (by omega)
      rw [Nat.add_zero] at d0
      unfold pkC at d0 d1 d2 d3
      simp only [List.getElem?_cons_zero, List.getElem?_cons_succ] at d0 d1 d2 d3
      have hcv : ps.length ≤ cv := by
        obtain ⟨_, a', c', e, h2, _⟩ := rd_own hrow (Nat.le_refl _)
        simp only [Value.slice.injEq] at e
        omega
      have HROW := hide (HOX.out.1)
      have HOU := hide ou
      have HUH := hide (fun q hq => HOX.out.2.2.2.2 _ (List.mem_map_of_mem hxj) q hq)
      simp only at HUH
      have HXO := hide (fun (x : Pk × Value) (hx : x ∈ xs) => HOX.out.2.1 x hx)
      have HXH := hide (fun (x : Pk × Value) (hx : x ∈ xs) => HOX.out.2.2.2.2 x.2 (List.mem_map_of_mem hx))
      clear fc hrow ou hxj
      have bP := (Below.refl (w3.alloc (.cells #[.int .i64 size, .slice (some ⟨g, 0, none⟩) ps.length cv] 26)).heap.size (w3.alloc (.cells #[.int .i64 size, .slice (some ⟨g, 0, none⟩) ps.length cv] 26))).alloc (Nat.le_refl _) (.cells #[.int .i64 p.f, .int .i64 p.t, .slice au p.b.length cu, .bool p.s] 28)
      have HY := hide (heap_alloc_new (w3.alloc (.cells #[.int .i64 size, .slice (some ⟨g, 0, none⟩) ps.length cv] 26)) (.cells #[.int .i64 p.f, .int .i64 p.t, .slice au p.b.length cu, .bool p.s] 28))
      simp only [World.size_alloc] at HY
      have HS5 : Hid (((w3.alloc (.cells #[.int .i64 size, .slice (some ⟨g, 0, none⟩) ps.length cv] 26)).alloc (.cells #[.int .i64 p.f, .int .i64 p.t, .slice au p.b.length cu, .bool p.s] 28)).heap.size = w3.heap.size + 1 + 1) := hide (by simp)
      have HP5 := hide bP
      clear bP
      have hw1 : IntKind.i64.wrap ((j : Int) + 1) = (j : Int) + 1 := by rw [IntKind.wrap_i64]; omega
      have ht1 : ((j : Int) + 1).toNat = j + 1 := by omega
      have hj1 : (j : Int) + 1 ≤ (ps.length : Int) := by omega
      have hj2 : (j : Int) ≤ (cv : Int) := by omega
      clear x0 xz r0 r1 z1 k0 k1 k2 k3 z2
      go_wp2_with (go_at_call 32; refine (inSpec _ _ _ _).mono ?_; rw [hin]; rintro e w9 ⟨rfl, hw9⟩; subst w9)
      clear f1 x1 d0 d1 d2 d3
      replace H0 := hide ((HP5.out.block w.heap.size (by have := HS4.out; omega)).trans H0.out)
      replace H1 := hide ((HP5.out.block (w.heap.size + 1) (by have := HS4.out; omega)).trans H1.out)
      replace H2 := hide ((HP5.out.block (w.heap.size + 1 + 1) (by have := HS4.out; omega)).trans H2.out)
      replace HX := hide ((HP5.out.block w3.heap.size (by have := HS4.out; omega)).trans HX.out)
      replace HROW := hide (owns_same HROW.out (fun q hq => HP5.out.block q (World.ownsRow.lt HROW.out q hq).2))
      replace HXO := hide (fun (x : Pk × Value) (hx : x ∈ xs) => (HXO.out x hx).below HP5.out)
      replace HOU := hide (HOU.out.below HP5.out)
      replace HB := hide (HB.out.trans (HP5.out.mono HB.out.size))
      have hs5 := HS5.out
      generalize (w3.alloc (.cells #[.int .i64 size, .slice (some ⟨g, 0, none⟩) ps.length cv] 26)).alloc (.cells #[.int .i64 p.f, .int .i64 p.t, .slice au p.b.length cu, .bool p.s] 28) = w5 at *
      clear HP5 HS4 HOX
      have hg5 : w3.heap.size < w5.heap.size := by omega
      have hs35 : Hid (w5.heap.size = w3.heap.size + 1 + 1) := hide hs5
      clear hs5 HS5
      have x1 := (box_of HX.out).1 1 _ rfl
      obtain ⟨qs, hqs⟩ : ∃ qs, ps.take j ++ ps.drop (j + 1) = qs := ⟨_, rfl⟩
      rw [hqs] at HGJ
      have HQS : Hid ((([] ++ xs.take j) ++ xs.drop (j + 1)).map Prod.fst = qs) := hide (by rw [List.nil_append, List.map_append, List.map_take, List.map_drop, HXS.out]; exact hqs)
      have HN1 : Hid (([] : List (Pk × Value)).length + (xs.take j).length = j) := hide (by have := HXL.out; simp; omega)
      have HN2 : Hid (([] ++ xs.take j).length + (xs.drop (j + 1)).length = qs.length) := hide (by rw [← hqs]; have := HXL.out; simp; omega)
      have HN3 : Hid (([] ++ xs.take j).length + (xs.drop (j + 1)).length ≤ 3000000) := hide (by have := HXL.out; simp; omega)
      have HGQ : Hid (Good qs) := hide (fun q hq => HGD.out q (by rw [← hqs] at hq; rcases List.mem_append.1 hq with h | h; exact List.mem_of_mem_take h; exact List.mem_of_mem_drop h))
      clear hqs
      have HE0 := hide (show (w5.drew.alloc (.cells #[] 28)).ownsRow w5.heap.size 28 4 (.slice (some ⟨w5.heap.size, 0, none⟩) 0 0) ([] : List (Pk × Value)).length (([] : List (Pk × Value)).flatMap pkC) from World.ownsRow_lit w5.drew #[] 0 (Nat.le_refl _) (by unfold maxLen; omega) rfl)
      have hrd : Rd w5 w5.heap.size 4 (.slice (some ⟨g, 0, none⟩) ps.length cv) xs.length (xs.flatMap pkC) := by have := rd_own HROW.out (Nat.le_refl _); rw [HXL.out] at this ⊢; exact this
      have HT1 := hide (show Rd (w5.drew.alloc (.cells #[] 28)) w5.heap.size 4 (.slice (some ⟨g, 0, none⟩) j cv) (xs.take j).length ((xs.take j).flatMap pkC) from (rd_take hrd (by have := HXL.out; omega) (by omega) (Nat.le_refl _)).kept (fun k hk => Below.heap_alloc w5.drew _ k hk))
      have HT2 := hide (rd_drop hrd (i := j + 1) (by have := HXL.out; omega))
      have HOC : Hid (∀ x ∈ xs, ∀ u ∈ pkC x, u.oneCell' = true) := hide (fun x hx u hu => by
        obtain ⟨a', c', e⟩ := own_shape (HXO.out x hx)
        unfold pkC at hu
        rw [e] at hu
        simp at hu
        rcases hu with rfl | rfl | rfl | rfl <;> rfl)
      have HO1 : Hid (∀ u ∈ (xs.take j).flatMap pkC, u.oneCell' = true) := hide (fun u hu => by obtain ⟨x, hx, hu⟩ := List.mem_flatMap.1 hu; exact HOC.out x (List.mem_of_mem_take hx) u hu)
      have HO2 : Hid (∀ u ∈ (xs.drop (j + 1)).flatMap pkC, u.oneCell' = true) := hide (fun u hu => by obtain ⟨x, hx, hu⟩ := List.mem_flatMap.1 hu; exact HOC.out x (List.mem_of_mem_drop hx) u hu)
      have hcv0 : ¬ cv = 0 := by omega
      have hj0 : (0 : Int) ≤ (j : Int) + 1 := by omega
      clear hrd
      go_cut [41] from 30 to 42 (fun s wq => ∃ a7 c7, Hid (wq.heap[w3.heap.size]? = some (.cells #[.int .i64 size, .slice a7 qs.length c7] 26 (0, 0))) ∧ Hid (wq.ownsRow w5.heap.size 28 4 (.slice a7 qs.length c7) (([] ++ xs.take j) ++ xs.drop (j + 1)).length ((([] ++ xs.take j) ++ xs.drop (j + 1)).flatMap pkC)) ∧ Hid (∀ k, k < w5.heap.size → k ≠ w3.heap.size → wq.heap[k]? = w5.heap[k]?) ∧ w5.heap.size < wq.heap.size ∧ Hid (wq.os = w5.os ∧ wq.tape = w5.tape ∧ wq.output = w5.output))
      case first =>
        by_cases hcj : cv = j + 1
        · subst hcj
          rw [if_pos rfl, Nat.sub_self, show ps.length - (j + 1) = 0 from by omega] at HT2
          have hjj : (j : Int) ≤ (j : Int) + 1 := by omega
          go_region_law
            (first
              | (refine step_own_cat (w := w5.drew.alloc (.cells #[] 28)) (some 35) rfl rfl _ _ rfl w5.heap.size w5.heap.size j (j + 1) (.slice (some ⟨w5.heap.size, 0, none⟩) 0 0) ⟨g, 0, none⟩ [] (xs.take j) (by rfl) (by rfl) HE0.out HT1.out HO1.out (by simp) (by simp; omega) j HN1.out ?_; intro a6 c6 w6 o6 g6 at6;
                    have hq6 : ∀ k, k < w5.heap.size → w6.heap[k]? = w5.heap[k]? := fun k hk => (g6.block k (by simp; omega) (fun e => absurd (Option.some.inj (show some k = some w5.heap.size from e)) (by omega))).trans (Below.heap_alloc w5.drew _ k hk);
                    have x6 := (World.cell?_of_block (w := w5) (a := ⟨w3.heap.size, 1, none⟩) (hq6 _ (by dsimp only; omega))).trans x1;
                    have hs6 : w5.heap.size < w6.heap.size := Nat.lt_of_lt_of_le (by simp) g6.size;
                    have HT6 : Hid (Rd w6 w5.heap.size 4 (.slice (some ⟨g, 0, none⟩) 0 0) (xs.drop (j + 1)).length ((xs.drop (j + 1)).flatMap pkC)) := hide (HT2.out.kept hq6);
                    have HS6 : Hid (w6.os = w5.os ∧ w6.tape = w5.tape ∧ w6.output = w5.output) := hide ⟨g6.os, g6.tape, g6.output⟩; have HO6 := hide o6; have HQ6 := hide hq6; have HA6 : Hid (∀ q, (Value.slice a6 j c6).ownBlock = some q → w5.heap.size ≤ q) := hide (fun q hq => (World.ownsRow.lt o6 q hq).1); clear o6 g6 at6 hq6)
              | (refine step_own_cat (w := w6) (some 41) rfl rfl _ _ rfl w5.heap.size w5.heap.size 0 0 (.slice a6 j c6) ⟨g, 0, none⟩ ([] ++ xs.take j) (xs.drop (j + 1)) (by rfl) (by rfl) HO6.out HT6.out HO2.out (Nat.le_of_lt hs6) HN3.out qs.length HN2.out ?_; intro a7 c7 w7 o7 g7 at7;
                    have hq7 : ∀ k, k < w5.heap.size → w7.heap[k]? = w5.heap[k]? := fun k hk => (g7.block k (by omega) (fun e => by have := HA6.out k e.symm; omega)).trans (HQ6.out k hk);
                    have EX7 := hide ((hq7 w3.heap.size hg5).trans HX.out); have x7 := (box_of EX7.out).1 1 _ rfl; have x70 := (box_of EX7.out).1 0 _ rfl; have xz7 := (box_of EX7.out).2;
                    have hs7 : w5.heap.size < w7.heap.size := Nat.lt_of_lt_of_le hs6 g7.size; have HOS : Hid (w7.os = w5.os ∧ w7.tape = w5.tape ∧ w7.output = w5.output) := hide ⟨g7.os.trans HS6.out.1, g7.tape.trans HS6.out.2.1, g7.output.trans HS6.out.2.2⟩;
                    have HO7 := hide o7; have HQ7 := hide hq7; clear o7 g7 at7 hq7)
              | fail)
          all_goals (
            have E9 := hide (heap_setCell_same w7 w3.heap.size 1 _ 26 (.slice a7 qs.length c7) EX7.out)
            simp only [Array.setIfInBounds] at E9
            have O9 := hide (owns_same (w' := w7.setCell ⟨w3.heap.size, 1, none⟩ (.slice a7 qs.length c7)) HO7.out (fun q hq => heap_setCell_other w7 _ q _ (by have := (World.ownsRow.lt HO7.out q hq).1; dsimp only; omega)))
            have Q9 : Hid (∀ k, k < w5.heap.size → k ≠ w3.heap.size → (w7.setCell ⟨w3.heap.size, 1, none⟩ (.slice a7 qs.length c7)).heap[k]? = w5.heap[k]?) := hide (fun k hk hne => (heap_setCell_other w7 _ k _ hne).trans (HQ7.out k hk))
            have hs9 : w5.heap.size < (w7.setCell ⟨w3.heap.size, 1, none⟩ (.slice a7 qs.length c7)).heap.size := by simp; omega
            go_wp2_with fail
            go_meet
            exact ⟨a7, c7, E9, O9, Q9, hs9, HOS⟩)
        · rw [if_neg hcj, Nat.zero_add] at HT2
          go_region_law
            (first
              | (refine step_own_cat (w := w5.drew.alloc (.cells #[] 28)) (some 35) rfl rfl _ _ rfl w5.heap.size w5.heap.size j cv (.slice (some ⟨w5.heap.size, 0, none⟩) 0 0) ⟨g, 0, none⟩ [] (xs.take j) (by rfl) (by rfl) HE0.out HT1.out HO1.out (by simp) (by simp; omega) j HN1.out ?_; intro a6 c6 w6 o6 g6 at6;
                    have hq6 : ∀ k, k < w5.heap.size → w6.heap[k]? = w5.heap[k]? := fun k hk => (g6.block k (by simp; omega) (fun e => absurd (Option.some.inj (show some k = some w5.heap.size from e)) (by omega))).trans (Below.heap_alloc w5.drew _ k hk);
                    have x6 := (World.cell?_of_block (w := w5) (a := ⟨w3.heap.size, 1, none⟩) (hq6 _ (by dsimp only; omega))).trans x1;
                    have hs6 : w5.heap.size < w6.heap.size := Nat.lt_of_lt_of_le (by simp) g6.size;
                    have HT6 : Hid (Rd w6 w5.heap.size 4 (.slice (some ⟨g, (j + 1) * 4, none⟩) (ps.length - (j + 1)) (cv - (j + 1))) (xs.drop (j + 1)).length ((xs.drop (j + 1)).flatMap pkC)) := hide (HT2.out.kept hq6);
                    have HS6 : Hid (w6.os = w5.os ∧ w6.tape = w5.tape ∧ w6.output = w5.output) := hide ⟨g6.os, g6.tape, g6.output⟩; have HO6 := hide o6; have HQ6 := hide hq6; have HA6 : Hid (∀ q, (Value.slice a6 j c6).ownBlock = some q → w5.heap.size ≤ q) := hide (fun q hq => (World.ownsRow.lt o6 q hq).1); clear o6 g6 at6 hq6)
              | (refine step_own_cat (w := w6) (some 41) rfl rfl _ _ rfl w5.heap.size w5.heap.size (ps.length - (j + 1)) (cv - (j + 1)) (.slice a6 j c6) ⟨g, (j + 1) * 4, none⟩ ([] ++ xs.take j) (xs.drop (j + 1)) (by rfl) (by rfl) HO6.out HT6.out HO2.out (Nat.le_of_lt hs6) HN3.out qs.length HN2.out ?_; intro a7 c7 w7 o7 g7 at7;
                    have hq7 : ∀ k, k < w5.heap.size → w7.heap[k]? = w5.heap[k]? := fun k hk => (g7.block k (by omega) (fun e => by have := HA6.out k e.symm; omega)).trans (HQ6.out k hk);
                    have EX7 := hide ((hq7 w3.heap.size hg5).trans HX.out); have x7 := (box_of EX7.out).1 1 _ rfl; have x70 := (box_of EX7.out).1 0 _ rfl; have xz7 := (box_of EX7.out).2;
                    have hs7 : w5.heap.size < w7.heap.size := Nat.lt_of_lt_of_le hs6 g7.size; have HOS : Hid (w7.os = w5.os ∧ w7.tape = w5.tape ∧ w7.output = w5.output) := hide ⟨g7.os.trans HS6.out.1, g7.tape.trans HS6.out.2.1, g7.output.trans HS6.out.2.2⟩;
                    have HO7 := hide o7; have HQ7 := hide hq7; clear o7 g7 at7 hq7)
              | fail)
          all_goals (
            have E9 := hide (heap_setCell_same w7 w3.heap.size 1 _ 26 (.slice a7 qs.length c7) EX7.out)
            simp only [Array.setIfInBounds] at E9
            have O9 := hide (owns_same (w' := w7.setCell ⟨w3.heap.size, 1, none⟩ (.slice a7 qs.length c7)) HO7.out (fun q hq => heap_setCell_other w7 _ q _ (by have := (World.ownsRow.lt HO7.out q hq).1; dsimp only; omega)))
            have Q9 : Hid (∀ k, k < w5.heap.size → k ≠ w3.heap.size → (w7.setCell ⟨w3.heap.size, 1, none⟩ (.slice a7 qs.length c7)).heap[k]? = w5.heap[k]?) := hide (fun k hk hne => (heap_setCell_other w7 _ k _ hne).trans (HQ7.out k hk))
            have hs9 : w5.heap.size < (w7.setCell ⟨w3.heap.size, 1, none⟩ (.slice a7 qs.length c7)).heap.size := by simp; omega
            go_wp2_with fail
            go_meet
            exact ⟨a7, c7, E9, O9, Q9, hs9, HOS⟩)
      case rest =>
        obtain ⟨a7, c7, E9, O9, Q9, hs9, HOS⟩ := hcut
        clear x1
        replace H1 := hide ((Q9.out (w.heap.size + 1) (by omega) (by omega)).trans H1.out)
        replace H2 := hide ((Q9.out (w.heap.size + 1 + 1) (by omega) (by omega)).trans H2.out)
        replace HY := hide ((Q9.out (w3.heap.size + 1) (by have := hs35.out; omega) (by omega)).trans HY.out)
        replace HOU := hide (HOU.out.same (fun q hq => Q9.out q (HOU.out.lt q hq).2 (by have := HUH.out q hq; omega)))
        replace HXO := hide (fun (x : Pk × Value) (hx : x ∈ xs) => (HXO.out x hx).same (fun q hq => Q9.out q ((HXO.out x hx).lt q hq).2 (by have := HXH.out x hx q hq; omega)))
        have HB9 : Hid (Below w.heap.size w wc) := hide (HB.out.trans ⟨HOS.out.1, HOS.out.2.1, HOS.out.2.2, Nat.le_of_lt hs9, fun k hk => Q9.out k (by omega) (by omega)⟩)
        have k0 := (box_of E9.out).1 0 _ rfl
        have k1 := (box_of E9.out).1 1 _ rfl
        have p0 := (box_of HY.out).1 0 _ rfl
        have p1 := (box_of HY.out).1 1 _ rfl
        have p2 := (box_of HY.out).1 2 _ rfl
        have p3 := (box_of HY.out).1 3 _ rfl
        have r0 := (box_of H1.out).1 0 _ rfl
        have r1 := (box_of H1.out).1 1 _ rfl
        have rz := (box_of H1.out).2
        have t0 := (box_of H2.out).1 0 _ rfl
        have t1 := (box_of H2.out).1 1 _ rfl
        have t2 := (box_of H2.out).1 2 _ rfl
        have t3 := (box_of H2.out).1 3 _ rfl
        have tz := (box_of H2.out).2
        have HE := hide (res6d H1.out H2.out (by omega) (.int .i64 size) (.slice a7 qs.length c7) (.int .i64 p.f) (.int .i64 p.t) (.slice au p.b.length cu) (.bool p.s))
        go_wp2_with fail
        go_region_held_law (fun w' => w'.cell? ⟨w3.heap.size, 0, none⟩ = some (.int .i64 size) ∧ w'.cell? ⟨w3.heap.size, 1, none⟩ = some (.slice a7 qs.length c7) ∧ w'.cell? ⟨w3.heap.size + 1, 0, none⟩ = some (.int .i64 p.f) ∧ w'.cell? ⟨w3.heap.size + 1, 1, none⟩ = some (.int .i64 p.t) ∧ w'.cell? ⟨w3.heap.size + 1, 2, none⟩ = some (.slice au p.b.length cu) ∧ w'.cell? ⟨w3.heap.size + 1, 3, none⟩ = some (.bool p.s))
          (first | (refine ⟨?_, ?_, ?_, ?_, ?_, ?_⟩ <;> ((repeat (first | rw [cell_drewE] | rw [cell_setNe (by dsimp only; omega)])) <;> assumption)) | (go_keep; done))
          (fail)
        all_goals (
          clear k0 k1 p0 p1 p2 p3 r0 r1 rz t0 t1 t2 t3 tz
          go_wp2
          refine bodyPost_ret (v := .tuple #[.agg #[.int .i64 size, .slice a7 qs.length c7], .agg #[.int .i64 p.f, .int .i64 p.t, .slice au p.b.length cu, .bool p.s], .bool true]) (results_cct Try.results12 _ _ _ rfl rfl (load2 HE.out.1) (load4 HE.out.2)) rfl (show ansR w (takeN size ps (j : Int)) _ _ from by
            rw [HGJ.out]
            have hk : ∀ q, q ≠ w.heap.size + 1 → q ≠ w.heap.size + 1 + 1 → (((((((wc.setCell ⟨w.heap.size + 1, 0, none⟩ (.int .i64 size)).setCell ⟨w.heap.size + 1, 1, none⟩ (.slice a7 qs.length c7)).setCell ⟨w.heap.size + 1 + 1, 0, none⟩ (.int .i64 p.f)).setCell ⟨w.heap.size + 1 + 1, 1, none⟩ (.int .i64 p.t)).setCell ⟨w.heap.size + 1 + 1, 2, none⟩ (.slice au p.b.length cu)).setCell ⟨w.heap.size + 1 + 1, 3, none⟩ (.bool p.s)).drew).heap[q]? = wc.heap[q]? := fun q h1 h2 => by rw [drew_heap]; exact heap_set6 h1 h2
            refine ⟨_, _, rfl, ⟨([] ++ xs.take j) ++ xs.drop (j + 1), HQS.out, rd_own (owns_same (by have := O9.out; exact this) (fun q hq => hk q (by have := (World.ownsRow.lt O9.out q hq).1; omega) (by have := (World.ownsRow.lt O9.out q hq).1; omega))) (Nat.le_refl _), fun x hx => ?_⟩, ?_, (below_set6 HB9.out (by omega) (by omega)).drew⟩
            · have hx2 : x ∈ xs := by
                rw [List.nil_append] at hx
                rcases List.mem_append.1 hx with h | h
                · exact List.mem_of_mem_take h
                · exact List.mem_of_mem_drop h
              have hg2 := HGQ.out x.1 (by rw [← HQS.out]; exact List.mem_map_of_mem hx)
              have ho := HXO.out x hx2
              exact bt_own (ho.same (fun q hq => hk q (by have := (ho.lt q hq).1; omega) (by have := (ho.lt q hq).1; omega))) hg2.1 hg2.2 (Nat.le_refl _)
            · have ho := HOU.out
              exact bt_own (ho.same (fun q hq => hk q (by have := (ho.lt q hq).1; omega) (by have := (ho.lt q hq).1; omega))) HGP.out.1 HGP.out.2 (Nat.le_refl _)))
end Go.Proofs.Ytmlbemcblgnbjaa
