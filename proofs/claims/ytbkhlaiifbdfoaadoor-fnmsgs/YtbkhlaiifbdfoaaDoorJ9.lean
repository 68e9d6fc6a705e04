/-
  Joined: DrawMsgOf, DrawOkV.
-/
import Derived.Test.YtbkhlaiifbdfoaaDoorJ8
import Derived.Test.YtbkhlaiifbdfoaaDoorJ7
import Derived.Maps.AppendAt
import Derived.Laws.AppendOwnNone
/-
  What DrawMsgOf does: some row of bytes is drawn; nothing that was there is turned.
-/
namespace Go.Proofs.YtbkhlaiifbdfoaaDoor
open Go.RowKit

/-- Some row of bytes. -/
def RowB (w : World) (v : Value) : Prop := ∃ (a : Option Addr) (len cap : Nat) (ys : List Int), v = .slice a len cap ∧ In w w.heap.size a len ys ∧ len ≤ 5000 ∧ len ≤ cap ∧ (a = none → cap = 0)
theorem rowB_own {w : World} {b : Nat} {v : Value} {ys : List Int} (h : Own w b v ys) (hl : ys.length ≤ 5000) (hy : Byt ys) : RowB w v := by
  obtain ⟨a, c, rfl, hi, hc⟩ := in_any h (by omega) hy (Nat.le_refl _)
  exact ⟨a, ys.length, c, ys, rfl, hi, hl, hc, h.cap0⟩

theorem own_lit1 (w : World) (B : Nat) (hB : B ≤ w.heap.size) (a : Int) : Own (w.alloc (.cells #[.int .u8 a] 5)) B (.slice (some ⟨w.heap.size, 0, none⟩) 1 1) [a] :=
  World.ownsRow_lit w #[.int .u8 a] 1 hB (by unfold maxLen; omega) rfl
theorem byt_app {xs ys : List Int} (h : Byt xs) (h' : Byt ys) : Byt (xs ++ ys) := fun z hz => by
  rcases List.mem_append.1 hz with hz | hz
  · exact h z hz
  · exact h' z hz
theorem Own.kept' {w w' : World} {b : Nat} {v : Value} {row : Option Nat} {zs : List Int} (h : Own w b v zs) (hg : w.grownBy w' row) (hne : ∀ q, v.ownBlock = some q → row ≠ some q) : Own w' b v zs := by
  refine World.ownsRow.kept h hg ?_
  cases hv : v.ownBlock with
  | none => exact .inl rfl
  | some q => exact .inr (fun e => hne q hv e.symm)

/-- 'append(v, u...)' at a step of a region that draws its order: v of one's own, u any row of bytes. -/
theorem step_appI {w : World} {ops : Array Oper} {o : Oper} {act : Act} {K : Act → World → Prop} {Q : Exit → Act → World → Prop} {E : Prop} (hgd : o.guard = none) (s x : Operand)
    (ho : o.op = .call { callee := .builtin .append, args := #[s, x], argTypes := #[22, 22] }) (base B : Nat) (v : Value) (a : Option Addr) (m c : Nat) (xs zs : List Int) (hs : act.eval s = v) (hx : act.eval x = .slice a m c) (hown : Own w base v xs) (hin : In w B a m zs) (hc : a = none → c = 0) (hsm : xs.length ≤ 2000000) (hbase : base ≤ w.heap.size)
    (h : ∀ v' w', Own w' base v' (xs ++ zs) → w.grownBy w' v.ownBlock → K (act.put o.dst v') w') :
    if Region.wanted o (yielded ops act.tmps) = true then Oper.wp Tryd.prog o act w K Q else E := by
  have hw : Region.wanted o (yielded ops act.tmps) = true := by simp [Region.wanted, hgd]
  rw [if_pos hw]
  obtain ⟨i0, hi, hz0, hz1, hz2⟩ := info_parts Tryd.info5
  have hl := hin.1
  have hm := hin.2.1
  cases a with
  | none =>
    obtain ⟨h0, h1⟩ := hin.none_len
    subst h0 h1
    obtain rfl := hc rfl
    have hrun := run_append_owned_none (P := Tryd.prog) (w := w) base 22 o.type 5 i0 1 Tryd.underlying22 hi v _ _ hown
    unfold Oper.wp
    simp only [execOp, ho, resolve, invoke, builtin, Sem.run_bind, Sem.run_pure, Result.andThen_ok, List.map_toArray, List.map_cons, List.map_nil, hs, hx, hrun]
    exact h v w (by rw [List.append_nil]; exact hown) (World.grownBy.refl _ _)
  | some ad =>
    obtain ⟨v', w', hr, ho', hg', _, _⟩ := run_append_own_at (P := Tryd.prog) w base 22 o.type 5 i0 (.int .u8 0) 1 1 Tryd.underlying22 hi hz0 hz1 hz2 rfl (by decide) v xs.length (xs.map (Value.int .u8)) hown ad m c (zs.map (Value.int .u8)) (by simp; omega) (cells_in hin) (byt_cells _) (by unfold maxLen; omega) (by omega) hbase
    unfold Oper.wp execOp
    simp only [ho, resolve, invoke, builtin, Sem.run_bind, Sem.run_pure, Result.andThen_ok, List.map_toArray, List.map_cons, List.map_nil, hs, hx, hr]
    exact h v' w' (own_more (by rw [hl]; exact ho')) hg'

set_option maxRecDepth 100000 in
set_option maxHeartbeats 4000000 in
theorem drawMsgOf (w : World) (a : Option Addr) (len cap : Nat) (zs : List Int) (hin : In w w.heap.size a len zs) :
    Calls Tryd.prog 12 #[.slice a len cap] w fun e w' => ∃ v, e = .returned v ∧ RowB w' v ∧ Below w.heap.size w w' := by
  go_enter Tryd.func12, Tryd.ntmps12
  go_wp2_with fail
  refine (newDraw _ _ _ _ _ hin).mono ?_
  rintro e w1 ⟨rfl, hc, b1⟩
  have HB := hide b1
  have HC : Hid (CurW w1 w.heap.size) := hide ⟨_, _, hc⟩
  have hs1 := hc.lt
  clear hc hin b1
  go_wp2_with fail
  refine (rightD _ _ HC.out).mono ?_
  rintro e w2 ⟨k, i, u, c, n, a5, c5, a6, c6, cs, ns, rfl, o5, o6, _, hl5, hl6, hc2, hg2⟩
  have O5 := hide (o5.rd (Nat.le_refl _))
  have O6 := hide (o6.rd (Nat.le_refl _))
  replace HC := hide hc2
  replace HB := hide (below_new HB.out hg2)
  have hs2 := hg2.size
  clear o5 o6 hc2 hg2
  go_wp2_with fail
  refine (msgBytesSpec _ k i u c n _ _ cs ns O5.out O6.out (by omega) (by omega)).mono ?_
  rintro e w3 ⟨v3, rfl, o3, b3⟩
  have hbl := mBytes_len k i u c n cs ns
  have HY := hide (mBytes_byt k i u c n cs ns)
  generalize mBytes k i u c n cs ns = bs at *
  have HO := hide (o3.mono (show w.heap.size + 1 ≤ w2.heap.size from by omega))
  obtain ⟨a3, c3, rfl, _, hc3⟩ := in_any o3 (by omega) HY.out (Nat.le_refl _)
  replace HC := hide (HC.out.row (grown_of_below b3) (fun k hk => by cases hk))
  replace HB := hide (HB.out.trans (b3.mono HB.out.size))
  clear o3 b3 O5 O6
  go_wp2_with fail
  refine (belowW _ _ _ (by omega) (by omega) HC.out).mono ?_
  rintro e w4 ⟨p, rfl, p0, p1, hc4, hg4⟩
  obtain ⟨p, rfl⟩ : ∃ q : Nat, p = (q : Int) := ⟨p.toNat, by omega⟩
  replace HO := hide (HO.out.cur hg4 (by omega))
  replace HC := hide hc4
  replace HB := hide (below_new HB.out hg4)
  clear hc4 hg4
  go_wp2_with fail
  refine (belowW _ _ _ (by omega) (by omega) HC.out).mono ?_
  rintro e w5 ⟨x, rfl, x0, x1, hc5, hg5⟩
  replace HO := hide (HO.out.cur hg5 (by omega))
  replace HC := hide hc5
  replace HB := hide (below_new HB.out hg5)
  clear hc5 hg5
  have hpl : p ≤ bs.length := by omega
  have hpc : p ≤ c3 := by omega
  by_cases h0 : x = 0
  · subst h0
    have HR : Hid (RowB w5 (.slice a3 p c3)) := hide ⟨a3, p, c3, bs.take p, rfl, (in_slice HO.out (by omega) HY.out (Nat.le_refl _)).1.take p hpl, by omega, hpc, HO.out.cap0⟩
    go_wp2
    go_ret
    exact ⟨_, rfl, HR.out, HB.out⟩
  by_cases h1 : x = 1
  · subst h1
    have hs5 : w.heap.size + 1 ≤ w5.heap.size := HC.out.lt
    obtain ⟨aD, haD⟩ : ∃ x, x = (if c3 = p then a3 else a3.map (·.add (p * 1))) := ⟨_, rfl⟩
    have hD : ∀ W, (Instr.slice 22 (.slice a3 bs.length c3) (some (.int .i64 (p : Int))) none none).run Tryd.prog W = .ok (.slice aD (bs.length - p) (c3 - p)) W := fun W => by
      rw [haD, run_slice_l W 22 a3 bs.length c3 Tryd.underlying22 .i64 p (by omega) (by omega)]
      simp [go_sem, sliced]
    have HDR : Hid (∀ W, Own W (w.heap.size + 1) (.slice a3 bs.length c3) bs → In W W.heap.size aD (bs.length - p) (bs.drop p)) := hide (fun W h => by
      have h1 := (in_slice h (by omega) HY.out (Nat.le_refl _)).1
      rw [haD]
      cases a3 with
      | none =>
        obtain ⟨h0, h2⟩ := h1.none_len
        rw [h2]
        simp only [List.drop_nil, List.length_nil, Nat.zero_sub, Option.map_none, ite_self]
        rw [h2] at h1
        exact h1
      | some x =>
        rcases h.2 with ⟨e, _⟩ | ⟨gb, cb, cur, e, _⟩
        · cases e
        · cases e
          by_cases hcp : c3 = p
          · rw [if_pos hcp]
            have h0 : bs.length - p = 0 := by omega
            have h2 : bs.drop p = [] := List.drop_eq_nil_of_le (by omega)
            rw [h0, h2]
            exact h1.take 0 (Nat.zero_le _)
          · rw [if_neg hcp]
            have h2 := h1.drop p hpl
            rw [show Option.map (fun x : Addr => x.add (p * 1)) (some ⟨gb, 0, none⟩) = some ⟨gb, 0 + p, none⟩ from by rw [Nat.mul_one, Option.map_some, Addr.add_lit]]
            exact h2)
    have hcD : aD = none → c3 - p = 0 := fun e => by
      rw [haD] at e
      split at e
      · omega
      · have h0 : a3 = none := by cases a3 with | none => rfl | some x => cases e
        have := HO.out.cap0 h0
        omega
    have hc3' : a3 = none → c3 = 0 := HO.out.cap0
    clear haD
    have HE0 : Hid (Own (w5.alloc (.cells #[] 5)).drew (w.heap.size + 1) (.slice (some ⟨w5.heap.size, 0, none⟩) 0 0) []) := hide (own_empty w5 (w.heap.size + 1) hs5)
    have HE1 : Hid (Own ((w5.alloc (.cells #[.int .i64 0, .int .i64 1, .int .i64 128, .int .i64 3] 3)).alloc (.cells #[] 5)).drew (w.heap.size + 1) (.slice (some ⟨w5.heap.size + 1, 0, none⟩) 0 0) []) := hide (by have := own_empty (w5.alloc (.cells #[.int .i64 0, .int .i64 1, .int .i64 128, .int .i64 3] 3)) (w.heap.size + 1) (by simp; omega); simp only [World.size_alloc] at this; exact this)
    have HE2 : Hid (Own ((w5.alloc (.cells #[] 5)).alloc (.cells #[.int .i64 0, .int .i64 1, .int .i64 128, .int .i64 3] 3)).drew (w.heap.size + 1) (.slice (some ⟨w5.heap.size, 0, none⟩) 0 0) []) := hide ((own_empty w5 (w.heap.size + 1) hs5).below (((Below.refl _ _).alloc (Nat.le_refl _) (.cells #[.int .i64 0, .int .i64 1, .int .i64 128, .int .i64 3] 3)).drew))
    have HL1 : Hid (((w5.alloc (.cells #[.int .i64 0, .int .i64 1, .int .i64 128, .int .i64 3] 3)).alloc (.cells #[] 5)).drew.heap[w5.heap.size]? = some (.cells #[.int .i64 0, .int .i64 1, .int .i64 128, .int .i64 3] 3 (0, 0))) := hide ((Below.heap_alloc _ _ _ (by simp)).trans (heap_alloc_new w5 (.cells #[.int .i64 0, .int .i64 1, .int .i64 128, .int .i64 3] 3)))
    have HL2 : Hid (((w5.alloc (.cells #[] 5)).alloc (.cells #[.int .i64 0, .int .i64 1, .int .i64 128, .int .i64 3] 3)).drew.heap[w5.heap.size + 1]? = some (.cells #[.int .i64 0, .int .i64 1, .int .i64 128, .int .i64 3] 3 (0, 0))) := hide (by have := heap_alloc_new (w5.alloc (.cells #[] 5)) (.cells #[.int .i64 0, .int .i64 1, .int .i64 128, .int .i64 3] 3); simp only [World.size_alloc] at this; exact this)
    have HB0 := hide (((Below.refl w5.heap.size w5).alloc (Nat.le_refl _) (.cells #[] 5)).drew)
    have HB1 := hide ((((Below.refl w5.heap.size w5).alloc (Nat.le_refl _) (.cells #[.int .i64 0, .int .i64 1, .int .i64 128, .int .i64 3] 3)).alloc (by simp) (.cells #[] 5)).drew)
    have HB2 := hide ((((Below.refl w5.heap.size w5).alloc (Nat.le_refl _) (.cells #[] 5)).alloc (by simp) (.cells #[.int .i64 0, .int .i64 1, .int .i64 128, .int .i64 3] 3)).drew)
    have HT : Hid (∀ W, Below w5.heap.size w5 W → In W W.heap.size a3 p (bs.take p)) := hide (fun W h => (in_slice (HO.out.below h) (by omega) HY.out (Nat.le_refl _)).1.take p hpl)
    go_upto_region 8 with fail
    go_region_law
      (first
        | (refine step_appI rfl _ _ rfl (w.heap.size + 1) (w5.alloc (.cells #[] 5)).drew.heap.size _ a3 p c3 [] (bs.take p) (by rfl) (by rfl) HE0.out (HT.out _ HB0.out) hc3' (by simp) (by simp; omega) ?_; intro v6 w6 o6 g6; have HO6 := hide o6; have hB6 : Below w5.heap.size w5 w6 := HB0.out.grown g6 HB0.out.size (fun q hq => by cases hq; exact Nat.le_refl _); have HB6 := hide hB6; clear o6 g6; have HL6 := hide (heap_alloc_new w6 (.cells #[.int .i64 0, .int .i64 1, .int .i64 128, .int .i64 3] 3)))
        | (refine step_appI rfl _ _ rfl (w.heap.size + 1) ((w5.alloc (.cells #[.int .i64 0, .int .i64 1, .int .i64 128, .int .i64 3] 3)).alloc (.cells #[] 5)).drew.heap.size _ a3 p c3 [] (bs.take p) (by rfl) (by rfl) HE1.out (HT.out _ HB1.out) hc3' (by simp) (by simp; omega) ?_; intro v6 w6 o6 g6; have HL7 := hide ((g6.block w5.heap.size (by simp; omega) (fun e => by simp only [Value.ownBlock, Option.some.injEq] at e; omega)).trans HL1.out); have HO6 := hide o6; have hB6 : Below w5.heap.size w5 w6 := HB1.out.grown g6 HB1.out.size (fun q hq => by cases hq; exact Nat.le_succ _); have HB6 := hide hB6; clear o6 g6)
        | (refine step_appI rfl _ _ rfl (w.heap.size + 1) ((w5.alloc (.cells #[] 5)).alloc (.cells #[.int .i64 0, .int .i64 1, .int .i64 128, .int .i64 3] 3)).drew.heap.size _ a3 p c3 [] (bs.take p) (by rfl) (by rfl) HE2.out (HT.out _ HB2.out) hc3' (by simp) (by simp; omega) ?_; intro v6 w6 o6 g6; have HL8 := hide ((g6.block (w5.heap.size + 1) (by simp) (fun e => by simp only [Value.ownBlock, Option.some.injEq] at e; omega)).trans HL2.out); have HO6 := hide o6; have hB6 : Below w5.heap.size w5 w6 := HB2.out.grown g6 HB2.out.size (fun q hq => by cases hq; exact Nat.le_refl _); have HB6 := hide hB6; clear o6 g6)
        | (refine step_callN rfl 45 _ _ rfl #[.pointer (some ⟨w.heap.size, 0, none⟩), .slice (some ⟨w6.heap.size, 0, none⟩) 4 4] (by kernel_rfl) (pickW _ w.heap.size (w6.heap.size) 4 [0, 1, 128, 3] rfl (by omega) (by omega) (HC.out.row (grown_of_below HB6.out) (fun k hk => by cases hk)).lt ((HC.out.row (grown_of_below HB6.out) (fun k hk => by cases hk)).alloc _) HL6.out) ?_; rintro e w7 ⟨y, rfl, hy, hc7, hg7⟩; refine ⟨_, rfl, ?_⟩; have hg7' := alloc_grown hg7; have HO7 := hide (HO6.out.cur hg7' (by omega)); have HB7 := hide (below_new (HB.out.trans (HB6.out.mono HB.out.size)) hg7'); have HOb7 := hide ((HO.out.below HB6.out).cur hg7' (by omega)); have hyb : 0 ≤ IntKind.u8.wrap y ∧ IntKind.u8.wrap y ≤ 255 := (by simp at hy; rcases hy with rfl | rfl | rfl | rfl <;> decide); have hs7 : w.heap.size + 1 ≤ w7.heap.size := (by have := HB6.out.size; have := hg7'.size; omega); clear hc7 hg7 hg7' hy; have HN7 := hide (own_lit1 w7 (w.heap.size + 1) hs7 (IntKind.u8.wrap y)); have bD := (Below.refl w7.heap.size w7).alloc (Nat.le_refl _) (.cells #[.int .u8 (IntKind.u8.wrap y)] 5); have HO7a := hide (HO7.out.below bD); have HB7a := hide (HB7.out.trans (bD.mono HB7.out.size)); have HOb7a := hide (HOb7.out.below bD); have hs7a := bD.size; have L6 := hide HO7.out.lt; clear bD)
        | (refine step_callN rfl 45 _ _ rfl #[.pointer (some ⟨w.heap.size, 0, none⟩), .slice (some ⟨w5.heap.size, 0, none⟩) 4 4] (by kernel_rfl) (pickW _ w.heap.size (w5.heap.size) 4 [0, 1, 128, 3] rfl (by omega) (by omega) (HC.out.lt) (HC.out.row (grown_of_below HB6.out) (fun k hk => by cases hk)) HL7.out) ?_; rintro e w7 ⟨y, rfl, hy, hc7, hg7⟩; refine ⟨_, rfl, ?_⟩; have hg7' := hg7; have HO7 := hide (HO6.out.cur hg7' (by omega)); have HB7 := hide (below_new (HB.out.trans (HB6.out.mono HB.out.size)) hg7'); have HOb7 := hide ((HO.out.below HB6.out).cur hg7' (by omega)); have hyb : 0 ≤ IntKind.u8.wrap y ∧ IntKind.u8.wrap y ≤ 255 := (by simp at hy; rcases hy with rfl | rfl | rfl | rfl <;> decide); have hs7 : w.heap.size + 1 ≤ w7.heap.size := (by have := HB6.out.size; have := hg7'.size; omega); clear hc7 hg7 hg7' hy; have HN7 := hide (own_lit1 w7 (w.heap.size + 1) hs7 (IntKind.u8.wrap y)); have bD := (Below.refl w7.heap.size w7).alloc (Nat.le_refl _) (.cells #[.int .u8 (IntKind.u8.wrap y)] 5); have HO7a := hide (HO7.out.below bD); have HB7a := hide (HB7.out.trans (bD.mono HB7.out.size)); have HOb7a := hide (HOb7.out.below bD); have hs7a := bD.size; have L6 := hide HO7.out.lt; clear bD)
        | (refine step_callN rfl 45 _ _ rfl #[.pointer (some ⟨w.heap.size, 0, none⟩), .slice (some ⟨w5.heap.size + 1, 0, none⟩) 4 4] (by kernel_rfl) (pickW _ w.heap.size (w5.heap.size + 1) 4 [0, 1, 128, 3] rfl (by omega) (by omega) (Nat.lt_succ_of_lt HC.out.lt) (HC.out.row (grown_of_below HB6.out) (fun k hk => by cases hk)) HL8.out) ?_; rintro e w7 ⟨y, rfl, hy, hc7, hg7⟩; refine ⟨_, rfl, ?_⟩; have hg7' := hg7; have HO7 := hide (HO6.out.cur hg7' (by omega)); have HB7 := hide (below_new (HB.out.trans (HB6.out.mono HB.out.size)) hg7'); have HOb7 := hide ((HO.out.below HB6.out).cur hg7' (by omega)); have hyb : 0 ≤ IntKind.u8.wrap y ∧ IntKind.u8.wrap y ≤ 255 := (by simp at hy; rcases hy with rfl | rfl | rfl | rfl <;> decide); have hs7 : w.heap.size + 1 ≤ w7.heap.size := (by have := HB6.out.size; have := hg7'.size; omega); clear hc7 hg7 hg7' hy; have HN7 := hide (own_lit1 w7 (w.heap.size + 1) hs7 (IntKind.u8.wrap y)); have bD := (Below.refl w7.heap.size w7).alloc (Nat.le_refl _) (.cells #[.int .u8 (IntKind.u8.wrap y)] 5); have HO7a := hide (HO7.out.below bD); have HB7a := hide (HB7.out.trans (bD.mono HB7.out.size)); have HOb7a := hide (HOb7.out.below bD); have hs7a := bD.size; have L6 := hide HO7.out.lt; clear bD)
        | (refine step_appI rfl _ _ rfl (w.heap.size + 1) (w7.alloc (.cells #[.int .u8 (IntKind.u8.wrap y)] 5)).heap.size _ aD (bs.length - p) (c3 - p) [IntKind.u8.wrap y] (bs.drop p) (by rfl) (by rfl) HN7.out (HDR.out _ HOb7a.out) hcD (by simp) (by omega) ?_; intro v8 w8 o8 g8; have HO8 := hide (HO7a.out.kept' g8 (fun q hq e => by have h1 := (L6.out q hq).2; have h2 : w7.heap.size = q := Option.some.inj e; omega)); have HB8 := hide (HB7a.out.grown g8 HB7a.out.size (fun q hq => by have h2 : w7.heap.size = q := Option.some.inj hq; omega)); have hs8 : w.heap.size + 1 ≤ w8.heap.size := (by have := g8.size; omega); have HYY : Hid (Byt ([IntKind.u8.wrap y] ++ bs.drop p)) := hide (byt_app (fun z hz => by rw [List.mem_singleton] at hz; subst hz; exact hyb) (fun z hz => HY.out z (List.mem_of_mem_drop hz))); obtain ⟨a8, c8, rfl, i8, _⟩ := in_any o8 (by simp; omega) HYY.out (Nat.le_refl _); have hc8 := o8.cap0; rw [show ([IntKind.u8.wrap y] ++ bs.drop p).length = bs.length - p + 1 from by simp] at i8; have HI8 := hide i8; clear o8 g8 i8)
        | (refine step_appI rfl _ _ rfl (w.heap.size + 1) w8.heap.size _ a8 (bs.length - p + 1) c8 (bs.take p) ([IntKind.u8.wrap y] ++ bs.drop p) (by rfl) (by rfl) HO8.out HI8.out hc8 (by simp; omega) hs8 ?_; intro v9 w9 o9 g9; have HR := hide (rowB_own o9 (by simp; omega) (byt_app (fun z hz => HY.out z (List.mem_of_mem_take hz)) HYY.out)); have HB9 := hide (HB8.out.grown g9 HB8.out.size (fun q hq => by have := (HO8.out.lt q hq).1; omega)); clear o9 g9)
        | fail)
    all_goals (
      go_wp2
      go_ret
      exact ⟨_, rfl, HR.out, HB9.out⟩)
  have HR := hide (rowB_own HO.out (by omega) HY.out)
  go_wp2
  go_ret
  exact ⟨_, rfl, HR.out, HB.out⟩
end Go.Proofs.YtbkhlaiifbdfoaaDoor
/-
  What DrawValOk does: some value is drawn; nothing that was there is turned.
-/
namespace Go.Proofs.YtbkhlaiifbdfoaaDoor
open Go.RowKit

set_option maxRecDepth 100000 in
set_option maxHeartbeats 2000000 in
theorem drawValOk (w : World) (a : Option Addr) (len cap : Nat) (zs : List Int) (hin : In w w.heap.size a len zs) :
    Calls Tryd.prog 15 #[.slice a len cap] w fun e w' => ∃ (r : Bool) (k : Int), e = .returned (.agg #[.bool r, .int .i64 k]) ∧ Below w.heap.size w w' := by
  have bA := (Below.refl w.heap.size w).alloc (Nat.le_refl _) (.cells #[.bool false, .int .i64 0] 36)
  have HI := hide ((hin.kept bA.block).up bA.size)
  have E := hide (heap_alloc_new w (.cells #[.bool false, .int .i64 0] 36))
  have HB := hide bA
  have hs0 := (Array.getElem?_eq_some_iff.1 E.out).1
  clear bA hin
  go_enter Tryd.func15, Tryd.ntmps15
  go_wp2_with fail
  generalize w.alloc (.cells #[.bool false, .int .i64 0] 36) = W at *
  refine (newDraw _ _ _ _ _ HI.out).mono ?_
  rintro e w1 ⟨rfl, hc1, b1⟩
  have HC : Hid (CurW w1 W.heap.size) := hide ⟨_, _, hc1⟩
  have hs1 := hc1.lt
  replace E := hide ((b1.block w.heap.size hs0).trans E.out)
  replace HB := hide (HB.out.trans (b1.mono HB.out.size))
  clear b1 hc1 HI
  go_wp2_with fail
  refine (valW _ _ HC.out).mono ?_
  rintro e w2 ⟨r, k, rfl, _, _, hc2, hg2⟩
  replace E := hide ((hg2.block w.heap.size (by omega) (fun e => by simp only [Option.some.injEq] at e; omega)).trans E.out)
  replace HB := hide (below_at HB.out hg2 (Nat.le_of_lt hs0))
  have hs2 := hg2.size
  clear hg2 HC
  have bD := (Below.refl w2.heap.size w2).alloc (Nat.le_refl _) (.cells #[.bool r, .int .i64 k] 36)
  have F := hide (heap_alloc_new w2 (.cells #[.bool r, .int .i64 k] 36))
  have HC := hide (hc2.alloc (.cells #[.bool r, .int .i64 k] 36))
  replace E := hide ((bD.block w.heap.size (by omega)).trans E.out)
  replace HB := hide (HB.out.trans (bD.mono HB.out.size))
  clear bD hc2
  go_wp2_with fail
  generalize w2.alloc (.cells #[.bool r, .int .i64 k] 36) = W2 at *
  generalize w2.heap.size = l at *
  refine (onceW _ _ _ (by omega) (by omega) HC.out).mono ?_
  rintro e w3 ⟨b, rfl, hc3, hg3⟩
  have hl := (Array.getElem?_eq_some_iff.1 F.out).1
  replace E := hide ((hg3.block w.heap.size (by omega) (fun e => by simp only [Option.some.injEq] at e; omega)).trans E.out)
  replace F := hide ((hg3.block l hl (fun e => by simp only [Option.some.injEq] at e; omega)).trans F.out)
  replace HB := hide (below_at HB.out hg3 (Nat.le_of_lt hs0))
  replace HC := hide hc3
  clear hg3 hc3 hl
  have hl3 := (Array.getElem?_eq_some_iff.1 F.out).1
  cases b
  · have X := box_of F.out
    have f0 := X.1 0 _ rfl
    have f1 := X.1 1 _ rfl
    have Y := box_of E.out
    have r0 := Y.1 0 _ rfl
    have r1 := Y.1 1 _ rfl
    have z0 := Y.2 0
    have z1 := Y.2 1
    clear X Y
    go_wp2
    exact bodyPost_ret (v := .agg #[.bool r, .int .i64 k]) (results_one Tryd.results15 _ _ _ rfl (loadV (put2 E.out _ _))) rfl ⟨_, _, rfl, (HB.out.setCell (Nat.le_refl _) _).setCell (Nat.le_refl _) _⟩
  · go_wp2_with fail
    refine (pickW _ _ _ 5 [-1, 2147483648, -2147483649, 1000000, 1000001] rfl (by omega) (by omega) HC.out.lt (HC.out.alloc _) (heap_alloc_new w3 _)).mono ?_
    rintro e w4 ⟨y, rfl, _, hc4, hg4⟩
    have hg5 := alloc_grown hg4
    replace E := hide ((hg5.block w.heap.size (by omega) (fun e => by simp only [Option.some.injEq] at e; omega)).trans E.out)
    replace F := hide ((hg5.block l hl3 (fun e => by simp only [Option.some.injEq] at e; omega)).trans F.out)
    replace HB := hide (below_at HB.out hg5 (Nat.le_of_lt hs0))
    clear hg4 hg5 hc4 HC
    have X := box_of F.out
    have f1 := X.1 1 _ rfl
    have z1 := X.2 1
    clear X
    have E2 := hide ((heap_setCell_other w4 ⟨l, 1, none⟩ w.heap.size (.int .i64 y) (show w.heap.size ≠ l from by omega)).trans E.out)
    have F2 : Hid ((w4.setCell ⟨l, 1, none⟩ (.int .i64 y)).heap[l]? = some (.cells #[.bool r, .int .i64 y] 36 (0, 0))) := hide (heap_setCell_same w4 l 1 _ 36 (.int .i64 y) F.out)
    have HB2 := hide (HB.out.setCell (p := ⟨l, 1, none⟩) (show w.heap.size ≤ l from by omega) (.int .i64 y))
    go_upto_region 5 with fail
    clear f1 z1
    generalize w4.setCell ⟨l, 1, none⟩ (.int .i64 y) = W4 at *
    have X := box_of F2.out
    have f0 := X.1 0 _ rfl
    have f1 := X.1 1 _ rfl
    have Y := box_of E2.out
    have r0 := Y.1 0 _ rfl
    have r1 := Y.1 1 _ rfl
    have z0 := Y.2 0
    have z1 := Y.2 1
    clear X Y
    go_wp2
    exact bodyPost_ret (v := .agg #[.bool r, .int .i64 y]) (results_one Tryd.results15 _ _ _ rfl (loadV (put2 E2.out _ _))) rfl ⟨_, _, rfl, (HB2.out.setCell (Nat.le_refl _) _).setCell (Nat.le_refl _) _⟩
end Go.Proofs.YtbkhlaiifbdfoaaDoor
