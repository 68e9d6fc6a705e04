/-
  Any drawn message: its rows lie in new memory, and are short.
-/
import Derived.Test.YtkfnpijljpbiaaaDoorJ24
import Derived.Deep.CutBlock
import Derived.Deep.RegionLaw
import Derived.Deep.AppendLies
namespace Go.Proofs.YtkfnpijljpbiaaaDoor
open Go.RowKit

theorem step_callN {P : Program} {ops : Array Oper} {o : Oper} {a : Act} {w : World} {K : Act → World → Prop} {Q : Exit → Act → World → Prop} {E : Prop} {R : Ending → World → Prop} (hgd : o.guard = none) (f : FuncId) (xs : Array Operand) (ts : Array TypeId) (_ho : o.op = .call { callee := .value (.func f), args := xs, argTypes := ts })
    (args : Array Value) (hrun : (execOp a.eval o).run P w = .ok (.enter f args) w) (hc : Calls P f args w R) (h : ∀ e w', R e w' → ∃ v, e = .returned v ∧ K (a.put o.dst v) w') :
    if Region.wanted o (yielded ops a.tmps) = true then Oper.wp P o a w K Q else E := by
  have hw : Region.wanted o (yielded ops a.tmps) = true := by simp [Region.wanted, hgd]
  rw [if_pos hw]
  unfold Oper.wp
  rw [hrun, Oper.upon_enter]
  refine hc.mono fun e w' hh => ?_
  obtain ⟨v, rfl, hk⟩ := h e w' hh
  exact hk
theorem typ_ne {w : World} {b e e' sz n l : Nat} {v : Value} {cs : List Value} {vs : Array Value} (h : w.ownsRow b e sz v n cs) (hl : w.heap[l]? = some (.cells vs e' (0, 0))) (he : e ≠ e') : v.ownBlock ≠ some l := by
  rcases h.2 with ⟨rfl, _⟩ | ⟨g, c, cur, rfl, _, hg, _⟩
  · intro e; cases e
  · intro e
    cases e
    rw [hg] at hl
    cases hl
    exact he rfl
theorem typ_apart {w : World} {b b' e e' sz sz' n n' : Nat} {v v' : Value} {cs cs' : List Value} (h : w.ownsRow b e sz v n cs) (h' : w.ownsRow b' e' sz' v' n' cs') (he : e ≠ e') (q : Nat) (hq : v.ownBlock = some q) : v'.ownBlock ≠ some q := by
  rcases h.2 with ⟨rfl, _⟩ | ⟨g, c, cur, rfl, _, hg, _⟩
  · cases hq
  · cases hq
    exact typ_ne h' hg (Ne.symm he)
theorem step_app_Note {w : World} {ops : Array Oper} {o : Oper} {act : Act} {K : Act → World → Prop} {Q : Exit → Act → World → Prop} {E : Prop} (hgd : o.guard = none) (s x : Operand)
    (ho : o.op = .call { callee := .builtin .append, args := #[s, x], argTypes := #[37, 37] }) (base g c : Nat) (v : Value) (xs : List (Int × Int)) (y : Int × Int) (hs : act.eval s = v) (hown : OwnN w base v xs)
    (hx : act.eval x = .slice (some ⟨g, 0, none⟩) 1 c) (hb : Box w g (noteC y)) (hsm : xs.length ≤ 2000000) (hbase : base ≤ w.heap.size)
    (h : ∀ g' c' w', OwnN w' base (.slice (some ⟨g', 0, none⟩) (xs.length + 1) c') (xs ++ [y]) → w.grownBy w' v.ownBlock → K (act.put o.dst (.slice (some ⟨g', 0, none⟩) (xs.length + 1) c')) w') :
    if Region.wanted o (yielded ops act.tmps) = true then Oper.wp Tryd.prog o act w K Q else E := by
  obtain ⟨i0, hi, hz0, hz1, hz2⟩ := info_parts Tryd.infoNote
  refine step_append_lies w hgd s x 37 ho base 95 i0 (.agg #[.int .i64 0, .int .i64 0]) 2 16 Tryd.underlying37 hi hz0 hz1 hz2 rfl (by decide) v xs.length (xs.flatMap noteC) hs hown ⟨g, 0, none⟩ 1 c (noteC y) hx rfl (fun j u hu => by rw [Addr.add_lit, Nat.zero_add]; exact hb j u hu) (fun u hu => by obtain ⟨x, y⟩ := y; simp [noteC] at hu; rcases hu with rfl | rfl <;> rfl) (by omega) (by unfold maxLen; omega) (by omega) hbase w.heap.size rfl ?_
  intro g' c' w' ho' hg' _ _
  refine h g' c' w' ?_ hg'
  unfold OwnN
  rw [List.length_append, List.flatMap_append]
  simpa using ho'
theorem step_app_Cell {w : World} {ops : Array Oper} {o : Oper} {act : Act} {K : Act → World → Prop} {Q : Exit → Act → World → Prop} {E : Prop} (hgd : o.guard = none) (s x : Operand)
    (ho : o.op = .call { callee := .builtin .append, args := #[s, x], argTypes := #[36, 36] }) (base g c : Nat) (v : Value) (xs : List (Int × Bool × Int)) (y : Int × Bool × Int) (hs : act.eval s = v) (hown : OwnC w base v xs)
    (hx : act.eval x = .slice (some ⟨g, 0, none⟩) 1 c) (hb : Box w g (cellC y)) (hsm : xs.length ≤ 2000000) (hbase : base ≤ w.heap.size)
    (h : ∀ g' c' w', OwnC w' base (.slice (some ⟨g', 0, none⟩) (xs.length + 1) c') (xs ++ [y]) → w.grownBy w' v.ownBlock → K (act.put o.dst (.slice (some ⟨g', 0, none⟩) (xs.length + 1) c')) w') :
    if Region.wanted o (yielded ops act.tmps) = true then Oper.wp Tryd.prog o act w K Q else E := by
  obtain ⟨i0, hi, hz0, hz1, hz2⟩ := info_parts Tryd.infoCell
  refine step_append_lies w hgd s x 36 ho base 92 i0 (.agg #[.int .i64 0, .bool false, .int .i64 0]) 3 24 Tryd.underlying36 hi hz0 hz1 hz2 rfl (by decide) v xs.length (xs.flatMap cellC) hs hown ⟨g, 0, none⟩ 1 c (cellC y) hx rfl (fun j u hu => by rw [Addr.add_lit, Nat.zero_add]; exact hb j u hu) (fun u hu => by obtain ⟨x, rb, y⟩ := y; simp [cellC] at hu; rcases hu with rfl | rfl | rfl <;> rfl) (by omega) (by unfold maxLen; omega) (by omega) hbase w.heap.size rfl ?_
  intro g' c' w' ho' hg' _ _
  refine h g' c' w' ?_ hg'
  unfold OwnC
  rw [List.length_append, List.flatMap_append]
  simpa using ho'
theorem MIn.app6 {w : World} {g l m : Nat} {k i u c n : Int} {v5 v6 : Value} {cs : List (Int × Bool × Int)} {ns : List (Int × Int)} {wq w' : World} {o : Obj} {g' c' : Nat} {y : Int × Int} (h : MIn w g l m k i u c n v5 v6 cs ns wq) (ho : OwnN w' (w.heap.size + 1) (.slice (some ⟨g', 0, none⟩) (ns.length + 1) c') (ns ++ [y])) (hg : (wq.alloc o).grownBy w' v6.ownBlock) (hl : ns.length + 1 ≤ m) :
    w'.heap[l]? = some (.cells #[.int .i64 k, .int .i64 i, .int .i64 u, .int .i64 c, .int .i64 n, v5, v6] 39 (0, 0)) ∧ MIn w g l m k i u c n v5 (.slice (some ⟨g', 0, none⟩) (ns.length + 1) c') cs (ns ++ [y]) (w'.setCell ⟨l, 6, none⟩ (.slice (some ⟨g', 0, none⟩) (ns.length + 1) c')) :=
  have h1 := h.below ((Below.refl wq.heap.size wq).alloc (Nat.le_refl _) o)
  have := h.lo
  have := h.hi
  have hb := (hg.block l (Array.getElem?_eq_some_iff.1 h1.box).1 (fun e => h.ne6 e.symm)).trans h1.box
  have n3 := typ_ne ho hb (by decide)
  have hc := h1.cur.row hg (fun q hq => by have := (h1.own6.lt q hq).1; omega)
  have hgr := grown_step h1.grown hg (fun q hq => .inr (by have := (h1.own6.lt q hq).1; omega))
  ⟨hb, heap_setCell_same w' l 6 _ _ _ hb,
   (heap_setCell_other w' ⟨l, 6, none⟩ w.heap.size _ (show w.heap.size ≠ l from by omega)).trans ((hg.block w.heap.size (Array.getElem?_eq_some_iff.1 h1.res).1 (fun e => by have := (h1.own6.lt _ e.symm).1; omega)).trans h1.res),
   (h1.own5.kept hg (fun q hq e => h.apart q hq e)).kept (grown_set (g := l) (World.grownBy.refl w' (some l)) 6 _) (fun q hq e => h.ne5 (hq.trans e.symm)), ho.kept (grown_set (g := l) (World.grownBy.refl w' (some l)) 6 _) (fun q hq e => n3 (hq.trans e.symm)), h.ne5, n3, typ_apart (h1.own5.kept hg (fun q hq e => h.apart q hq e)) ho (by decide), h.len5, by simp; omega, hc.mine (by omega) 6 _, grown_mine hgr (by omega) 6 _, h.lo, h.hi⟩
theorem MIn.app5 {w : World} {g l m : Nat} {k i u c n : Int} {v5 v6 : Value} {cs : List (Int × Bool × Int)} {ns : List (Int × Int)} {wq w' : World} {o : Obj} {g' c' : Nat} {y : Int × Bool × Int} (h : MIn w g l m k i u c n v5 v6 cs ns wq) (ho : OwnC w' (w.heap.size + 1) (.slice (some ⟨g', 0, none⟩) (cs.length + 1) c') (cs ++ [y])) (hg : (wq.alloc o).grownBy w' v5.ownBlock) (hl : cs.length + 1 ≤ m) :
    w'.heap[l]? = some (.cells #[.int .i64 k, .int .i64 i, .int .i64 u, .int .i64 c, .int .i64 n, v5, v6] 39 (0, 0)) ∧ MIn w g l m k i u c n (.slice (some ⟨g', 0, none⟩) (cs.length + 1) c') v6 (cs ++ [y]) ns (w'.setCell ⟨l, 5, none⟩ (.slice (some ⟨g', 0, none⟩) (cs.length + 1) c')) :=
  have h1 := h.below ((Below.refl wq.heap.size wq).alloc (Nat.le_refl _) o)
  have := h.lo
  have := h.hi
  have hb := (hg.block l (Array.getElem?_eq_some_iff.1 h1.box).1 (fun e => h.ne5 e.symm)).trans h1.box
  have n3 := typ_ne ho hb (by decide)
  have hc := h1.cur.row hg (fun q hq => by have := (h1.own5.lt q hq).1; omega)
  have hgr := grown_step h1.grown hg (fun q hq => .inr (by have := (h1.own5.lt q hq).1; omega))
  ⟨hb, heap_setCell_same w' l 5 _ _ _ hb,
   (heap_setCell_other w' ⟨l, 5, none⟩ w.heap.size _ (show w.heap.size ≠ l from by omega)).trans ((hg.block w.heap.size (Array.getElem?_eq_some_iff.1 h1.res).1 (fun e => by have := (h1.own5.lt _ e.symm).1; omega)).trans h1.res),
   ho.kept (grown_set (g := l) (World.grownBy.refl w' (some l)) 5 _) (fun q hq e => n3 (hq.trans e.symm)), (h1.own6.kept hg (fun q hq e => h.apart q e hq)).kept (grown_set (g := l) (World.grownBy.refl w' (some l)) 5 _) (fun q hq e => h.ne6 (hq.trans e.symm)), n3, h.ne6, typ_apart ho (h1.own6.kept hg (fun q hq e => h.apart q e hq)) (by decide), by simp; omega, h.len6, hc.mine (by omega) 5 _, grown_mine hgr (by omega) 5 _, h.lo, h.hi⟩

set_option maxRecDepth 100000 in
set_option maxHeartbeats 4000000 in
theorem drawD (w : World) (g : Nat) (hc : CurW w g) :
    Calls Tryd.prog 48 #[.pointer (some ⟨g, 0, none⟩)] w fun e w' => ∃ k i u c n a5 c5 a6 c6 cs ns, e = .returned (.agg #[.int .i64 k, .int .i64 i, .int .i64 u, .int .i64 c, .int .i64 n, .slice a5 (cs : List (Int × Bool × Int)).length c5, .slice a6 (ns : List (Int × Int)).length c6]) ∧
      OwnC w' w.heap.size (.slice a5 cs.length c5) cs ∧ OwnN w' w.heap.size (.slice a6 ns.length c6) ns ∧ cs.length ≤ 50 ∧ ns.length ≤ 50 ∧ CurW w' g ∧ w.grownBy w' (some g) := by
  have hgl := hc.lt
  have HC := hide (hc.alloc (.cells #[.int .i64 0, .int .i64 0, .int .i64 0, .int .i64 0, .int .i64 0, .slice none 0 0, .slice none 0 0] 39))
  have E := hide (heap_alloc_new w (.cells #[.int .i64 0, .int .i64 0, .int .i64 0, .int .i64 0, .int .i64 0, .slice none 0 0, .slice none 0 0] 39))
  have HG := hide (World.grownBy_alloc w (.cells #[.int .i64 0, .int .i64 0, .int .i64 0, .int .i64 0, .int .i64 0, .slice none 0 0, .slice none 0 0] 39) (some g))
  have hs0 := (Array.getElem?_eq_some_iff.1 E.out).1
  clear hc
  go_enter Tryd.func48, Tryd.ntmps48
  go_wp2_with fail
  generalize w.alloc (.cells #[.int .i64 0, .int .i64 0, .int .i64 0, .int .i64 0, .int .i64 0, .slice none 0 0, .slice none 0 0] 39) = W at *
  refine (rightD _ _ HC.out).mono ?_
  rintro e w2 ⟨k, i, u, c, n, a5, c5, a6, c6, cs, ns, rfl, o5, o6, hap, hl5, hl6, hc2, hg2⟩
  replace E := hide ((hg2.block w.heap.size hs0 (fun e => by simp only [Option.some.injEq] at e; omega)).trans E.out)
  replace HG := hide (grown_step HG.out hg2 same_g)
  replace HC := hide hc2
  have O5 := hide o5
  have O6 := hide o6
  have HAP := hide hap
  have hs2 := (Array.getElem?_eq_some_iff.1 E.out).1
  clear hc2 hg2 o5 o6 hap
  have HI : Hid (MIn w g w2.heap.size 50 k i u c n (.slice a5 cs.length c5) (.slice a6 ns.length c6) cs ns (w2.alloc (.cells #[.int .i64 k, .int .i64 i, .int .i64 u, .int .i64 c, .int .i64 n, .slice a5 cs.length c5, .slice a6 ns.length c6] 39))) :=
    hide (have b := (Below.refl w2.heap.size w2).alloc (Nat.le_refl _) (.cells #[.int .i64 k, .int .i64 i, .int .i64 u, .int .i64 c, .int .i64 n, .slice a5 cs.length c5, .slice a6 ns.length c6] 39)
      ⟨heap_alloc_new w2 _, (Below.heap_alloc _ _ _ hs2).trans E.out, (O5.out.mono hs0).below b, (O6.out.mono hs0).below b, (fun e => by have := (O5.out.lt _ e).2; omega), (fun e => by have := (O6.out.lt _ e).2; omega), HAP.out, by omega, by omega, HC.out.alloc _, grown_step HG.out (World.grownBy_alloc w2 _ none) (fun k hk => by cases hk), hgl, hs2⟩)
  clear E HG HC O5 O6 HAP hs0
  go_wp2_with fail
  generalize w2.alloc _ = w3 at *
  generalize w2.heap.size = l at *
  refine (belowW _ _ _ (by omega) (by omega) HI.out.cur).mono ?_
  rintro e w4 ⟨x, rfl, x0, x1, hc4, hg4⟩
  replace HI := hide (HI.out.call hc4 hg4)
  clear hc4 hg4
  go_upto_block 0 with fail
  go_cut [10] from 7 to 54 (fun _ wq => MAny w g l 50 wq)
  case first =>
    by_cases h0 : x = 0
    · subst h0
      go_wp2_with fail
      refine (belowW _ _ _ (by omega) (by omega) HI.out.cur).mono ?_
      rintro e w5 ⟨y, rfl, y0, y1, hc5, hg5⟩
      have HJ := hide (HI.out.call hc5 hg5)
      clear HI hc5 hg5
      have X := box_of HJ.out.box
      have f := X.1 0 _ rfl
      have z := X.2 0
      clear X
      go_wp2_with fail
      go_meet
      exact ⟨_, _, _, _, _, _, _, _, _, _, _, HJ.out.put 0 _ rfl⟩
    by_cases h1 : x = 1
    · subst h1
      go_wp2_with fail
      refine (pickW _ _ _ 4 [0, -1, 1000000, 1000001] rfl (by omega) (by omega) HI.out.cur.lt (HI.out.cur.alloc _) (heap_alloc_new w4 _)).mono ?_
      rintro e w5 ⟨y, rfl, _, hc5, hg5⟩
      have HJ := hide (HI.out.call hc5 (alloc_grown hg5))
      clear HI hc5 hg5
      have X := box_of HJ.out.box
      have f := X.1 1 _ rfl
      have z := X.2 1
      clear X
      go_wp2_with fail
      go_meet
      exact ⟨_, _, _, _, _, _, _, _, _, _, _, HJ.out.put 1 _ rfl⟩
    by_cases h2 : x = 2
    · subst h2
      go_wp2_with fail
      refine (pickW _ _ _ 3 [-1, 3, 16777216] rfl (by omega) (by omega) HI.out.cur.lt (HI.out.cur.alloc _) (heap_alloc_new w4 _)).mono ?_
      rintro e w5 ⟨y, rfl, _, hc5, hg5⟩
      have HJ := hide (HI.out.call hc5 (alloc_grown hg5))
      clear HI hc5 hg5
      have X := box_of HJ.out.box
      have f := X.1 4 _ rfl
      have z := X.2 4
      clear X
      go_wp2_with fail
      go_meet
      exact ⟨_, _, _, _, _, _, _, _, _, _, _, HJ.out.put 4 _ rfl⟩
    by_cases h3 : x = 3
    · subst h3
      have HId := hide (HI.out.below (Below.refl w4.heap.size w4).drew)
      have X := box_of HId.out.box
      have f6 := X.1 6 _ rfl
      clear X
      go_upto_region 10 with fail
      go_region_law
        (first
          | (refine step_callN rfl 33 _ _ rfl #[.pointer (some ⟨g, 0, none⟩), .int .i64 40] (by kernel_rfl) (belowW _ g 40 (by omega) (by omega) HId.out.cur) ?_; rintro e w5 ⟨y, rfl, y0, y1, hc5, hg5⟩; refine ⟨_, rfl, ?_⟩; have HJ := hide (HId.out.call hc5 hg5); clear hc5 hg5; have f7 := (box_of HJ.out.box).1 6 _ rfl; have HJ1 := hide (HJ.out.below ((Below.refl w5.heap.size w5).alloc (Nat.le_refl _) (.cells #[.int .i64 y, .int .i64 0] 95))); have f8 := (box_of HJ1.out.box).1 6 _ rfl; have HBx := hide (Box.new w5 #[.int .i64 y, .int .i64 0] 95); have hsJ : w.heap.size + 1 ≤ (w5.alloc (.cells #[.int .i64 y, .int .i64 0] 95)).heap.size := by have := HJ1.out.hi; have := (Array.getElem?_eq_some_iff.1 HJ1.out.box).1; omega)
          | (refine step_app_Note rfl _ _ rfl (w.heap.size + 1) w5.heap.size 1 _ ns (y, 0) (by rfl) HJ1.out.own6 (by rfl) HBx.out (by omega) hsJ ?_; intro g9 c9 w6 o6 g6; have HK := hide (HJ.out.app6 o6 g6 (by omega)); have f9 := (box_of HK.out.1).1 6 _ rfl; have z9 := (box_of HK.out.1).2; clear o6 g6)
          | fail)
      all_goals (
        go_wp2_with fail
        go_meet
        exact ⟨k, i, u, c, n, a5, c5, some ⟨g9, 0, none⟩, c9, cs, ns ++ [(y, 0)], by rw [show (ns ++ [(y, (0 : Int))]).length = ns.length + 1 from by simp]; exact HK.out.2⟩)
    by_cases h4 : x = 4
    · subst h4
      have HId := hide (HI.out.below (Below.refl w4.heap.size w4).drew)
      have HIe := hide ((HI.out.below ((Below.refl w4.heap.size w4).alloc (Nat.le_refl _) (.cells #[.int .i64 0, .int .i64 2147483648] 3))).below (Below.refl (w4.alloc (.cells #[.int .i64 0, .int .i64 2147483648] 3)).heap.size (w4.alloc (.cells #[.int .i64 0, .int .i64 2147483648] 3))).drew)
      have HL0 : Hid ((w4.alloc (.cells #[.int .i64 0, .int .i64 2147483648] 3)).drew.heap[w4.heap.size]? = some (.cells #[.int .i64 0, .int .i64 2147483648] 3 (0, 0))) := hide (heap_alloc_new w4 (.cells #[.int .i64 0, .int .i64 2147483648] 3))
      have f6 := (box_of HId.out.box).1 5 _ rfl
      have f7 := (box_of HIe.out.box).1 5 _ rfl
      have hgL : g < w4.heap.size := HI.out.cur.lt
      go_upto_region 12 with fail
      go_region_law
        (first
          | (refine step_callN rfl 33 _ _ rfl #[.pointer (some ⟨g, 0, none⟩), .int .i64 10] (by kernel_rfl) (belowW w4.drew g 10 (by omega) (by omega) HId.out.cur) ?_; rintro e w5 ⟨y, rfl, y0, y1, hc5, hg5⟩; refine ⟨_, rfl, ?_⟩; have HJ := hide (HId.out.call hc5 hg5); clear hc5 hg5; have f8 := (box_of HJ.out.box).1 5 _ rfl; have HJ1 := hide (HJ.out.below ((Below.refl w5.heap.size w5).alloc (Nat.le_refl _) (.cells #[.int .i64 0, .int .i64 2147483648] 3))); have f9 := (box_of HJ1.out.box).1 5 _ rfl; have HL5 := hide (heap_alloc_new w5 (.cells #[.int .i64 0, .int .i64 2147483648] 3)))
          | (refine step_callN rfl 33 _ _ rfl #[.pointer (some ⟨g, 0, none⟩), .int .i64 10] (by kernel_rfl) (belowW (w4.alloc (.cells #[.int .i64 0, .int .i64 2147483648] 3)).drew g 10 (by omega) (by omega) HIe.out.cur) ?_; rintro e w5 ⟨y, rfl, y0, y1, hc5, hg5⟩; refine ⟨_, rfl, ?_⟩; have HJ := hide (HIe.out.call hc5 hg5); have HL1 := hide ((hg5.block w4.heap.size (by simp) (fun e => by simp only [Option.some.injEq] at e; omega)).trans HL0.out); clear hc5 hg5; have f8 := (box_of HJ.out.box).1 5 _ rfl)
          | (refine step_callN rfl 46 _ _ rfl #[.pointer (some ⟨g, 0, none⟩), .slice (some ⟨w5.heap.size, 0, none⟩) 2 2] (by kernel_rfl) (pickW _ g w5.heap.size 2 [0, 2147483648] rfl (by omega) (by omega) HJ.out.cur.lt HJ1.out.cur HL5.out) ?_; rintro e w6 ⟨x2, rfl, _, hc6, hg6⟩; refine ⟨_, rfl, ?_⟩; have HM := hide (HJ1.out.call hc6 hg6); clear hc6 hg6; have t8 := (box_of HM.out.box).1 5 _ rfl; have HM1 := hide (HM.out.below ((Below.refl w6.heap.size w6).alloc (Nat.le_refl _) (.cells #[.int .i64 y, .bool false, .int .i64 x2] 92))); have t9 := (box_of HM1.out.box).1 5 _ rfl; have HBx := hide (Box.new w6 #[.int .i64 y, .bool false, .int .i64 x2] 92); have hsJ : w.heap.size + 1 ≤ (w6.alloc (.cells #[.int .i64 y, .bool false, .int .i64 x2] 92)).heap.size := by have := HM1.out.hi; have := (Array.getElem?_eq_some_iff.1 HM1.out.box).1; omega)
          | (refine step_callN rfl 46 _ _ rfl #[.pointer (some ⟨g, 0, none⟩), .slice (some ⟨w4.heap.size, 0, none⟩) 2 2] (by kernel_rfl) (pickW _ g w4.heap.size 2 [0, 2147483648] rfl (by omega) (by omega) hgL HJ.out.cur HL1.out) ?_; rintro e w6 ⟨x2, rfl, _, hc6, hg6⟩; refine ⟨_, rfl, ?_⟩; have HM := hide (HJ.out.call hc6 hg6); clear hc6 hg6; have t8 := (box_of HM.out.box).1 5 _ rfl; have HM1 := hide (HM.out.below ((Below.refl w6.heap.size w6).alloc (Nat.le_refl _) (.cells #[.int .i64 y, .bool false, .int .i64 x2] 92))); have t9 := (box_of HM1.out.box).1 5 _ rfl; have HBx := hide (Box.new w6 #[.int .i64 y, .bool false, .int .i64 x2] 92); have hsJ : w.heap.size + 1 ≤ (w6.alloc (.cells #[.int .i64 y, .bool false, .int .i64 x2] 92)).heap.size := by have := HM1.out.hi; have := (Array.getElem?_eq_some_iff.1 HM1.out.box).1; omega)
          | (refine step_app_Cell rfl _ _ rfl (w.heap.size + 1) w6.heap.size 1 _ cs (y, false, x2) (by rfl) HM1.out.own5 (by rfl) HBx.out (by omega) hsJ ?_; intro g9 c9 w7 o7 g7; have HK := hide (HM.out.app5 o7 g7 (by omega)); have k9 := (box_of HK.out.1).1 5 _ rfl; have z9 := (box_of HK.out.1).2; clear o7 g7)
          | fail)
      all_goals (
        go_wp2_with fail
        go_meet
        exact ⟨k, i, u, c, n, some ⟨g9, 0, none⟩, c9, a6, c6, cs ++ [(y, false, x2)], ns, by rw [show (cs ++ [(y, false, x2)]).length = cs.length + 1 from by simp]; exact HK.out.2⟩)
    by_cases h5 : x = 5
    · subst h5
      go_wp2_with fail
      refine (belowW _ _ _ (by omega) (by omega) HI.out.cur).mono ?_
      rintro e w5 ⟨y, rfl, y0, y1, hc5, hg5⟩
      have HJ := hide (HI.out.call hc5 hg5)
      clear HI hc5 hg5
      have X := box_of HJ.out.box
      have f := X.1 2 _ rfl
      have z := X.2 2
      clear X
      go_wp2_with fail
      go_meet
      exact ⟨_, _, _, _, _, _, _, _, _, _, _, HJ.out.put 2 _ rfl⟩
    go_wp2_with fail
    go_meet
    exact ⟨_, _, _, _, _, _, _, _, _, _, _, HI.out⟩
  case rest =>
  clear HI
  have HA := hide hcut
  clear hcut
  obtain ⟨k, i, u, c, n, a5, c5, a6, c6, cs, ns, hI⟩ := HA.out
  have HI := hide hI
  clear hI HA
  have hgl := HI.out.hi
  have X := box_of HI.out.box
  have f0 := X.1 0 _ rfl
  have f1 := X.1 1 _ rfl
  have f2 := X.1 2 _ rfl
  have f3 := X.1 3 _ rfl
  have f4 := X.1 4 _ rfl
  have f5 := X.1 5 _ rfl
  have f6 := X.1 6 _ rfl
  have Y := box_of HI.out.res
  have r0 := Y.1 0 _ rfl
  have r1 := Y.1 1 _ rfl
  have r2 := Y.1 2 _ rfl
  have r3 := Y.1 3 _ rfl
  have r4 := Y.1 4 _ rfl
  have r5 := Y.1 5 _ rfl
  have r6 := Y.1 6 _ rfl
  have z0 := Y.2 0
  have z1 := Y.2 1
  have z2 := Y.2 2
  have z3 := Y.2 3
  have z4 := Y.2 4
  have z5 := Y.2 5
  have z6 := Y.2 6
  clear X Y
  go_wp2
  have hA := HI.out.ans (.int .i64 k) (.int .i64 i) (.int .i64 u) (.int .i64 c) (.int .i64 n) (.slice a5 cs.length c5) (.slice a6 ns.length c6)
  exact bodyPost_ret (v := .agg #[.int .i64 k, .int .i64 i, .int .i64 u, .int .i64 c, .int .i64 n, .slice a5 cs.length c5, .slice a6 ns.length c6]) (results_one Tryd.results48 _ _ _ rfl (load7 (put7 HI.out.res _ _ _ _ _ _ _))) rfl ⟨k, i, u, c, n, a5, c5, a6, c6, cs, ns, rfl, hA.1, hA.2.1, HI.out.len5, HI.out.len6, hA.2.2.1, hA.2.2.2⟩
end Go.Proofs.YtkfnpijljpbiaaaDoor
