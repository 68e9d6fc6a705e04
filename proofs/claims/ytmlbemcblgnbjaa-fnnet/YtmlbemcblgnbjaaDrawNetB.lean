/-
  A drawn net and a number: the net's packets may be read; nothing old is turned.
-/
import Derived.Test.YtmlbemcblgnbjaaDrawNetA
namespace Go.Proofs.Ytmlbemcblgnbjaa
open Go.RowKit

/-- A net is drawn at block l, its rows from b on, the cursor at g, the answer's cells at w's end. -/
structure NV (w : World) (g l b : Nat) (size : Int) (v : Value) (xs : List (Pk × Value)) (wr : World) : Prop where
  cur : CurW wr g
  box : wr.heap[l]? = some (.cells #[.int .i64 size, v] 26 (0, 0))
  res : wr.heap[w.heap.size]? = some (.cells #[.int .i64 0, .slice none 0 0] 26 (0, 0))
  own : OwnX wr b wr.heap.size v xs
  bel : Below w.heap.size w wr
  gl : w.heap.size < g ∧ g < b ∧ b ≤ l
theorem NV.row {w wr w' : World} {g l b : Nat} {row : Option Nat} {size : Int} {v : Value} {xs : List (Pk × Value)} (h : NV w g l b size v xs wr) (hc : CurW w' g) (hg : wr.grownBy w' row) (hr : ∀ k, row = some k → k = g) : NV w g l b size v xs w' := by
  obtain ⟨h1, h2, h3⟩ := h.gl
  have hl := (Array.getElem?_eq_some_iff.1 h.box).1
  refine ⟨hc, (hg.block l hl (fun e => by have := hr l e.symm; omega)).trans h.box, (hg.block _ (by omega) (fun e => by have := hr _ e.symm; omega)).trans h.res, (h.own.like (fun q hq => hg.block q (h.own.at q hq).2 (fun e => ?_))).up hg.size, h.bel.grown hg h.bel.size (fun k hk => by have := hr k hk; omega), h1, h2, h3⟩
  have := hr q e.symm
  have := (h.own.at q hq).1
  omega
theorem NV.call {w wr w' : World} {g l b : Nat} {size : Int} {v : Value} {xs : List (Pk × Value)} (h : NV w g l b size v xs wr) (hc : CurW w' g) (hg : wr.grownBy w' (some g)) : NV w g l b size v xs w' := h.row hc hg (fun k hk => by cases hk; rfl)
theorem NV.below {w wr w' : World} {g l b : Nat} {size : Int} {v : Value} {xs : List (Pk × Value)} (h : NV w g l b size v xs wr) (hb : Below wr.heap.size wr w') : NV w g l b size v xs w' := h.row (h.cur.below hb) (grown_of_below hb) (fun k hk => by cases hk)

/-- A net and a number that were drawn. -/
def AtD (w : World) (e : Ending) (w' : World) : Prop := ∃ size v xs i, e = .returned (.tuple #[.agg #[.int .i64 size, v], .int .i64 i]) ∧ OwnX w' w.heap.size w'.heap.size v xs ∧ Good (xs.map Prod.fst) ∧ xs.length ≤ 61 ∧ (-1 ≤ i ∧ i ≤ xs.length) ∧ Below w.heap.size w w'

set_option maxRecDepth 100000 in
set_option maxHeartbeats 8000000 in
theorem drawAt (w : World) (a : Option Addr) (len cap : Nat) (zs : List Int) (hin : In w w.heap.size a len zs) :
    Calls Try.prog 35 #[.slice a len cap] w (AtD w) := by
  have b0 := (Below.refl w.heap.size w).alloc (Nat.le_refl _) (.cells #[.int .i64 0, .slice none 0 0] 26)
  have HIN := hide (hin.at b0)
  have E := hide (heap_alloc_new w (.cells #[.int .i64 0, .slice none 0 0] 26))
  have HB := hide b0
  have hs0 : w.heap.size < (w.alloc (.cells #[.int .i64 0, .slice none 0 0] 26)).heap.size := by simp
  clear b0 hin
  go_enter Try.func35, Try.ntmps35
  go_wp2_with fail
  generalize w.alloc (.cells #[.int .i64 0, .slice none 0 0] 26) = W at *
  refine (newDraw _ _ _ _ _ HIN.out).mono ?_
  rintro e w1 ⟨rfl, hc, b1⟩
  have HC : Hid (CurW w1 W.heap.size) := hide ⟨_, _, hc⟩
  have hs1 := hc.lt
  replace E := hide ((b1.block w.heap.size (by omega)).trans E.out)
  replace HB := hide (HB.out.trans (b1.mono (by omega)))
  clear hc b1 HIN
  generalize W.heap.size = g at *
  go_wp2_with fail
  refine (drawN _ _ HC.out).mono ?_
  rintro e w2 ⟨size, v, xs, rfl, ho, hgo, hl, hc2, hg2⟩
  have hs2 := hg2.size
  have HV : Hid (NV w g w2.heap.size w1.heap.size size v xs (w2.alloc (.cells #[.int .i64 size, v] 26))) := hide (by
    have b := (Below.refl w2.heap.size w2).alloc (Nat.le_refl _) (.cells #[.int .i64 size, v] 26)
    have b2 := HB.out.grown hg2 (by omega) (fun k hk => by cases hk; omega)
    exact ⟨hc2.alloc _, heap_alloc_new w2 _, (Below.heap_alloc _ _ _ (by omega)).trans ((hg2.block w.heap.size (by omega) (fun e => by simp only [Option.some.injEq] at e; omega)).trans E.out), (ho.below b).up (by simp), b2.trans (b.mono b2.size), by omega, hs1, hs2⟩)
  obtain ⟨a2, c2, rfl⟩ := ho.shape
  have HGO := hide hgo
  clear E HB HC ho hgo hc2 hg2
  go_wp2_with fail
  generalize w2.alloc _ = w3 at *
  generalize w2.heap.size = l at *
  have HD := hide (HV.out.below (Below.refl w3.heap.size w3).drew)
  have f0 := (box_of HD.out.box).1 0 _ rfl
  have f1 := (box_of HD.out.box).1 1 _ rfl
  have hw1 : IntKind.i64.wrap ((xs.length : Int) + 2) = (xs.length : Int) + 2 := by rw [IntKind.wrap_i64]; omega
  go_upto_region 3 with fail
  go_region_law
    (first
      | (refine step_call rfl 22 _ _ rfl #[.pointer (some ⟨g, 0, none⟩), .int .i64 ((xs.length : Int) + 2)] (by kernel_rfl) (belowW w3.drew g ((xs.length : Int) + 2) (by omega) (by omega) HD.out.cur) ?_; rintro e y1 ⟨k, rfl, k0, k1, hc, hg⟩; refine ⟨_, rfl, ?_⟩; have HJ := hide (HD.out.call hc hg); clear hc hg; have g0 := (box_of HJ.out.box).1 0 _ rfl; have g1 := (box_of HJ.out.box).1 1 _ rfl; have r0 := (box_of HJ.out.res).1 0 _ rfl; have r1 := (box_of HJ.out.res).1 1 _ rfl; have z0 := (box_of HJ.out.res).2; have hw2 : IntKind.i64.wrap (k - 1) = k - 1 := (by rw [IntKind.wrap_i64]; omega))
      | fail)
  all_goals (
    go_wp2_with fail
    refine bodyPost_ret (v := .tuple #[.agg #[.int .i64 size, .slice a2 xs.length c2], .int .i64 (k - 1)]) (results_ct Try.results35 _ _ _ rfl (load2 (put2 HJ.out.res _ _))) rfl ⟨_, _, xs, _, rfl, ?_, HGO.out, hl, by omega, (HJ.out.bel.setCell (by simp) _).setCell (by simp) _⟩
    refine ((HJ.out.own.like (fun q hq => ?_)).mono (by omega)).up (by simp)
    have := (HJ.out.own.at q hq).1
    rw [heap_setCell_other _ _ _ _ (by simp; omega), heap_setCell_other _ _ _ _ (by simp; omega)])

set_option maxRecDepth 100000 in
set_option maxHeartbeats 8000000 in
theorem drawTake (w : World) (a : Option Addr) (len cap : Nat) (zs : List Int) (hin : In w w.heap.size a len zs) :
    Calls Try.prog 11 #[.slice a len cap] w (AtD w) := by
  have b0 := (Below.refl w.heap.size w).alloc (Nat.le_refl _) (.cells #[.int .i64 0, .slice none 0 0] 26)
  have HIN := hide (hin.at b0)
  have E := hide (heap_alloc_new w (.cells #[.int .i64 0, .slice none 0 0] 26))
  have HB := hide b0
  have hs0 : w.heap.size < (w.alloc (.cells #[.int .i64 0, .slice none 0 0] 26)).heap.size := by simp
  clear b0 hin
  go_enter Try.func11, Try.ntmps11
  go_wp2_with fail
  generalize w.alloc (.cells #[.int .i64 0, .slice none 0 0] 26) = W at *
  refine (drawAt _ _ _ _ _ HIN.out).mono ?_
  rintro e w2 ⟨size, v, xs, i, rfl, ho, hgo, hl, hi, b2⟩
  have hs2 := b2.size
  obtain ⟨a2, c2, rfl⟩ := ho.shape
  have bD := (Below.refl w2.heap.size w2).alloc (Nat.le_refl _) (.cells #[.int .i64 size, .slice a2 xs.length c2] 26)
  have HO := hide (ho.below bD)
  have HGO := hide hgo
  replace E := hide ((bD.block w.heap.size (by omega)).trans ((b2.block w.heap.size (by omega)).trans E.out))
  replace HB := hide ((HB.out.trans (b2.mono (by omega))).trans (bD.mono (by omega)))
  have F := hide (heap_alloc_new w2 (.cells #[.int .i64 size, .slice a2 xs.length c2] 26))
  clear ho hgo b2 bD HIN
  have f0 := (box_of F.out).1 0 _ rfl
  have f1 := (box_of F.out).1 1 _ rfl
  have r0 := (box_of E.out).1 0 _ rfl
  have r1 := (box_of E.out).1 1 _ rfl
  have z0 := (box_of E.out).2
  go_wp2_with fail
  refine bodyPost_ret (v := .tuple #[.agg #[.int .i64 size, .slice a2 xs.length c2], .int .i64 i]) (results_ct Try.results11 _ _ _ rfl (load2 (put2 E.out _ _))) rfl ⟨_, _, xs, _, rfl, ?_, HGO.out, hl, hi, (HB.out.setCell (by simp) _).setCell (by simp) _⟩
  refine ((HO.out.like (fun q hq => ?_)).mono (by omega)).up (by simp)
  have := (HO.out.at q hq).1
  rw [heap_setCell_other _ _ _ _ (by simp; omega), heap_setCell_other _ _ _ _ (by simp; omega)]
end Go.Proofs.Ytmlbemcblgnbjaa
