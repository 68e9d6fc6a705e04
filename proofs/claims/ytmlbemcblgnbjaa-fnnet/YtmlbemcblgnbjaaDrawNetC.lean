/-
  More that is drawn of nets: for Twice, for Spoil.
-/
import Derived.Test.YtmlbemcblgnbjaaDrawNetB
namespace Go.Proofs.Ytmlbemcblgnbjaa
open Go.RowKit

set_option maxRecDepth 100000 in
set_option maxHeartbeats 8000000 in
theorem drawTwice (w : World) (a : Option Addr) (len cap : Nat) (zs : List Int) (hin : In w w.heap.size a len zs) :
    Calls Try.prog 13 #[.slice a len cap] w (AtD w) := by
  have b0 := (Below.refl w.heap.size w).alloc (Nat.le_refl _) (.cells #[.int .i64 0, .slice none 0 0] 26)
  have HIN := hide (hin.at b0)
  have E := hide (heap_alloc_new w (.cells #[.int .i64 0, .slice none 0 0] 26))
  have HB := hide b0
  have hs0 : w.heap.size < (w.alloc (.cells #[.int .i64 0, .slice none 0 0] 26)).heap.size := by simp
  clear b0 hin
  go_enter Try.func13, Try.ntmps13
  go_wp2_with fail
  generalize w.alloc (.cells #[.int .i64 0, .slice none 0 0] 26) = W at *
  refine (drawAt _ _ _ _ _ HIN.out).mono ?_
  rintro e w2 ⟨size, v, xs, i, rfl, ho, hgo, hl, hi, b2⟩
  have hs2 := b2.size
  obtain ⟨a2, c2, rfl⟩ := ho.shape
  have bD := (Below.refl w2.heap.size w2).alloc (Nat.le_refl _) (.cells #[.int .i64 size, .slice a2 xs.length c2] 26)
  have HO := hide (ho.below bD)
  have HGO := hide hgo
  replace E := hide ((bD.block w.heap.size (by omega)).trans ((b2.block w.heap.size (by omega)).trans E.out))
  replace HB := hide ((HB.out.trans (b2.mono (by omega))).trans (bD.mono (by omega)))
  have F := hide (heap_alloc_new w2 (.cells #[.int .i64 size, .slice a2 xs.length c2] 26))
  clear ho hgo b2 bD HIN
  have f0 := (box_of F.out).1 0 _ rfl
  have f1 := (box_of F.out).1 1 _ rfl
  have r0 := (box_of E.out).1 0 _ rfl
  have r1 := (box_of E.out).1 1 _ rfl
  have z0 := (box_of E.out).2
  go_wp2_with fail
  refine bodyPost_ret (v := .tuple #[.agg #[.int .i64 size, .slice a2 xs.length c2], .int .i64 i]) (results_ct Try.results13 _ _ _ rfl (load2 (put2 E.out _ _))) rfl ⟨_, _, xs, _, rfl, ?_, HGO.out, hl, hi, (HB.out.setCell (by simp) _).setCell (by simp) _⟩
  refine ((HO.out.like (fun q hq => ?_)).mono (by omega)).up (by simp)
  have := (HO.out.at q hq).1
  rw [heap_setCell_other _ _ _ _ (by simp; omega), heap_setCell_other _ _ _ _ (by simp; omega)]
theorem results_ctt4 {fn : Func} {p u x : Tmp} {ty : TypeId} {v : Value} {g : Addr} (h : fn.results = #[.cell p ty, .tmp u, .tmp x]) (tmps : Array Value) (P : Program) (w : World) (hg : tmps.getD p undef = .pointer (some g)) (hl : (loadVar ty g).run P w = .ok v w) :
    (results fn tmps).run P w = .ok (.tuple #[v, tmps.getD u undef, tmps.getD x undef]) w := by
  have h' : ((asAddr (tmps.getD p undef)).run P w).andThen (fun a w₁ => ((loadVar ty a).run P w₁).andThen fun y w₂ => Result.ok (Value.tuple #[y, tmps.getD u undef, tmps.getD x undef]) w₂) = Result.ok (Value.tuple #[v, tmps.getD u undef, tmps.getD x undef]) w := by
    rw [hg]
    simp [asAddr, Result.andThen, hl]
  simp only [results, h]
  simpa [Sem.run_bind, Result.andThen] using h'

/-- A net lies at block l, its rows from b up to hi, the cursor behind it at g, the answer's cells at w's end. -/
structure NZ (w : World) (g l b hi : Nat) (size : Int) (v : Value) (xs : List (Pk × Value)) (wr : World) : Prop where
  cur : CurW wr g
  box : wr.heap[l]? = some (.cells #[.int .i64 size, v] 26 (0, 0))
  res : wr.heap[w.heap.size]? = some (.cells #[.int .i64 0, .slice none 0 0] 26 (0, 0))
  own : OwnX wr b hi v xs
  bel : Below w.heap.size w wr
  gl : w.heap.size < b ∧ w.heap.size < l ∧ hi ≤ l ∧ l < g
theorem OwnX.top {w : World} {b hi : Nat} {v : Value} {xs : List (Pk × Value)} (h : OwnX w b hi v xs) (q : Nat) (hq : Mine v xs q) : q < hi := by
  rcases hq with hq | ⟨x, hx, hq⟩
  · exact h.2.2.2.1 q hq
  · exact h.2.2.2.2 x.2 (List.mem_map_of_mem hx) q hq
theorem NZ.row {w wr w' : World} {g l b hi : Nat} {row : Option Nat} {size : Int} {v : Value} {xs : List (Pk × Value)} (h : NZ w g l b hi size v xs wr) (hc : CurW w' g) (hg : wr.grownBy w' row) (hr : ∀ k, row = some k → k = g) : NZ w g l b hi size v xs w' := by
  obtain ⟨h1, h2, h3, h4⟩ := h.gl
  have hl := (Array.getElem?_eq_some_iff.1 h.box).1
  refine ⟨hc, (hg.block l hl (fun e => by have := hr l e.symm; omega)).trans h.box, (hg.block _ (by omega) (fun e => by have := hr _ e.symm; omega)).trans h.res, h.own.like (fun q hq => hg.block q (h.own.at q hq).2 (fun e => ?_)), h.bel.grown hg h.bel.size (fun k hk => by have := hr k hk; omega), h1, h2, h3, h4⟩
  have := hr q e.symm
  have := h.own.top q hq
  omega
theorem NZ.call {w wr w' : World} {g l b hi : Nat} {size : Int} {v : Value} {xs : List (Pk × Value)} (h : NZ w g l b hi size v xs wr) (hc : CurW w' g) (hg : wr.grownBy w' (some g)) : NZ w g l b hi size v xs w' := h.row hc hg (fun k hk => by cases hk; rfl)
theorem NZ.below {w wr w' : World} {g l b hi : Nat} {size : Int} {v : Value} {xs : List (Pk × Value)} (h : NZ w g l b hi size v xs wr) (hb : Below wr.heap.size wr w') : NZ w g l b hi size v xs w' := h.row (h.cur.below hb) (grown_of_below hb) (fun k hk => by cases hk)

/-- A net and two numbers that were drawn. -/
def SpD (w : World) (e : Ending) (w' : World) : Prop := ∃ size v xs i bit, e = .returned (.tuple #[.agg #[.int .i64 size, v], .int .i64 i, .int .i64 bit]) ∧ OwnX w' w.heap.size w'.heap.size v xs ∧ Good (xs.map Prod.fst) ∧ xs.length ≤ 61 ∧ (-1 ≤ i ∧ i ≤ xs.length) ∧ (-1 ≤ bit ∧ bit ≤ 9223372036854775807) ∧ Below w.heap.size w w'
set_option maxRecDepth 100000 in
set_option maxHeartbeats 8000000 in
theorem drawSpoil (w : World) (a : Option Addr) (len cap : Nat) (zs : List Int) (hin : In w w.heap.size a len zs) :
    Calls Try.prog 16 #[.slice a len cap] w (SpD w) := by
  have b0 := (Below.refl w.heap.size w).alloc (Nat.le_refl _) (.cells #[.int .i64 0, .slice none 0 0] 26)
  have HI0 := hide hin
  have HIN := hide (hin.at b0)
  have E := hide (heap_alloc_new w (.cells #[.int .i64 0, .slice none 0 0] 26))
  have HB := hide b0
  have hs0 : w.heap.size < (w.alloc (.cells #[.int .i64 0, .slice none 0 0] 26)).heap.size := by simp
  clear b0 hin
  go_enter Try.func16, Try.ntmps16
  go_wp2_with fail
  generalize w.alloc (.cells #[.int .i64 0, .slice none 0 0] 26) = W at *
  refine (drawAt _ _ _ _ _ HIN.out).mono ?_
  rintro e w2 ⟨size, v, xs, i, rfl, ho, hgo, hl, hi, b2⟩
  have hs2 := b2.size
  obtain ⟨a2, c2, rfl⟩ := ho.shape
  have bD := (Below.refl w2.heap.size w2).alloc (Nat.le_refl _) (.cells #[.int .i64 size, .slice a2 xs.length c2] 26)
  have HO := hide (ho.below bD)
  have HGO := hide hgo
  replace E := hide ((bD.block w.heap.size (by omega)).trans ((b2.block w.heap.size (by omega)).trans E.out))
  replace HB := hide ((HB.out.trans (b2.mono (by omega))).trans (bD.mono (by omega)))
  have F := hide (heap_alloc_new w2 (.cells #[.int .i64 size, .slice a2 xs.length c2] 26))
  clear ho hgo b2 bD HIN
  go_wp2_with fail
  generalize w2.alloc (.cells #[.int .i64 size, .slice a2 xs.length c2] 26) = w3 at *
  have hl3 := (Array.getElem?_eq_some_iff.1 F.out).1
  refine (newDraw _ _ _ _ _ (HI0.out.at HB.out)).mono ?_
  rintro e w4 ⟨rfl, hc, b4⟩
  have HD : Hid (NZ w w3.heap.size w2.heap.size W.heap.size w2.heap.size size (.slice a2 xs.length c2) xs w4.drew) := hide (NZ.below ⟨⟨_, _, hc⟩, (b4.block _ hl3).trans F.out, (b4.block _ (by omega)).trans E.out, HO.out.below b4, HB.out.trans (b4.mono HB.out.size), hs0, by omega, Nat.le_refl _, hl3⟩ (Below.refl _ _).drew)
  clear hc b4 HO HB E F HI0
  generalize w3.heap.size = g at *
  generalize w2.heap.size = l at *
  have f0 := (box_of HD.out.box).1 0 _ rfl
  have f1 := (box_of HD.out.box).1 1 _ rfl
  go_upto_region 3 with fail
  go_region_law
    (first
      | (refine step_call rfl 22 _ _ rfl #[.pointer (some ⟨g, 0, none⟩), .int .i64 60] (by kernel_rfl) (belowW w4.drew g 60 (by omega) (by omega) HD.out.cur) ?_; rintro e y1 ⟨k, rfl, k0, k1, hc, hg⟩; refine ⟨_, rfl, ?_⟩; have HJ := hide (HD.out.call hc hg); clear hc hg; have HJ1 := hide (HJ.out.below ((Below.refl y1.heap.size y1).alloc (Nat.le_refl _) (.cells #[.int .i64 0, .int .i64 1, .int .i64 9, .int .i64 40, .int .i64 (-1), .int .i64 9223372036854775807, .int .i64 k] 3))); have g0 := (box_of HJ.out.box).1 0 _ rfl; have g1 := (box_of HJ.out.box).1 1 _ rfl; have h0 := (box_of HJ1.out.box).1 0 _ rfl; have h1 := (box_of HJ1.out.box).1 1 _ rfl)
      | (refine step_call rfl 36 _ _ rfl #[.pointer (some ⟨g, 0, none⟩), .slice (some ⟨y1.heap.size, 0, none⟩) 7 7] (by kernel_rfl) (pickW _ g y1.heap.size 7 [0, 1, 9, 40, -1, 9223372036854775807, k] rfl (by omega) (by omega) HJ.out.cur.lt HJ1.out.cur (heap_alloc_new y1 _)) ?_; rintro e y2 ⟨x, rfl, hx, hc, hg⟩; refine ⟨_, rfl, ?_⟩; have HK := hide (HJ1.out.call hc hg); have HX := hide hx; clear hc hg hx; have m0 := (box_of HK.out.box).1 0 _ rfl; have m1 := (box_of HK.out.box).1 1 _ rfl; have r0 := (box_of HK.out.res).1 0 _ rfl; have r1 := (box_of HK.out.res).1 1 _ rfl; have z0 := (box_of HK.out.res).2)
      | fail)
  all_goals (
    go_wp2_with fail
    refine bodyPost_ret (v := .tuple #[.agg #[.int .i64 size, .slice a2 xs.length c2], .int .i64 i, .int .i64 x]) (results_ctt4 Try.results16 _ _ _ rfl (load2 (put2 HK.out.res _ _))) rfl ⟨_, _, xs, _, _, rfl, ?_, HGO.out, hl, hi, ?_, (HK.out.bel.setCell (by simp) _).setCell (by simp) _⟩
    · have hlk := (Array.getElem?_eq_some_iff.1 HK.out.box).1
      refine ((HK.out.own.like (fun q hq => ?_)).mono (by omega)).up (by simp; omega)
      have := (HK.out.own.at q hq).1
      rw [heap_setCell_other _ _ _ _ (by simp; omega), heap_setCell_other _ _ _ _ (by simp; omega)]
    · have := HX.out
      simp only [List.mem_cons, List.not_mem_nil, or_false] at this
      omega)
end Go.Proofs.Ytmlbemcblgnbjaa
