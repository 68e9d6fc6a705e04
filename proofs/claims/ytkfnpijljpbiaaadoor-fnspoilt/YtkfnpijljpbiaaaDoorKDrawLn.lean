/-
  What is drawn of lines and of senders, by the model: in new memory; nothing that was there is turned.
-/
import Derived.Test.YtkfnpijljpbiaaaDoorKDrawSnd
import Derived.Test.YtkfnpijljpbiaaaDoorJ17
namespace Go.Proofs.YtkfnpijljpbiaaaDoor
open Go.RowKit

theorem below_at {w w1 w2 : World} {g : Nat} (h : Below w.heap.size w w1) (hg : w1.grownBy w2 (some g)) (hl : w.heap.size ≤ g) : Below w.heap.size w w2 := h.grown hg h.size (fun k hk => by cases hk; exact hl)
theorem OwnY.grow {w w' : World} {b hi g : Nat} {v : Value} {xs : List MsX} (h : OwnY w b hi v xs) (hg : w.grownBy w' (some g)) (hgb : g < b) : OwnY w' b hi v xs := h.same (fun q hq _ hw => hg.block q hw (fun e => by simp only [Option.some.injEq] at e; omega))
/-- Short messages. -/
def Sh (xs : List MsX) : Prop := (∀ x ∈ xs, x.1.cs.length ≤ 50 ∧ x.1.ns.length ≤ 50) ∧ xs.length ≤ 50
theorem Sh.good {xs : List MsX} (h : Sh xs) : GoodS (xs.map Prod.fst) := by
  intro m hm
  obtain ⟨x, hx, rfl⟩ := List.mem_map.1 hm
  have := h.1 x hx
  exact ⟨by omega, by omega⟩
set_option maxRecDepth 100000 in
set_option maxHeartbeats 2000000 in
theorem drawSenderOk (w : World) (a : Option Addr) (len cap : Nat) (zs : List Int) (hin : In w w.heap.size a len zs) :
    Calls Tryd.prog 9 #[.slice a len cap] w fun e w' => ∃ base v xs, e = .returned (sndV base v) ∧ (-1 ≤ base ∧ base ≤ 16777216) ∧ OwnY w' w.heap.size w'.heap.size v xs ∧ Sh xs ∧ Below w.heap.size w w' := by
  have bA := (Below.refl w.heap.size w).alloc (Nat.le_refl _) (.cells #[.int .i64 0, .slice none 0 0] 26)
  have HI := hide ((hin.kept bA.block).up bA.size)
  have E := hide (heap_alloc_new w (.cells #[.int .i64 0, .slice none 0 0] 26))
  have HB := hide bA
  have hs0 := (Array.getElem?_eq_some_iff.1 E.out).1
  clear bA hin
  go_enter Tryd.func9, Tryd.ntmps9
  go_wp2_with fail
  generalize w.alloc (.cells #[.int .i64 0, .slice none 0 0] 26) = W at *
  refine (newDraw _ _ _ _ _ HI.out).mono ?_
  rintro e w1 ⟨rfl, hc1, b1⟩
  have HC : Hid (CurW w1 W.heap.size) := hide ⟨_, _, hc1⟩
  have hs1 := hc1.lt
  replace E := hide ((b1.block w.heap.size hs0).trans E.out)
  replace HB := hide (HB.out.trans (b1.mono HB.out.size))
  clear b1 hc1 HI
  go_wp2_with fail
  refine (senderW _ _ HC.out).mono ?_
  rintro e w2 ⟨base, v, xs, rfl, hbb, ho, hsh, hxl, hc2, hg2⟩
  obtain ⟨av, cv, rfl⟩ := ho.shape
  have HO := hide ho
  replace E := hide ((hg2.block w.heap.size (by omega) (fun e => by simp only [Option.some.injEq] at e; omega)).trans E.out)
  replace HB := hide (below_at HB.out hg2 (Nat.le_of_lt hs0))
  clear ho hc2 hg2 HC
  have Y := box_of E.out
  have r0 := Y.1 0 _ rfl
  have r1 := Y.1 1 _ rfl
  have z1 := Y.2
  clear Y
  go_wp2
  refine bodyPost_ret (v := .agg #[.int .i64 base, .slice av xs.length cv]) (results_one Tryd.results9 _ _ _ rfl (loadS (put2 E.out _ _))) rfl ⟨_, _, xs, rfl, hbb, ?_, ⟨hsh, hxl⟩, (HB.out.setCell (Nat.le_refl _) _).setCell (Nat.le_refl _) _⟩
  refine ((HO.out.same (fun q hq _ _ => ?_)).mono (by omega)).up (by simp)
  rw [heap_setCell_other _ _ _ _ (by simp; omega), heap_setCell_other _ _ _ _ (by simp; omega)]
/-- A drawn line. -/
def DL (w : World) (g : Nat) (e : Ending) (w' : World) : Prop := ∃ base got v xs, e = .returned (lnV base got v) ∧ (-1 ≤ base ∧ base ≤ 16777216) ∧ (-1 ≤ got ∧ got ≤ 16777215) ∧ OwnY w' w.heap.size w'.heap.size v xs ∧ Sh xs ∧ CurW w' g ∧ w.grownBy w' (some g)
set_option maxRecDepth 100000 in
set_option maxHeartbeats 4000000 in
theorem lineW (w : World) (g : Nat) (hc : CurW w g) :
    Calls Tryd.prog 32 #[.pointer (some ⟨g, 0, none⟩)] w (DL w g) := by
  have hgl := hc.lt
  have HC := hide (hc.alloc (.cells #[.int .i64 0, .slice none 0 0, .int .i64 0] 28))
  have E := hide (heap_alloc_new w (.cells #[.int .i64 0, .slice none 0 0, .int .i64 0] 28))
  have HG := hide (World.grownBy_alloc w (.cells #[.int .i64 0, .slice none 0 0, .int .i64 0] 28) (some g))
  have hs0 := (Array.getElem?_eq_some_iff.1 E.out).1
  clear hc
  go_enter Tryd.func32, Tryd.ntmps32
  go_wp2_with fail
  generalize w.alloc (.cells #[.int .i64 0, .slice none 0 0, .int .i64 0] 28) = W at *
  refine (senderW _ _ HC.out).mono ?_
  rintro e w1 ⟨base, v, xs, rfl, hbb, ho, hsh, hxl, hc1, hg1⟩
  obtain ⟨av, cv, rfl⟩ := ho.shape
  have hs1 : w.heap.size < w1.heap.size := by have := hg1.size; omega
  have bA := (Below.refl w1.heap.size w1).alloc (Nat.le_refl _) (.cells #[.int .i64 base, .slice av xs.length cv] 26)
  have HS := hide (heap_alloc_new w1 (.cells #[.int .i64 base, .slice av xs.length cv] 26))
  replace E := hide ((bA.block w.heap.size hs1).trans ((hg1.block w.heap.size hs0 (fun e => by simp only [Option.some.injEq] at e; omega)).trans E.out))
  replace HG := hide (grown_step (grown_step HG.out hg1 same_g) (grown_of_below bA) (fun k hk => by cases hk))
  have HO := hide ((ho.below bA).up (hi' := w1.heap.size) (Nat.le_refl _))
  replace HC := hide (hc1.alloc (.cells #[.int .i64 base, .slice av xs.length cv] 26))
  have hs2 : w1.heap.size < (w1.alloc (.cells #[.int .i64 base, .slice av xs.length cv] 26)).heap.size := by simp
  clear ho hc1 hg1 bA
  go_upto_region 2 with fail
  generalize w1.alloc (.cells #[.int .i64 base, .slice av xs.length cv] 26) = W1 at *
  generalize w1.heap.size = l at *
  have s0 := (box_of HS.out).1 0 _ rfl
  have s1 := (box_of HS.out).1 1 _ rfl
  have HCD : Hid (CurW ((W1.alloc (.cells #[.int .i64 0, .int .i64 3, .int .i64 3, .int .i64 4, .int .i64 16777215, .int .i64 (-1)] 3)).drew) g) := hide ((HC.out.alloc _).row (grown_of_below (Below.refl _ _).drew) (fun k hk => by cases hk))
  have HLD : Hid (((W1.alloc (.cells #[.int .i64 0, .int .i64 3, .int .i64 3, .int .i64 4, .int .i64 16777215, .int .i64 (-1)] 3)).drew).heap[W1.heap.size]? = some (.cells ([0, 3, 3, 4, 16777215, -1].map (Value.int .i64)).toArray 3 (0, 0))) := hide (heap_alloc_new W1 _)
  have bL := ((Below.refl W1.heap.size W1).alloc (Nat.le_refl _) (.cells #[.int .i64 0, .int .i64 3, .int .i64 3, .int .i64 4, .int .i64 16777215, .int .i64 (-1)] 3)).drew
  have HBL := hide bL
  have t0 := (box_of ((bL.block l hs2).trans HS.out)).1 0 _ rfl
  have t1 := (box_of ((bL.block l hs2).trans HS.out)).1 1 _ rfl
  have d0 : W1.drew.cell? ⟨l, 0, none⟩ = some (.int .i64 base) := s0
  have d1 : W1.drew.cell? ⟨l, 1, none⟩ = some (.slice av xs.length cv) := s1
  have hgW := HC.out.lt
  clear bL
  go_region_law
    (first
      | (refine step_callN rfl 46 _ _ rfl #[.pointer (some ⟨g, 0, none⟩), .slice (some ⟨W1.heap.size, 0, none⟩) 6 6] (by kernel_rfl) (pickW _ g W1.heap.size 6 [0, 3, 3, 4, 16777215, -1] rfl (by omega) (by omega) hgW HCD.out HLD.out) ?_; rintro e w3 ⟨got, rfl, hm, hc3, hg3⟩; refine ⟨_, rfl, ?_⟩;
          have HS3 := hide ((hg3.block l (by simp; omega) (fun e => by simp only [Option.some.injEq] at e; omega)).trans ((HBL.out.block l hs2).trans HS.out)); have HE3 := hide ((hg3.block w.heap.size (by simp; omega) (fun e => by simp only [Option.some.injEq] at e; omega)).trans ((HBL.out.block w.heap.size (by omega)).trans E.out));
          have HO3 := hide ((HO.out.below HBL.out).grow hg3 (by omega)); have HG3 := hide (grown_step (grown_step HG.out (grown_of_below HBL.out) (fun k hk => by cases hk)) hg3 same_g); have HC3 := hide hc3; have HM := hide hm; have hs3 : w.heap.size < w3.heap.size := (Array.getElem?_eq_some_iff.1 HE3.out).1; have hs3' : l ≤ w3.heap.size := Nat.le_of_lt (Array.getElem?_eq_some_iff.1 HS3.out).1;
          have u0 := (box_of HS3.out).1 0 _ rfl; have u1 := (box_of HS3.out).1 1 _ rfl; have r0 := (box_of HE3.out).1 0 _ rfl; have r1 := (box_of HE3.out).1 1 _ rfl; have r2 := (box_of HE3.out).1 2 _ rfl; have rz := (box_of HE3.out).2; clear hc3 hg3 hm)
      | fail)
  all_goals (
    go_wp2
    refine bodyPost_ret (v := .agg #[.int .i64 base, .slice av xs.length cv, .int .i64 got]) (results_one Tryd.results32 _ _ _ rfl (loadL (put3 HE3.out _ _ _))) rfl ⟨_, _, _, xs, rfl, hbb, ?_, ?_, ⟨hsh, hxl⟩, ?_, ?_⟩
    · have := HM.out
      simp at this
      rcases this with rfl | rfl | rfl | rfl | rfl <;> omega
    · refine ((HO3.out.same (fun q hq _ _ => ?_)).mono (Nat.le_of_lt hs0)).up (by simpa using hs3')
      rw [heap_setCell_other _ _ _ _ (by simp; omega), heap_setCell_other _ _ _ _ (by simp; omega), heap_setCell_other _ _ _ _ (by simp; omega)]
    · exact ((HC3.out.mine hgl _ _).mine hgl _ _).mine hgl _ _
    · exact grown_mine (grown_mine (grown_mine HG3.out (Nat.le_refl _) _ _) (Nat.le_refl _) _ _) (Nat.le_refl _) _ _)
theorem results_ttct {fn : Func} {p q u x : Tmp} {ty : TypeId} {v : Value} {g : Addr} (h : fn.results = #[.tmp p, .tmp q, .cell u ty, .tmp x]) (tmps : Array Value) (P : Program) (w : World) (hg : tmps.getD u undef = .pointer (some g)) (hl : (loadVar ty g).run P w = .ok v w) :
    (results fn tmps).run P w = .ok (.tuple #[tmps.getD p undef, tmps.getD q undef, v, tmps.getD x undef]) w := by
  have h' : ((asAddr (tmps.getD u undef)).run P w).andThen (fun a w₁ => ((loadVar ty a).run P w₁).andThen fun y w₂ => Result.ok (Value.tuple #[tmps.getD p undef, tmps.getD q undef, y, tmps.getD x undef]) w₂) = Result.ok (Value.tuple #[tmps.getD p undef, tmps.getD q undef, v, tmps.getD x undef]) w := by
    rw [hg]
    simp [asAddr, Result.andThen, hl]
  simp only [results, h]
  simpa [Sem.run_bind, Result.andThen] using h'
/-- Two nodes, a line and a place are drawn. -/
def DWr (w : World) (e : Ending) (w' : World) : Prop := ∃ f t base got i v xs, e = .returned (.tuple #[.int .i64 f, .int .i64 t, lnV base got v, .int .i64 i]) ∧ (-1 ≤ f ∧ f ≤ 4 ∧ 0 ≤ t ∧ t ≤ 3) ∧ (-1 ≤ base ∧ base ≤ 16777216) ∧ (-1 ≤ got ∧ got ≤ 16777215) ∧ (-1 ≤ i ∧ i ≤ 100) ∧ OwnY w' w.heap.size w'.heap.size v xs ∧ Sh xs ∧ Below w.heap.size w w'
set_option maxRecDepth 100000 in
set_option maxHeartbeats 4000000 in
theorem drawWrap (w : World) (a : Option Addr) (len cap : Nat) (zs : List Int) (hin : In w w.heap.size a len zs) :
    Calls Tryd.prog 12 #[.slice a len cap] w (DWr w) := by
  have bA := (Below.refl w.heap.size w).alloc (Nat.le_refl _) (.cells #[.int .i64 0, .slice none 0 0, .int .i64 0] 28)
  have HI := hide ((hin.kept bA.block).up bA.size)
  have E := hide (heap_alloc_new w (.cells #[.int .i64 0, .slice none 0 0, .int .i64 0] 28))
  have HB := hide bA
  have hs0 := (Array.getElem?_eq_some_iff.1 E.out).1
  clear bA hin
  go_enter Tryd.func12, Tryd.ntmps12
  go_wp2_with fail
  generalize w.alloc (.cells #[.int .i64 0, .slice none 0 0, .int .i64 0] 28) = W at *
  refine (newDraw _ _ _ _ _ HI.out).mono ?_
  rintro e w1 ⟨rfl, hc1, b1⟩
  have HC : Hid (CurW w1 W.heap.size) := hide ⟨_, _, hc1⟩
  have hs1 := hc1.lt
  replace E := hide ((b1.block w.heap.size hs0).trans E.out)
  replace HB := hide (HB.out.trans (b1.mono HB.out.size))
  clear b1 hc1 HI
  generalize W.heap.size = g at *
  go_wp2_with fail
  refine (lineW _ _ HC.out).mono ?_
  rintro e w2 ⟨base, got, v, xs, rfl, hbb, hgo, ho, hsh, hc2, hg2⟩
  obtain ⟨av, cv, rfl⟩ := ho.shape
  unfold lnV
  have hs2 : w1.heap.size ≤ w2.heap.size := hg2.size
  have bL := (Below.refl w2.heap.size w2).alloc (Nat.le_refl _) (.cells #[.int .i64 base, .slice av xs.length cv, .int .i64 got] 28)
  have HL := hide (heap_alloc_new w2 (.cells #[.int .i64 base, .slice av xs.length cv, .int .i64 got] 28))
  replace E := hide ((bL.block w.heap.size (by omega)).trans ((hg2.block w.heap.size (by omega) (fun e => by simp only [Option.some.injEq] at e; omega)).trans E.out))
  have HB2 := below_at HB.out hg2 (by omega)
  replace HB := hide (HB2.trans (bL.mono HB2.size))
  have HO := hide (ho.below bL)
  replace HC := hide (hc2.alloc (.cells #[.int .i64 base, .slice av xs.length cv, .int .i64 got] 28))
  clear ho hc2 hg2 bL HB2
  go_wp2_with fail
  generalize w2.alloc (.cells #[.int .i64 base, .slice av xs.length cv, .int .i64 got] 28) = W2 at *
  have hsL : w2.heap.size < W2.heap.size := (Array.getElem?_eq_some_iff.1 HL.out).1
  generalize w2.heap.size = l at *
  refine (belowW _ _ _ (by omega) (by omega) HC.out).mono ?_
  rintro e w3 ⟨f, rfl, f0, f1, hc3, hg3⟩
  replace E := hide ((hg3.block w.heap.size (by omega) (fun e => by simp only [Option.some.injEq] at e; omega)).trans E.out)
  replace HL := hide ((hg3.block l hsL (fun e => by simp only [Option.some.injEq] at e; omega)).trans HL.out)
  replace HO := hide (HO.out.grow hg3 hs1)
  replace HB := hide (below_at HB.out hg3 (by omega))
  replace HC := hide hc3
  replace hsL : l < w3.heap.size := (Array.getElem?_eq_some_iff.1 HL.out).1
  clear hc3 hg3
  go_wp2_with fail
  refine (belowW _ _ _ (by omega) (by omega) HC.out).mono ?_
  rintro e w4 ⟨x, rfl, x0, x1, hc4, hg4⟩
  replace E := hide ((hg4.block w.heap.size (by omega) (fun e => by simp only [Option.some.injEq] at e; omega)).trans E.out)
  replace HL := hide ((hg4.block l hsL (fun e => by simp only [Option.some.injEq] at e; omega)).trans HL.out)
  replace HO := hide (HO.out.grow hg4 hs1)
  replace HB := hide (below_at HB.out hg4 (by omega))
  replace HC := hide hc4
  replace hsL : l < w4.heap.size := (Array.getElem?_eq_some_iff.1 HL.out).1
  clear hc4 hg4
  have hx8 : x.tdiv 8 = 0 ∨ x.tdiv 8 = 1 := by rw [Int.tdiv_eq_ediv_of_nonneg x0]; omega
  go_wp2_with fail
  refine (belowW _ _ _ (by omega) (by omega) HC.out).mono ?_
  rintro e w5 ⟨t, rfl, t0, t1, hc5, hg5⟩
  replace E := hide ((hg5.block w.heap.size (by omega) (fun e => by simp only [Option.some.injEq] at e; omega)).trans E.out)
  replace HL := hide ((hg5.block l hsL (fun e => by simp only [Option.some.injEq] at e; omega)).trans HL.out)
  replace HO := hide (HO.out.grow hg5 hs1)
  replace HB := hide (below_at HB.out hg5 (by omega))
  replace HC := hide hc5
  replace hsL : l < w5.heap.size := (Array.getElem?_eq_some_iff.1 HL.out).1
  clear hc5 hg5
  go_upto_region 5 with fail
  have HCD : Hid (CurW w5.drew g) := hide (HC.out.row (grown_of_below (Below.refl _ _).drew) (fun k hk => by cases hk))
  have c0 : w5.drew.cell? ⟨l, 0, none⟩ = some (.int .i64 base) := (box_of HL.out).1 0 _ rfl
  have c1 : w5.drew.cell? ⟨l, 1, none⟩ = some (.slice av xs.length cv) := (box_of HL.out).1 1 _ rfl
  have c2 : w5.drew.cell? ⟨l, 2, none⟩ = some (.int .i64 got) := (box_of HL.out).1 2 _ rfl
  have hxl := hsh.2
  have hwr : IntKind.i64.wrap ((xs.length : Int) + 2) = (xs.length : Int) + 2 := by rw [IntKind.wrap_i64]; omega
  go_region_law
    (first
      | (refine step_callN rfl 33 _ _ rfl #[.pointer (some ⟨g, 0, none⟩), .int .i64 ((xs.length : Int) + 2)] (by kernel_rfl) (belowW _ g ((xs.length : Int) + 2) (by omega) (by omega) HCD.out) ?_; rintro e w6 ⟨i, rfl, i0, i1, hc6, hg6⟩; refine ⟨_, rfl, ?_⟩;
          have HL6 := hide ((hg6.block l hsL (fun e => by simp only [Option.some.injEq] at e; omega)).trans HL.out); have HE6 := hide ((hg6.block w.heap.size (show w.heap.size < w5.heap.size by omega) (fun e => by simp only [Option.some.injEq] at e; omega)).trans E.out); have HO6 := hide ((HO.out.below (Below.refl w5.heap.size w5).drew).grow hg6 hs1); have HB6 := hide (below_at HB.out.drew hg6 (by omega)); have hs6 : l < w6.heap.size := (Array.getElem?_eq_some_iff.1 HL6.out).1;
          have u0 := (box_of HL6.out).1 0 _ rfl; have u1 := (box_of HL6.out).1 1 _ rfl; have u2 := (box_of HL6.out).1 2 _ rfl; have r0 := (box_of HE6.out).1 0 _ rfl; have r1 := (box_of HE6.out).1 1 _ rfl; have r2 := (box_of HE6.out).1 2 _ rfl; have rz := (box_of HE6.out).2; clear hc6 hg6)
      | fail)
  all_goals (
    have hiw : IntKind.i64.wrap (i - 1) = i - 1 := by rw [IntKind.wrap_i64]; omega
    go_wp2
    refine bodyPost_ret (v := .tuple #[.int .i64 (f - x.tdiv 8), .int .i64 t, .agg #[.int .i64 base, .slice av xs.length cv, .int .i64 got], .int .i64 (IntKind.i64.wrap (i - 1))]) (results_ttct Tryd.results12 _ _ _ rfl (loadL (put3 HE6.out _ _ _))) rfl ⟨_, _, _, _, _, _, xs, rfl, ?_, hbb, hgo, ?_, ?_, hsh, ((HB6.out.setCell (Nat.le_refl _) _).setCell (Nat.le_refl _) _).setCell (Nat.le_refl _) _⟩
    · omega
    · rw [hiw]; omega
    · refine ((HO6.out.same (fun q hq _ _ => ?_)).mono (by omega)).up (by simpa using Nat.le_of_lt hs6)
      rw [heap_setCell_other _ _ _ _ (by simp; omega), heap_setCell_other _ _ _ _ (by simp; omega), heap_setCell_other _ _ _ _ (by simp; omega)])
end Go.Proofs.YtkfnpijljpbiaaaDoor
