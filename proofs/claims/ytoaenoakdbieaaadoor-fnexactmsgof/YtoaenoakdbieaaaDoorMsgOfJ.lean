/-
  What MsgOf does, in the program.
-/
import Derived.Test.YtoaenoakdbieaaaDoorMsgOfI
import Derived.Deep.CutRange
import Derived.RegionTactic
import Derived.BigRegion
import Derived.Deep.RegionWith
namespace Go.Proofs.YtoaenoakdbieaaaDoor
open Go.RowKit


set_option maxRecDepth 100000 in
set_option maxHeartbeats 8000000 in
theorem msgOfImpl (w : World) (a : Option Addr) (len cap : Nat) (zs : List Int) (t : TypeId) (v : Value) (h0 : 0 < w.heap.size) (hin : In w w.heap.size a len zs) (hE : Err w t v) :
    Calls Tryd.prog 13 #[.slice a len cap] w fun e w' => ansOf w.heap.size (mOf zs) e w' ∧ Below w.heap.size w w' := by
  have hl := hin.1
  have hm := hin.2.1
  have bA := (Below.refl w.heap.size w).alloc (Nat.le_refl _) (.cells #[.int .i64 0, .int .i64 0, .int .i64 0, .int .i64 0, .int .i64 0, .slice none 0 0, .slice none 0 0] 27)
  have E0 := hide (heap_alloc_new w (.cells #[.int .i64 0, .int .i64 0, .int .i64 0, .int .i64 0, .int .i64 0, .slice none 0 0, .slice none 0 0] 27))
  have HB := hide bA
  have HQ := hide (readMsgOf (w.alloc (.cells #[.int .i64 0, .int .i64 0, .int .i64 0, .int .i64 0, .int .i64 0, .slice none 0 0, .slice none 0 0] 27)) a len cap zs t v (by simp) (hin.at bA) (hE.low bA h0))
  clear bA hin hE
  go_enter Tryd.func13, Tryd.ntmps13
  go_wp2_with fail
  refine (unhide HQ).mono ?_
  rintro e w1 ⟨hA, b1⟩
  replace E0 := hide ((b1.block w.heap.size (by simp)).trans E0.out)
  have hs1 := b1.size
  simp only [World.size_alloc] at hs1
  replace HB := hide (HB.out.trans (b1.mono HB.out.size))
  clear b1 HQ
  cases hr : rMsg zs 0 with
  | none =>
    have HN := hide (mOf_none hr)
    rw [hr] at hA
    have hA' : e = .returned (.tuple #[.agg #[.int .i64 0, .int .i64 0, .int .i64 0, .int .i64 0, .int .i64 0, .slice none 0 0, .slice none 0 0], .int .i64 0, .bool false]) := hA
    subst hA'
    clear hA
    go_upto_region 3 with fail
    have bC := (Below.refl w1.heap.size w1).alloc (Nat.le_refl _) (.cells #[.int .i64 0, .int .i64 0, .int .i64 0, .int .i64 0, .int .i64 0, .slice none 0 0, .slice none 0 0] 27)
    replace E0 := hide ((bC.block w.heap.size (by omega)).trans E0.out)
    replace HB := hide (HB.out.trans (bC.mono HB.out.size))
    clear bC hs1
    generalize w1.alloc (.cells #[.int .i64 0, .int .i64 0, .int .i64 0, .int .i64 0, .int .i64 0, .slice none 0 0, .slice none 0 0] 27) = W1 at *
    have X := box_of E0.out
    have HX := hide X.1
    have zz := X.2
    have c0 := HX.out 0 _ rfl
    have c1 := HX.out 1 _ rfl
    have c2 := HX.out 2 _ rfl
    have c3 := HX.out 3 _ rfl
    have c4 := HX.out 4 _ rfl
    have c5 := HX.out 5 _ rfl
    have c6 := HX.out 6 _ rfl
    clear X hr
    go_wp2
    exact bodyPost_ret (v := .tuple #[zeroM, .bool false]) (results_ct Tryd.results13 _ _ _ rfl (load7 (put7 E0.out _ _ _ _ _ _ _))) rfl ⟨⟨_, by rw [HN.out]; rfl, by rw [HN.out]; exact rowM_zero _ _⟩, below_put7 HB.out (Nat.le_refl _) _ _ _ _ _ _ _⟩
  | some r =>
    obtain ⟨⟨k, i, u, c, n, cs, ns⟩, nx⟩ := r
    rw [hr] at hA
    obtain ⟨uu, rfl, v5, v6, rfl, o5, o6, hne⟩ := hA
    obtain ⟨hmc, hmn⟩ := rMsg_lens hr
    simp only at o5 o6 hne hmc hmn
    have H5 := hide o5
    have H6 := hide o6
    have HNE := hide hne
    obtain ⟨a5, d5, rfl, _⟩ := cells_at (o5.rd (Nat.le_refl _))
    obtain ⟨a6, d6, rfl, _⟩ := notes_at (o6.rd (Nat.le_refl _))
    clear o5 o6 hne
    unfold msgV
    simp only
    have bC := (Below.refl w1.heap.size w1).alloc (Nat.le_refl _) (.cells #[.int .i64 k, .int .i64 i, .int .i64 u, .int .i64 c, .int .i64 n, .slice a5 cs.length d5, .slice a6 ns.length d6] 27)
    have E1 := hide (heap_alloc_new w1 (.cells #[.int .i64 k, .int .i64 i, .int .i64 u, .int .i64 c, .int .i64 n, .slice a5 cs.length d5, .slice a6 ns.length d6] 27))
    replace E0 := hide ((bC.block w.heap.size (by omega)).trans E0.out)
    replace H5 := hide (H5.out.below bC)
    replace H6 := hide (H6.out.below bC)
    replace HB := hide (HB.out.trans (bC.mono HB.out.size))
    clear bC
    by_cases he : nx = len
    · have hne : ((nx : Int) != (len : Int)) = false := by rw [he]; simp
      subst he
      go_upto_region 2 with fail
      generalize w1.alloc (.cells #[.int .i64 k, .int .i64 i, .int .i64 u, .int .i64 c, .int .i64 n, .slice a5 cs.length d5, .slice a6 ns.length d6] 27) = W1 at *
      have HX1 := hide (box_of E1.out).1
      have g0 := HX1.out 0 _ rfl
      have g1 := HX1.out 1 _ rfl
      have g2 := HX1.out 2 _ rfl
      have g3 := HX1.out 3 _ rfl
      have g4 := HX1.out 4 _ rfl
      have g5 := HX1.out 5 _ rfl
      have g6 := HX1.out 6 _ rfl
      go_wp2_with fail
      refine (msgImpl _ k i u c n _ _ cs ns (H5.out.rd (Nat.le_refl _)) (H6.out.rd (Nat.le_refl _)) hmc hmn).mono ?_
      rintro e w2 ⟨rfl, b2⟩
      have hW1 : w1.heap.size < W1.heap.size := (Array.getElem?_eq_some_iff.1 E1.out).1
      replace E0 := hide ((b2.block w.heap.size (by omega)).trans E0.out)
      replace E1 := hide ((b2.block w1.heap.size hW1).trans E1.out)
      replace H5 := hide (H5.out.below b2)
      replace H6 := hide (H6.out.below b2)
      replace HB := hide (HB.out.trans (b2.mono HB.out.size))
      clear b2 g0 g1 g2 g3 g4 g5 g6 HX1
      have X := box_of E0.out
      have HX := hide X.1
      have zz := X.2
      have HX1 := hide (box_of E1.out).1
      clear X
      cases hm : mOk k i u c n cs ns with
      | false =>
        have HN := hide (mOf_bad (m := ⟨k, i, u, c, n, cs, ns⟩) hr hm)
        clear hr
        have c0 := HX.out 0 _ rfl
        have c1 := HX.out 1 _ rfl
        have c2 := HX.out 2 _ rfl
        have c3 := HX.out 3 _ rfl
        have c4 := HX.out 4 _ rfl
        have c5 := HX.out 5 _ rfl
        have c6 := HX.out 6 _ rfl
        go_wp2
        exact bodyPost_ret (v := .tuple #[zeroM, .bool false]) (results_ct Tryd.results13 _ _ _ rfl (load7 (put7 E0.out _ _ _ _ _ _ _))) rfl ⟨⟨_, by rw [HN.out]; rfl, by rw [HN.out]; exact rowM_zero _ _⟩, below_put7 HB.out (Nat.le_refl _) _ _ _ _ _ _ _⟩
      | true =>
        have HN := hide (mOf_some (m := ⟨k, i, u, c, n, cs, ns⟩) (by rw [hr, hl]) hm)
        clear hr
        have c0 := HX.out 0 _ rfl
        have c1 := HX.out 1 _ rfl
        have c2 := HX.out 2 _ rfl
        have c3 := HX.out 3 _ rfl
        have c4 := HX.out 4 _ rfl
        have c5 := HX.out 5 _ rfl
        have c6 := HX.out 6 _ rfl
        have g0 := HX1.out 0 _ rfl
        have g1 := HX1.out 1 _ rfl
        have g2 := HX1.out 2 _ rfl
        have g3 := HX1.out 3 _ rfl
        have g4 := HX1.out 4 _ rfl
        have g5 := HX1.out 5 _ rfl
        have g6 := HX1.out 6 _ rfl
        go_wp2
        refine bodyPost_ret (v := .tuple #[msgV k i u c n (.slice a5 cs.length d5) (.slice a6 ns.length d6), .bool true]) (results_ct Tryd.results13 _ _ _ rfl (load7 (put7 E0.out _ _ _ _ _ _ _))) rfl ⟨⟨_, by rw [HN.out]; rfl, ?_⟩, below_put7 HB.out (Nat.le_refl _) _ _ _ _ _ _ _⟩
        rw [HN.out]
        refine ⟨_, _, rfl, ?_, ?_, HNE.out⟩
        · exact OwnC.mono (own_put7 (OwnC.mono (b' := w.heap.size + 1) H5.out (by simp)) (Nat.lt_succ_self _) _ _ _ _ _ _ _) (Nat.le_succ _)
        · exact OwnN.mono (own_put7 (OwnN.mono (b' := w.heap.size + 1) H6.out (by simp)) (Nat.lt_succ_self _) _ _ _ _ _ _ _) (Nat.le_succ _)
    · have hne : ((nx : Int) != (len : Int)) = true := by rw [bne_iff_ne]; omega
      have HN := hide (mOf_end hr (by omega))
      clear he hr
      go_upto_region 3 with fail
      generalize w1.alloc (.cells #[.int .i64 k, .int .i64 i, .int .i64 u, .int .i64 c, .int .i64 n, .slice a5 cs.length d5, .slice a6 ns.length d6] 27) = W1 at *
      have X := box_of E0.out
      have HX := hide X.1
      have zz := X.2
      have c0 := HX.out 0 _ rfl
      have c1 := HX.out 1 _ rfl
      have c2 := HX.out 2 _ rfl
      have c3 := HX.out 3 _ rfl
      have c4 := HX.out 4 _ rfl
      have c5 := HX.out 5 _ rfl
      have c6 := HX.out 6 _ rfl
      clear X
      go_wp2
      exact bodyPost_ret (v := .tuple #[zeroM, .bool false]) (results_ct Tryd.results13 _ _ _ rfl (load7 (put7 E0.out _ _ _ _ _ _ _))) rfl ⟨⟨_, by rw [HN.out]; rfl, by rw [HN.out]; exact rowM_zero _ _⟩, below_put7 HB.out (Nat.le_refl _) _ _ _ _ _ _ _⟩
end Go.Proofs.YtoaenoakdbieaaaDoor
