/-
  What ConstOf does, in the program.
-/
import Derived.Test.YtgegmocgbjklkaaDoorKMath
import Derived.Test.YtgegmocgbjklkaaDoorReadK
import Derived.Deep.CutRange
namespace Go.Proofs.YtgegmocgbjklkaaDoor
open Go.RowKit Go.Maps

set_option maxRecDepth 100000 in
set_option maxHeartbeats 4000000 in
theorem constOfI (w : World) (a : Option Addr) (len cap : Nat) (zs : List Int) (k : Int) (t : TypeId) (v : Value) (h0 : 0 < w.heap.size) (hin : In w w.heap.size a len zs) (hcap : len ≤ cap) (hE : Err w t v) :
    Calls Tryd.prog 10 #[.slice a len cap, .int .i64 k] w fun e w' => e = .returned (ansK (cOf zs k)) ∧ Below w.heap.size w w' := by
  have bA := (Below.refl w.heap.size w).alloc (Nat.le_refl _) (.cells #[.int .i64 0, .int .i64 0, .string noS, .string noS] 25)
  have E0 := hide (heap_alloc_new w (.cells #[.int .i64 0, .int .i64 0, .string noS, .string noS] 25))
  have HB := hide bA
  have hin1 := hin.at bA
  have hE1 := hE.low bA h0
  have HQ := hide (readConst (w.alloc (.cells #[.int .i64 0, .int .i64 0, .string noS, .string noS] 25)) a len cap k t v (rK0 zs k) (fun W hb hp => takeConst W a len cap zs _ _ k t v (hin1.low hb (Nat.le_refl _)) hcap (Nat.le_add_right _ 3) (by omega) (hE1.low hb (by simp)) hp))
  clear bA hin hE hin1 hE1
  go_enter Tryd.func10, Tryd.ntmps10
  go_wp2_with fail
  refine (unhide HQ).mono ?_
  rintro e w1 ⟨rfl, b1⟩
  replace E0 := hide ((b1.block w.heap.size (by simp)).trans E0.out)
  have hs1 := b1.size
  simp only [World.size_alloc] at hs1
  replace HB := hide (HB.out.trans (b1.mono HB.out.size))
  clear b1 HQ
  cases hr : rK0 zs k with
  | none =>
    have HN := hide (cOf_none hr)
    clear hr
    unfold ansK zeroK constV
    go_upto_region 3 with fail
    have bC := (Below.refl w1.heap.size w1).alloc (Nat.le_refl _) (.cells #[.int .i64 0, .int .i64 0, .string noS, .string noS] 25)
    replace E0 := hide ((bC.block w.heap.size (by omega)).trans E0.out)
    replace HB := hide (HB.out.trans (bC.mono HB.out.size))
    clear bC hs1
    generalize w1.alloc (.cells #[.int .i64 0, .int .i64 0, .string noS, .string noS] 25) = W1 at *
    have X := box_of E0.out
    have HX := hide X.1
    have zz := X.2
    have c0 := HX.out 0 _ rfl
    have c1 := HX.out 1 _ rfl
    have c2 := HX.out 2 _ rfl
    have c3 := HX.out 3 _ rfl
    clear X
    go_wp2
    exact bodyPost_ret (v := .tuple #[zeroK, .int .i64 0, .bool false]) (results_ctt Tryd.results10 _ _ _ rfl (loadK (put4 E0.out _ _ _ _))) rfl ⟨by rw [HN.out]; rfl, below_put4 HB.out (Nat.le_refl _) _ _ _ _⟩
  | some r =>
    obtain ⟨⟨kd, n, sa, sb⟩, nx⟩ := r
    have hsz := rK0_size hr
    unfold ansK cV constV
    simp only
    have bC := (Below.refl w1.heap.size w1).alloc (Nat.le_refl _) (.cells #[.int .i64 kd, .int .i64 n, .string sa, .string sb] 25)
    have E1 := hide (heap_alloc_new w1 (.cells #[.int .i64 kd, .int .i64 n, .string sa, .string sb] 25))
    replace E0 := hide ((bC.block w.heap.size (by omega)).trans E0.out)
    replace HB := hide (HB.out.trans (bC.mono HB.out.size))
    clear bC
    go_upto_region 2 with fail
    have hsW : Hid ((w1.alloc (.cells #[.int .i64 kd, .int .i64 n, .string sa, .string sb] 25)).heap.size = w1.heap.size + 1) := hide (by simp)
    generalize w1.alloc (.cells #[.int .i64 kd, .int .i64 n, .string sa, .string sb] 25) = W1 at *
    have HX1 := hide (box_of E1.out).1
    have g0 := HX1.out 0 _ rfl
    have g1 := HX1.out 1 _ rfl
    have g2 := HX1.out 2 _ rfl
    have g3 := HX1.out 3 _ rfl
    go_wp2_with fail
    refine (constOkImpl kd n sa sb _ hsz.1 hsz.2).mono ?_
    rintro e w2 ⟨rfl, b2⟩
    replace E0 := hide ((b2.block w.heap.size (by have := hsW.out; omega)).trans E0.out)
    replace E1 := hide ((b2.block w1.heap.size (by have := hsW.out; omega)).trans E1.out)
    replace HB := hide (HB.out.trans (b2.mono HB.out.size))
    clear b2 g0 g1 g2 g3 HX1
    have X := box_of E0.out
    have HX := hide X.1
    have zz := X.2
    have HX1 := hide (box_of E1.out).1
    clear X
    cases hm : kOk kd n sa sb with
    | false =>
      have HN := hide (cOf_bad hr hm)
      clear hr
      have c0 := HX.out 0 _ rfl
      have c1 := HX.out 1 _ rfl
      have c2 := HX.out 2 _ rfl
      have c3 := HX.out 3 _ rfl
      go_wp2
      exact bodyPost_ret (v := .tuple #[zeroK, .int .i64 0, .bool false]) (results_ctt Tryd.results10 _ _ _ rfl (loadK (put4 E0.out _ _ _ _))) rfl ⟨by rw [HN.out]; rfl, below_put4 HB.out (Nat.le_refl _) _ _ _ _⟩
    | true =>
      have HN := hide (cOf_some hr hm)
      clear hr
      have c0 := HX.out 0 _ rfl
      have c1 := HX.out 1 _ rfl
      have c2 := HX.out 2 _ rfl
      have c3 := HX.out 3 _ rfl
      have g0 := HX1.out 0 _ rfl
      have g1 := HX1.out 1 _ rfl
      have g2 := HX1.out 2 _ rfl
      have g3 := HX1.out 3 _ rfl
      go_wp2
      exact bodyPost_ret (v := .tuple #[constV kd n sa sb, .int .i64 (nx : Int), .bool true]) (results_ctt Tryd.results10 _ _ _ rfl (loadK (put4 E0.out _ _ _ _))) rfl ⟨by rw [HN.out]; rfl, below_put4 HB.out (Nat.le_refl _) _ _ _ _⟩
end Go.Proofs.YtgegmocgbjklkaaDoor
