/-
  What ConstOf does, by the model.
-/
import Derived.Test.YtgegmocgbjklkaaDoorConstOfS
namespace Go.Proofs.YtgegmocgbjklkaaDoor
open Go.RowKit Go.Maps

set_option maxRecDepth 100000 in
set_option maxHeartbeats 4000000 in
theorem constOfT (w : World) (a : Option Addr) (len cap : Nat) (zs : List Int) (k : Int) (hin : In w w.heap.size a len zs) (hcap : len ≤ cap) :
    Calls Tryd.prog 13 #[.slice a len cap, .int .i64 k] w fun e w' => e = .returned (ansK (cOf zs k)) ∧ Below w.heap.size w w' := by
  have bA := (Below.refl w.heap.size w).alloc (Nat.le_refl _) (.cells #[.int .i64 0, .int .i64 0, .string noS, .string noS] 25)
  have E0 := hide (heap_alloc_new w (.cells #[.int .i64 0, .int .i64 0, .string noS, .string noS] 25))
  have hsA : (w.alloc (.cells #[.int .i64 0, .int .i64 0, .string noS, .string noS] 25)).heap.size = w.heap.size + 1 := by simp
  have bB := bA.alloc (by omega) (.cells #[.slice a len cap, .int .i64 k, .bool true] 60)
  have EC := heap_alloc_new (w.alloc (.cells #[.int .i64 0, .int .i64 0, .string noS, .string noS] 25)) (.cells #[.slice a len cap, .int .i64 k, .bool true] 60)
  rw [hsA] at EC
  have hsB : ((w.alloc (.cells #[.int .i64 0, .int .i64 0, .string noS, .string noS] 25)).alloc (.cells #[.slice a len cap, .int .i64 k, .bool true] 60)).heap.size = w.heap.size + 2 := by simp
  have HC : Hid (CuI ((w.alloc (.cells #[.int .i64 0, .int .i64 0, .string noS, .string noS] 25)).alloc (.cells #[.slice a len cap, .int .i64 k, .bool true] 60)) w.heap.size a len cap zs (w.heap.size + 1) k true) := hide ⟨hin.kept bB.block, by omega, EC⟩
  replace E0 := hide ((Below.heap_alloc (w.alloc (.cells #[.int .i64 0, .int .i64 0, .string noS, .string noS] 25)) (.cells #[.slice a len cap, .int .i64 k, .bool true] 60) _ (by omega)).trans E0.out)
  have HB := hide bB
  have HSB := hide hsB
  clear bA bB EC hsA hsB hin
  go_enter Tryd.func13, Tryd.ntmps13
  go_wp2_with fail
  refine (l6ConstI _ _ a len cap zs _ k HC.out hcap).mono ?_
  rintro e w1 ⟨h1, g1⟩
  have hs1 : w.heap.size + 2 ≤ w1.heap.size := by have := g1.size; have := HSB.out; omega
  replace E0 := hide ((g1.block w.heap.size (by have := HSB.out; omega) (by simp)).trans E0.out)
  replace HB := hide (HB.out.grown g1 (by have := HSB.out; omega) (fun k hk => by cases hk; omega))
  clear g1 HC HSB
  rcases h1 with ⟨⟨kd, n, sa, sb⟩, nx, hr, rfl, hc⟩ | ⟨hr, ⟨kd, n, sa, sb⟩, k', rfl, hc⟩
  · have HN := hide hr
    clear hr
    unfold cV constV
    simp only
    have E1 := hide (heap_alloc_new w1 (.cells #[.int .i64 kd, .int .i64 n, .string sa, .string sb] 25))
    have HC := hide (hc.far (World.grownBy_alloc w1 (.cells #[.int .i64 kd, .int .i64 n, .string sa, .string sb] 25) none) (fun q hq => by cases hq))
    have bC := (Below.refl w1.heap.size w1).alloc (Nat.le_refl _) (.cells #[.int .i64 kd, .int .i64 n, .string sa, .string sb] 25)
    replace E0 := hide ((bC.block w.heap.size (by omega)).trans E0.out)
    replace HB := hide (HB.out.trans (bC.mono HB.out.size))
    clear bC hc
    go_upto_region 3 with fail
    generalize w1.alloc (.cells #[.int .i64 kd, .int .i64 n, .string sa, .string sb] 25) = W1 at *
    have HXa := hide (box_of E0.out).1
    have za := (box_of E0.out).2
    have HXb := hide (box_of E1.out).1
    have HXc := hide (box_of HC.out.pl).1
    have a0 := HXa.out 0 _ rfl
    have a1 := HXa.out 1 _ rfl
    have a2 := HXa.out 2 _ rfl
    have a3 := HXa.out 3 _ rfl
    have b0 := HXb.out 0 _ rfl
    have b1 := HXb.out 1 _ rfl
    have b2 := HXb.out 2 _ rfl
    have b3 := HXb.out 3 _ rfl
    have c0 := HXc.out 0 _ rfl
    have c1 := HXc.out 1 _ rfl
    have c2 := HXc.out 2 _ rfl
    go_wp2
    go_region
    go_wp2
    exact bodyPost_ret (v := .tuple #[constV kd n sa sb, .int .i64 (nx : Int), .bool true]) (results_ctt Tryd.results13 _ _ _ rfl (loadKd (put4 E0.out _ _ _ _))) rfl ⟨by rw [HN.out]; rfl, (below_put4 HB.out (Nat.le_refl _) _ _ _ _).drew⟩
  · have HN := hide hr
    clear hr
    unfold cV constV
    simp only
    have HC := hide (hc.far (World.grownBy_alloc w1 (.cells #[.int .i64 kd, .int .i64 n, .string sa, .string sb] 25) none) (fun q hq => by cases hq))
    have bC := (Below.refl w1.heap.size w1).alloc (Nat.le_refl _) (.cells #[.int .i64 kd, .int .i64 n, .string sa, .string sb] 25)
    replace E0 := hide ((bC.block w.heap.size (by omega)).trans E0.out)
    replace HB := hide (HB.out.trans (bC.mono HB.out.size))
    clear bC hc
    go_upto_region 3 with fail
    generalize w1.alloc (.cells #[.int .i64 kd, .int .i64 n, .string sa, .string sb] 25) = W1 at *
    have HXa := hide (box_of E0.out).1
    have za := (box_of E0.out).2
    have HXc := hide (box_of HC.out.pl).1
    have a0 := HXa.out 0 _ rfl
    have a1 := HXa.out 1 _ rfl
    have a2 := HXa.out 2 _ rfl
    have a3 := HXa.out 3 _ rfl
    have c0 := HXc.out 0 _ rfl
    have c1 := HXc.out 1 _ rfl
    have c2 := HXc.out 2 _ rfl
    go_wp2
    exact bodyPost_ret (v := .tuple #[zeroK, .int .i64 0, .bool false]) (results_ctt Tryd.results13 _ _ _ rfl (loadK (put4 E0.out _ _ _ _))) rfl ⟨by rw [HN.out]; rfl, below_put4 HB.out (Nat.le_refl _) _ _ _ _⟩
end Go.Proofs.YtgegmocgbjklkaaDoor
