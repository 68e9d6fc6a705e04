/-
  What the model's MsgOf does where its bytes are no message's.
-/
import Derived.Test.YtbkhlaiifbdfoaaDoorJ7
import Derived.Deep.CutRange
import Derived.RegionTactic
import Derived.BigRegion
import Derived.Deep.RegionWith
import Derived.Great.BuildSlice
import Derived.Laws.CopyOwn
namespace Go.Proofs.YtbkhlaiifbdfoaaDoor
open Go.RowKit


set_option maxRecDepth 100000 in
set_option maxHeartbeats 8000000 in
theorem msgOfNo (w : World) (a : Option Addr) (len cap : Nat) (zs : List Int) (hin : In w w.heap.size a len zs) (_hc0 : len ≤ cap) (hyy : mOf zs = none) :
    Calls Tryd.prog 13 #[.slice a len cap] w fun e w' => ansOf w.heap.size (mOf zs) e w' ∧ Below w.heap.size w w' := by
  have HYY := hide hyy
  clear hyy
  have hl := hin.1
  have hm := hin.2.1
  have HZ := hide (byt_of_in hin)
  have HI := hide hin
  generalize hG : rMsg zs 0 = G
  have HGG : Hid (Live true (rMsg zs 0) G) := hide (.inl ⟨rfl, hG⟩)
  have HG0 := hide hG
  clear hG
  unfold rMsg at HGG
  go_enter Tryd.func13, Tryd.ntmps13
  go_wp2_with fail
  have HB : Hid (Below w.heap.size w (((w.alloc (.cells #[.int .i64 0, .int .i64 0, .int .i64 0, .int .i64 0, .int .i64 0, .slice none 0 0, .slice none 0 0] 27)).alloc (.cells #[.slice a len cap, .int .i64 0, .bool true] 71)).alloc (.cells #[.int .i64 0, .int .i64 0, .int .i64 0, .int .i64 0, .int .i64 0, .slice none 0 0, .slice none 0 0] 27))) := hide ((((Below.refl _ _).alloc (Nat.le_refl _) _).alloc (by simp) _).alloc (by simp; omega) _)
  have E2 : Hid ((((w.alloc (.cells #[.int .i64 0, .int .i64 0, .int .i64 0, .int .i64 0, .int .i64 0, .slice none 0 0, .slice none 0 0] 27)).alloc (.cells #[.slice a len cap, .int .i64 0, .bool true] 71)).alloc (.cells #[.int .i64 0, .int .i64 0, .int .i64 0, .int .i64 0, .int .i64 0, .slice none 0 0, .slice none 0 0] 27)).heap[w.heap.size]? = some (.cells #[.int .i64 0, .int .i64 0, .int .i64 0, .int .i64 0, .int .i64 0, .slice none 0 0, .slice none 0 0] 27 (0, 0))) := hide ((Below.heap_alloc _ _ _ (by simp; omega)).trans ((Below.heap_alloc _ _ _ (by simp)).trans (heap_alloc_new w _)))
  have EM : Hid ((((w.alloc (.cells #[.int .i64 0, .int .i64 0, .int .i64 0, .int .i64 0, .int .i64 0, .slice none 0 0, .slice none 0 0] 27)).alloc (.cells #[.slice a len cap, .int .i64 0, .bool true] 71)).alloc (.cells #[.int .i64 0, .int .i64 0, .int .i64 0, .int .i64 0, .int .i64 0, .slice none 0 0, .slice none 0 0] 27)).heap[w.heap.size + 1 + 1]? = some (.cells #[.int .i64 0, .int .i64 0, .int .i64 0, .int .i64 0, .int .i64 0, .slice none 0 0, .slice none 0 0] 27 (0, 0))) := hide (by have := heap_alloc_new ((w.alloc (.cells #[.int .i64 0, .int .i64 0, .int .i64 0, .int .i64 0, .int .i64 0, .slice none 0 0, .slice none 0 0] 27)).alloc (.cells #[.slice a len cap, .int .i64 0, .bool true] 71)) (.cells #[.int .i64 0, .int .i64 0, .int .i64 0, .int .i64 0, .int .i64 0, .slice none 0 0, .slice none 0 0] 27); simpa only [World.size_alloc] using this)
  have HC : Hid (Cu (((w.alloc (.cells #[.int .i64 0, .int .i64 0, .int .i64 0, .int .i64 0, .int .i64 0, .slice none 0 0, .slice none 0 0] 27)).alloc (.cells #[.slice a len cap, .int .i64 0, .bool true] 71)).alloc (.cells #[.int .i64 0, .int .i64 0, .int .i64 0, .int .i64 0, .int .i64 0, .slice none 0 0, .slice none 0 0] 27)) w.heap.size a len cap zs (w.heap.size + 1) 0 true) := hide ⟨HI.out.kept HB.out.block, by omega, (Below.heap_alloc _ _ _ (by simp)).trans (by have := heap_alloc_new (w.alloc (.cells #[.int .i64 0, .int .i64 0, .int .i64 0, .int .i64 0, .int .i64 0, .slice none 0 0, .slice none 0 0] 27)) (.cells #[.slice a len cap, .int .i64 0, .bool true] 71); simp only [World.size_alloc] at this; exact this)⟩
  clear hin
  generalize ((w.alloc (.cells #[.int .i64 0, .int .i64 0, .int .i64 0, .int .i64 0, .int .i64 0, .slice none 0 0, .slice none 0 0] 27)).alloc (.cells #[.slice a len cap, .int .i64 0, .bool true] 71)).alloc (.cells #[.int .i64 0, .int .i64 0, .int .i64 0, .int .i64 0, .int .i64 0, .slice none 0 0, .slice none 0 0] 27) = W0 at *
  have hk0 : 0 ≤ zs.length := Nat.zero_le _
  refine (l3Num HC.out).mono ?_
  rintro e w1 ⟨k, k1, ok1, rfl, hc, gg, hd⟩
  obtain ⟨_, hk1, _, k0, k1⟩ := num_on HZ.out hk0 hd
  replace HGG := hide (HGG.out.num hd)
  simp only at HGG
  have sB := HB.out.size
  replace HB := hide (below_cur HB.out gg (Nat.le_succ _) sB)
  replace E2 := hide ((gg.block w.heap.size (Array.getElem?_eq_some_iff.1 E2.out).1 (by simp)).trans E2.out)
  replace EM := hide ((gg.block (w.heap.size + 1 + 1) (Array.getElem?_eq_some_iff.1 EM.out).1 (by simp)).trans EM.out)
  replace HC := hide hc
  clear gg hd hc sB
  have X := box_of EM.out
  have f := X.1 0 _ rfl
  have zf := X.2 0
  clear X
  replace HB := hide (HB.out.setCell (p := ⟨w.heap.size + 1 + 1, 0, none⟩) (Nat.le_add_right _ 2) (.int .i64 k))
  replace E2 := hide ((heap_setCell_other w1 ⟨w.heap.size + 1 + 1, 0, none⟩ w.heap.size (.int .i64 k) (show w.heap.size ≠ w.heap.size + 1 + 1 from by omega)).trans E2.out)
  replace EM : Hid ((w1.setCell ⟨w.heap.size + 1 + 1, 0, none⟩ (.int .i64 k)).heap[w.heap.size + 1 + 1]? = some (.cells #[.int .i64 k, .int .i64 0, .int .i64 0, .int .i64 0, .int .i64 0, .slice none 0 0, .slice none 0 0] 27 (0, 0))) := hide (heap_setCell_same w1 (w.heap.size + 1 + 1) 0 _ 27 (.int .i64 k) EM.out)
  replace HC := hide (HC.out.far (grown_set (g := w.heap.size + 1 + 1) (World.grownBy.refl w1 _) 0 (.int .i64 k)) (fun q e => by simp only [Option.some.injEq] at e; omega))
  go_wp2_with fail
  clear f zf
  generalize w1.setCell ⟨w.heap.size + 1 + 1, 0, none⟩ (.int .i64 k) = W1 at *
  refine (l3Num HC.out).mono ?_
  rintro e w2 ⟨i, k2, ok2, rfl, hc, gg, hd⟩
  obtain ⟨_, hk2, _, i0, i1⟩ := num_on HZ.out hk1 hd
  replace HGG := hide (HGG.out.num hd)
  simp only at HGG
  have sB := HB.out.size
  replace HB := hide (below_cur HB.out gg (Nat.le_succ _) sB)
  replace E2 := hide ((gg.block w.heap.size (Array.getElem?_eq_some_iff.1 E2.out).1 (by simp)).trans E2.out)
  replace EM := hide ((gg.block (w.heap.size + 1 + 1) (Array.getElem?_eq_some_iff.1 EM.out).1 (by simp)).trans EM.out)
  replace HC := hide hc
  clear gg hd hc sB
  have X := box_of EM.out
  have f := X.1 1 _ rfl
  have zf := X.2 1
  clear X
  replace HB := hide (HB.out.setCell (p := ⟨w.heap.size + 1 + 1, 1, none⟩) (Nat.le_add_right _ 2) (.int .i64 i))
  replace E2 := hide ((heap_setCell_other w2 ⟨w.heap.size + 1 + 1, 1, none⟩ w.heap.size (.int .i64 i) (show w.heap.size ≠ w.heap.size + 1 + 1 from by omega)).trans E2.out)
  replace EM : Hid ((w2.setCell ⟨w.heap.size + 1 + 1, 1, none⟩ (.int .i64 i)).heap[w.heap.size + 1 + 1]? = some (.cells #[.int .i64 k, .int .i64 i, .int .i64 0, .int .i64 0, .int .i64 0, .slice none 0 0, .slice none 0 0] 27 (0, 0))) := hide (heap_setCell_same w2 (w.heap.size + 1 + 1) 1 _ 27 (.int .i64 i) EM.out)
  replace HC := hide (HC.out.far (grown_set (g := w.heap.size + 1 + 1) (World.grownBy.refl w2 _) 1 (.int .i64 i)) (fun q e => by simp only [Option.some.injEq] at e; omega))
  go_wp2_with fail
  clear f zf
  generalize w2.setCell ⟨w.heap.size + 1 + 1, 1, none⟩ (.int .i64 i) = W2 at *
  refine (l3Num HC.out).mono ?_
  rintro e w3 ⟨u, k3, ok3, rfl, hc, gg, hd⟩
  obtain ⟨_, hk3, _, u0, u1⟩ := num_on HZ.out hk2 hd
  replace HGG := hide (HGG.out.num hd)
  simp only at HGG
  have sB := HB.out.size
  replace HB := hide (below_cur HB.out gg (Nat.le_succ _) sB)
  replace E2 := hide ((gg.block w.heap.size (Array.getElem?_eq_some_iff.1 E2.out).1 (by simp)).trans E2.out)
  replace EM := hide ((gg.block (w.heap.size + 1 + 1) (Array.getElem?_eq_some_iff.1 EM.out).1 (by simp)).trans EM.out)
  replace HC := hide hc
  clear gg hd hc sB
  have X := box_of EM.out
  have f := X.1 2 _ rfl
  have zf := X.2 2
  clear X
  replace HB := hide (HB.out.setCell (p := ⟨w.heap.size + 1 + 1, 2, none⟩) (Nat.le_add_right _ 2) (.int .i64 u))
  replace E2 := hide ((heap_setCell_other w3 ⟨w.heap.size + 1 + 1, 2, none⟩ w.heap.size (.int .i64 u) (show w.heap.size ≠ w.heap.size + 1 + 1 from by omega)).trans E2.out)
  replace EM : Hid ((w3.setCell ⟨w.heap.size + 1 + 1, 2, none⟩ (.int .i64 u)).heap[w.heap.size + 1 + 1]? = some (.cells #[.int .i64 k, .int .i64 i, .int .i64 u, .int .i64 0, .int .i64 0, .slice none 0 0, .slice none 0 0] 27 (0, 0))) := hide (heap_setCell_same w3 (w.heap.size + 1 + 1) 2 _ 27 (.int .i64 u) EM.out)
  replace HC := hide (HC.out.far (grown_set (g := w.heap.size + 1 + 1) (World.grownBy.refl w3 _) 2 (.int .i64 u)) (fun q e => by simp only [Option.some.injEq] at e; omega))
  go_wp2_with fail
  clear f zf
  generalize w3.setCell ⟨w.heap.size + 1 + 1, 2, none⟩ (.int .i64 u) = W3 at *
  refine (l3Num HC.out).mono ?_
  rintro e w4 ⟨c, k4, ok4, rfl, hc, gg, hd⟩
  obtain ⟨_, hk4, _, c0, c1⟩ := num_on HZ.out hk3 hd
  replace HGG := hide (HGG.out.num hd)
  simp only at HGG
  have sB := HB.out.size
  replace HB := hide (below_cur HB.out gg (Nat.le_succ _) sB)
  replace E2 := hide ((gg.block w.heap.size (Array.getElem?_eq_some_iff.1 E2.out).1 (by simp)).trans E2.out)
  replace EM := hide ((gg.block (w.heap.size + 1 + 1) (Array.getElem?_eq_some_iff.1 EM.out).1 (by simp)).trans EM.out)
  replace HC := hide hc
  clear gg hd hc sB
  have X := box_of EM.out
  have f := X.1 3 _ rfl
  have zf := X.2 3
  clear X
  replace HB := hide (HB.out.setCell (p := ⟨w.heap.size + 1 + 1, 3, none⟩) (Nat.le_add_right _ 2) (.int .i64 c))
  replace E2 := hide ((heap_setCell_other w4 ⟨w.heap.size + 1 + 1, 3, none⟩ w.heap.size (.int .i64 c) (show w.heap.size ≠ w.heap.size + 1 + 1 from by omega)).trans E2.out)
  replace EM : Hid ((w4.setCell ⟨w.heap.size + 1 + 1, 3, none⟩ (.int .i64 c)).heap[w.heap.size + 1 + 1]? = some (.cells #[.int .i64 k, .int .i64 i, .int .i64 u, .int .i64 c, .int .i64 0, .slice none 0 0, .slice none 0 0] 27 (0, 0))) := hide (heap_setCell_same w4 (w.heap.size + 1 + 1) 3 _ 27 (.int .i64 c) EM.out)
  replace HC := hide (HC.out.far (grown_set (g := w.heap.size + 1 + 1) (World.grownBy.refl w4 _) 3 (.int .i64 c)) (fun q e => by simp only [Option.some.injEq] at e; omega))
  go_wp2_with fail
  clear f zf
  generalize w4.setCell ⟨w.heap.size + 1 + 1, 3, none⟩ (.int .i64 c) = W4 at *
  refine (l3Num HC.out).mono ?_
  rintro e w5 ⟨n, k5, ok5, rfl, hc, gg, hd⟩
  obtain ⟨_, hk5, _, n0, n1⟩ := num_on HZ.out hk4 hd
  replace HGG := hide (HGG.out.num hd)
  simp only at HGG
  have sB := HB.out.size
  replace HB := hide (below_cur HB.out gg (Nat.le_succ _) sB)
  replace E2 := hide ((gg.block w.heap.size (Array.getElem?_eq_some_iff.1 E2.out).1 (by simp)).trans E2.out)
  replace EM := hide ((gg.block (w.heap.size + 1 + 1) (Array.getElem?_eq_some_iff.1 EM.out).1 (by simp)).trans EM.out)
  replace HC := hide hc
  clear gg hd hc sB
  have X := box_of EM.out
  have f := X.1 4 _ rfl
  have zf := X.2 4
  clear X
  replace HB := hide (HB.out.setCell (p := ⟨w.heap.size + 1 + 1, 4, none⟩) (Nat.le_add_right _ 2) (.int .i64 n))
  replace E2 := hide ((heap_setCell_other w5 ⟨w.heap.size + 1 + 1, 4, none⟩ w.heap.size (.int .i64 n) (show w.heap.size ≠ w.heap.size + 1 + 1 from by omega)).trans E2.out)
  replace EM : Hid ((w5.setCell ⟨w.heap.size + 1 + 1, 4, none⟩ (.int .i64 n)).heap[w.heap.size + 1 + 1]? = some (.cells #[.int .i64 k, .int .i64 i, .int .i64 u, .int .i64 c, .int .i64 n, .slice none 0 0, .slice none 0 0] 27 (0, 0))) := hide (heap_setCell_same w5 (w.heap.size + 1 + 1) 4 _ 27 (.int .i64 n) EM.out)
  replace HC := hide (HC.out.far (grown_set (g := w.heap.size + 1 + 1) (World.grownBy.refl w5 _) 4 (.int .i64 n)) (fun q e => by simp only [Option.some.injEq] at e; omega))
  go_wp2_with fail
  clear f zf
  generalize w5.setCell ⟨w.heap.size + 1 + 1, 4, none⟩ (.int .i64 n) = W5 at *
  unfold rMany at HGG
  simp only [Option.bind_assoc] at HGG
  refine (l3Num HC.out).mono ?_
  rintro e w6 ⟨N5, k6, ok6, rfl, hc, gg, hd⟩
  obtain ⟨_, hk6, _, N50, N51⟩ := num_on HZ.out hk5 hd
  replace HGG := hide (HGG.out.num hd)
  simp only at HGG
  have sB := HB.out.size
  replace HB := hide (below_cur HB.out gg (Nat.le_succ _) sB)
  replace E2 := hide ((gg.block w.heap.size (Array.getElem?_eq_some_iff.1 E2.out).1 (by simp)).trans E2.out)
  replace EM := hide ((gg.block (w.heap.size + 1 + 1) (Array.getElem?_eq_some_iff.1 EM.out).1 (by simp)).trans EM.out)
  replace HC := hide hc
  clear gg hd hc sB
  have HD5 : Hid (8 < N5 → G = none) := hide (fun h8 => by
    rcases HGG.out with ⟨_, h⟩ | h
    · rw [if_pos h8] at h; exact h.symm
    · exact h)
  replace HGG : Hid (Live ok6 ((rList (rCell zs) (N5.toNat - 0) k6).bind fun r => F5v zs k i u c n ([] ++ r.1, r.2)) G) := hide (by
    by_cases h8 : 8 < N5
    · exact .inr (HD5.out h8)
    · exact HGG.out.eq (by rw [if_neg h8]; rfl))
  have HO : Hid (OwnC w6 (w.heap.size + 1 + 1 + 1) (.slice none 0 0) []) := hide (World.ownsRow_nil _ _ _ _)
  go_wp2
  go_loopw [7] (fun x wr => ∃ (j kj : Nat) (ok : Bool) (xs : List (Int × Bool × Int)) (v5 : Value), x = .int .i64 (j : Int) ∧ xs.length = j ∧ kj ≤ zs.length ∧ 2 * j ≤ kj + 2 ∧ (ok = true → 2 * j ≤ kj) ∧ Hid (Cu wr w.heap.size a len cap zs (w.heap.size + 1) kj ok) ∧ Hid (OwnC wr (w.heap.size + 1 + 1 + 1) v5 xs) ∧ Hid (wr.heap[w.heap.size]? = some (.cells #[.int .i64 0, .int .i64 0, .int .i64 0, .int .i64 0, .int .i64 0, .slice none 0 0, .slice none 0 0] 27 (0, 0))) ∧ Hid (wr.heap[w.heap.size + 1 + 1]? = some (.cells #[.int .i64 k, .int .i64 i, .int .i64 u, .int .i64 c, .int .i64 n, v5, .slice none 0 0] 27 (0, 0))) ∧ Hid (Below w.heap.size w wr) ∧ Hid (Live ok ((rList (rCell zs) (N5.toNat - j) kj).bind fun r => F5v zs k i u c n (xs ++ r.1, r.2)) G)) (fun x _ => N5.toNat - (intOf x).toNat)
  case atStart => exact ⟨0, k6, ok6, [], _, rfl, rfl, hk6, by omega, fun _ => by omega, HC, HO, E2, EM, HB, HGG⟩
  case round =>
    clear HC HO E2 EM HB HGG
    obtain ⟨j, kj, ok, xs, v5, rfl, hxl, hkj, hj1, hj2, HC, HO, E2, EM, HB, HGG⟩ := hrel
    have HXL := hide hxl
    have hx2 : xs.length ≤ 600000 := by omega
    clear hxl
    obtain ⟨a5, c5, rfl, _⟩ := cells_at (HO.out.rd (Nat.le_refl _))
    have f2 := (box_of HC.out.pl).1 2 _ rfl
    have hM := (Array.getElem?_eq_some_iff.1 EM.out).1
    by_cases hrun : ok = true ∧ (j : Int) < N5
    · obtain ⟨rfl, hjN⟩ := hrun
      have hj2' := hj2 rfl
      have hm1 : N5.toNat - j = (N5.toNat - (j + 1)) + 1 := by omega
      rw [hm1, cell_start] at HGG
      go_wp2_with fail
      clear f2
      refine (l3Num HC.out).mono ?_
      rintro e wa ⟨x, ka, oka, rfl, hc, gg, hd⟩
      obtain ⟨_, hka, hka', x0, x1⟩ := num_on HZ.out hkj hd
      replace HGG := hide (HGG.out.num hd)
      have sB := HB.out.size
      replace HB := hide (below_cur HB.out gg (Nat.le_succ _) sB)
      replace E2 := hide ((gg.block w.heap.size (Array.getElem?_eq_some_iff.1 E2.out).1 (by simp)).trans E2.out)
      replace EM := hide ((gg.block (w.heap.size + 1 + 1) hM (by simp)).trans EM.out)
      replace HO := hide (HO.out.kept gg (fun q hq e => by simp only [Option.some.injEq] at e; have := (HO.out.lt q hq).1; omega))
      replace HC := hide hc
      clear gg hd hc sB hM
      have sA := (Array.getElem?_eq_some_iff.1 EM.out).1
      have bA := (Below.refl wa.heap.size wa).alloc (Nat.le_refl _) (.cells #[.int .i64 x, .bool false, .int .i64 0] 50)
      have EX := hide (heap_alloc_new wa (.cells #[.int .i64 x, .bool false, .int .i64 0] 50))
      replace HC := hide (HC.out.far (grown_of_below bA) (fun q e => by cases e))
      have HL := hide (fun q hq => (HO.out.lt q hq).2)
      replace HO := hide (HO.out.below bA)
      replace E2 := hide ((bA.block w.heap.size (by omega)).trans E2.out)
      replace EM := hide ((bA.block (w.heap.size + 1 + 1) (by omega)).trans EM.out)
      replace HB := hide (HB.out.trans (bA.mono HB.out.size))
      clear bA
      go_wp2_with fail
      generalize hgx : wa.heap.size = gx at *
      generalize wa.alloc (.cells #[.int .i64 x, .bool false, .int .i64 0] 50) = Wa at *
      unfold cA at HGG
      simp only at HGG
      refine (l3Num HC.out).mono ?_
      rintro e wb ⟨f, kb, okb, rfl, hc, gg, hd⟩
      obtain ⟨hkb0, hkb, hkb', fl, fu⟩ := num_on HZ.out hka hd
      replace HGG := hide (HGG.out.num hd)
      have sB := HB.out.size
      replace HB := hide (below_cur HB.out gg (Nat.le_succ _) sB)
      replace E2 := hide ((gg.block w.heap.size (Array.getElem?_eq_some_iff.1 E2.out).1 (by simp)).trans E2.out)
      replace EM := hide ((gg.block (w.heap.size + 1 + 1) (Array.getElem?_eq_some_iff.1 EM.out).1 (by simp)).trans EM.out)
      replace EX := hide ((gg.block gx (Array.getElem?_eq_some_iff.1 EX.out).1 (fun e => by simp only [Option.some.injEq] at e; omega)).trans EX.out)
      replace HO := hide (HO.out.kept gg (fun q hq e => by simp only [Option.some.injEq] at e; have := (HO.out.lt q hq).1; omega))
      replace HC := hide hc
      clear gg hd hc sB
      have X := box_of EX.out
      have p0 := X.1 0 _ rfl
      have p1 := X.1 1 _ rfl
      have p2 := X.1 2 _ rfl
      have q0 := X.2 1
      clear X
      have gs := grown_set (g := gx) (World.grownBy.refl wb (some gx)) 1 (.bool (f == 1))
      replace HB := hide (HB.out.setCell (p := ⟨gx, 1, none⟩) (show w.heap.size ≤ gx from by omega) (.bool (f == 1)))
      replace E2 := hide ((gs.block w.heap.size (Array.getElem?_eq_some_iff.1 E2.out).1 (fun e => by simp only [Option.some.injEq] at e; omega)).trans E2.out)
      replace EM := hide ((gs.block (w.heap.size + 1 + 1) (Array.getElem?_eq_some_iff.1 EM.out).1 (fun e => by simp only [Option.some.injEq] at e; omega)).trans EM.out)
      replace HO := hide (HO.out.kept gs (fun q hq e => by simp only [Option.some.injEq] at e; have := (HL.out q hq); omega))
      replace HC := hide (HC.out.far gs (fun q e => by simp only [Option.some.injEq] at e; omega))
      replace EX : Hid ((wb.setCell ⟨gx, 1, none⟩ (.bool (f == 1))).heap[gx]? = some (.cells #[.int .i64 x, .bool (f == 1), .int .i64 0] 50 (0, 0))) := hide (heap_setCell_same wb gx 1 _ 50 (.bool (f == 1)) EX.out)
      clear gs
      unfold cF at HGG
      simp only at HGG
      by_cases hf : f = 1
      · have hfb : (f == 1) = true := by simp [hf]
        replace HGG := hide (HGG.out.eq (by rw [if_neg (by omega), if_pos hf]))
        rw [hfb] at HB E2 EM HO HC EX
        go_wp2_with fail
        clear p0 p1 p2 q0
        generalize wb.setCell ⟨gx, 1, none⟩ (.bool true) = Wb at *
        refine (l3Num HC.out).mono ?_
        rintro e wc ⟨y, kc, okc, rfl, hc, gg, hd⟩
        obtain ⟨hkc0, hkc, hkc', yl, yu⟩ := num_on HZ.out hkb hd
        have hoc : okc = true → okb = true := fun h => by
          rcases hd with ⟨_, h2, _⟩ | ⟨h2, _⟩
          · exact h2
          · rw [h2] at h; cases h
        replace HGG := hide (HGG.out.num hd)
        have sB := HB.out.size
        replace HB := hide (below_cur HB.out gg (Nat.le_succ _) sB)
        replace E2 := hide ((gg.block w.heap.size (Array.getElem?_eq_some_iff.1 E2.out).1 (by simp)).trans E2.out)
        replace EM := hide ((gg.block (w.heap.size + 1 + 1) (Array.getElem?_eq_some_iff.1 EM.out).1 (by simp)).trans EM.out)
        replace EX := hide ((gg.block gx (Array.getElem?_eq_some_iff.1 EX.out).1 (fun e => by simp only [Option.some.injEq] at e; omega)).trans EX.out)
        replace HO := hide (HO.out.kept gg (fun q hq e => by simp only [Option.some.injEq] at e; have := (HO.out.lt q hq).1; omega))
        replace HC := hide hc
        clear gg hd hc sB
        have X := box_of EX.out
        have p0 := X.1 0 _ rfl
        have p1 := X.1 1 _ rfl
        have p2 := X.1 2 _ rfl
        have q0 := X.2 2
        clear X
        have gs := grown_set (g := gx) (World.grownBy.refl wc (some gx)) 2 (.int .i64 y)
        replace HB := hide (HB.out.setCell (p := ⟨gx, 2, none⟩) (show w.heap.size ≤ gx from by omega) (.int .i64 y))
        replace E2 := hide ((gs.block w.heap.size (Array.getElem?_eq_some_iff.1 E2.out).1 (fun e => by simp only [Option.some.injEq] at e; omega)).trans E2.out)
        replace EM := hide ((gs.block (w.heap.size + 1 + 1) (Array.getElem?_eq_some_iff.1 EM.out).1 (fun e => by simp only [Option.some.injEq] at e; omega)).trans EM.out)
        replace HO := hide (HO.out.kept gs (fun q hq e => by simp only [Option.some.injEq] at e; have := (HL.out q hq); omega))
        replace HC := hide (HC.out.far gs (fun q e => by simp only [Option.some.injEq] at e; omega))
        replace EX : Hid ((wc.setCell ⟨gx, 2, none⟩ (.int .i64 y)).heap[gx]? = some (.cells #[.int .i64 x, .bool true, .int .i64 y] 50 (0, 0))) := hide (heap_setCell_same wc gx 2 _ 50 (.int .i64 y) EX.out)
        clear gs
        go_upto_region 17 with fail
        clear p0 p1 p2 q0
        generalize wc.setCell ⟨gx, 2, none⟩ (.int .i64 y) = Wc at *
        have XX := (box_of EX.out).1
        have p0 := XX 0 _ rfl
        have p1 := XX 1 _ rfl
        have p2 := XX 2 _ rfl
        have m5 := (box_of EM.out).1 5 _ rfl
        clear XX
        have HBx := hide (Box.new Wc #[.int .i64 x, .bool true, .int .i64 y] 50)
        have bD := (Below.refl Wc.heap.size Wc).alloc (Nat.le_refl _) (.cells #[.int .i64 x, .bool true, .int .i64 y] 50)
        have HLo := hide HO.out.lt
        have sC := (Array.getElem?_eq_some_iff.1 EM.out).1
        replace HC := hide (HC.out.far (grown_of_below bD) (fun q e => by cases e))
        replace HO := hide (HO.out.below bD)
        replace E2 := hide ((bD.block w.heap.size (by omega)).trans E2.out)
        replace EM := hide ((bD.block (w.heap.size + 1 + 1) (by omega)).trans EM.out)
        replace HB := hide (HB.out.trans (bD.mono HB.out.size))
        have sD := bD.size
        clear bD
        go_wp2_with (at_builtin; refine app_Cell rfl _ _ rfl (w.heap.size + 1 + 1 + 1) Wc.heap.size 1 _ xs (x, true, y) rfl HO.out rfl HBx.out (by omega) (by simp; omega) ?_; intro v3 w3 o3 g3; have HO3 := hide o3; obtain ⟨a9, c9, he9, _⟩ := cells_at (o3.rd (Nat.le_refl _)); replace he9 : v3 = .slice a9 (xs.length + 1) c9 := he9.trans (by simp); subst he9; have HC3 := hide (HC.out.far g3 (fun q hq => by have := (HLo.out q hq).1; omega)); have sB3 := HB.out.size; have E23 := hide ((g3.block w.heap.size (Array.getElem?_eq_some_iff.1 E2.out).1 (fun e => by have := (HLo.out _ e.symm).1; omega)).trans E2.out); have EM3 := hide ((g3.block (w.heap.size + 1 + 1) (Array.getElem?_eq_some_iff.1 EM.out).1 (fun e => by have := (HLo.out _ e.symm).1; omega)).trans EM.out); have HB3 := hide (HB.out.grown g3 sB3 (fun q hq => by have := (HLo.out q hq).1; omega)); have m5' := (box_of EM3.out).1 5 _ rfl; have z5' := (box_of EM3.out).2 5; clear o3 g3)
        have gs := grown_set (g := w.heap.size + 1 + 1) (World.grownBy.refl w3 (some (w.heap.size + 1 + 1))) 5 (.slice a9 (xs.length + 1) c9)
        have HC4 := hide (HC3.out.far gs (fun q e => by simp only [Option.some.injEq] at e; omega))
        have HO4 := hide (own_set HO3.out (show w.heap.size + 1 + 1 < w.heap.size + 1 + 1 + 1 from by omega) 5 (.slice a9 (xs.length + 1) c9))
        have E24 := hide ((gs.block w.heap.size (Array.getElem?_eq_some_iff.1 E23.out).1 (fun e => by simp only [Option.some.injEq] at e; omega)).trans E23.out)
        have EM4 : Hid ((w3.setCell ⟨w.heap.size + 1 + 1, 5, none⟩ (.slice a9 (xs.length + 1) c9)).heap[w.heap.size + 1 + 1]? = some (.cells #[.int .i64 k, .int .i64 i, .int .i64 u, .int .i64 c, .int .i64 n, .slice a9 (xs.length + 1) c9, .slice none 0 0] 27 (0, 0))) := hide (heap_setCell_same w3 (w.heap.size + 1 + 1) 5 _ 27 _ EM3.out)
        have HB4 := hide (HB3.out.setCell (p := ⟨w.heap.size + 1 + 1, 5, none⟩) (Nat.le_add_right _ 2) (.slice a9 (xs.length + 1) c9))
        have HG4 : Hid (Live okc ((rList (rCell zs) (N5.toNat - (j + 1)) kc).bind fun r => F5v zs k i u c n ((xs ++ [(x, true, y)]) ++ r.1, r.2)) G) := hide (HGG.out.eq (by unfold cY; simp))
        exact ⟨⟨j + 1, kc, okc, xs ++ [(x, true, y)], _, by go_num, by simp [HXL.out], hkc, by omega, fun h => by have := hkc' h; have := hkb' (hoc h); omega, HC4, HO4, E24, EM4, HB4, HG4⟩, by simp [intOf]; omega⟩
      · have hfb : (f == 1) = false := by simp [hf]
        replace HGG : Hid (Live okb ((gw zs (kb : Int)).bind (cY zs (N5.toNat - (j + 1)) (fun r => F5v zs k i u c n (xs ++ r.1, r.2)) x false)) G) := hide (by
          by_cases h1 : 1 < f
          · exact HGG.out.none_ (by rw [if_pos h1])
          · exact HGG.out.eq (by rw [if_neg h1, if_neg hf]))
        rw [hfb] at HB E2 EM HO HC EX
        go_wp2_with fail
        clear p0 p1 p2 q0
        generalize wb.setCell ⟨gx, 1, none⟩ (.bool false) = Wb at *
        refine (l3Word HC.out).mono ?_
        rintro e wc ⟨y, kc, okc, rfl, hc, gg, hd⟩
        obtain ⟨hkc0, hkc, hkc'⟩ := word_on HZ.out hkb hd
        have hoc : okc = true → okb = true := fun h => by
          rcases hd with ⟨_, h2, _⟩ | ⟨h2, _⟩
          · exact h2
          · rw [h2] at h; cases h
        replace HGG := hide (HGG.out.word hd)
        have sB := HB.out.size
        replace HB := hide (below_cur HB.out gg (Nat.le_succ _) sB)
        replace E2 := hide ((gg.block w.heap.size (Array.getElem?_eq_some_iff.1 E2.out).1 (by simp)).trans E2.out)
        replace EM := hide ((gg.block (w.heap.size + 1 + 1) (Array.getElem?_eq_some_iff.1 EM.out).1 (by simp)).trans EM.out)
        replace EX := hide ((gg.block gx (Array.getElem?_eq_some_iff.1 EX.out).1 (fun e => by simp only [Option.some.injEq] at e; omega)).trans EX.out)
        replace HO := hide (HO.out.kept gg (fun q hq e => by simp only [Option.some.injEq] at e; have := (HO.out.lt q hq).1; omega))
        replace HC := hide hc
        clear gg hd hc sB
        have X := box_of EX.out
        have p0 := X.1 0 _ rfl
        have p1 := X.1 1 _ rfl
        have p2 := X.1 2 _ rfl
        have q0 := X.2 2
        clear X
        have gs := grown_set (g := gx) (World.grownBy.refl wc (some gx)) 2 (.int .i64 y)
        replace HB := hide (HB.out.setCell (p := ⟨gx, 2, none⟩) (show w.heap.size ≤ gx from by omega) (.int .i64 y))
        replace E2 := hide ((gs.block w.heap.size (Array.getElem?_eq_some_iff.1 E2.out).1 (fun e => by simp only [Option.some.injEq] at e; omega)).trans E2.out)
        replace EM := hide ((gs.block (w.heap.size + 1 + 1) (Array.getElem?_eq_some_iff.1 EM.out).1 (fun e => by simp only [Option.some.injEq] at e; omega)).trans EM.out)
        replace HO := hide (HO.out.kept gs (fun q hq e => by simp only [Option.some.injEq] at e; have := (HL.out q hq); omega))
        replace HC := hide (HC.out.far gs (fun q e => by simp only [Option.some.injEq] at e; omega))
        replace EX : Hid ((wc.setCell ⟨gx, 2, none⟩ (.int .i64 y)).heap[gx]? = some (.cells #[.int .i64 x, .bool false, .int .i64 y] 50 (0, 0))) := hide (heap_setCell_same wc gx 2 _ 50 (.int .i64 y) EX.out)
        clear gs
        go_upto_region 17 with fail
        clear p0 p1 p2 q0
        generalize wc.setCell ⟨gx, 2, none⟩ (.int .i64 y) = Wc at *
        have XX := (box_of EX.out).1
        have p0 := XX 0 _ rfl
        have p1 := XX 1 _ rfl
        have p2 := XX 2 _ rfl
        have m5 := (box_of EM.out).1 5 _ rfl
        clear XX
        have HBx := hide (Box.new Wc #[.int .i64 x, .bool false, .int .i64 y] 50)
        have bD := (Below.refl Wc.heap.size Wc).alloc (Nat.le_refl _) (.cells #[.int .i64 x, .bool false, .int .i64 y] 50)
        have HLo := hide HO.out.lt
        have sC := (Array.getElem?_eq_some_iff.1 EM.out).1
        replace HC := hide (HC.out.far (grown_of_below bD) (fun q e => by cases e))
        replace HO := hide (HO.out.below bD)
        replace E2 := hide ((bD.block w.heap.size (by omega)).trans E2.out)
        replace EM := hide ((bD.block (w.heap.size + 1 + 1) (by omega)).trans EM.out)
        replace HB := hide (HB.out.trans (bD.mono HB.out.size))
        have sD := bD.size
        clear bD
        go_wp2_with (at_builtin; refine app_Cell rfl _ _ rfl (w.heap.size + 1 + 1 + 1) Wc.heap.size 1 _ xs (x, false, y) rfl HO.out rfl HBx.out (by omega) (by simp; omega) ?_; intro v3 w3 o3 g3; have HO3 := hide o3; obtain ⟨a9, c9, he9, _⟩ := cells_at (o3.rd (Nat.le_refl _)); replace he9 : v3 = .slice a9 (xs.length + 1) c9 := he9.trans (by simp); subst he9; have HC3 := hide (HC.out.far g3 (fun q hq => by have := (HLo.out q hq).1; omega)); have sB3 := HB.out.size; have E23 := hide ((g3.block w.heap.size (Array.getElem?_eq_some_iff.1 E2.out).1 (fun e => by have := (HLo.out _ e.symm).1; omega)).trans E2.out); have EM3 := hide ((g3.block (w.heap.size + 1 + 1) (Array.getElem?_eq_some_iff.1 EM.out).1 (fun e => by have := (HLo.out _ e.symm).1; omega)).trans EM.out); have HB3 := hide (HB.out.grown g3 sB3 (fun q hq => by have := (HLo.out q hq).1; omega)); have m5' := (box_of EM3.out).1 5 _ rfl; have z5' := (box_of EM3.out).2 5; clear o3 g3)
        have gs := grown_set (g := w.heap.size + 1 + 1) (World.grownBy.refl w3 (some (w.heap.size + 1 + 1))) 5 (.slice a9 (xs.length + 1) c9)
        have HC4 := hide (HC3.out.far gs (fun q e => by simp only [Option.some.injEq] at e; omega))
        have HO4 := hide (own_set HO3.out (show w.heap.size + 1 + 1 < w.heap.size + 1 + 1 + 1 from by omega) 5 (.slice a9 (xs.length + 1) c9))
        have E24 := hide ((gs.block w.heap.size (Array.getElem?_eq_some_iff.1 E23.out).1 (fun e => by simp only [Option.some.injEq] at e; omega)).trans E23.out)
        have EM4 : Hid ((w3.setCell ⟨w.heap.size + 1 + 1, 5, none⟩ (.slice a9 (xs.length + 1) c9)).heap[w.heap.size + 1 + 1]? = some (.cells #[.int .i64 k, .int .i64 i, .int .i64 u, .int .i64 c, .int .i64 n, .slice a9 (xs.length + 1) c9, .slice none 0 0] 27 (0, 0))) := hide (heap_setCell_same w3 (w.heap.size + 1 + 1) 5 _ 27 _ EM3.out)
        have HB4 := hide (HB3.out.setCell (p := ⟨w.heap.size + 1 + 1, 5, none⟩) (Nat.le_add_right _ 2) (.slice a9 (xs.length + 1) c9))
        have HG4 : Hid (Live okc ((rList (rCell zs) (N5.toNat - (j + 1)) kc).bind fun r => F5v zs k i u c n ((xs ++ [(x, false, y)]) ++ r.1, r.2)) G) := hide (HGG.out.eq (by unfold cY; simp))
        exact ⟨⟨j + 1, kc, okc, xs ++ [(x, false, y)], _, by go_num, by simp [HXL.out], hkc, by omega, fun h => by have := hkc' h; have := hkb' (hoc h); omega, HC4, HO4, E24, EM4, HB4, HG4⟩, by simp [intOf]; omega⟩
    · have HF : Hid (Live ok (F5v zs k i u c n (xs, kj)) G) := hide (by
        by_cases hjN : (j : Int) < N5
        · cases ok with
          | false => exact .inr HGG.out.dead
          | true => exact absurd ⟨rfl, hjN⟩ hrun
        · have h0 : N5.toNat - j = 0 := by omega
          exact HGG.out.eq (by rw [h0]; simp [rList]))
      clear HGG
      have hcase : ((j : Int) < N5 ∧ ok = false) ∨ ¬ (j : Int) < N5 := by
        by_cases hjN : (j : Int) < N5
        · cases ok with
          | false => exact .inl ⟨hjN, rfl⟩
          | true => exact absurd ⟨rfl, hjN⟩ hrun
        · exact .inr hjN
      rcases hcase with ⟨hjN, hok⟩ | hjN
      · subst hok
        have HM := hide (model_dead (HG0.out.trans HF.out.dead))
        go_wp2_with fail
        clear f2
        refine (l3Num HC.out).mono ?_
        rintro e w7 ⟨N6, k7, ok7, rfl, hc, gg, hd⟩
        obtain ⟨h71, h72⟩ : ok7 = false ∧ N6 = 0 := by
          rcases hd with ⟨_, h2, _⟩ | ⟨h1, h2, _⟩
          · cases h2
          · exact ⟨h1, h2⟩
        subst h71 h72
        have sB := HB.out.size
        replace HB := hide (below_cur HB.out gg (Nat.le_succ _) sB)
        replace E2 := hide ((gg.block w.heap.size (Array.getElem?_eq_some_iff.1 E2.out).1 (by simp)).trans E2.out)
        replace HC := hide hc
        clear gg hd hc sB hM HO EM HF
        go_wp2
        go_loopw [9] (fun x wr => x = .int .i64 0 ∧ Hid (Cu wr w.heap.size a len cap zs (w.heap.size + 1) k7 false) ∧ Hid (wr.heap[w.heap.size]? = some (.cells #[.int .i64 0, .int .i64 0, .int .i64 0, .int .i64 0, .int .i64 0, .slice none 0 0, .slice none 0 0] 27 (0, 0))) ∧ Hid (Below w.heap.size w wr)) (fun _ _ => 0)
        case atStart => exact ⟨rfl, HC, E2, HB⟩
        case round =>
          clear HC E2 HB
          obtain ⟨rfl, HC, E2, HB⟩ := hrel
          have f2 := (box_of HC.out.pl).1 2 _ rfl
          go_upto_region 25 with fail
          go_quiet (fail)
          have sE := (Array.getElem?_eq_some_iff.1 E2.out).1
          have bq := below_drewN (Below.refl wr.heap.size wr) nq
          replace E2 := hide ((bq.block w.heap.size sE).trans E2.out)
          replace HB := hide (HB.out.trans (bq.mono HB.out.size))
          clear bq sE f2 HC
          generalize wr.drewN nq = Wq at *
          have hi7 : (Tryd.prog.info? 27).map (·.size) = some (#[.int .i64 0, .int .i64 0, .int .i64 0, .int .i64 0, .int .i64 0, .slice none 0 0, .slice none 0 0] : Array Value).size := by kernel_rfl
          have ho7 : (#[.int .i64 0, .int .i64 0, .int .i64 0, .int .i64 0, .int .i64 0, .slice none 0 0, .slice none 0 0] : Array Value).all (·.oneCell') = true := by simp [Value.oneCell']
          clear HXL HD5 HZ HI HG0 hrun hj1 hj2
          go_upto_region 26 with fail
          go_wp2_with (refine wpList_store_rowTo rfl 27 (.tmp 2) (.tmp 111) rfl rfl w.heap.size #[.int .i64 0, .int .i64 0, .int .i64 0, .int .i64 0, .int .i64 0, .slice none 0 0, .slice none 0 0] rfl rfl _ _ E2.out hi7 rfl ho7 ?_)
          exact bodyPost_ret (v := .tuple #[zeroM, .bool false]) (results_ct Tryd.results13 _ _ _ rfl (load7 (setRow_heap Wq w.heap.size _ _ _ _ E2.out))) rfl ⟨⟨_, by rw [HM.out]; rfl, by rw [HM.out]; exact rowM_zero _ _⟩, below_setRow HB.out (Nat.le_refl _) _⟩
      · go_wp2_with fail
        clear f2
        refine (l3Num HC.out).mono ?_
        rintro e w7 ⟨N6, k7, ok7, rfl, hc, gg, hd⟩
        obtain ⟨_, hk7, _, N60, N61⟩ := num_on HZ.out hkj hd
        unfold F5v at HF
        replace HF := hide (HF.out.num hd)
        simp only at HF
        have sB := HB.out.size
        replace HB := hide (below_cur HB.out gg (Nat.le_succ _) sB)
        replace E2 := hide ((gg.block w.heap.size (Array.getElem?_eq_some_iff.1 E2.out).1 (by simp)).trans E2.out)
        replace EM := hide ((gg.block (w.heap.size + 1 + 1) hM (by simp)).trans EM.out)
        replace HO := hide (HO.out.kept gg (fun q hq e => by simp only [Option.some.injEq] at e; have := (HO.out.lt q hq).1; omega))
        replace HC := hide hc
        clear gg hd hc sB hM
        have HD6 : Hid (130 < N6 → G = none) := hide (fun h8 => by
          rcases HF.out with ⟨_, h⟩ | h
          · rw [if_pos h8] at h; exact h.symm
          · exact h)
        have HGG : Hid (Live ok7 ((rList (rNote zs) (N6.toNat - 0) k7).bind fun r => some ((⟨k, i, u, c, n, xs, [] ++ r.1⟩ : M), r.2)) G) := hide (by
          by_cases h8 : 130 < N6
          · exact .inr (HD6.out h8)
          · exact HF.out.eq (by rw [if_neg h8]; rfl))
        clear HF
        have HN : Hid (OwnN w7 w7.heap.size (.slice none 0 0) []) := hide (World.ownsRow_nil _ _ _ _)
        have HL := hide (fun q hq => (HO.out.lt q hq).2)
        have hl2 := (Array.getElem?_eq_some_iff.1 EM.out).1
        have hl4 : w7.heap.size = w7.heap.size := rfl
        generalize hlq : w7.heap.size = l2 at HN HL hl2
        replace hl4 : w7.heap.size = l2 := hlq
        go_wp2
        go_loopw [9] (fun x wr => ∃ (jn kn : Nat) (okn : Bool) (ys : List (Int × Int)) (v6 : Value), x = .int .i64 (jn : Int) ∧ ys.length = jn ∧ kn ≤ zs.length ∧ 2 * jn ≤ kn + 2 ∧ (okn = true → 2 * jn ≤ kn) ∧ l2 ≤ wr.heap.size ∧ Hid (Cu wr w.heap.size a len cap zs (w.heap.size + 1) kn okn) ∧ Hid (OwnC wr (w.heap.size + 1 + 1 + 1) (.slice a5 xs.length c5) xs) ∧ Hid (OwnN wr l2 v6 ys) ∧ Hid (wr.heap[w.heap.size]? = some (.cells #[.int .i64 0, .int .i64 0, .int .i64 0, .int .i64 0, .int .i64 0, .slice none 0 0, .slice none 0 0] 27 (0, 0))) ∧ Hid (wr.heap[w.heap.size + 1 + 1]? = some (.cells #[.int .i64 k, .int .i64 i, .int .i64 u, .int .i64 c, .int .i64 n, .slice a5 xs.length c5, v6] 27 (0, 0))) ∧ Hid (Below w.heap.size w wr) ∧ Hid (Live okn ((rList (rNote zs) (N6.toNat - jn) kn).bind fun r => some ((⟨k, i, u, c, n, xs, ys ++ r.1⟩ : M), r.2)) G)) (fun x _ => N6.toNat - (intOf x).toNat)
        case atStart => exact ⟨0, k7, ok7, [], _, rfl, rfl, hk7, by omega, fun _ => by omega, Nat.le_of_eq hl4.symm, HC, HO, HN, E2, EM, HB, HGG⟩
        case round =>
          clear HC HO HN E2 EM HB HGG
          obtain ⟨jn, kn, okn, ys, v6, rfl, hyl, hkn, hn1, hn2, hsz, HC, HO, HN, E2, EM, HB, HGG⟩ := hrel
          have HYL := hide hyl
          have hy2 : ys.length ≤ 600000 := by omega
          clear hyl
          obtain ⟨a6, c6, rfl, _⟩ := notes_at (HN.out.rd (Nat.le_refl _))
          have f2 := (box_of HC.out.pl).1 2 _ rfl
          have hM := (Array.getElem?_eq_some_iff.1 EM.out).1
          by_cases hrun2 : okn = true ∧ (jn : Int) < N6
          · obtain ⟨rfl, hjN2⟩ := hrun2
            have hn2' := hn2 rfl
            have hm1 : N6.toNat - jn = (N6.toNat - (jn + 1)) + 1 := by omega
            rw [hm1, note_start] at HGG
            go_wp2_with fail
            clear f2
            refine (l3Num HC.out).mono ?_
            rintro e wa ⟨x, ka, oka, rfl, hc, gg, hd⟩
            obtain ⟨_, hka, hka', x0, x1⟩ := num_on HZ.out hkn hd
            replace HGG := hide (HGG.out.num hd)
            have sB := HB.out.size
            replace hsz := Nat.le_trans hsz gg.size
            replace HB := hide (below_cur HB.out gg (Nat.le_succ _) sB)
            replace E2 := hide ((gg.block w.heap.size (Array.getElem?_eq_some_iff.1 E2.out).1 (by simp)).trans E2.out)
            replace EM := hide ((gg.block (w.heap.size + 1 + 1) hM (by simp)).trans EM.out)
            replace HO := hide (HO.out.kept gg (fun q hq e => by simp only [Option.some.injEq] at e; have := (HO.out.lt q hq).1; omega))
            replace HN := hide (HN.out.kept gg (fun q hq e => by simp only [Option.some.injEq] at e; have := (HN.out.lt q hq).1; omega))
            replace HC := hide hc
            clear gg hd hc sB hM
            have sA := (Array.getElem?_eq_some_iff.1 EM.out).1
            have bA := (Below.refl wa.heap.size wa).alloc (Nat.le_refl _) (.cells #[.int .i64 x, .int .i64 0] 53)
            have EX := hide (heap_alloc_new wa (.cells #[.int .i64 x, .int .i64 0] 53))
            replace HC := hide (HC.out.far (grown_of_below bA) (fun q e => by cases e))
            have HLn := hide (fun q hq => (HN.out.lt q hq).2)
            replace HO := hide (HO.out.below bA)
            replace HN := hide (HN.out.below bA)
            replace E2 := hide ((bA.block w.heap.size (by omega)).trans E2.out)
            replace EM := hide ((bA.block (w.heap.size + 1 + 1) (by omega)).trans EM.out)
            replace HB := hide (HB.out.trans (bA.mono HB.out.size))
            have hsz2 := Nat.le_trans hsz bA.size
            clear bA
            go_wp2_with fail
            generalize hgx : wa.heap.size = gx at *
            generalize wa.alloc (.cells #[.int .i64 x, .int .i64 0] 53) = Wa at *
            unfold nA at HGG
            simp only at HGG
            refine (l3Num HC.out).mono ?_
            rintro e wc ⟨y, kc, okc, rfl, hc, gg, hd⟩
            obtain ⟨hkc0, hkc, hkc', yl, yu⟩ := num_on HZ.out hka hd
            have hoc : okc = true → oka = true := fun h => by
              rcases hd with ⟨_, h2, _⟩ | ⟨h2, _⟩
              · exact h2
              · rw [h2] at h; cases h
            replace HGG := hide (HGG.out.num hd)
            have sB := HB.out.size
            replace hsz2 := Nat.le_trans hsz2 gg.size
            replace HB := hide (below_cur HB.out gg (Nat.le_succ _) sB)
            replace E2 := hide ((gg.block w.heap.size (Array.getElem?_eq_some_iff.1 E2.out).1 (by simp)).trans E2.out)
            replace EM := hide ((gg.block (w.heap.size + 1 + 1) (Array.getElem?_eq_some_iff.1 EM.out).1 (by simp)).trans EM.out)
            replace EX := hide ((gg.block gx (Array.getElem?_eq_some_iff.1 EX.out).1 (fun e => by simp only [Option.some.injEq] at e; omega)).trans EX.out)
            replace HO := hide (HO.out.kept gg (fun q hq e => by simp only [Option.some.injEq] at e; have := (HO.out.lt q hq).1; omega))
            replace HN := hide (HN.out.kept gg (fun q hq e => by simp only [Option.some.injEq] at e; have := (HN.out.lt q hq).1; omega))
            replace HC := hide hc
            clear gg hd hc sB
            have X := box_of EX.out
            have p0 := X.1 0 _ rfl
            have p1 := X.1 1 _ rfl
            have q0 := X.2 1
            clear X
            have gs := grown_set (g := gx) (World.grownBy.refl wc (some gx)) 1 (.int .i64 y)
            replace hsz2 := Nat.le_trans hsz2 gs.size
            replace HB := hide (HB.out.setCell (p := ⟨gx, 1, none⟩) (show w.heap.size ≤ gx from by omega) (.int .i64 y))
            replace E2 := hide ((gs.block w.heap.size (Array.getElem?_eq_some_iff.1 E2.out).1 (fun e => by simp only [Option.some.injEq] at e; omega)).trans E2.out)
            replace EM := hide ((gs.block (w.heap.size + 1 + 1) (Array.getElem?_eq_some_iff.1 EM.out).1 (fun e => by simp only [Option.some.injEq] at e; omega)).trans EM.out)
            replace HO := hide (HO.out.kept gs (fun q hq e => by simp only [Option.some.injEq] at e; have := (HL.out q hq); omega))
            replace HN := hide (HN.out.kept gs (fun q hq e => by simp only [Option.some.injEq] at e; have := (HLn.out q hq); omega))
            replace HC := hide (HC.out.far gs (fun q e => by simp only [Option.some.injEq] at e; omega))
            replace EX : Hid ((wc.setCell ⟨gx, 1, none⟩ (.int .i64 y)).heap[gx]? = some (.cells #[.int .i64 x, .int .i64 y] 53 (0, 0))) := hide (heap_setCell_same wc gx 1 _ 53 (.int .i64 y) EX.out)
            clear gs
            go_upto_region 24 with fail
            clear p0 p1 q0
            generalize wc.setCell ⟨gx, 1, none⟩ (.int .i64 y) = Wc at *
            have XX := (box_of EX.out).1
            have p0 := XX 0 _ rfl
            have p1 := XX 1 _ rfl
            have m6 := (box_of EM.out).1 6 _ rfl
            clear XX
            have HBx := hide (Box.new Wc #[.int .i64 x, .int .i64 y] 53)
            have bD := (Below.refl Wc.heap.size Wc).alloc (Nat.le_refl _) (.cells #[.int .i64 x, .int .i64 y] 53)
            have HLo := hide HN.out.lt
            have sC := (Array.getElem?_eq_some_iff.1 EM.out).1
            replace HC := hide (HC.out.far (grown_of_below bD) (fun q e => by cases e))
            replace HO := hide (HO.out.below bD)
            replace HN := hide (HN.out.below bD)
            replace E2 := hide ((bD.block w.heap.size (by omega)).trans E2.out)
            replace EM := hide ((bD.block (w.heap.size + 1 + 1) (by omega)).trans EM.out)
            replace HB := hide (HB.out.trans (bD.mono HB.out.size))
            have sD := bD.size
            clear bD
            go_wp2_with (at_builtin; refine app_Note rfl _ _ rfl l2 Wc.heap.size 1 _ ys (x, y) rfl HN.out rfl HBx.out (by omega) (by omega) ?_; intro v3 w3 o3 g3; have HN3 := hide o3; obtain ⟨a9, c9, he9, _⟩ := notes_at (o3.rd (Nat.le_refl _)); replace he9 : v3 = .slice a9 (ys.length + 1) c9 := he9.trans (by simp); subst he9; have HC3 := hide (HC.out.far g3 (fun q hq => by have := (HLo.out q hq).1; omega)); have HO3 := hide (HO.out.kept g3 (fun q hq e => by have := (HLo.out q e).1; have := (HL.out q hq); omega)); have sB3 := HB.out.size; have hsz3 := Nat.le_trans (Nat.le_trans hsz2 sD) g3.size; have E23 := hide ((g3.block w.heap.size (Array.getElem?_eq_some_iff.1 E2.out).1 (fun e => by have := (HLo.out _ e.symm).1; omega)).trans E2.out); have EM3 := hide ((g3.block (w.heap.size + 1 + 1) (Array.getElem?_eq_some_iff.1 EM.out).1 (fun e => by have := (HLo.out _ e.symm).1; omega)).trans EM.out); have HB3 := hide (HB.out.grown g3 sB3 (fun q hq => by have := (HLo.out q hq).1; omega)); have m6' := (box_of EM3.out).1 6 _ rfl; have z6' := (box_of EM3.out).2 6; clear o3 g3)
            have gs := grown_set (g := w.heap.size + 1 + 1) (World.grownBy.refl w3 (some (w.heap.size + 1 + 1))) 6 (.slice a9 (ys.length + 1) c9)
            have HC4 := hide (HC3.out.far gs (fun q e => by simp only [Option.some.injEq] at e; omega))
            have HO4 := hide (own_set HO3.out (show w.heap.size + 1 + 1 < w.heap.size + 1 + 1 + 1 from by omega) 6 (.slice a9 (ys.length + 1) c9))
            have HN4 := hide (own_set HN3.out (show w.heap.size + 1 + 1 < l2 from by omega) 6 (.slice a9 (ys.length + 1) c9))
            have E24 := hide ((gs.block w.heap.size (Array.getElem?_eq_some_iff.1 E23.out).1 (fun e => by simp only [Option.some.injEq] at e; omega)).trans E23.out)
            have EM4 : Hid ((w3.setCell ⟨w.heap.size + 1 + 1, 6, none⟩ (.slice a9 (ys.length + 1) c9)).heap[w.heap.size + 1 + 1]? = some (.cells #[.int .i64 k, .int .i64 i, .int .i64 u, .int .i64 c, .int .i64 n, .slice a5 xs.length c5, .slice a9 (ys.length + 1) c9] 27 (0, 0))) := hide (heap_setCell_same w3 (w.heap.size + 1 + 1) 6 _ 27 _ EM3.out)
            have HB4 := hide (HB3.out.setCell (p := ⟨w.heap.size + 1 + 1, 6, none⟩) (Nat.le_add_right _ 2) (.slice a9 (ys.length + 1) c9))
            have HG4 : Hid (Live okc ((rList (rNote zs) (N6.toNat - (jn + 1)) kc).bind fun r => some ((⟨k, i, u, c, n, xs, (ys ++ [(x, y)]) ++ r.1⟩ : M), r.2)) G) := hide (HGG.out.eq (by unfold nY; simp))
            have hsz4 := Nat.le_trans hsz3 gs.size
            exact ⟨⟨jn + 1, kc, okc, ys ++ [(x, y)], _, by go_num, by simp [HYL.out], hkc, by omega, fun h => by have := hkc' h; have := hka' (hoc h); omega, hsz4, HC4, HO4, HN4, E24, EM4, HB4, HG4⟩, by simp [intOf]; omega⟩
          · have HF2 : Hid (Live okn (some ((⟨k, i, u, c, n, xs, ys⟩ : M), kn)) G) := hide (by
              by_cases hjN2 : (jn : Int) < N6
              · cases okn with
                | false => exact .inr HGG.out.dead
                | true => exact absurd ⟨rfl, hjN2⟩ hrun2
              · have h0 : N6.toNat - jn = 0 := by omega
                exact HGG.out.eq (by rw [h0]; simp [rList]))
            clear HGG
            have hcase2 : ((jn : Int) < N6 ∧ okn = false) ∨ ¬ (jn : Int) < N6 := by
              by_cases hjN2 : (jn : Int) < N6
              · cases okn with
                | false => exact .inl ⟨hjN2, rfl⟩
                | true => exact absurd ⟨rfl, hjN2⟩ hrun2
              · exact .inr hjN2
            rcases hcase2 with ⟨hjN2, rfl⟩ | hjN2
            · have HM := hide (model_dead (HG0.out.trans HF2.out.dead))
              go_upto_region 25 with fail
              go_quiet (fail)
              have sE := (Array.getElem?_eq_some_iff.1 E2.out).1
              have bq := below_drewN (Below.refl wr.heap.size wr) nq
              replace E2 := hide ((bq.block w.heap.size sE).trans E2.out)
              replace HB := hide (HB.out.trans (bq.mono HB.out.size))
              clear bq sE f2 HC HO HN EM
              generalize wr.drewN nq = Wq at *
              have hi7 : (Tryd.prog.info? 27).map (·.size) = some (#[.int .i64 0, .int .i64 0, .int .i64 0, .int .i64 0, .int .i64 0, .slice none 0 0, .slice none 0 0] : Array Value).size := by kernel_rfl
              have ho7 : (#[.int .i64 0, .int .i64 0, .int .i64 0, .int .i64 0, .int .i64 0, .slice none 0 0, .slice none 0 0] : Array Value).all (·.oneCell') = true := by simp [Value.oneCell']
              clear HXL HYL HF2 HD5 HD6 HZ HI HG0 HL hrun hrun2 hn1 hn2 hj1 hj2
              go_upto_region 26 with fail
              go_wp2_with (refine wpList_store_rowTo rfl 27 (.tmp 2) (.tmp 111) rfl rfl w.heap.size #[.int .i64 0, .int .i64 0, .int .i64 0, .int .i64 0, .int .i64 0, .slice none 0 0, .slice none 0 0] rfl rfl _ _ E2.out hi7 rfl ho7 ?_)
              exact bodyPost_ret (v := .tuple #[zeroM, .bool false]) (results_ct Tryd.results13 _ _ _ rfl (load7 (setRow_heap Wq w.heap.size _ _ _ _ E2.out))) rfl ⟨⟨_, by rw [HM.out]; rfl, by rw [HM.out]; exact rowM_zero _ _⟩, below_setRow HB.out (Nat.le_refl _) _⟩
            · cases okn with
              | false =>
                have HM := hide (model_dead (HG0.out.trans HF2.out.dead))
                go_upto_region 25 with fail
                go_quiet (fail)
                have sE := (Array.getElem?_eq_some_iff.1 E2.out).1
                have bq := below_drewN (Below.refl wr.heap.size wr) nq
                replace E2 := hide ((bq.block w.heap.size sE).trans E2.out)
                replace HB := hide (HB.out.trans (bq.mono HB.out.size))
                clear bq sE f2 HC HO HN EM
                generalize wr.drewN nq = Wq at *
                have hi7 : (Tryd.prog.info? 27).map (·.size) = some (#[.int .i64 0, .int .i64 0, .int .i64 0, .int .i64 0, .int .i64 0, .slice none 0 0, .slice none 0 0] : Array Value).size := by kernel_rfl
                have ho7 : (#[.int .i64 0, .int .i64 0, .int .i64 0, .int .i64 0, .int .i64 0, .slice none 0 0, .slice none 0 0] : Array Value).all (·.oneCell') = true := by simp [Value.oneCell']
                clear HXL HYL HF2 HD5 HD6 HZ HI HG0 HL hrun hrun2 hn1 hn2 hj1 hj2
                go_upto_region 26 with fail
                go_wp2_with (refine wpList_store_rowTo rfl 27 (.tmp 2) (.tmp 111) rfl rfl w.heap.size #[.int .i64 0, .int .i64 0, .int .i64 0, .int .i64 0, .int .i64 0, .slice none 0 0, .slice none 0 0] rfl rfl _ _ E2.out hi7 rfl ho7 ?_)
                exact bodyPost_ret (v := .tuple #[zeroM, .bool false]) (results_ct Tryd.results13 _ _ _ rfl (load7 (setRow_heap Wq w.heap.size _ _ _ _ E2.out))) rfl ⟨⟨_, by rw [HM.out]; rfl, by rw [HM.out]; exact rowM_zero _ _⟩, below_setRow HB.out (Nat.le_refl _) _⟩
              | true =>
                by_cases hl0 : len = 0
                · have HM := hide (model_empty HZ.out (by omega))
                  have hd0 : ((len : Int) == 0) = true := by simp [hl0]
                  go_upto_region 25 with fail
                  go_quiet (fail)
                  have sE := (Array.getElem?_eq_some_iff.1 E2.out).1
                  have bq := below_drewN (Below.refl wr.heap.size wr) nq
                  replace E2 := hide ((bq.block w.heap.size sE).trans E2.out)
                  replace HB := hide (HB.out.trans (bq.mono HB.out.size))
                  clear bq sE f2 HC HO HN EM
                  generalize wr.drewN nq = Wq at *
                  have hi7 : (Tryd.prog.info? 27).map (·.size) = some (#[.int .i64 0, .int .i64 0, .int .i64 0, .int .i64 0, .int .i64 0, .slice none 0 0, .slice none 0 0] : Array Value).size := by kernel_rfl
                  have ho7 : (#[.int .i64 0, .int .i64 0, .int .i64 0, .int .i64 0, .int .i64 0, .slice none 0 0, .slice none 0 0] : Array Value).all (·.oneCell') = true := by simp [Value.oneCell']
                  clear HXL HYL HF2 HD5 HD6 HZ HI HG0 HL hrun hrun2 hn1 hn2 hj1 hj2
                  go_upto_region 26 with fail
                  go_wp2_with (refine wpList_store_rowTo rfl 27 (.tmp 2) (.tmp 111) rfl rfl w.heap.size #[.int .i64 0, .int .i64 0, .int .i64 0, .int .i64 0, .int .i64 0, .slice none 0 0, .slice none 0 0] rfl rfl _ _ E2.out hi7 rfl ho7 ?_)
                  exact bodyPost_ret (v := .tuple #[zeroM, .bool false]) (results_ct Tryd.results13 _ _ _ rfl (load7 (setRow_heap Wq w.heap.size _ _ _ _ E2.out))) rfl ⟨⟨_, by rw [HM.out]; rfl, by rw [HM.out]; exact rowM_zero _ _⟩, below_setRow HB.out (Nat.le_refl _) _⟩
                · have hlp : 0 < len := by omega
                  obtain ⟨b0, o0, rfl, hb0, _⟩ := HI.out.2.2.2 hlp
                  have sB := HB.out.size
                  have HIR := hide (HI.out.low HB.out (Nat.le_refl _))
                  have hzl : 0 < zs.length := by have := HI.out.1; omega
                  have HZL := hide hzl
                  clear hzl
                  have hd0 : ((len : Int) == 0) = false := by simp; omega
                  obtain ⟨ms, hms⟩ : ∃ ms, mBytes k i u c n xs ys = ms := ⟨_, rfl⟩
                  have HMB := hide hms
                  have hmb : Byt ms := by rw [← hms]; exact mBytes_byt _ _ _ _ _ _ _
                  have HMY := hide hmb
                  clear hms hmb
                  have hx3 : xs.length ≤ 1048576 := by omega
                  have hy3 : ys.length ≤ 1048576 := by omega
                  have hcI : (convert 22 9 (.slice (some ⟨b0, o0, none⟩) len cap)).run Tryd.prog wr.drew = .ok (.string (strOfNums zs)) wr.drew := in_str cap (HIR.out.drewN 1)
                  have HD0 : Hid (Below wr.heap.size wr wr.drew) := hide (Below.refl wr.heap.size wr).drew
                  have HRC := hide ((HO.out.below HD0.out).rd (B := wr.drew.heap.size) (Nat.le_refl _))
                  have HRN := hide ((HN.out.below HD0.out).rd (B := wr.drew.heap.size) (Nat.le_refl _))
                  have sC : w.heap.size + 1 < wr.heap.size := by omega
                  have F2 := hide f2
                  have HS : Hid (∀ w', Below wr.heap.size wr w' → w'.cell? ⟨w.heap.size + 1, 2, none⟩ = some (.bool true) ∧ w'.cell? ⟨w.heap.size + 1 + 1, 0, none⟩ = some (.int .i64 k) ∧ w'.cell? ⟨w.heap.size + 1 + 1, 1, none⟩ = some (.int .i64 i) ∧ w'.cell? ⟨w.heap.size + 1 + 1, 2, none⟩ = some (.int .i64 u) ∧ w'.cell? ⟨w.heap.size + 1 + 1, 3, none⟩ = some (.int .i64 c) ∧ w'.cell? ⟨w.heap.size + 1 + 1, 4, none⟩ = some (.int .i64 n) ∧ w'.cell? ⟨w.heap.size + 1 + 1, 5, none⟩ = some (.slice a5 xs.length c5) ∧ w'.cell? ⟨w.heap.size + 1 + 1, 6, none⟩ = some (.slice a6 ys.length c6)) := hide (fun w' hw =>
                    ⟨(hw.cell (p := ⟨w.heap.size + 1, 2, none⟩) (by dsimp only; omega)).trans F2.out, (hw.cell (p := ⟨w.heap.size + 1 + 1, 0, none⟩) (by dsimp only; omega)).trans ((box_of EM.out).1 0 _ rfl), (hw.cell (p := ⟨w.heap.size + 1 + 1, 1, none⟩) (by dsimp only; omega)).trans ((box_of EM.out).1 1 _ rfl), (hw.cell (p := ⟨w.heap.size + 1 + 1, 2, none⟩) (by dsimp only; omega)).trans ((box_of EM.out).1 2 _ rfl), (hw.cell (p := ⟨w.heap.size + 1 + 1, 3, none⟩) (by dsimp only; omega)).trans ((box_of EM.out).1 3 _ rfl), (hw.cell (p := ⟨w.heap.size + 1 + 1, 4, none⟩) (by dsimp only; omega)).trans ((box_of EM.out).1 4 _ rfl), (hw.cell (p := ⟨w.heap.size + 1 + 1, 5, none⟩) (by dsimp only; omega)).trans ((box_of EM.out).1 5 _ rfl), (hw.cell (p := ⟨w.heap.size + 1 + 1, 6, none⟩) (by dsimp only; omega)).trans ((box_of EM.out).1 6 _ rfl)⟩)
                  clear f2
                  by_cases heq : ms = zs
                  · have HM := hide (model_yes HZ.out (m := ⟨k, i, u, c, n, xs, ys⟩) HZL.out (HMB.out.trans heq))
                    exact absurd (HYY.out.symm.trans HM.out) (by simp)
                  · have hse : ((strOfNums ms).toList == (strOfNums zs).toList) = false := by rw [str_eq _ _ HMY.out HZ.out]; exact decide_eq_false heq
                    have HM := hide (model_no HZ.out (m := ⟨k, i, u, c, n, xs, ys⟩) (k := kn) (ok := true) (by rw [HG0.out]; exact HF2.out) (fun e => heq (HMB.out.symm.trans e)))
                    clear heq
                    go_upto_region 25 with fail
                    go_region_held_law (fun w' => w'.cell? ⟨w.heap.size + 1, 2, none⟩ = some (.bool true) ∧ w'.cell? ⟨w.heap.size + 1 + 1, 0, none⟩ = some (.int .i64 k) ∧ w'.cell? ⟨w.heap.size + 1 + 1, 1, none⟩ = some (.int .i64 i) ∧ w'.cell? ⟨w.heap.size + 1 + 1, 2, none⟩ = some (.int .i64 u) ∧ w'.cell? ⟨w.heap.size + 1 + 1, 3, none⟩ = some (.int .i64 c) ∧ w'.cell? ⟨w.heap.size + 1 + 1, 4, none⟩ = some (.int .i64 n) ∧ w'.cell? ⟨w.heap.size + 1 + 1, 5, none⟩ = some (.slice a5 xs.length c5) ∧ w'.cell? ⟨w.heap.size + 1 + 1, 6, none⟩ = some (.slice a6 ys.length c6))
                      (first | exact HS.out _ HD1.out | exact HS.out _ HD0.out)
                      (first
                        | (refine step_callW (some 105) rfl (by kernel_rfl) 8 _ _ rfl #[msgV k i u c n (.slice a5 xs.length c5) (.slice a6 ys.length c6)] (by kernel_rfl) (msgBytesSpec _ k i u c n _ _ xs ys HRC.out HRN.out hx3 hy3) ?_; rintro e x1 ⟨v1, rfl, o1, b1⟩; refine ⟨_, rfl, ?_⟩; rw [HMB.out] at o1; obtain ⟨a1, q1, rfl⟩ := own_shape o1; have hcv := own_str o1; have HD1 : Hid (Below wr.heap.size wr x1) := hide (HD0.out.trans (b1.mono HD0.out.size)); have hcI1 : (convert 22 9 (.slice (some ⟨b0, o0, none⟩) len cap)).run Tryd.prog x1 = .ok (.string (strOfNums zs)) x1 := in_str cap (HIR.out.low HD1.out sB); clear b1 o1)
                        | fail)
                    all_goals (
                      have E2q := hide ((HD1.out.block w.heap.size (by omega)).trans E2.out)
                      have HBq := hide (HB.out.trans (HD1.out.mono sB))
                      have hi7 : (Tryd.prog.info? 27).map (·.size) = some (#[.int .i64 0, .int .i64 0, .int .i64 0, .int .i64 0, .int .i64 0, .slice none 0 0, .slice none 0 0] : Array Value).size := by kernel_rfl
                      have ho7 : (#[.int .i64 0, .int .i64 0, .int .i64 0, .int .i64 0, .int .i64 0, .slice none 0 0, .slice none 0 0] : Array Value).all (·.oneCell') = true := by simp [Value.oneCell']
                      clear HS HRC HRN HO HN HC EM E2 HB HIR HI HF2 HD5 HD6 HG0 HXL HYL HL hrun hrun2 hn1 hn2 hj1 hj2 hse hcI HD0
                      go_upto_region 26 with fail
                      go_wp2_with (refine wpList_store_rowTo rfl 27 (.tmp 2) (.tmp 111) rfl rfl w.heap.size #[.int .i64 0, .int .i64 0, .int .i64 0, .int .i64 0, .int .i64 0, .slice none 0 0, .slice none 0 0] rfl rfl _ _ E2q.out hi7 rfl ho7 ?_)
                      exact bodyPost_ret (v := .tuple #[zeroM, .bool false]) (results_ct Tryd.results13 _ _ _ rfl (load7 (setRow_heap x1 w.heap.size _ _ _ _ E2q.out))) rfl ⟨⟨_, by rw [HM.out]; rfl, by rw [HM.out]; exact rowM_zero _ _⟩, below_setRow HBq.out (Nat.le_refl _) _⟩)
end Go.Proofs.YtbkhlaiifbdfoaaDoor
