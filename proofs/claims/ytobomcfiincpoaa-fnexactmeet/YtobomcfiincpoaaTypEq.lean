/-
  Types and flows held against each other.
-/
import Derived.Test.YtobomcfiincpoaaTypD
import Derived.Test.YtobomcfiincpoaaRecE
namespace Go.Proofs.Ytobomcfiincpoaa
open Go.ChangeShapes Go.WideShapes Go.RowKit

set_option maxRecDepth 100000 in
set_option maxHeartbeats 4000000 in
theorem eqTy (w : World) (x : Ty) : Calls Try.prog 40 #[tyV x, tyV x] w fun e w' => e = .returned (.bool true) ∧ Below w.heap.size w w' := by
  have n_k : (x.k != x.k) = false := by simp
  have n_c : (x.c != x.c) = false := by simp
  unfold tyV
  go_enter Try.func40, Try.ntmps40
  go_wp2
  go_ret
  exact ⟨rfl, ((Below.refl _ _).alloc (Nat.le_refl _) _).alloc (by simp) _⟩
set_option maxRecDepth 100000 in
set_option maxHeartbeats 4000000 in
theorem eqTys (w : World) (v1 v2 : Value) (xs : List Ty) (h1 : Reads w w.heap.size (tys xs) v1) (h2 : Reads w w.heap.size (tys xs) v2) (hg : tysG xs) :
    Calls Try.prog 29 #[v1, v2] w fun e w' => e = .returned (.bool true) ∧ Below w.heap.size w w' := by
  obtain ⟨hm, hgd⟩ := hg
  have HX1 : Hid (∀ wr, Below w.heap.size w wr → _) := hide (fun wr hb => type_at (h1.at hb))
  have HX2 : Hid (∀ wr, Below w.heap.size w wr → _) := hide (fun wr hb => type_at (h2.at hb))
  have HG : Hid (∀ j, j < xs.length → TyG (xs.getD j default)) := hide (fun j hj => getD_mem hgd j hj)
  clear hgd
  obtain ⟨a1, cap1, rfl, _⟩ := type_at h1
  obtain ⟨a2, cap2, rfl, _⟩ := type_at h2
  clear h1 h2
  generalize hn : xs.length = n at *
  have hne : ((n : Int) != (n : Int)) = false := by simp
  go_enter Try.func29, Try.ntmps29
  go_wp2
  go_loopw [5] (fun i wr => ∃ j : Nat, j ≤ n ∧ i = .int .i64 (j : Int) ∧ Below w.heap.size w wr) (fun i _ => n - (intOf i).toNat)
  case atStart => exact ⟨0, Nat.zero_le _, rfl, Below.refl _ _⟩
  case round =>
    obtain ⟨j, hj, rfl, hb⟩ := hrel
    have HB := hide hb
    have hs := hb.size
    clear hb
    by_cases hlt : j < n
    · obtain ⟨a1', cap1', ea1, _, _, hx1⟩ := HX1.out wr HB.out
      cases ea1
      obtain ⟨b1, o1, rfl, hb1, hc1⟩ := hx1 (by omega)
      obtain ⟨a2', cap2', ea2, _, _, hx2⟩ := HX2.out wr HB.out
      cases ea2
      obtain ⟨b2, o2, rfl, hb2, hc2⟩ := hx2 (by omega)
      obtain ⟨e0, e1⟩ := hc1 j hlt
      obtain ⟨d0, d1⟩ := hc2 j hlt
      have HGj := hide (HG.out j hlt)
      clear hx1 hx2 hc1 hc2
      generalize xs.getD j default = p at *
      go_wp2
      go_cut [26] from 11 to 26 (fun s wq => s = .bool false ∧ Below w.heap.size w wq)
      case first =>
        go_region_with (go_at_call 40; refine (eqTy _ p).mono ?_; rintro e w1 ⟨rfl, b1⟩; have HB1 := hide (HB.out.trans (below_of_drew b1 |>.mono hs)); clear b1)
        all_goals (go_wp2_with fail; go_meet; exact ⟨rfl, HB1.out⟩)
      case rest =>
        obtain ⟨rfl, hB⟩ := hcut
        have HB2 := hide hB
        clear hB
        go_wp2
        exact ⟨⟨j + 1, hlt, by go_num, HB2.out⟩, by simp [intOf]; omega⟩
    · go_wp2
      go_ret
      exact ⟨rfl, HB.out⟩
set_option maxRecDepth 100000 in
set_option maxHeartbeats 4000000 in
theorem eqFl (w : World) (x : Fl) (p1 p2 q1 q2 : Value) (hp1 : Reads w w.heap.size (tys x.lo) p1) (hp2 : Reads w w.heap.size (tys x.st) p2) (hq1 : Reads w w.heap.size (tys x.lo) q1) (hq2 : Reads w w.heap.size (tys x.st) q2) (hg : FlG x) :
    Calls Try.prog 12 #[flV x p1 p2, flV x q1 q2] w fun e w' => e = .returned (.bool true) ∧ Below w.heap.size w w' := by
  obtain ⟨a1, k1, e1, _⟩ := hp1.shape
  obtain ⟨b1, l1, f1, _⟩ := hq1.shape
  obtain ⟨a2, k2, e2, _⟩ := hp2.shape
  obtain ⟨b2, l2, f2, _⟩ := hq2.shape
  subst e1 f1 e2 f2
  have bA := ((Below.refl w.heap.size w).alloc (Nat.le_refl _) (.cells #[.slice a1 x.lo.length k1, .slice a2 x.st.length k2, .int .i64 x.h] 37)).alloc (by simp) (.cells #[.slice b1 x.lo.length l1, .slice b2 x.st.length l2, .int .i64 x.h] 37)
  have HP1 := hide (hp1.at bA)
  have HQ1 := hide (hq1.at bA)
  have HP2 := hide (hp2.at bA)
  have HQ2 := hide (hq2.at bA)
  have G0 := heap_alloc_new w (.cells #[.slice a1 x.lo.length k1, .slice a2 x.st.length k2, .int .i64 x.h] 37)
  have G1 := heap_alloc_new (w.alloc (.cells #[.slice a1 x.lo.length k1, .slice a2 x.st.length k2, .int .i64 x.h] 37)) (.cells #[.slice b1 x.lo.length l1, .slice b2 x.st.length l2, .int .i64 x.h] 37)
  simp only [World.size_alloc] at G1
  have E0 := hide ((Below.heap_alloc _ (.cells #[.slice b1 x.lo.length l1, .slice b2 x.st.length l2, .int .i64 x.h] 37) _ (by simp)).trans G0)
  have E1 := hide G1
  have HB := hide bA
  have HG := hide hg
  have hsz : Hid (w.heap.size + 1 < ((w.alloc (.cells #[.slice a1 x.lo.length k1, .slice a2 x.st.length k2, .int .i64 x.h] 37)).alloc (.cells #[.slice b1 x.lo.length l1, .slice b2 x.st.length l2, .int .i64 x.h] 37)).heap.size) := hide (by simp)
  clear hp1 hq1 hp2 hq2 bA hg G0 G1
  have n_h : (x.h != x.h) = false := by simp
  unfold flV
  go_enter Try.func12, Try.ntmps12
  go_wp2_with fail
  generalize (w.alloc (.cells #[.slice a1 x.lo.length k1, .slice a2 x.st.length k2, .int .i64 x.h] 37)).alloc (.cells #[.slice b1 x.lo.length l1, .slice b2 x.st.length l2, .int .i64 x.h] 37) = W at *
  refine (eqTys _ _ _ x.lo HP1.out HQ1.out HG.out.lo).mono ?_
  rintro e w1 ⟨rfl, z1⟩
  replace E0 := hide ((z1.block w.heap.size (by have := hsz.out; omega)).trans E0.out)
  replace E1 := hide ((z1.block (w.heap.size + 1) hsz.out).trans E1.out)
  replace hsz := hide (Nat.lt_of_lt_of_le hsz.out z1.size)
  replace HP2 := hide (HP2.out.at z1)
  replace HQ2 := hide (HQ2.out.at z1)
  replace HB := hide (HB.out.trans (z1.mono HB.out.size))
  clear z1
  have f0 := (box_of E0.out).1 0 _ rfl
  have f1 := (box_of E0.out).1 1 _ rfl
  have f2 := (box_of E0.out).1 2 _ rfl
  have g0 := (box_of E1.out).1 0 _ rfl
  have g1 := (box_of E1.out).1 1 _ rfl
  have g2 := (box_of E1.out).1 2 _ rfl
  go_wp2_with fail
  clear f0 g0 f1 g1 f2 g2
  refine (eqTys _ _ _ x.st HP2.out HQ2.out HG.out.st).mono ?_
  rintro e w2 ⟨rfl, z2⟩
  replace E0 := hide ((z2.block w.heap.size (by have := hsz.out; omega)).trans E0.out)
  replace E1 := hide ((z2.block (w.heap.size + 1) hsz.out).trans E1.out)
  replace hsz := hide (Nat.lt_of_lt_of_le hsz.out z2.size)
  replace HB := hide (HB.out.trans (z2.mono HB.out.size))
  clear z2
  have f0 := (box_of E0.out).1 0 _ rfl
  have f1 := (box_of E0.out).1 1 _ rfl
  have f2 := (box_of E0.out).1 2 _ rfl
  have g0 := (box_of E1.out).1 0 _ rfl
  have g1 := (box_of E1.out).1 1 _ rfl
  have g2 := (box_of E1.out).1 2 _ rfl
  go_wp2
  go_ret
  exact ⟨rfl, HB.out⟩
end Go.Proofs.Ytobomcfiincpoaa
