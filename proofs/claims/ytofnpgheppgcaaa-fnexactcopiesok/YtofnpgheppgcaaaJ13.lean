/-
  Joined: RecE, PrgEq.
-/
import Derived.Test.YtofnpgheppgcaaaJ6
import Derived.Test.YtofnpgheppgcaaaJ12
import Derived.Test.YtofnpgheppgcaaaJ11
/-
  Rows of texts, places, consts and fields held against each other, in one form.
-/
namespace Go.Proofs.Ytofnpgheppgcaaa
open Go.ChangeShapes Go.WideShapes Go.RowKit

theorem eqStrsR (w : World) (v1 v2 : Value) (xs : List ByteArray) (h1 : Reads w w.heap.size (strs xs) v1) (h2 : Reads w w.heap.size (strs xs) v2) (hg : strsG xs) :
    Calls Try.prog 102 #[v1, v2] w fun e w' => e = .returned (.bool true) ∧ Below w.heap.size w w' := (eqSt w v1 v2 xs h1 h2 hg.1).mono (by rintro e w1 ⟨a, q, rfl⟩; exact ⟨a, below_drewN (Below.refl _ _) q⟩)
theorem eqInssR (w : World) (v1 v2 : Value) (xs : List Isn) (h1 : Reads w w.heap.size (inss xs) v1) (h2 : Reads w w.heap.size (inss xs) v2) (hg : inssG xs) :
    Calls Try.prog 103 #[v1, v2] w fun e w' => e = .returned (.bool true) ∧ Below w.heap.size w w' := eqInss w v1 v2 xs h1 h2 hg.1
theorem eqPoolR (w : World) (v1 v2 : Value) (xs : List Kc) (h1 : Reads w w.heap.size (pool xs) v1) (h2 : Reads w w.heap.size (pool xs) v2) (hg : poolG xs) :
    Calls Try.prog 82 #[v1, v2] w fun e w' => e = .returned (.bool true) ∧ Below w.heap.size w w' := eqKcs w v1 v2 xs h1 h2 hg.1
theorem eqFldsR (w : World) (v1 v2 : Value) (xs : List Fd) (h1 : Reads w w.heap.size (flds xs) v1) (h2 : Reads w w.heap.size (flds xs) v2) (hg : fldsG xs) :
    Calls Try.prog 83 #[v1, v2] w fun e w' => e = .returned (.bool true) ∧ Below w.heap.size w w' := eqFds w v1 v2 xs h1 h2 hg.1
end Go.Proofs.Ytofnpgheppgcaaa
/-
  Programs held against each other.
-/
namespace Go.Proofs.Ytofnpgheppgcaaa
open Go.ChangeShapes Go.WideShapes Go.RowKit

set_option maxRecDepth 100000 in
set_option maxHeartbeats 4000000 in
theorem eqCo (w : World) (x : Co) (p1 p2 q1 q2 : Value) (hp1 : Reads w w.heap.size (strs x.ps) p1) (hp2 : Reads w w.heap.size (inss x.is) p2) (hq1 : Reads w w.heap.size (strs x.ps) q1) (hq2 : Reads w w.heap.size (inss x.is) q2) (hg : CoG x) :
    Calls Try.prog 96 #[coV x p1 p2, coV x q1 q2] w fun e w' => e = .returned (.bool true) ∧ Below w.heap.size w w' := by
  obtain ⟨a1, k1, e1, _⟩ := hp1.shape
  obtain ⟨b1, l1, f1, _⟩ := hq1.shape
  obtain ⟨a2, k2, e2, _⟩ := hp2.shape
  obtain ⟨b2, l2, f2, _⟩ := hq2.shape
  subst e1 f1 e2 f2
  have bA := ((Below.refl w.heap.size w).alloc (Nat.le_refl _) (.cells #[.string x.n, .int .i64 x.o, .slice a1 x.ps.length k1, .string x.r, .int .i64 x.l, .slice a2 x.is.length k2] 135)).alloc (by simp) (.cells #[.string x.n, .int .i64 x.o, .slice b1 x.ps.length l1, .string x.r, .int .i64 x.l, .slice b2 x.is.length l2] 135)
  have HP1 := hide (hp1.at bA)
  have HQ1 := hide (hq1.at bA)
  have HP2 := hide (hp2.at bA)
  have HQ2 := hide (hq2.at bA)
  have G0 := heap_alloc_new w (.cells #[.string x.n, .int .i64 x.o, .slice a1 x.ps.length k1, .string x.r, .int .i64 x.l, .slice a2 x.is.length k2] 135)
  have G1 := heap_alloc_new (w.alloc (.cells #[.string x.n, .int .i64 x.o, .slice a1 x.ps.length k1, .string x.r, .int .i64 x.l, .slice a2 x.is.length k2] 135)) (.cells #[.string x.n, .int .i64 x.o, .slice b1 x.ps.length l1, .string x.r, .int .i64 x.l, .slice b2 x.is.length l2] 135)
  simp only [World.size_alloc] at G1
  have E0 := hide ((Below.heap_alloc _ (.cells #[.string x.n, .int .i64 x.o, .slice b1 x.ps.length l1, .string x.r, .int .i64 x.l, .slice b2 x.is.length l2] 135) _ (by simp)).trans G0)
  have E1 := hide G1
  have HB := hide bA
  have HG := hide hg
  have hsz : Hid (w.heap.size + 1 < ((w.alloc (.cells #[.string x.n, .int .i64 x.o, .slice a1 x.ps.length k1, .string x.r, .int .i64 x.l, .slice a2 x.is.length k2] 135)).alloc (.cells #[.string x.n, .int .i64 x.o, .slice b1 x.ps.length l1, .string x.r, .int .i64 x.l, .slice b2 x.is.length l2] 135)).heap.size) := hide (by simp)
  clear hp1 hq1 hp2 hq2 bA hg G0 G1
  have n_n : (x.n.toList != x.n.toList) = false := by simp
  have n_o : (x.o != x.o) = false := by simp
  have n_r : (x.r.toList != x.r.toList) = false := by simp
  have n_l : (x.l != x.l) = false := by simp
  unfold coV
  go_enter Try.func96, Try.ntmps96
  go_wp2_with fail
  generalize (w.alloc (.cells #[.string x.n, .int .i64 x.o, .slice a1 x.ps.length k1, .string x.r, .int .i64 x.l, .slice a2 x.is.length k2] 135)).alloc (.cells #[.string x.n, .int .i64 x.o, .slice b1 x.ps.length l1, .string x.r, .int .i64 x.l, .slice b2 x.is.length l2] 135) = W at *
  refine (eqStrsR _ _ _ x.ps HP1.out HQ1.out HG.out.ps).mono ?_
  rintro e w1 ⟨rfl, z1⟩
  replace E0 := hide ((z1.block w.heap.size (by have := hsz.out; omega)).trans E0.out)
  replace E1 := hide ((z1.block (w.heap.size + 1) hsz.out).trans E1.out)
  replace hsz := hide (Nat.lt_of_lt_of_le hsz.out z1.size)
  replace HP2 := hide (HP2.out.at z1)
  replace HQ2 := hide (HQ2.out.at z1)
  replace HB := hide (HB.out.trans (z1.mono HB.out.size))
  clear z1
  have f0 := (box_of E0.out).1 0 _ rfl
  have f1 := (box_of E0.out).1 1 _ rfl
  have f2 := (box_of E0.out).1 2 _ rfl
  have f3 := (box_of E0.out).1 3 _ rfl
  have f4 := (box_of E0.out).1 4 _ rfl
  have f5 := (box_of E0.out).1 5 _ rfl
  have g0 := (box_of E1.out).1 0 _ rfl
  have g1 := (box_of E1.out).1 1 _ rfl
  have g2 := (box_of E1.out).1 2 _ rfl
  have g3 := (box_of E1.out).1 3 _ rfl
  have g4 := (box_of E1.out).1 4 _ rfl
  have g5 := (box_of E1.out).1 5 _ rfl
  go_wp2_with fail
  clear f0 g0 f1 g1 f2 g2 f3 g3 f4 g4 f5 g5
  refine (eqInssR _ _ _ x.is HP2.out HQ2.out HG.out.is).mono ?_
  rintro e w2 ⟨rfl, z2⟩
  replace HB := hide (HB.out.trans (z2.mono HB.out.size))
  clear z2
  go_wp2
  go_ret
  exact ⟨rfl, HB.out⟩
set_option maxRecDepth 100000 in
set_option maxHeartbeats 4000000 in
theorem eqCods (w : World) (v1 v2 : Value) (xs : List Co) (h1 : Reads w w.heap.size (cods xs) v1) (h2 : Reads w w.heap.size (cods xs) v2) (hg : codsG xs) :
    Calls Try.prog 84 #[v1, v2] w fun e w' => e = .returned (.bool true) ∧ Below w.heap.size w w' := by
  obtain ⟨hm, hgd⟩ := hg
  have HX1 : Hid (∀ wr, Below w.heap.size w wr → _) := hide (fun wr hb => code_at (h1.at hb))
  have HX2 : Hid (∀ wr, Below w.heap.size w wr → _) := hide (fun wr hb => code_at (h2.at hb))
  have HG : Hid (∀ j, j < xs.length → CoG (xs.getD j default)) := hide (fun j hj => getD_mem hgd j hj)
  clear hgd
  obtain ⟨a1, cap1, rfl, _⟩ := code_at h1
  obtain ⟨a2, cap2, rfl, _⟩ := code_at h2
  clear h1 h2
  generalize hn : xs.length = n at *
  have hne : ((n : Int) != (n : Int)) = false := by simp
  go_enter Try.func84, Try.ntmps84
  go_wp2
  go_loopw [5] (fun i wr => ∃ j : Nat, j ≤ n ∧ i = .int .i64 (j : Int) ∧ Below w.heap.size w wr) (fun i _ => n - (intOf i).toNat)
  case atStart => exact ⟨0, Nat.zero_le _, rfl, Below.refl _ _⟩
  case round =>
    obtain ⟨j, hj, rfl, hb⟩ := hrel
    have HB := hide hb
    have hs := hb.size
    clear hb
    by_cases hlt : j < n
    · obtain ⟨a1', cap1', ea1, _, _, hx1⟩ := HX1.out wr HB.out
      cases ea1
      obtain ⟨b1, o1, rfl, hb1, hc1⟩ := hx1 (by omega)
      obtain ⟨a2', cap2', ea2, _, _, hx2⟩ := HX2.out wr HB.out
      cases ea2
      obtain ⟨b2, o2, rfl, hb2, hc2⟩ := hx2 (by omega)
      obtain ⟨pv1, pv2, e0, e1, e2, e3, e4, e5, r1, r2⟩ := hc1 j hlt
      obtain ⟨qv1, qv2, d0, d1, d2, d3, d4, d5, s1, s2⟩ := hc2 j hlt
      have R1 : Hid (Reads wr.drew wr.drew.heap.size _ _) := hide (r1.drewN 1)
      have S1 : Hid (Reads wr.drew wr.drew.heap.size _ _) := hide (s1.drewN 1)
      have R2 : Hid (Reads wr.drew wr.drew.heap.size _ _) := hide (r2.drewN 1)
      have S2 : Hid (Reads wr.drew wr.drew.heap.size _ _) := hide (s2.drewN 1)
      obtain ⟨x1, y1, z1, _⟩ := r1.shape
      obtain ⟨x19, y19, z19, _⟩ := s1.shape
      obtain ⟨x2, y2, z2, _⟩ := r2.shape
      obtain ⟨x29, y29, z29, _⟩ := s2.shape
      subst z1 z19 z2 z29
      have HGj := hide (HG.out j hlt)
      clear hx1 hx2 hc1 hc2 r1 s1 r2 s2
      generalize xs.getD j default = p at *
      go_wp2
      go_cut [26] from 11 to 26 (fun s wq => s = .bool false ∧ Below w.heap.size w wq)
      case first =>
        go_region_with (go_at_call 96; refine (eqCo _ p _ _ _ _ R1.out R2.out S1.out S2.out HGj.out).mono ?_; rintro e w1 ⟨rfl, b1⟩; have HB1 := hide (HB.out.trans (below_of_drew b1 |>.mono hs)); clear b1)
        all_goals (go_wp2_with fail; go_meet; exact ⟨rfl, HB1.out⟩)
      case rest =>
        obtain ⟨rfl, hB⟩ := hcut
        have HB2 := hide hB
        clear hB
        go_wp2
        exact ⟨⟨j + 1, hlt, by go_num, HB2.out⟩, by simp [intOf]; omega⟩
    · go_wp2
      go_ret
      exact ⟨rfl, HB.out⟩
set_option maxRecDepth 100000 in
set_option maxHeartbeats 4000000 in
theorem eqKd (w : World) (x : Kd) (p1 p2 p3 q1 q2 q3 : Value) (hp1 : Reads w w.heap.size (pool x.p) p1) (hp2 : Reads w w.heap.size (flds x.f) p2) (hp3 : Reads w w.heap.size (cods x.m) p3) (hq1 : Reads w w.heap.size (pool x.p) q1) (hq2 : Reads w w.heap.size (flds x.f) q2) (hq3 : Reads w w.heap.size (cods x.m) q3) (hg : KdG x) :
    Calls Try.prog 70 #[kdV x p1 p2 p3, kdV x q1 q2 q3] w fun e w' => e = .returned (.bool true) ∧ Below w.heap.size w w' := by
  obtain ⟨a1, k1, e1, _⟩ := hp1.shape
  obtain ⟨b1, l1, f1, _⟩ := hq1.shape
  obtain ⟨a2, k2, e2, _⟩ := hp2.shape
  obtain ⟨b2, l2, f2, _⟩ := hq2.shape
  obtain ⟨a3, k3, e3, _⟩ := hp3.shape
  obtain ⟨b3, l3, f3, _⟩ := hq3.shape
  subst e1 f1 e2 f2 e3 f3
  have bA := ((Below.refl w.heap.size w).alloc (Nat.le_refl _) (.cells #[.string x.n, .int .i64 x.s, .slice a1 x.p.length k1, .slice a2 x.f.length k2, .slice a3 x.m.length k3] 98)).alloc (by simp) (.cells #[.string x.n, .int .i64 x.s, .slice b1 x.p.length l1, .slice b2 x.f.length l2, .slice b3 x.m.length l3] 98)
  have HP1 := hide (hp1.at bA)
  have HQ1 := hide (hq1.at bA)
  have HP2 := hide (hp2.at bA)
  have HQ2 := hide (hq2.at bA)
  have HP3 := hide (hp3.at bA)
  have HQ3 := hide (hq3.at bA)
  have G0 := heap_alloc_new w (.cells #[.string x.n, .int .i64 x.s, .slice a1 x.p.length k1, .slice a2 x.f.length k2, .slice a3 x.m.length k3] 98)
  have G1 := heap_alloc_new (w.alloc (.cells #[.string x.n, .int .i64 x.s, .slice a1 x.p.length k1, .slice a2 x.f.length k2, .slice a3 x.m.length k3] 98)) (.cells #[.string x.n, .int .i64 x.s, .slice b1 x.p.length l1, .slice b2 x.f.length l2, .slice b3 x.m.length l3] 98)
  simp only [World.size_alloc] at G1
  have E0 := hide ((Below.heap_alloc _ (.cells #[.string x.n, .int .i64 x.s, .slice b1 x.p.length l1, .slice b2 x.f.length l2, .slice b3 x.m.length l3] 98) _ (by simp)).trans G0)
  have E1 := hide G1
  have HB := hide bA
  have HG := hide hg
  have hsz : Hid (w.heap.size + 1 < ((w.alloc (.cells #[.string x.n, .int .i64 x.s, .slice a1 x.p.length k1, .slice a2 x.f.length k2, .slice a3 x.m.length k3] 98)).alloc (.cells #[.string x.n, .int .i64 x.s, .slice b1 x.p.length l1, .slice b2 x.f.length l2, .slice b3 x.m.length l3] 98)).heap.size) := hide (by simp)
  clear hp1 hq1 hp2 hq2 hp3 hq3 bA hg G0 G1
  have n_n : (x.n.toList != x.n.toList) = false := by simp
  have n_s : (x.s != x.s) = false := by simp
  unfold kdV
  go_enter Try.func70, Try.ntmps70
  go_wp2_with fail
  generalize (w.alloc (.cells #[.string x.n, .int .i64 x.s, .slice a1 x.p.length k1, .slice a2 x.f.length k2, .slice a3 x.m.length k3] 98)).alloc (.cells #[.string x.n, .int .i64 x.s, .slice b1 x.p.length l1, .slice b2 x.f.length l2, .slice b3 x.m.length l3] 98) = W at *
  refine (eqPoolR _ _ _ x.p HP1.out HQ1.out HG.out.p).mono ?_
  rintro e w1 ⟨rfl, z1⟩
  replace E0 := hide ((z1.block w.heap.size (by have := hsz.out; omega)).trans E0.out)
  replace E1 := hide ((z1.block (w.heap.size + 1) hsz.out).trans E1.out)
  replace hsz := hide (Nat.lt_of_lt_of_le hsz.out z1.size)
  replace HP2 := hide (HP2.out.at z1)
  replace HQ2 := hide (HQ2.out.at z1)
  replace HP3 := hide (HP3.out.at z1)
  replace HQ3 := hide (HQ3.out.at z1)
  replace HB := hide (HB.out.trans (z1.mono HB.out.size))
  clear z1
  have f0 := (box_of E0.out).1 0 _ rfl
  have f1 := (box_of E0.out).1 1 _ rfl
  have f2 := (box_of E0.out).1 2 _ rfl
  have f3 := (box_of E0.out).1 3 _ rfl
  have f4 := (box_of E0.out).1 4 _ rfl
  have g0 := (box_of E1.out).1 0 _ rfl
  have g1 := (box_of E1.out).1 1 _ rfl
  have g2 := (box_of E1.out).1 2 _ rfl
  have g3 := (box_of E1.out).1 3 _ rfl
  have g4 := (box_of E1.out).1 4 _ rfl
  go_wp2_with fail
  clear f0 g0 f1 g1 f2 g2 f3 g3 f4 g4
  refine (eqFldsR _ _ _ x.f HP2.out HQ2.out HG.out.f).mono ?_
  rintro e w2 ⟨rfl, z2⟩
  replace E0 := hide ((z2.block w.heap.size (by have := hsz.out; omega)).trans E0.out)
  replace E1 := hide ((z2.block (w.heap.size + 1) hsz.out).trans E1.out)
  replace hsz := hide (Nat.lt_of_lt_of_le hsz.out z2.size)
  replace HP3 := hide (HP3.out.at z2)
  replace HQ3 := hide (HQ3.out.at z2)
  replace HB := hide (HB.out.trans (z2.mono HB.out.size))
  clear z2
  have f0 := (box_of E0.out).1 0 _ rfl
  have f1 := (box_of E0.out).1 1 _ rfl
  have f2 := (box_of E0.out).1 2 _ rfl
  have f3 := (box_of E0.out).1 3 _ rfl
  have f4 := (box_of E0.out).1 4 _ rfl
  have g0 := (box_of E1.out).1 0 _ rfl
  have g1 := (box_of E1.out).1 1 _ rfl
  have g2 := (box_of E1.out).1 2 _ rfl
  have g3 := (box_of E1.out).1 3 _ rfl
  have g4 := (box_of E1.out).1 4 _ rfl
  go_wp2_with fail
  clear f0 g0 f1 g1 f2 g2 f3 g3 f4 g4
  refine (eqCods _ _ _ x.m HP3.out HQ3.out HG.out.m).mono ?_
  rintro e w3 ⟨rfl, z3⟩
  replace HB := hide (HB.out.trans (z3.mono HB.out.size))
  clear z3
  go_wp2
  go_ret
  exact ⟨rfl, HB.out⟩
set_option maxRecDepth 100000 in
set_option maxHeartbeats 4000000 in
theorem eqKins (w : World) (v1 v2 : Value) (xs : List Kd) (h1 : Reads w w.heap.size (kins xs) v1) (h2 : Reads w w.heap.size (kins xs) v2) (hg : kinsG xs) :
    Calls Try.prog 48 #[v1, v2] w fun e w' => e = .returned (.bool true) ∧ Below w.heap.size w w' := by
  obtain ⟨hm, hgd⟩ := hg
  have HX1 : Hid (∀ wr, Below w.heap.size w wr → _) := hide (fun wr hb => kind_at (h1.at hb))
  have HX2 : Hid (∀ wr, Below w.heap.size w wr → _) := hide (fun wr hb => kind_at (h2.at hb))
  have HG : Hid (∀ j, j < xs.length → KdG (xs.getD j default)) := hide (fun j hj => getD_mem hgd j hj)
  clear hgd
  obtain ⟨a1, cap1, rfl, _⟩ := kind_at h1
  obtain ⟨a2, cap2, rfl, _⟩ := kind_at h2
  clear h1 h2
  generalize hn : xs.length = n at *
  have hne : ((n : Int) != (n : Int)) = false := by simp
  go_enter Try.func48, Try.ntmps48
  go_wp2
  go_loopw [5] (fun i wr => ∃ j : Nat, j ≤ n ∧ i = .int .i64 (j : Int) ∧ Below w.heap.size w wr) (fun i _ => n - (intOf i).toNat)
  case atStart => exact ⟨0, Nat.zero_le _, rfl, Below.refl _ _⟩
  case round =>
    obtain ⟨j, hj, rfl, hb⟩ := hrel
    have HB := hide hb
    have hs := hb.size
    clear hb
    by_cases hlt : j < n
    · obtain ⟨a1', cap1', ea1, _, _, hx1⟩ := HX1.out wr HB.out
      cases ea1
      obtain ⟨b1, o1, rfl, hb1, hc1⟩ := hx1 (by omega)
      obtain ⟨a2', cap2', ea2, _, _, hx2⟩ := HX2.out wr HB.out
      cases ea2
      obtain ⟨b2, o2, rfl, hb2, hc2⟩ := hx2 (by omega)
      obtain ⟨pv1, pv2, pv3, e0, e1, e2, e3, e4, r1, r2, r3⟩ := hc1 j hlt
      obtain ⟨qv1, qv2, qv3, d0, d1, d2, d3, d4, s1, s2, s3⟩ := hc2 j hlt
      have R1 : Hid (Reads wr.drew wr.drew.heap.size _ _) := hide (r1.drewN 1)
      have S1 : Hid (Reads wr.drew wr.drew.heap.size _ _) := hide (s1.drewN 1)
      have R2 : Hid (Reads wr.drew wr.drew.heap.size _ _) := hide (r2.drewN 1)
      have S2 : Hid (Reads wr.drew wr.drew.heap.size _ _) := hide (s2.drewN 1)
      have R3 : Hid (Reads wr.drew wr.drew.heap.size _ _) := hide (r3.drewN 1)
      have S3 : Hid (Reads wr.drew wr.drew.heap.size _ _) := hide (s3.drewN 1)
      obtain ⟨x1, y1, z1, _⟩ := r1.shape
      obtain ⟨x19, y19, z19, _⟩ := s1.shape
      obtain ⟨x2, y2, z2, _⟩ := r2.shape
      obtain ⟨x29, y29, z29, _⟩ := s2.shape
      obtain ⟨x3, y3, z3, _⟩ := r3.shape
      obtain ⟨x39, y39, z39, _⟩ := s3.shape
      subst z1 z19 z2 z29 z3 z39
      have HGj := hide (HG.out j hlt)
      clear hx1 hx2 hc1 hc2 r1 s1 r2 s2 r3 s3
      generalize xs.getD j default = p at *
      go_wp2
      go_cut [26] from 11 to 26 (fun s wq => s = .bool false ∧ Below w.heap.size w wq)
      case first =>
        go_region_with (go_at_call 70; refine (eqKd _ p _ _ _ _ _ _ R1.out R2.out R3.out S1.out S2.out S3.out HGj.out).mono ?_; rintro e w1 ⟨rfl, b1⟩; have HB1 := hide (HB.out.trans (below_of_drew b1 |>.mono hs)); clear b1)
        all_goals (go_wp2_with fail; go_meet; exact ⟨rfl, HB1.out⟩)
      case rest =>
        obtain ⟨rfl, hB⟩ := hcut
        have HB2 := hide hB
        clear hB
        go_wp2
        exact ⟨⟨j + 1, hlt, by go_num, HB2.out⟩, by simp [intOf]; omega⟩
    · go_wp2
      go_ret
      exact ⟨rfl, HB.out⟩
set_option maxRecDepth 100000 in
set_option maxHeartbeats 4000000 in
theorem eqPg (w : World) (x : Pg) (p1 q1 : Value) (hp1 : Reads w w.heap.size (kins x.k) p1) (hq1 : Reads w w.heap.size (kins x.k) q1) (hg : PgG x) :
    Calls Try.prog 15 #[pgV x p1, pgV x q1] w fun e w' => e = .returned (.bool true) ∧ Below w.heap.size w w' := by
  obtain ⟨a1, k1, e1, _⟩ := hp1.shape
  obtain ⟨b1, l1, f1, _⟩ := hq1.shape
  subst e1 f1
  have bA := ((Below.refl w.heap.size w).alloc (Nat.le_refl _) (.cells #[.slice a1 x.k.length k1] 31)).alloc (by simp) (.cells #[.slice b1 x.k.length l1] 31)
  have HP1 := hide (hp1.at bA)
  have HQ1 := hide (hq1.at bA)
  have G0 := heap_alloc_new w (.cells #[.slice a1 x.k.length k1] 31)
  have G1 := heap_alloc_new (w.alloc (.cells #[.slice a1 x.k.length k1] 31)) (.cells #[.slice b1 x.k.length l1] 31)
  simp only [World.size_alloc] at G1
  have E0 := hide ((Below.heap_alloc _ (.cells #[.slice b1 x.k.length l1] 31) _ (by simp)).trans G0)
  have E1 := hide G1
  have HB := hide bA
  have HG := hide hg
  have hsz : Hid (w.heap.size + 1 < ((w.alloc (.cells #[.slice a1 x.k.length k1] 31)).alloc (.cells #[.slice b1 x.k.length l1] 31)).heap.size) := hide (by simp)
  clear hp1 hq1 bA hg G0 G1
  unfold pgV
  go_enter Try.func15, Try.ntmps15
  go_wp2_with fail
  generalize (w.alloc (.cells #[.slice a1 x.k.length k1] 31)).alloc (.cells #[.slice b1 x.k.length l1] 31) = W at *
  refine (eqKins _ _ _ x.k HP1.out HQ1.out HG.out.k).mono ?_
  rintro e w1 ⟨rfl, z1⟩
  replace HB := hide (HB.out.trans (z1.mono HB.out.size))
  clear z1
  go_wp2
  go_ret
  exact ⟨rfl, HB.out⟩
end Go.Proofs.Ytofnpgheppgcaaa
