/-
  Joined: ClsEq, ClsLaw, ClsOfI.
-/
import Derived.Test.YtbggcoclfnhbgaaDoorJ15
import Derived.Test.YtbggcoclfnhbgaaDoorJ2
import Derived.Deep.QuietTactic
import Derived.BigQuiet
import Derived.Test.YtbggcoclfnhbgaaDoorJ16
import Derived.Test.YtbggcoclfnhbgaaDoorJ19
import Derived.Test.YtbggcoclfnhbgaaDoorJ17
/-
  Classes held against each other.
-/
namespace Go.Proofs.YtbggcoclfnhbgaaDoor
open Go.RowKit

set_option maxRecDepth 100000 in
set_option maxHeartbeats 1000000 in
theorem eqSt (w : World) (v1 v2 : Value) (xs : List ByteArray) (h1 : Reads w w.heap.size (strs xs) v1) (h2 : Reads w w.heap.size (strs xs) v2) (hm : xs.length ≤ 1048576) :
    Calls Tryd.prog 82 #[v1, v2] w fun e w' => e = .returned (.bool true) ∧ ∃ q, w' = w.drewN q := by
  obtain ⟨a1, c1, rfl, _, _, hx1⟩ := str_at h1
  obtain ⟨a2, c2, rfl, _, _, hx2⟩ := str_at h2
  have HX1 := hide hx1
  have HX2 := hide hx2
  clear h1 h2 hx1 hx2
  have hne : ((xs.length : Int) != (xs.length : Int)) = false := by simp
  generalize hn : xs.length = n at *
  go_enter Tryd.func82, Tryd.ntmps82
  go_wp2
  go_loopw [5] (fun i wr => ∃ k : Nat, k ≤ n ∧ i = .int .i64 k ∧ ∃ q, wr = w.drewN q) (fun i _ => n - (intOf i).toNat)
  case atStart => exact ⟨0, Nat.zero_le _, rfl, 0, rfl⟩
  case round =>
    obtain ⟨k, hk, rfl, q, rfl⟩ := hrel
    by_cases hlt : k < n
    · obtain ⟨b1, o1, rfl, _, hc1⟩ := HX1.out (by omega)
      obtain ⟨b2, o2, rfl, _, hc2⟩ := HX2.out (by omega)
      have e1 := hc1 k hlt
      have e2 := hc2 k hlt
      clear hc1 hc2 HX1 HX2
      have hbe : ((xs.getD k default).toList != (xs.getD k default).toList) = false := by simp
      go_wp2
      go_quiet (fail)
      go_wp2
      go_roundw
      case rel => exact ⟨k + 1, by omega, by go_num, q + nq, rfl⟩
      case measure => simp [intOf]; omega
    · go_wp2
      go_ret
      exact ⟨rfl, q, rfl⟩
set_option maxRecDepth 100000 in
set_option maxHeartbeats 1000000 in
theorem eqBy (w : World) (v1 v2 : Value) (xs : List Int) (h1 : Reads w w.heap.size (byts xs) v1) (h2 : Reads w w.heap.size (byts xs) v2) (hm : xs.length ≤ 1048576) (hz : Byt xs) :
    Calls Tryd.prog 8 #[v1, v2] w fun e w' => e = .returned (.bool true) ∧ ∃ q, w' = w.drewN q := by
  obtain ⟨a1, c1, rfl, _, _, hx1⟩ := byts_in h1 hm hz
  obtain ⟨a2, c2, rfl, _, _, hx2⟩ := byts_in h2 hm hz
  have HX1 := hide hx1
  have HX2 := hide hx2
  clear h1 h2 hx1 hx2
  have hne : ((xs.length : Int) != (xs.length : Int)) = false := by simp
  generalize hn : xs.length = n at *
  go_enter Tryd.func8, Tryd.ntmps8
  go_wp2
  go_loopw [5] (fun i wr => ∃ k : Nat, k ≤ n ∧ i = .int .i64 k ∧ ∃ q, wr = w.drewN q) (fun i _ => n - (intOf i).toNat)
  case atStart => exact ⟨0, Nat.zero_le _, rfl, 0, rfl⟩
  case round =>
    obtain ⟨k, hk, rfl, q, rfl⟩ := hrel
    by_cases hlt : k < n
    · obtain ⟨b1, o1, rfl, _, hc1⟩ := HX1.out.2.2.2 (by omega)
      obtain ⟨b2, o2, rfl, _, hc2⟩ := HX2.out.2.2.2 (by omega)
      have e1 := hc1 k hlt
      have e2 := hc2 k hlt
      clear hc1 hc2 HX1 HX2
      have hbe : ((xs.getD k 0) != (xs.getD k 0)) = false := by simp
      go_wp2
      go_quiet (fail)
      go_wp2
      go_roundw
      case rel => exact ⟨k + 1, by omega, by go_num, q + nq, rfl⟩
      case measure => simp [intOf]; omega
    · go_wp2
      go_ret
      exact ⟨rfl, q, rfl⟩
set_option maxRecDepth 100000 in
set_option maxHeartbeats 1000000 in
theorem eqKc (w : World) (x : Kc) : Calls Tryd.prog 46 #[kcV x, kcV x] w fun e w' => e = .returned (.bool true) ∧ Below w.heap.size w w' := by
  have e1 : (x.k != x.k) = false := by simp
  have e2 : (x.n != x.n) = false := by simp
  have e3 : (x.a.toList != x.a.toList) = false := by simp
  have e4 : (x.b.toList != x.b.toList) = false := by simp
  unfold kcV
  go_enter Tryd.func46, Tryd.ntmps46
  go_wp2
  go_ret
  exact ⟨rfl, ((Below.refl _ _).alloc (Nat.le_refl _) _).alloc (by simp) _⟩
set_option maxRecDepth 100000 in
set_option maxHeartbeats 1000000 in
theorem eqFd (w : World) (x : Fd) : Calls Tryd.prog 47 #[fdV x, fdV x] w fun e w' => e = .returned (.bool true) ∧ Below w.heap.size w w' := by
  have e3 : (x.n.toList != x.n.toList) = false := by simp
  have e4 : (x.t.toList != x.t.toList) = false := by simp
  unfold fdV
  go_enter Tryd.func47, Tryd.ntmps47
  go_wp2
  go_ret
  exact ⟨rfl, ((Below.refl _ _).alloc (Nat.le_refl _) _).alloc (by simp) _⟩
set_option maxRecDepth 100000 in
set_option maxHeartbeats 2000000 in
theorem eqMe (w : World) (x : Me) (p1 c1 p2 c2 : Value) (hp1 : Reads w w.heap.size (strs x.ps) p1) (hp2 : Reads w w.heap.size (strs x.ps) p2) (hc1 : Reads w w.heap.size (byts x.c) c1) (hc2 : Reads w w.heap.size (byts x.c) c2) (hg : MeG x) :
    Calls Tryd.prog 48 #[meV x p1 c1, meV x p2 c2] w fun e w' => e = .returned (.bool true) ∧ Below w.heap.size w w' := by
  obtain ⟨a1, k1, e1, _⟩ := hp1.shape
  obtain ⟨a2, k2, e2, _⟩ := hp2.shape
  obtain ⟨a3, k3, e3, _⟩ := hc1.shape
  obtain ⟨a4, k4, e4, _⟩ := hc2.shape
  subst e1 e2 e3 e4
  have bA := ((Below.refl w.heap.size w).alloc (Nat.le_refl _) (.cells #[.string x.n, .slice a1 x.ps.length k1, .string x.r, .int .i64 x.l, .slice a3 x.c.length k3] 48)).alloc (by simp) (.cells #[.string x.n, .slice a2 x.ps.length k2, .string x.r, .int .i64 x.l, .slice a4 x.c.length k4] 48)
  have H1 := hide (hp1.at bA)
  have H2 := hide (hp2.at bA)
  have H3 := hide (hc1.at bA)
  have H4 := hide (hc2.at bA)
  have HB := hide bA
  have HG := hide hg
  clear hp1 hp2 hc1 hc2 bA hg
  have n1 : (x.n.toList != x.n.toList) = false := by simp
  have n2 : (x.r.toList != x.r.toList) = false := by simp
  have n3 : (x.l != x.l) = false := by simp
  unfold meV
  go_enter Tryd.func48, Tryd.ntmps48
  go_wp2_with fail
  refine (eqSt _ _ _ x.ps H1.out H2.out HG.out.1).mono ?_
  rintro e w1 ⟨rfl, q, rfl⟩
  go_wp2_with fail
  refine (eqBy _ _ _ x.c (H3.out.drewN q) (H4.out.drewN q) HG.out.2.1 HG.out.2.2).mono ?_
  rintro e w2 ⟨rfl, q2, rfl⟩
  go_wp2
  go_ret
  exact ⟨rfl, below_drewN HB.out _⟩
set_option maxRecDepth 100000 in
set_option maxHeartbeats 4000000 in
theorem eqKcs (w : World) (v1 v2 : Value) (xs : List Kc) (h1 : Reads w w.heap.size (pool xs) v1) (h2 : Reads w w.heap.size (pool xs) v2) (hm : xs.length ≤ 1048576) :
    Calls Tryd.prog 20 #[v1, v2] w fun e w' => e = .returned (.bool true) ∧ Below w.heap.size w w' := by
  have HX1 : Hid (∀ wr, Below w.heap.size w wr → _) := hide (fun wr hb => const_at (h1.at hb))
  have HX2 : Hid (∀ wr, Below w.heap.size w wr → _) := hide (fun wr hb => const_at (h2.at hb))
  obtain ⟨a1, cap1, rfl, _⟩ := const_at h1
  obtain ⟨a2, cap2, rfl, _⟩ := const_at h2
  clear h1 h2
  generalize hn : xs.length = n at *
  have hne : ((n : Int) != (n : Int)) = false := by simp
  go_enter Tryd.func20, Tryd.ntmps20
  go_wp2
  go_loopw [5] (fun i wr => ∃ j : Nat, j ≤ n ∧ i = .int .i64 (j : Int) ∧ Below w.heap.size w wr) (fun i _ => n - (intOf i).toNat)
  case atStart => exact ⟨0, Nat.zero_le _, rfl, Below.refl _ _⟩
  case round =>
    obtain ⟨j, hj, rfl, hb⟩ := hrel
    have HB := hide hb
    have hs := hb.size
    clear hb
    by_cases hlt : j < n
    · obtain ⟨a1', cap1', ea1, _, _, hx1⟩ := HX1.out wr HB.out
      cases ea1
      obtain ⟨b1, o1, rfl, hb1, hc1⟩ := hx1 (by omega)
      obtain ⟨a2', cap2', ea2, _, _, hx2⟩ := HX2.out wr HB.out
      cases ea2
      obtain ⟨b2, o2, rfl, hb2, hc2⟩ := hx2 (by omega)
      obtain ⟨e0, e1, e2, e3⟩ := hc1 j hlt
      obtain ⟨d0, d1, d2, d3⟩ := hc2 j hlt
      clear hx1 hx2 hc1 hc2
      generalize xs.getD j default = p at *
      go_wp2
      go_cut [26] from 11 to 26 (fun s wq => s = .bool false ∧ Below w.heap.size w wq)
      case first =>
        go_region_with (go_at_call 46; refine (eqKc _ p).mono ?_; rintro e w1 ⟨rfl, b1⟩; have HB1 := hide (HB.out.trans (below_of_drew b1 |>.mono hs)); clear b1)
        all_goals (go_wp2_with fail; go_meet; exact ⟨rfl, HB1.out⟩)
      case rest =>
        obtain ⟨rfl, hB⟩ := hcut
        have HB2 := hide hB
        clear hB
        go_wp2
        exact ⟨⟨j + 1, hlt, by go_num, HB2.out⟩, by simp [intOf]; omega⟩
    · go_wp2
      go_ret
      exact ⟨rfl, HB.out⟩
set_option maxRecDepth 100000 in
set_option maxHeartbeats 4000000 in
theorem eqFds (w : World) (v1 v2 : Value) (xs : List Fd) (h1 : Reads w w.heap.size (flds xs) v1) (h2 : Reads w w.heap.size (flds xs) v2) (hm : xs.length ≤ 1048576) :
    Calls Tryd.prog 21 #[v1, v2] w fun e w' => e = .returned (.bool true) ∧ Below w.heap.size w w' := by
  have HX1 : Hid (∀ wr, Below w.heap.size w wr → _) := hide (fun wr hb => field_at (h1.at hb))
  have HX2 : Hid (∀ wr, Below w.heap.size w wr → _) := hide (fun wr hb => field_at (h2.at hb))
  obtain ⟨a1, cap1, rfl, _⟩ := field_at h1
  obtain ⟨a2, cap2, rfl, _⟩ := field_at h2
  clear h1 h2
  generalize hn : xs.length = n at *
  have hne : ((n : Int) != (n : Int)) = false := by simp
  go_enter Tryd.func21, Tryd.ntmps21
  go_wp2
  go_loopw [5] (fun i wr => ∃ j : Nat, j ≤ n ∧ i = .int .i64 (j : Int) ∧ Below w.heap.size w wr) (fun i _ => n - (intOf i).toNat)
  case atStart => exact ⟨0, Nat.zero_le _, rfl, Below.refl _ _⟩
  case round =>
    obtain ⟨j, hj, rfl, hb⟩ := hrel
    have HB := hide hb
    have hs := hb.size
    clear hb
    by_cases hlt : j < n
    · obtain ⟨a1', cap1', ea1, _, _, hx1⟩ := HX1.out wr HB.out
      cases ea1
      obtain ⟨b1, o1, rfl, hb1, hc1⟩ := hx1 (by omega)
      obtain ⟨a2', cap2', ea2, _, _, hx2⟩ := HX2.out wr HB.out
      cases ea2
      obtain ⟨b2, o2, rfl, hb2, hc2⟩ := hx2 (by omega)
      obtain ⟨e0, e1⟩ := hc1 j hlt
      obtain ⟨d0, d1⟩ := hc2 j hlt
      clear hx1 hx2 hc1 hc2
      generalize xs.getD j default = p at *
      go_wp2
      go_cut [26] from 11 to 26 (fun s wq => s = .bool false ∧ Below w.heap.size w wq)
      case first =>
        go_region_with (go_at_call 47; refine (eqFd _ p).mono ?_; rintro e w1 ⟨rfl, b1⟩; have HB1 := hide (HB.out.trans (below_of_drew b1 |>.mono hs)); clear b1)
        all_goals (go_wp2_with fail; go_meet; exact ⟨rfl, HB1.out⟩)
      case rest =>
        obtain ⟨rfl, hB⟩ := hcut
        have HB2 := hide hB
        clear hB
        go_wp2
        exact ⟨⟨j + 1, hlt, by go_num, HB2.out⟩, by simp [intOf]; omega⟩
    · go_wp2
      go_ret
      exact ⟨rfl, HB.out⟩
set_option maxRecDepth 100000 in
set_option maxHeartbeats 4000000 in
theorem eqMes (w : World) (v1 v2 : Value) (xs : List Me) (h1 : Reads w w.heap.size (mets xs) v1) (h2 : Reads w w.heap.size (mets xs) v2) (hm : xs.length ≤ 1048576) (hgd : ∀ x ∈ xs, MeG x) :
    Calls Tryd.prog 22 #[v1, v2] w fun e w' => e = .returned (.bool true) ∧ Below w.heap.size w w' := by
  have HX1 : Hid (∀ wr, Below w.heap.size w wr → _) := hide (fun wr hb => meth_at (h1.at hb))
  have HX2 : Hid (∀ wr, Below w.heap.size w wr → _) := hide (fun wr hb => meth_at (h2.at hb))
  have HG : Hid (∀ j, j < xs.length → MeG (xs.getD j default)) := hide (fun j hj => by
    have : xs.getD j default = xs[j] := by simp [hj]
    rw [this]; exact hgd _ (List.getElem_mem _))
  clear hgd
  obtain ⟨a1, cap1, rfl, _⟩ := meth_at h1
  obtain ⟨a2, cap2, rfl, _⟩ := meth_at h2
  clear h1 h2
  generalize hn : xs.length = n at *
  have hne : ((n : Int) != (n : Int)) = false := by simp
  go_enter Tryd.func22, Tryd.ntmps22
  go_wp2
  go_loopw [5] (fun i wr => ∃ j : Nat, j ≤ n ∧ i = .int .i64 (j : Int) ∧ Below w.heap.size w wr) (fun i _ => n - (intOf i).toNat)
  case atStart => exact ⟨0, Nat.zero_le _, rfl, Below.refl _ _⟩
  case round =>
    obtain ⟨j, hj, rfl, hb⟩ := hrel
    have HB := hide hb
    have hs := hb.size
    clear hb
    by_cases hlt : j < n
    · obtain ⟨a1', cap1', ea1, _, _, hx1⟩ := HX1.out wr HB.out
      cases ea1
      obtain ⟨b1, o1, rfl, hb1, hc1⟩ := hx1 (by omega)
      obtain ⟨a2', cap2', ea2, _, _, hx2⟩ := HX2.out wr HB.out
      cases ea2
      obtain ⟨b2, o2, rfl, hb2, hc2⟩ := hx2 (by omega)
      obtain ⟨pv, cv, e0, e1, e2, e3, e4, r1, r2⟩ := hc1 j hlt
      obtain ⟨pv2, cv2, d0, d1, d2, d3, d4, s1, s2⟩ := hc2 j hlt
      have R1 : Hid (Reads wr.drew wr.drew.heap.size _ _) := hide (r1.drewN 1)
      have R2 : Hid (Reads wr.drew wr.drew.heap.size _ _) := hide (r2.drewN 1)
      have S1 : Hid (Reads wr.drew wr.drew.heap.size _ _) := hide (s1.drewN 1)
      have S2 : Hid (Reads wr.drew wr.drew.heap.size _ _) := hide (s2.drewN 1)
      obtain ⟨x1, y1, z1, _⟩ := r1.shape
      obtain ⟨x2, y2, z2, _⟩ := r2.shape
      obtain ⟨x3, y3, z3, _⟩ := s1.shape
      obtain ⟨x4, y4, z4, _⟩ := s2.shape
      subst z1 z2 z3 z4
      have HGj := hide (HG.out j hlt)
      clear hx1 hx2 hc1 hc2 r1 r2 s1 s2
      generalize xs.getD j default = p at *
      go_wp2
      go_cut [26] from 11 to 26 (fun s wq => s = .bool false ∧ Below w.heap.size w wq)
      case first =>
        go_region_with (go_at_call 48; refine (eqMe _ p _ _ _ _ R1.out S1.out R2.out S2.out HGj.out).mono ?_; rintro e w1 ⟨rfl, b1⟩; have HB1 := hide (HB.out.trans (below_of_drew b1 |>.mono hs)); clear b1)
        all_goals (go_wp2_with fail; go_meet; exact ⟨rfl, HB1.out⟩)
      case rest =>
        obtain ⟨rfl, hB⟩ := hcut
        have HB2 := hide hB
        clear hB
        go_wp2
        exact ⟨⟨j + 1, hlt, by go_num, HB2.out⟩, by simp [intOf]; omega⟩
    · go_wp2
      go_ret
      exact ⟨rfl, HB.out⟩
set_option maxRecDepth 100000 in
set_option maxHeartbeats 4000000 in
theorem eqCls (w : World) (x : Cl) (p1 f1 m1 p2 f2 m2 : Value) (hp1 : Reads w w.heap.size (pool x.p) p1) (hf1 : Reads w w.heap.size (flds x.f) f1) (hm1 : Reads w w.heap.size (mets x.m) m1) (hp2 : Reads w w.heap.size (pool x.p) p2) (hf2 : Reads w w.heap.size (flds x.f) f2) (hm2 : Reads w w.heap.size (mets x.m) m2) (hg : ClG x) :
    Calls Tryd.prog 7 #[clV x p1 f1 m1, clV x p2 f2 m2] w fun e w' => e = .returned (.bool true) ∧ Below w.heap.size w w' := by
  obtain ⟨a1, k1, e1, _⟩ := hp1.shape
  obtain ⟨a2, k2, e2, _⟩ := hf1.shape
  obtain ⟨a3, k3, e3, _⟩ := hm1.shape
  obtain ⟨a4, k4, e4, _⟩ := hp2.shape
  obtain ⟨a5, k5, e5, _⟩ := hf2.shape
  obtain ⟨a6, k6, e6, _⟩ := hm2.shape
  subst e1 e2 e3 e4 e5 e6
  have bA := ((Below.refl w.heap.size w).alloc (Nat.le_refl _) (.cells #[.string x.n, .string x.s, .slice a1 x.p.length k1, .slice a2 x.f.length k2, .slice a3 x.m.length k3] 27)).alloc (by simp) (.cells #[.string x.n, .string x.s, .slice a4 x.p.length k4, .slice a5 x.f.length k5, .slice a6 x.m.length k6] 27)
  have HP1 := hide (hp1.at bA)
  have HF1 := hide (hf1.at bA)
  have HM1 := hide (hm1.at bA)
  have HP2 := hide (hp2.at bA)
  have HF2 := hide (hf2.at bA)
  have HM2 := hide (hm2.at bA)
  have G0 := heap_alloc_new w (.cells #[.string x.n, .string x.s, .slice a1 x.p.length k1, .slice a2 x.f.length k2, .slice a3 x.m.length k3] 27)
  have G1 := heap_alloc_new (w.alloc (.cells #[.string x.n, .string x.s, .slice a1 x.p.length k1, .slice a2 x.f.length k2, .slice a3 x.m.length k3] 27)) (.cells #[.string x.n, .string x.s, .slice a4 x.p.length k4, .slice a5 x.f.length k5, .slice a6 x.m.length k6] 27)
  simp only [World.size_alloc] at G1
  have E0 := hide ((Below.heap_alloc _ (.cells #[.string x.n, .string x.s, .slice a4 x.p.length k4, .slice a5 x.f.length k5, .slice a6 x.m.length k6] 27) _ (by simp)).trans G0)
  have E1 := hide G1
  have HB := hide bA
  have HG := hide hg
  have hsz : Hid (w.heap.size + 1 < ((w.alloc (.cells #[.string x.n, .string x.s, .slice a1 x.p.length k1, .slice a2 x.f.length k2, .slice a3 x.m.length k3] 27)).alloc (.cells #[.string x.n, .string x.s, .slice a4 x.p.length k4, .slice a5 x.f.length k5, .slice a6 x.m.length k6] 27)).heap.size) := hide (by simp)
  clear hp1 hf1 hm1 hp2 hf2 hm2 bA hg G0 G1
  have n1 : (x.n.toList != x.n.toList) = false := by simp
  have n2 : (x.s.toList != x.s.toList) = false := by simp
  unfold clV
  go_enter Tryd.func7, Tryd.ntmps7
  go_wp2_with fail
  generalize (w.alloc (.cells #[.string x.n, .string x.s, .slice a1 x.p.length k1, .slice a2 x.f.length k2, .slice a3 x.m.length k3] 27)).alloc (.cells #[.string x.n, .string x.s, .slice a4 x.p.length k4, .slice a5 x.f.length k5, .slice a6 x.m.length k6] 27) = W at *
  refine (eqKcs _ _ _ x.p HP1.out HP2.out HG.out.p).mono ?_
  rintro e w1 ⟨rfl, b1⟩
  replace E0 := hide ((b1.block w.heap.size (by have := hsz.out; omega)).trans E0.out)
  replace E1 := hide ((b1.block (w.heap.size + 1) hsz.out).trans E1.out)
  replace hsz := hide (Nat.lt_of_lt_of_le hsz.out b1.size)
  replace HF1 := hide (HF1.out.at b1)
  replace HF2 := hide (HF2.out.at b1)
  replace HM1 := hide (HM1.out.at b1)
  replace HM2 := hide (HM2.out.at b1)
  replace HB := hide (HB.out.trans (b1.mono HB.out.size))
  clear b1
  have f3 := (box_of E0.out).1 3 _ rfl
  have g3 := (box_of E1.out).1 3 _ rfl
  go_wp2_with fail
  clear f3 g3
  refine (eqFds _ _ _ x.f HF1.out HF2.out HG.out.f).mono ?_
  rintro e w2 ⟨rfl, b2⟩
  replace E0 := hide ((b2.block w.heap.size (by have := hsz.out; omega)).trans E0.out)
  replace E1 := hide ((b2.block (w.heap.size + 1) hsz.out).trans E1.out)
  replace HM1 := hide (HM1.out.at b2)
  replace HM2 := hide (HM2.out.at b2)
  replace HB := hide (HB.out.trans (b2.mono HB.out.size))
  clear b2
  have f4 := (box_of E0.out).1 4 _ rfl
  have g4 := (box_of E1.out).1 4 _ rfl
  go_wp2_with fail
  clear f4 g4
  refine (eqMes _ _ _ x.m HM1.out HM2.out HG.out.m (fun y hy => (HG.out.ms y hy).2.2.1)).mono ?_
  rintro e w3 ⟨rfl, b3⟩
  replace HB := hide (HB.out.trans (b3.mono HB.out.size))
  clear b3
  go_wp2
  go_ret
  exact ⟨rfl, HB.out⟩
end Go.Proofs.YtbggcoclfnhbgaaDoor
/-
  What the laws over classes lean on.
-/
namespace Go.Proofs.YtbggcoclfnhbgaaDoor
open Go.RowKit

theorem clD_reads {w : World} {B : Nat} {x : Cl} {a b u1 u2 u3 : Value} (h : ReadsL w B (clD x) [a, b, u1, u2, u3]) : Reads w B (pool x.p) u1 ∧ Reads w B (flds x.f) u2 ∧ Reads w B (mets x.m) u3 := by
  obtain ⟨_, _, e, _, h⟩ := readsL_cons h
  cases e
  obtain ⟨_, _, e, _, h⟩ := readsL_cons h
  cases e
  obtain ⟨_, _, e, h1, h⟩ := readsL_cons h
  cases e
  obtain ⟨_, _, e, h2, h⟩ := readsL_cons h
  cases e
  obtain ⟨_, _, e, h3, h⟩ := readsL_cons h
  cases e
  exact ⟨h1, h2, h3⟩
theorem clD_own {w : World} {b hi : Nat} {x : Cl} {s t u1 u2 u3 : Value} (h : OwnDL w b hi (clD x) [s, t, u1, u2, u3]) : Reads w w.heap.size (pool x.p) u1 ∧ Reads w w.heap.size (flds x.f) u2 ∧ Reads w w.heap.size (mets x.m) u3 := clD_reads (h.rd (Nat.le_refl _))
end Go.Proofs.YtbggcoclfnhbgaaDoor
/-
  What ClassOf does, in the program.
-/
namespace Go.Proofs.YtbggcoclfnhbgaaDoor
open Go.RowKit

def Cl0 : Cl := ⟨⟨#[]⟩, ⟨#[]⟩, [], [], []⟩
/-- What ClassOf answers. -/
def ansCO (b : Nat) (r : Option Cl) (e : Ending) (w' : World) : Prop := ∃ u, e = .returned (.tuple #[u, .bool r.isSome]) ∧ RowCl b w' u (r.getD Cl0)
theorem rowCl_zero (b : Nat) (w : World) (hb : b ≤ w.heap.size) : RowCl b w zeroCl Cl0 := by
  refine ⟨_, _, _, rfl, ?_⟩
  unfold clD
  exact OwnDL.val (OwnDL.val (OwnDL.cons (m := b) (ownD_nil _ _ _ _ _) (OwnDL.cons (m := b) (ownD_nil _ _ _ _ _) (OwnDL.cons (m := w.heap.size) (ownD_nil _ _ _ _ _) (ownDL_nil _ _ _) hb (Nat.le_refl _)) (Nat.le_refl _) hb) (Nat.le_refl _) hb))
theorem clOf_none {zs : List Int} (h : rCl zs 0 = none) : clOf zs = none := by unfold clOf; rw [h]; rfl
theorem clOf_end {zs : List Int} {m : Cl} {e : Nat} (h : rCl zs 0 = some (m, e)) (he : e ≠ zs.length) : clOf zs = none := by
  unfold clOf; rw [h]; simp only [Option.bind_some]; rw [if_neg (fun hc => he hc.1)]
theorem clOf_bad {zs : List Int} {m : Cl} {e : Nat} (h : rCl zs 0 = some (m, e)) (hb : clB m = false) : clOf zs = none := by
  unfold clOf; rw [h]; simp only [Option.bind_some]; rw [if_neg (fun hc => by rw [hb] at hc; cases hc.2)]
theorem clOf_some {zs : List Int} {m : Cl} (h : rCl zs 0 = some (m, zs.length)) (hb : clB m = true) : clOf zs = some m := by
  unfold clOf; rw [h]; simp [hb]
theorem readClOf (w : World) (a : Option Addr) (len cap : Nat) (zs : List Int) (t : TypeId) (v : Value) (h0 : 0 < w.heap.size) (hcap : len ≤ cap) (hin : In w w.heap.size a len zs) (hE : Err w t v) :
    Calls Tryd.prog 17 #[.slice a len cap, .int .i64 0, .func (.func 18) #[] #[]] w fun e w' => ansCl w.heap.size (rCl zs 0) e w' ∧ Below w.heap.size w w' :=
  readCl w a len cap t v (rCl zs 0) (fun W hb hp => rdClass cap hcap ⟨hin.low hb (Nat.le_refl _), Nat.le_add_right _ 3, by omega, hE.low hb h0, hp⟩)
set_option maxRecDepth 100000 in
set_option maxHeartbeats 8000000 in
theorem classOfImpl (w : World) (a : Option Addr) (len cap : Nat) (zs : List Int) (t : TypeId) (v : Value) (h0 : 0 < w.heap.size) (hcap : len ≤ cap) (hin : In w w.heap.size a len zs) (hE : Err w t v) :
    Calls Tryd.prog 6 #[.slice a len cap] w fun e w' => ansCO w.heap.size (clOf zs) e w' ∧ Below w.heap.size w w' := by
  have hl := hin.1
  have hm := hin.2.1
  have HBy := hide (byt_of_in hin)
  have bA := (Below.refl w.heap.size w).alloc (Nat.le_refl _) (.cells #[.string ⟨#[]⟩, .string ⟨#[]⟩, .slice none 0 0, .slice none 0 0, .slice none 0 0] 27)
  have E0 := hide (heap_alloc_new w (.cells #[.string ⟨#[]⟩, .string ⟨#[]⟩, .slice none 0 0, .slice none 0 0, .slice none 0 0] 27))
  have HB := hide bA
  have HQ := hide (readClOf (w.alloc (.cells #[.string ⟨#[]⟩, .string ⟨#[]⟩, .slice none 0 0, .slice none 0 0, .slice none 0 0] 27)) a len cap zs t v (by simp) hcap (hin.at bA) (hE.low bA h0))
  clear bA hin hE
  go_enter Tryd.func6, Tryd.ntmps6
  go_wp2_with fail
  refine (unhide HQ).mono ?_
  rintro e w1 ⟨hA, b1⟩
  replace E0 := hide ((b1.block w.heap.size (by simp)).trans E0.out)
  have hs1 := b1.size
  simp only [World.size_alloc] at hs1 hA
  replace HB := hide (HB.out.trans (b1.mono HB.out.size))
  clear b1 HQ
  cases hr : rCl zs 0 with
  | none =>
    have HN := hide (clOf_none hr)
    rw [hr] at hA
    have hA' : e = .returned (.tuple #[.agg #[.string ⟨#[]⟩, .string ⟨#[]⟩, .slice none 0 0, .slice none 0 0, .slice none 0 0], .int .i64 0, .bool false]) := hA
    subst hA'
    clear hA
    go_upto_region 3 with fail
    have bC := (Below.refl w1.heap.size w1).alloc (Nat.le_refl _) (.cells #[.string ⟨#[]⟩, .string ⟨#[]⟩, .slice none 0 0, .slice none 0 0, .slice none 0 0] 27)
    replace E0 := hide ((bC.block w.heap.size (by omega)).trans E0.out)
    replace HB := hide (HB.out.trans (bC.mono HB.out.size))
    clear bC hs1
    generalize w1.alloc (.cells #[.string ⟨#[]⟩, .string ⟨#[]⟩, .slice none 0 0, .slice none 0 0, .slice none 0 0] 27) = W1 at *
    have X := box_of E0.out
    have HX := hide X.1
    have zz := X.2
    have c0 := HX.out 0 _ rfl
    have c1 := HX.out 1 _ rfl
    have c2 := HX.out 2 _ rfl
    have c3 := HX.out 3 _ rfl
    have c4 := HX.out 4 _ rfl
    clear X hr
    have hsz := HB.out.size
    go_wp2
    exact bodyPost_ret (v := .tuple #[zeroCl, .bool false]) (results_ct Tryd.results6 _ _ _ rfl (loadCl (putN5 E0.out _ _ _ _ _))) rfl ⟨⟨_, by rw [HN.out]; rfl, by rw [HN.out]; exact rowCl_zero _ _ (by simp; omega)⟩, below_put5 HB.out (Nat.le_refl _) _ _ _ _ _⟩
  | some r =>
    obtain ⟨x, nx⟩ := r
    rw [hr] at hA
    obtain ⟨uu, rfl, u2, u3, u4, rfl, o⟩ := hA
    obtain ⟨⟨a2, k2, e2⟩, ⟨a3, k3, e3⟩, ⟨a4, k4, e4⟩⟩ := clD_sl o
    subst e2 e3 e4
    have HO := hide o
    have HG := hide (rCl_G HBy.out hr)
    clear o
    have bC := (Below.refl w1.heap.size w1).alloc (Nat.le_refl _) (.cells #[.string x.n, .string x.s, .slice a2 x.p.length k2, .slice a3 x.f.length k3, .slice a4 x.m.length k4] 27)
    have E1 := hide (heap_alloc_new w1 (.cells #[.string x.n, .string x.s, .slice a2 x.p.length k2, .slice a3 x.f.length k3, .slice a4 x.m.length k4] 27))
    replace E0 := hide ((bC.block w.heap.size (by omega)).trans E0.out)
    replace HO := hide (HO.out.below bC)
    replace HB := hide (HB.out.trans (bC.mono HB.out.size))
    clear bC
    by_cases he : nx = len
    · have hne : ((nx : Int) != (len : Int)) = false := by rw [he]; simp
      subst he
      go_upto_region 2 with fail
      generalize w1.alloc (.cells #[.string x.n, .string x.s, .slice a2 x.p.length k2, .slice a3 x.f.length k3, .slice a4 x.m.length k4] 27) = W1 at *
      have HX1 := hide (box_of E1.out).1
      have g0 := HX1.out 0 _ rfl
      have g1 := HX1.out 1 _ rfl
      have g2 := HX1.out 2 _ rfl
      have g3 := HX1.out 3 _ rfl
      have g4 := HX1.out 4 _ rfl
      go_wp2_with fail
      obtain ⟨R1, R2, R3⟩ := clD_own HO.out
      refine (clImpl _ x _ _ _ R1 R2 R3 HG.out).mono ?_
      rintro e w2 ⟨rfl, b2⟩
      have hW1 : w1.heap.size < W1.heap.size := (Array.getElem?_eq_some_iff.1 E1.out).1
      have hs2 := b2.size
      replace E0 := hide ((b2.block w.heap.size (by omega)).trans E0.out)
      replace E1 := hide ((b2.block w1.heap.size hW1).trans E1.out)
      replace HO := hide (HO.out.below b2)
      replace HB := hide (HB.out.trans (b2.mono HB.out.size))
      clear b2 g0 g1 g2 g3 g4 HX1 R1 R2 R3
      have X := box_of E0.out
      have HX := hide X.1
      have zz := X.2
      have HX1 := hide (box_of E1.out).1
      clear X
      cases hm : clB x with
      | false =>
        have HN := hide (clOf_bad hr hm)
        clear hr
        have c0 := HX.out 0 _ rfl
        have c1 := HX.out 1 _ rfl
        have c2 := HX.out 2 _ rfl
        have c3 := HX.out 3 _ rfl
        have c4 := HX.out 4 _ rfl
        go_wp2
        exact bodyPost_ret (v := .tuple #[zeroCl, .bool false]) (results_ct Tryd.results6 _ _ _ rfl (loadCl (putN5 E0.out _ _ _ _ _))) rfl ⟨⟨_, by rw [HN.out]; rfl, by rw [HN.out]; exact rowCl_zero _ _ (by simp; omega)⟩, below_put5 HB.out (Nat.le_refl _) _ _ _ _ _⟩
      | true =>
        have HN := hide (clOf_some (m := x) (by rw [hr, hl]) hm)
        clear hr
        have c0 := HX.out 0 _ rfl
        have c1 := HX.out 1 _ rfl
        have c2 := HX.out 2 _ rfl
        have c3 := HX.out 3 _ rfl
        have c4 := HX.out 4 _ rfl
        have g0 := HX1.out 0 _ rfl
        have g1 := HX1.out 1 _ rfl
        have g2 := HX1.out 2 _ rfl
        have g3 := HX1.out 3 _ rfl
        have g4 := HX1.out 4 _ rfl
        go_wp2
        refine bodyPost_ret (v := .tuple #[.agg #[.string x.n, .string x.s, .slice a2 x.p.length k2, .slice a3 x.f.length k3, .slice a4 x.m.length k4], .bool true]) (results_ct Tryd.results6 _ _ _ rfl (loadCl (putN5 E0.out _ _ _ _ _))) rfl ⟨⟨_, by rw [HN.out]; rfl, ?_⟩, below_put5 HB.out (Nat.le_refl _) _ _ _ _ _⟩
        rw [HN.out]
        refine ⟨_, _, _, rfl, ?_⟩
        exact ((OwnDL.same (HO.out.mono (b' := w.heap.size + 1) (by simp)) (fun q hq _ _ => put_oth _ _ _ _ _ q (by omega))).mono (Nat.le_succ _)).up (by simp; omega)
    · have hne : ((nx : Int) != (len : Int)) = true := by rw [bne_iff_ne]; omega
      have HN := hide (clOf_end hr (by omega))
      clear he hr
      go_upto_region 3 with fail
      generalize w1.alloc (.cells #[.string x.n, .string x.s, .slice a2 x.p.length k2, .slice a3 x.f.length k3, .slice a4 x.m.length k4] 27) = W1 at *
      have hsz := HB.out.size
      have X := box_of E0.out
      have HX := hide X.1
      have zz := X.2
      have c0 := HX.out 0 _ rfl
      have c1 := HX.out 1 _ rfl
      have c2 := HX.out 2 _ rfl
      have c3 := HX.out 3 _ rfl
      have c4 := HX.out 4 _ rfl
      clear X
      go_wp2
      exact bodyPost_ret (v := .tuple #[zeroCl, .bool false]) (results_ct Tryd.results6 _ _ _ rfl (loadCl (putN5 E0.out _ _ _ _ _))) rfl ⟨⟨_, by rw [HN.out]; rfl, by rw [HN.out]; exact rowCl_zero _ _ (by simp; omega)⟩, below_put5 HB.out (Nat.le_refl _) _ _ _ _ _⟩
end Go.Proofs.YtbggcoclfnhbgaaDoor
