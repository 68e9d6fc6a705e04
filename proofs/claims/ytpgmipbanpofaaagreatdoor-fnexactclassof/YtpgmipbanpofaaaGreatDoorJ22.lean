/-
  Joined: KfEq, ClsEq, ClsLaw.
-/
import Derived.Test.YtpgmipbanpofaaaGreatDoorJ16
import Derived.Test.YtpgmipbanpofaaaGreatDoorJ2
import Derived.Deep.QuietTactic
import Derived.BigQuiet
import Derived.Test.YtpgmipbanpofaaaGreatDoorJ17
import Derived.Test.YtpgmipbanpofaaaGreatDoorJ18
/-
  Texts, consts and fields held against each other.
-/
namespace Go.Proofs.YtpgmipbanpofaaaGreatDoor
open Go.RowKit

set_option maxRecDepth 100000 in
set_option maxHeartbeats 1000000 in
theorem eqSt (w : World) (v1 v2 : Value) (xs : List ByteArray) (h1 : Reads w w.heap.size (strs xs) v1) (h2 : Reads w w.heap.size (strs xs) v2) (hm : xs.length ≤ 1048576) :
    Calls Tryz.prog 79 #[v1, v2] w fun e w' => e = .returned (.bool true) ∧ ∃ q, w' = w.drewN q := by
  obtain ⟨a1, c1, rfl, _, _, hx1⟩ := str_at h1
  obtain ⟨a2, c2, rfl, _, _, hx2⟩ := str_at h2
  have HX1 := hide hx1
  have HX2 := hide hx2
  clear h1 h2 hx1 hx2
  have hne : ((xs.length : Int) != (xs.length : Int)) = false := by simp
  generalize hn : xs.length = n at *
  go_enter Tryz.func79, Tryz.ntmps79
  go_wp2
  go_loopw [5] (fun i wr => ∃ k : Nat, k ≤ n ∧ i = .int .i64 k ∧ ∃ q, wr = w.drewN q) (fun i _ => n - (intOf i).toNat)
  case atStart => exact ⟨0, Nat.zero_le _, rfl, 0, rfl⟩
  case round =>
    obtain ⟨k, hk, rfl, q, rfl⟩ := hrel
    by_cases hlt : k < n
    · obtain ⟨b1, o1, rfl, _, hc1⟩ := HX1.out (by omega)
      obtain ⟨b2, o2, rfl, _, hc2⟩ := HX2.out (by omega)
      have e1 := hc1 k hlt
      have e2 := hc2 k hlt
      clear hc1 hc2 HX1 HX2
      have hbe : ((xs.getD k default).toList != (xs.getD k default).toList) = false := by simp
      go_wp2
      go_quiet (fail)
      go_wp2
      go_roundw
      case rel => exact ⟨k + 1, by omega, by go_num, q + nq, rfl⟩
      case measure => simp [intOf]; omega
    · go_wp2
      go_ret
      exact ⟨rfl, q, rfl⟩
set_option maxRecDepth 100000 in
set_option maxHeartbeats 1000000 in
theorem eqBy (w : World) (v1 v2 : Value) (xs : List Int) (h1 : Reads w w.heap.size (byts xs) v1) (h2 : Reads w w.heap.size (byts xs) v2) (hm : xs.length ≤ 1048576) (hz : Byt xs) :
    Calls Tryz.prog 8 #[v1, v2] w fun e w' => e = .returned (.bool true) ∧ ∃ q, w' = w.drewN q := by
  obtain ⟨a1, c1, rfl, _, _, hx1⟩ := byts_in h1 hm hz
  obtain ⟨a2, c2, rfl, _, _, hx2⟩ := byts_in h2 hm hz
  have HX1 := hide hx1
  have HX2 := hide hx2
  clear h1 h2 hx1 hx2
  have hne : ((xs.length : Int) != (xs.length : Int)) = false := by simp
  generalize hn : xs.length = n at *
  go_enter Tryz.func8, Tryz.ntmps8
  go_wp2
  go_loopw [5] (fun i wr => ∃ k : Nat, k ≤ n ∧ i = .int .i64 k ∧ ∃ q, wr = w.drewN q) (fun i _ => n - (intOf i).toNat)
  case atStart => exact ⟨0, Nat.zero_le _, rfl, 0, rfl⟩
  case round =>
    obtain ⟨k, hk, rfl, q, rfl⟩ := hrel
    by_cases hlt : k < n
    · obtain ⟨b1, o1, rfl, _, hc1⟩ := HX1.out.2.2.2 (by omega)
      obtain ⟨b2, o2, rfl, _, hc2⟩ := HX2.out.2.2.2 (by omega)
      have e1 := hc1 k hlt
      have e2 := hc2 k hlt
      clear hc1 hc2 HX1 HX2
      have hbe : ((xs.getD k 0) != (xs.getD k 0)) = false := by simp
      go_wp2
      go_quiet (fail)
      go_wp2
      go_roundw
      case rel => exact ⟨k + 1, by omega, by go_num, q + nq, rfl⟩
      case measure => simp [intOf]; omega
    · go_wp2
      go_ret
      exact ⟨rfl, q, rfl⟩
set_option maxRecDepth 100000 in
set_option maxHeartbeats 1000000 in
theorem eqKc (w : World) (x : Kc) : Calls Tryz.prog 46 #[kcV x, kcV x] w fun e w' => e = .returned (.bool true) ∧ Below w.heap.size w w' := by
  have e1 : (x.k != x.k) = false := by simp
  have e2 : (x.n != x.n) = false := by simp
  have e3 : (x.a.toList != x.a.toList) = false := by simp
  have e4 : (x.b.toList != x.b.toList) = false := by simp
  unfold kcV
  go_enter Tryz.func46, Tryz.ntmps46
  go_wp2
  go_ret
  exact ⟨rfl, ((Below.refl _ _).alloc (Nat.le_refl _) _).alloc (by simp) _⟩
set_option maxRecDepth 100000 in
set_option maxHeartbeats 1000000 in
theorem eqFd (w : World) (x : Fd) : Calls Tryz.prog 47 #[fdV x, fdV x] w fun e w' => e = .returned (.bool true) ∧ Below w.heap.size w w' := by
  have e3 : (x.n.toList != x.n.toList) = false := by simp
  have e4 : (x.t.toList != x.t.toList) = false := by simp
  unfold fdV
  go_enter Tryz.func47, Tryz.ntmps47
  go_wp2
  go_ret
  exact ⟨rfl, ((Below.refl _ _).alloc (Nat.le_refl _) _).alloc (by simp) _⟩
set_option maxRecDepth 100000 in
set_option maxHeartbeats 4000000 in
theorem eqKcs (w : World) (v1 v2 : Value) (xs : List Kc) (h1 : Reads w w.heap.size (pool xs) v1) (h2 : Reads w w.heap.size (pool xs) v2) (hm : xs.length ≤ 1048576) :
    Calls Tryz.prog 20 #[v1, v2] w fun e w' => e = .returned (.bool true) ∧ Below w.heap.size w w' := by
  have HX1 : Hid (∀ wr, Below w.heap.size w wr → _) := hide (fun wr hb => const_at (h1.at hb))
  have HX2 : Hid (∀ wr, Below w.heap.size w wr → _) := hide (fun wr hb => const_at (h2.at hb))
  obtain ⟨a1, cap1, rfl, _⟩ := const_at h1
  obtain ⟨a2, cap2, rfl, _⟩ := const_at h2
  clear h1 h2
  generalize hn : xs.length = n at *
  have hne : ((n : Int) != (n : Int)) = false := by simp
  go_enter Tryz.func20, Tryz.ntmps20
  go_wp2
  go_loopw [5] (fun i wr => ∃ j : Nat, j ≤ n ∧ i = .int .i64 (j : Int) ∧ Below w.heap.size w wr) (fun i _ => n - (intOf i).toNat)
  case atStart => exact ⟨0, Nat.zero_le _, rfl, Below.refl _ _⟩
  case round =>
    obtain ⟨j, hj, rfl, hb⟩ := hrel
    have HB := hide hb
    have hs := hb.size
    clear hb
    by_cases hlt : j < n
    · obtain ⟨a1', cap1', ea1, _, _, hx1⟩ := HX1.out wr HB.out
      cases ea1
      obtain ⟨b1, o1, rfl, hb1, hc1⟩ := hx1 (by omega)
      obtain ⟨a2', cap2', ea2, _, _, hx2⟩ := HX2.out wr HB.out
      cases ea2
      obtain ⟨b2, o2, rfl, hb2, hc2⟩ := hx2 (by omega)
      obtain ⟨e0, e1, e2, e3⟩ := hc1 j hlt
      obtain ⟨d0, d1, d2, d3⟩ := hc2 j hlt
      clear hx1 hx2 hc1 hc2
      generalize xs.getD j default = p at *
      go_wp2
      go_cut [26] from 11 to 26 (fun s wq => s = .bool false ∧ Below w.heap.size w wq)
      case first =>
        go_region_with (go_at_call 46; refine (eqKc _ p).mono ?_; rintro e w1 ⟨rfl, b1⟩; have HB1 := hide (HB.out.trans (below_of_drew b1 |>.mono hs)); clear b1)
        all_goals (go_wp2_with fail; go_meet; exact ⟨rfl, HB1.out⟩)
      case rest =>
        obtain ⟨rfl, hB⟩ := hcut
        have HB2 := hide hB
        clear hB
        go_wp2
        exact ⟨⟨j + 1, hlt, by go_num, HB2.out⟩, by simp [intOf]; omega⟩
    · go_wp2
      go_ret
      exact ⟨rfl, HB.out⟩
set_option maxRecDepth 100000 in
set_option maxHeartbeats 4000000 in
theorem eqFds (w : World) (v1 v2 : Value) (xs : List Fd) (h1 : Reads w w.heap.size (flds xs) v1) (h2 : Reads w w.heap.size (flds xs) v2) (hm : xs.length ≤ 1048576) :
    Calls Tryz.prog 21 #[v1, v2] w fun e w' => e = .returned (.bool true) ∧ Below w.heap.size w w' := by
  have HX1 : Hid (∀ wr, Below w.heap.size w wr → _) := hide (fun wr hb => field_at (h1.at hb))
  have HX2 : Hid (∀ wr, Below w.heap.size w wr → _) := hide (fun wr hb => field_at (h2.at hb))
  obtain ⟨a1, cap1, rfl, _⟩ := field_at h1
  obtain ⟨a2, cap2, rfl, _⟩ := field_at h2
  clear h1 h2
  generalize hn : xs.length = n at *
  have hne : ((n : Int) != (n : Int)) = false := by simp
  go_enter Tryz.func21, Tryz.ntmps21
  go_wp2
  go_loopw [5] (fun i wr => ∃ j : Nat, j ≤ n ∧ i = .int .i64 (j : Int) ∧ Below w.heap.size w wr) (fun i _ => n - (intOf i).toNat)
  case atStart => exact ⟨0, Nat.zero_le _, rfl, Below.refl _ _⟩
  case round =>
    obtain ⟨j, hj, rfl, hb⟩ := hrel
    have HB := hide hb
    have hs := hb.size
    clear hb
    by_cases hlt : j < n
    · obtain ⟨a1', cap1', ea1, _, _, hx1⟩ := HX1.out wr HB.out
      cases ea1
      obtain ⟨b1, o1, rfl, hb1, hc1⟩ := hx1 (by omega)
      obtain ⟨a2', cap2', ea2, _, _, hx2⟩ := HX2.out wr HB.out
      cases ea2
      obtain ⟨b2, o2, rfl, hb2, hc2⟩ := hx2 (by omega)
      obtain ⟨e0, e1⟩ := hc1 j hlt
      obtain ⟨d0, d1⟩ := hc2 j hlt
      clear hx1 hx2 hc1 hc2
      generalize xs.getD j default = p at *
      go_wp2
      go_cut [26] from 11 to 26 (fun s wq => s = .bool false ∧ Below w.heap.size w wq)
      case first =>
        go_region_with (go_at_call 47; refine (eqFd _ p).mono ?_; rintro e w1 ⟨rfl, b1⟩; have HB1 := hide (HB.out.trans (below_of_drew b1 |>.mono hs)); clear b1)
        all_goals (go_wp2_with fail; go_meet; exact ⟨rfl, HB1.out⟩)
      case rest =>
        obtain ⟨rfl, hB⟩ := hcut
        have HB2 := hide hB
        clear hB
        go_wp2
        exact ⟨⟨j + 1, hlt, by go_num, HB2.out⟩, by simp [intOf]; omega⟩
    · go_wp2
      go_ret
      exact ⟨rfl, HB.out⟩
end Go.Proofs.YtpgmipbanpofaaaGreatDoor
/-
  Classes held against each other.
-/
namespace Go.Proofs.YtpgmipbanpofaaaGreatDoor
open Go.RowKit

set_option maxRecDepth 100000 in
set_option maxHeartbeats 2000000 in
theorem eqMe (w : World) (x : Me) (p1 c1 p2 c2 : Value) (hp1 : Reads w w.heap.size (strs x.ps) p1) (hp2 : Reads w w.heap.size (strs x.ps) p2) (hc1 : Reads w w.heap.size (byts x.c) c1) (hc2 : Reads w w.heap.size (byts x.c) c2) (hg : MeG x) :
    Calls Tryz.prog 48 #[meV x p1 c1, meV x p2 c2] w fun e w' => e = .returned (.bool true) ∧ Below w.heap.size w w' := by
  obtain ⟨a1, k1, e1, _⟩ := hp1.shape
  obtain ⟨a2, k2, e2, _⟩ := hp2.shape
  obtain ⟨a3, k3, e3, _⟩ := hc1.shape
  obtain ⟨a4, k4, e4, _⟩ := hc2.shape
  subst e1 e2 e3 e4
  have bA := ((Below.refl w.heap.size w).alloc (Nat.le_refl _) (.cells #[.string x.n, .slice a1 x.ps.length k1, .string x.r, .int .i64 x.l, .slice a3 x.c.length k3] 48)).alloc (by simp) (.cells #[.string x.n, .slice a2 x.ps.length k2, .string x.r, .int .i64 x.l, .slice a4 x.c.length k4] 48)
  have H1 := hide (hp1.at bA)
  have H2 := hide (hp2.at bA)
  have H3 := hide (hc1.at bA)
  have H4 := hide (hc2.at bA)
  have HB := hide bA
  have HG := hide hg
  clear hp1 hp2 hc1 hc2 bA hg
  have n1 : (x.n.toList != x.n.toList) = false := by simp
  have n2 : (x.r.toList != x.r.toList) = false := by simp
  have n3 : (x.l != x.l) = false := by simp
  unfold meV
  go_enter Tryz.func48, Tryz.ntmps48
  go_wp2_with fail
  refine (eqSt _ _ _ x.ps H1.out H2.out HG.out.1).mono ?_
  rintro e w1 ⟨rfl, q, rfl⟩
  go_wp2_with fail
  refine (eqBy _ _ _ x.c (H3.out.drewN q) (H4.out.drewN q) HG.out.2.1 HG.out.2.2).mono ?_
  rintro e w2 ⟨rfl, q2, rfl⟩
  go_wp2
  go_ret
  exact ⟨rfl, below_drewN HB.out _⟩
set_option maxRecDepth 100000 in
set_option maxHeartbeats 4000000 in
theorem eqMes (w : World) (v1 v2 : Value) (xs : List Me) (h1 : Reads w w.heap.size (mets xs) v1) (h2 : Reads w w.heap.size (mets xs) v2) (hm : xs.length ≤ 1048576) (hgd : ∀ x ∈ xs, MeG x) :
    Calls Tryz.prog 22 #[v1, v2] w fun e w' => e = .returned (.bool true) ∧ Below w.heap.size w w' := by
  have HX1 : Hid (∀ wr, Below w.heap.size w wr → _) := hide (fun wr hb => meth_at (h1.at hb))
  have HX2 : Hid (∀ wr, Below w.heap.size w wr → _) := hide (fun wr hb => meth_at (h2.at hb))
  have HG : Hid (∀ j, j < xs.length → MeG (xs.getD j default)) := hide (fun j hj => by
    have : xs.getD j default = xs[j] := by simp [hj]
    rw [this]; exact hgd _ (List.getElem_mem _))
  clear hgd
  obtain ⟨a1, cap1, rfl, _⟩ := meth_at h1
  obtain ⟨a2, cap2, rfl, _⟩ := meth_at h2
  clear h1 h2
  generalize hn : xs.length = n at *
  have hne : ((n : Int) != (n : Int)) = false := by simp
  go_enter Tryz.func22, Tryz.ntmps22
  go_wp2
  go_loopw [5] (fun i wr => ∃ j : Nat, j ≤ n ∧ i = .int .i64 (j : Int) ∧ Below w.heap.size w wr) (fun i _ => n - (intOf i).toNat)
  case atStart => exact ⟨0, Nat.zero_le _, rfl, Below.refl _ _⟩
  case round =>
    obtain ⟨j, hj, rfl, hb⟩ := hrel
    have HB := hide hb
    have hs := hb.size
    clear hb
    by_cases hlt : j < n
    · obtain ⟨a1', cap1', ea1, _, _, hx1⟩ := HX1.out wr HB.out
      cases ea1
      obtain ⟨b1, o1, rfl, hb1, hc1⟩ := hx1 (by omega)
      obtain ⟨a2', cap2', ea2, _, _, hx2⟩ := HX2.out wr HB.out
      cases ea2
      obtain ⟨b2, o2, rfl, hb2, hc2⟩ := hx2 (by omega)
      obtain ⟨pv, cv, e0, e1, e2, e3, e4, r1, r2⟩ := hc1 j hlt
      obtain ⟨pv2, cv2, d0, d1, d2, d3, d4, s1, s2⟩ := hc2 j hlt
      have R1 : Hid (Reads wr.drew wr.drew.heap.size _ _) := hide (r1.drewN 1)
      have R2 : Hid (Reads wr.drew wr.drew.heap.size _ _) := hide (r2.drewN 1)
      have S1 : Hid (Reads wr.drew wr.drew.heap.size _ _) := hide (s1.drewN 1)
      have S2 : Hid (Reads wr.drew wr.drew.heap.size _ _) := hide (s2.drewN 1)
      obtain ⟨x1, y1, z1, _⟩ := r1.shape
      obtain ⟨x2, y2, z2, _⟩ := r2.shape
      obtain ⟨x3, y3, z3, _⟩ := s1.shape
      obtain ⟨x4, y4, z4, _⟩ := s2.shape
      subst z1 z2 z3 z4
      have HGj := hide (HG.out j hlt)
      clear hx1 hx2 hc1 hc2 r1 r2 s1 s2
      generalize xs.getD j default = p at *
      go_wp2
      go_cut [26] from 11 to 26 (fun s wq => s = .bool false ∧ Below w.heap.size w wq)
      case first =>
        go_region_with (go_at_call 48; refine (eqMe _ p _ _ _ _ R1.out S1.out R2.out S2.out HGj.out).mono ?_; rintro e w1 ⟨rfl, b1⟩; have HB1 := hide (HB.out.trans (below_of_drew b1 |>.mono hs)); clear b1)
        all_goals (go_wp2_with fail; go_meet; exact ⟨rfl, HB1.out⟩)
      case rest =>
        obtain ⟨rfl, hB⟩ := hcut
        have HB2 := hide hB
        clear hB
        go_wp2
        exact ⟨⟨j + 1, hlt, by go_num, HB2.out⟩, by simp [intOf]; omega⟩
    · go_wp2
      go_ret
      exact ⟨rfl, HB.out⟩
set_option maxRecDepth 100000 in
set_option maxHeartbeats 4000000 in
theorem eqCls (w : World) (x : Cl) (p1 f1 m1 p2 f2 m2 : Value) (hp1 : Reads w w.heap.size (pool x.p) p1) (hf1 : Reads w w.heap.size (flds x.f) f1) (hm1 : Reads w w.heap.size (mets x.m) m1) (hp2 : Reads w w.heap.size (pool x.p) p2) (hf2 : Reads w w.heap.size (flds x.f) f2) (hm2 : Reads w w.heap.size (mets x.m) m2) (hg : ClG x) :
    Calls Tryz.prog 7 #[clV x p1 f1 m1, clV x p2 f2 m2] w fun e w' => e = .returned (.bool true) ∧ Below w.heap.size w w' := by
  obtain ⟨a1, k1, e1, _⟩ := hp1.shape
  obtain ⟨a2, k2, e2, _⟩ := hf1.shape
  obtain ⟨a3, k3, e3, _⟩ := hm1.shape
  obtain ⟨a4, k4, e4, _⟩ := hp2.shape
  obtain ⟨a5, k5, e5, _⟩ := hf2.shape
  obtain ⟨a6, k6, e6, _⟩ := hm2.shape
  subst e1 e2 e3 e4 e5 e6
  have bA := ((Below.refl w.heap.size w).alloc (Nat.le_refl _) (.cells #[.string x.n, .string x.s, .slice a1 x.p.length k1, .slice a2 x.f.length k2, .slice a3 x.m.length k3] 27)).alloc (by simp) (.cells #[.string x.n, .string x.s, .slice a4 x.p.length k4, .slice a5 x.f.length k5, .slice a6 x.m.length k6] 27)
  have HP1 := hide (hp1.at bA)
  have HF1 := hide (hf1.at bA)
  have HM1 := hide (hm1.at bA)
  have HP2 := hide (hp2.at bA)
  have HF2 := hide (hf2.at bA)
  have HM2 := hide (hm2.at bA)
  have G0 := heap_alloc_new w (.cells #[.string x.n, .string x.s, .slice a1 x.p.length k1, .slice a2 x.f.length k2, .slice a3 x.m.length k3] 27)
  have G1 := heap_alloc_new (w.alloc (.cells #[.string x.n, .string x.s, .slice a1 x.p.length k1, .slice a2 x.f.length k2, .slice a3 x.m.length k3] 27)) (.cells #[.string x.n, .string x.s, .slice a4 x.p.length k4, .slice a5 x.f.length k5, .slice a6 x.m.length k6] 27)
  simp only [World.size_alloc] at G1
  have E0 := hide ((Below.heap_alloc _ (.cells #[.string x.n, .string x.s, .slice a4 x.p.length k4, .slice a5 x.f.length k5, .slice a6 x.m.length k6] 27) _ (by simp)).trans G0)
  have E1 := hide G1
  have HB := hide bA
  have HG := hide hg
  have hsz : Hid (w.heap.size + 1 < ((w.alloc (.cells #[.string x.n, .string x.s, .slice a1 x.p.length k1, .slice a2 x.f.length k2, .slice a3 x.m.length k3] 27)).alloc (.cells #[.string x.n, .string x.s, .slice a4 x.p.length k4, .slice a5 x.f.length k5, .slice a6 x.m.length k6] 27)).heap.size) := hide (by simp)
  clear hp1 hf1 hm1 hp2 hf2 hm2 bA hg G0 G1
  have n1 : (x.n.toList != x.n.toList) = false := by simp
  have n2 : (x.s.toList != x.s.toList) = false := by simp
  unfold clV
  go_enter Tryz.func7, Tryz.ntmps7
  go_wp2_with fail
  generalize (w.alloc (.cells #[.string x.n, .string x.s, .slice a1 x.p.length k1, .slice a2 x.f.length k2, .slice a3 x.m.length k3] 27)).alloc (.cells #[.string x.n, .string x.s, .slice a4 x.p.length k4, .slice a5 x.f.length k5, .slice a6 x.m.length k6] 27) = W at *
  refine (eqKcs _ _ _ x.p HP1.out HP2.out HG.out.p).mono ?_
  rintro e w1 ⟨rfl, b1⟩
  replace E0 := hide ((b1.block w.heap.size (by have := hsz.out; omega)).trans E0.out)
  replace E1 := hide ((b1.block (w.heap.size + 1) hsz.out).trans E1.out)
  replace hsz := hide (Nat.lt_of_lt_of_le hsz.out b1.size)
  replace HF1 := hide (HF1.out.at b1)
  replace HF2 := hide (HF2.out.at b1)
  replace HM1 := hide (HM1.out.at b1)
  replace HM2 := hide (HM2.out.at b1)
  replace HB := hide (HB.out.trans (b1.mono HB.out.size))
  clear b1
  have f3 := (box_of E0.out).1 3 _ rfl
  have g3 := (box_of E1.out).1 3 _ rfl
  go_wp2_with fail
  clear f3 g3
  refine (eqFds _ _ _ x.f HF1.out HF2.out HG.out.f).mono ?_
  rintro e w2 ⟨rfl, b2⟩
  replace E0 := hide ((b2.block w.heap.size (by have := hsz.out; omega)).trans E0.out)
  replace E1 := hide ((b2.block (w.heap.size + 1) hsz.out).trans E1.out)
  replace HM1 := hide (HM1.out.at b2)
  replace HM2 := hide (HM2.out.at b2)
  replace HB := hide (HB.out.trans (b2.mono HB.out.size))
  clear b2
  have f4 := (box_of E0.out).1 4 _ rfl
  have g4 := (box_of E1.out).1 4 _ rfl
  go_wp2_with fail
  clear f4 g4
  refine (eqMes _ _ _ x.m HM1.out HM2.out HG.out.m (fun y hy => (HG.out.ms y hy).2.2.1)).mono ?_
  rintro e w3 ⟨rfl, b3⟩
  replace HB := hide (HB.out.trans (b3.mono HB.out.size))
  clear b3
  go_wp2
  go_ret
  exact ⟨rfl, HB.out⟩
end Go.Proofs.YtpgmipbanpofaaaGreatDoor
/-
  What the laws over classes lean on.
-/
namespace Go.Proofs.YtpgmipbanpofaaaGreatDoor
open Go.RowKit

theorem clD_reads {w : World} {B : Nat} {x : Cl} {a b u1 u2 u3 : Value} (h : ReadsL w B (clD x) [a, b, u1, u2, u3]) : Reads w B (pool x.p) u1 ∧ Reads w B (flds x.f) u2 ∧ Reads w B (mets x.m) u3 := by
  obtain ⟨_, _, e, _, h⟩ := readsL_cons h
  cases e
  obtain ⟨_, _, e, _, h⟩ := readsL_cons h
  cases e
  obtain ⟨_, _, e, h1, h⟩ := readsL_cons h
  cases e
  obtain ⟨_, _, e, h2, h⟩ := readsL_cons h
  cases e
  obtain ⟨_, _, e, h3, h⟩ := readsL_cons h
  cases e
  exact ⟨h1, h2, h3⟩
theorem clD_own {w : World} {b hi : Nat} {x : Cl} {s t u1 u2 u3 : Value} (h : OwnDL w b hi (clD x) [s, t, u1, u2, u3]) : Reads w w.heap.size (pool x.p) u1 ∧ Reads w w.heap.size (flds x.f) u2 ∧ Reads w w.heap.size (mets x.m) u3 := clD_reads (h.rd (Nat.le_refl _))
end Go.Proofs.YtpgmipbanpofaaaGreatDoor
