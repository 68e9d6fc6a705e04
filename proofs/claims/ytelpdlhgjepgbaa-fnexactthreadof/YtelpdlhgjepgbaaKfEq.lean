/-
  Texts, consts and fields held against each other.
-/
import Derived.Test.YtelpdlhgjepgbaaKfTo
import Derived.Test.YtelpdlhgjepgbaaEq
import Derived.Deep.QuietTactic
import Derived.BigQuiet
namespace Go.Proofs.Ytelpdlhgjepgbaa
open Go.RowKit

set_option maxRecDepth 100000 in
set_option maxHeartbeats 1000000 in
theorem eqSt (w : World) (v1 v2 : Value) (xs : List ByteArray) (h1 : Reads w w.heap.size (strs xs) v1) (h2 : Reads w w.heap.size (strs xs) v2) (hm : xs.length ≤ 1048576) :
    Calls Try.prog 76 #[v1, v2] w fun e w' => e = .returned (.bool true) ∧ ∃ q, w' = w.drewN q := by
  obtain ⟨a1, c1, rfl, _, _, hx1⟩ := str_at h1
  obtain ⟨a2, c2, rfl, _, _, hx2⟩ := str_at h2
  have HX1 := hide hx1
  have HX2 := hide hx2
  clear h1 h2 hx1 hx2
  have hne : ((xs.length : Int) != (xs.length : Int)) = false := by simp
  generalize hn : xs.length = n at *
  go_enter Try.func76, Try.ntmps76
  go_wp2
  go_loopw [5] (fun i wr => ∃ k : Nat, k ≤ n ∧ i = .int .i64 k ∧ ∃ q, wr = w.drewN q) (fun i _ => n - (intOf i).toNat)
  case atStart => exact ⟨0, Nat.zero_le _, rfl, 0, rfl⟩
  case round =>
    obtain ⟨k, hk, rfl, q, rfl⟩ := hrel
    by_cases hlt : k < n
    · obtain ⟨b1, o1, rfl, _, hc1⟩ := HX1.out (by omega)
      obtain ⟨b2, o2, rfl, _, hc2⟩ := HX2.out (by omega)
      have e1 := hc1 k hlt
      have e2 := hc2 k hlt
      clear hc1 hc2 HX1 HX2
      have hbe : ((xs.getD k default).toList != (xs.getD k default).toList) = false := by simp
      go_wp2
      go_quiet (fail)
      go_wp2
      go_roundw
      case rel => exact ⟨k + 1, by omega, by go_num, q + nq, rfl⟩
      case measure => simp [intOf]; omega
    · go_wp2
      go_ret
      exact ⟨rfl, q, rfl⟩
set_option maxRecDepth 100000 in
set_option maxHeartbeats 1000000 in
theorem eqKc (w : World) (x : Kc) : Calls Try.prog 68 #[kcV x, kcV x] w fun e w' => e = .returned (.bool true) ∧ Below w.heap.size w w' := by
  have e1 : (x.k != x.k) = false := by simp
  have e2 : (x.n != x.n) = false := by simp
  have e3 : (x.a.toList != x.a.toList) = false := by simp
  have e4 : (x.b.toList != x.b.toList) = false := by simp
  unfold kcV
  go_enter Try.func68, Try.ntmps68
  go_wp2
  go_ret
  exact ⟨rfl, ((Below.refl _ _).alloc (Nat.le_refl _) _).alloc (by simp) _⟩
set_option maxRecDepth 100000 in
set_option maxHeartbeats 1000000 in
theorem eqFd (w : World) (x : Fd) : Calls Try.prog 69 #[fdV x, fdV x] w fun e w' => e = .returned (.bool true) ∧ Below w.heap.size w w' := by
  have e3 : (x.n.toList != x.n.toList) = false := by simp
  have e4 : (x.t.toList != x.t.toList) = false := by simp
  unfold fdV
  go_enter Try.func69, Try.ntmps69
  go_wp2
  go_ret
  exact ⟨rfl, ((Below.refl _ _).alloc (Nat.le_refl _) _).alloc (by simp) _⟩
set_option maxRecDepth 100000 in
set_option maxHeartbeats 4000000 in
theorem eqKcs (w : World) (v1 v2 : Value) (xs : List Kc) (h1 : Reads w w.heap.size (pool xs) v1) (h2 : Reads w w.heap.size (pool xs) v2) (hm : xs.length ≤ 1048576) :
    Calls Try.prog 56 #[v1, v2] w fun e w' => e = .returned (.bool true) ∧ Below w.heap.size w w' := by
  have HX1 : Hid (∀ wr, Below w.heap.size w wr → _) := hide (fun wr hb => const_at (h1.at hb))
  have HX2 : Hid (∀ wr, Below w.heap.size w wr → _) := hide (fun wr hb => const_at (h2.at hb))
  obtain ⟨a1, cap1, rfl, _⟩ := const_at h1
  obtain ⟨a2, cap2, rfl, _⟩ := const_at h2
  clear h1 h2
  generalize hn : xs.length = n at *
  have hne : ((n : Int) != (n : Int)) = false := by simp
  go_enter Try.func56, Try.ntmps56
  go_wp2
  go_loopw [5] (fun i wr => ∃ j : Nat, j ≤ n ∧ i = .int .i64 (j : Int) ∧ Below w.heap.size w wr) (fun i _ => n - (intOf i).toNat)
  case atStart => exact ⟨0, Nat.zero_le _, rfl, Below.refl _ _⟩
  case round =>
    obtain ⟨j, hj, rfl, hb⟩ := hrel
    have HB := hide hb
    have hs := hb.size
    clear hb
    by_cases hlt : j < n
    · obtain ⟨a1', cap1', ea1, _, _, hx1⟩ := HX1.out wr HB.out
      cases ea1
      obtain ⟨b1, o1, rfl, hb1, hc1⟩ := hx1 (by omega)
      obtain ⟨a2', cap2', ea2, _, _, hx2⟩ := HX2.out wr HB.out
      cases ea2
      obtain ⟨b2, o2, rfl, hb2, hc2⟩ := hx2 (by omega)
      obtain ⟨e0, e1, e2, e3⟩ := hc1 j hlt
      obtain ⟨d0, d1, d2, d3⟩ := hc2 j hlt
      clear hx1 hx2 hc1 hc2
      generalize xs.getD j default = p at *
      go_wp2
      go_cut [26] from 11 to 26 (fun s wq => s = .bool false ∧ Below w.heap.size w wq)
      case first =>
        go_region_with (go_at_call 68; refine (eqKc _ p).mono ?_; rintro e w1 ⟨rfl, b1⟩; have HB1 := hide (HB.out.trans (below_of_drew b1 |>.mono hs)); clear b1)
        all_goals (go_wp2_with fail; go_meet; exact ⟨rfl, HB1.out⟩)
      case rest =>
        obtain ⟨rfl, hB⟩ := hcut
        have HB2 := hide hB
        clear hB
        go_wp2
        exact ⟨⟨j + 1, hlt, by go_num, HB2.out⟩, by simp [intOf]; omega⟩
    · go_wp2
      go_ret
      exact ⟨rfl, HB.out⟩
set_option maxRecDepth 100000 in
set_option maxHeartbeats 4000000 in
theorem eqFds (w : World) (v1 v2 : Value) (xs : List Fd) (h1 : Reads w w.heap.size (flds xs) v1) (h2 : Reads w w.heap.size (flds xs) v2) (hm : xs.length ≤ 1048576) :
    Calls Try.prog 57 #[v1, v2] w fun e w' => e = .returned (.bool true) ∧ Below w.heap.size w w' := by
  have HX1 : Hid (∀ wr, Below w.heap.size w wr → _) := hide (fun wr hb => field_at (h1.at hb))
  have HX2 : Hid (∀ wr, Below w.heap.size w wr → _) := hide (fun wr hb => field_at (h2.at hb))
  obtain ⟨a1, cap1, rfl, _⟩ := field_at h1
  obtain ⟨a2, cap2, rfl, _⟩ := field_at h2
  clear h1 h2
  generalize hn : xs.length = n at *
  have hne : ((n : Int) != (n : Int)) = false := by simp
  go_enter Try.func57, Try.ntmps57
  go_wp2
  go_loopw [5] (fun i wr => ∃ j : Nat, j ≤ n ∧ i = .int .i64 (j : Int) ∧ Below w.heap.size w wr) (fun i _ => n - (intOf i).toNat)
  case atStart => exact ⟨0, Nat.zero_le _, rfl, Below.refl _ _⟩
  case round =>
    obtain ⟨j, hj, rfl, hb⟩ := hrel
    have HB := hide hb
    have hs := hb.size
    clear hb
    by_cases hlt : j < n
    · obtain ⟨a1', cap1', ea1, _, _, hx1⟩ := HX1.out wr HB.out
      cases ea1
      obtain ⟨b1, o1, rfl, hb1, hc1⟩ := hx1 (by omega)
      obtain ⟨a2', cap2', ea2, _, _, hx2⟩ := HX2.out wr HB.out
      cases ea2
      obtain ⟨b2, o2, rfl, hb2, hc2⟩ := hx2 (by omega)
      obtain ⟨e0, e1⟩ := hc1 j hlt
      obtain ⟨d0, d1⟩ := hc2 j hlt
      clear hx1 hx2 hc1 hc2
      generalize xs.getD j default = p at *
      go_wp2
      go_cut [26] from 11 to 26 (fun s wq => s = .bool false ∧ Below w.heap.size w wq)
      case first =>
        go_region_with (go_at_call 69; refine (eqFd _ p).mono ?_; rintro e w1 ⟨rfl, b1⟩; have HB1 := hide (HB.out.trans (below_of_drew b1 |>.mono hs)); clear b1)
        all_goals (go_wp2_with fail; go_meet; exact ⟨rfl, HB1.out⟩)
      case rest =>
        obtain ⟨rfl, hB⟩ := hcut
        have HB2 := hide hB
        clear hB
        go_wp2
        exact ⟨⟨j + 1, hlt, by go_num, HB2.out⟩, by simp [intOf]; omega⟩
    · go_wp2
      go_ret
      exact ⟨rfl, HB.out⟩
end Go.Proofs.Ytelpdlhgjepgbaa
