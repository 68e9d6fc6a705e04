/-
  Jumps, and which place begins at a byte.
-/
import Derived.Test.YtonkaomfahmchaaDoorDecM
namespace Go.Proofs.YtonkaomfahmchaaDoor
open Go.RowKit

set_option maxRecDepth 100000 in
set_option maxHeartbeats 4000000 in
theorem jumpsImpl (w : World) (o : Int) : Calls Tryd.prog 26 #[.int .i64 o] w fun e w' => e = .returned (.bool (isJ o)) ∧ w' = w := by
  unfold isJ
  cases q1 : (o == 13) with
  | true =>
    go_enter Tryd.func26, Tryd.ntmps26
    go_wp2
    go_ret
    exact ⟨rfl, rfl⟩
  | false =>
    cases q2 : (o == 14) with
    | true =>
      go_enter Tryd.func26, Tryd.ntmps26
      go_wp2
      go_ret
      exact ⟨rfl, rfl⟩
    | false =>
      go_enter Tryd.func26, Tryd.ntmps26
      go_wp2
      go_ret
      exact ⟨rfl, rfl⟩
set_option maxRecDepth 100000 in
set_option maxHeartbeats 4000000 in
theorem indexImpl (w : World) (v : Value) (st : List Int) (z : Int) (h : Reads w w.heap.size (ints st) v) (hl : st.length ≤ 1000) : Calls Tryd.prog 27 #[v, .int .i64 z] w fun e w' => e = .returned (.int .i64 (fixN st (-1) z)) ∧ w' = w := by
  obtain ⟨a, cap, rfl, hcap, _, hx⟩ := int_at h
  have HX := hide hx
  have HH : Hid (∀ q, q < st.length → st.getD q default = z → (∀ i, i < q → ¬ st.getD i default = z) → fixN st (-1) z = (q : Int)) := hide (fun q h1 h2 h3 => fixN_hit h1 h2 h3)
  have HM : Hid ((∀ i, i < st.length → ¬ st.getD i default = z) → fixN st (-1) z = -1) := hide (fun h => fixN_miss h)
  clear h hx
  generalize hn : st.length = n at *
  go_enter Tryd.func27, Tryd.ntmps27
  go_wp2
  go_loopw [5, 8] (fun _ i wr => ∃ j : Nat, j ≤ n ∧ i = .int .i64 (j : Int) ∧ Hid (∀ i, i < j → ¬ st.getD i default = z) ∧ wr = w) (fun _ i _ => n - (intOf i).toNat)
  case atStart => exact ⟨0, Nat.zero_le _, rfl, hide (fun i hi => by omega), rfl⟩
  case round =>
    obtain ⟨j, hj, rfl, HN, rfl⟩ := hrel
    by_cases hlt : j < n
    · obtain ⟨b, o, rfl, _, hc⟩ := HX.out (by omega)
      have e0 := hc j hlt
      have HHj := hide (HH.out j hlt)
      obtain ⟨y, hy⟩ : ∃ y, st.getD j default = y := ⟨_, rfl⟩
      rw [hy] at e0 HHj
      have HY := hide hy
      clear hc hy
      cases c : (z == y) with
      | true =>
        have hzy : y = z := by simpa using (beq_iff_eq.1 c).symm
        have HF := hide (HHj.out hzy HN.out)
        clear hzy
        go_wp2
        go_ret
        exact ⟨by rw [HF.out]; rfl, rfl⟩
      | false =>
        have hzy : ¬ y = z := fun h => by rw [h] at c; simp at c
        have HN2 : Hid (∀ i, i < j + 1 → ¬ st.getD i default = z) := hide (fun i hi => by
          rcases Nat.lt_succ_iff_lt_or_eq.1 hi with h | rfl
          · exact HN.out i h
          · rw [HY.out]; exact hzy)
        clear HN hzy
        go_wp2
        exact ⟨⟨j + 1, by omega, by go_num, HN2, trivial⟩, by simp [intOf]; omega⟩
    · obtain rfl : j = n := by omega
      have HF := hide (HM.out HN.out)
      go_wp2
      go_ret
      exact ⟨by rw [HF.out]; rfl, rfl⟩
end Go.Proofs.YtonkaomfahmchaaDoor
