/-
  What sameStamps answers of equal clocks.
-/
import Derived.Test.YtebilohcdpecoabClkR
import Derived.Laws.StructEq
import Derived.RegionTactic
namespace Go.Proofs.Ytebilohcdpecoab
open Go.RowKit

set_option maxRecDepth 100000 in
set_option maxHeartbeats 2000000 in
theorem sameK (w : World) (v1 v2 : Value) (xs : List Smp) (h1 : Reads w w.heap.size (smps xs) v1) (h2 : Reads w w.heap.size (smps xs) v2) (hm : xs.length ≤ 1048576) :
    Calls Try.prog 10 #[v1, v2] w fun e w' => e = .returned (.bool true) ∧ Below w.heap.size w w' := by
  have HX1 := hide h1
  have HX2 := hide h2
  obtain ⟨a1, cap1, rfl, _⟩ := h1.shape
  obtain ⟨a2, cap2, rfl, _⟩ := h2.shape
  clear h1 h2
  obtain ⟨n, hn⟩ : ∃ n, xs.length = n := ⟨_, rfl⟩
  have hne : ((n : Int) != (n : Int)) = false := by simp
  rw [hn] at HX1 HX2 hm ⊢
  go_enter Try.func10, Try.ntmps10
  go_wp2
  go_loopw [5] (fun i wr => ∃ j : Nat, j ≤ n ∧ i = .int .i64 (j : Int) ∧ Below w.heap.size w wr) (fun i _ => n - (intOf i).toNat)
  case atStart => exact ⟨0, Nat.zero_le _, rfl, Below.refl _ _⟩
  case round =>
    obtain ⟨j, hj, rfl, hb⟩ := hrel
    have HB := hide hb
    have hs := hb.size
    clear hb
    by_cases hlt : j < n
    · obtain ⟨a1', cap1', ea1, _, _, hx1⟩ := stamp_at (HX1.out.at HB.out)
      rw [hn] at ea1
      cases ea1
      obtain ⟨b1, o1, rfl, hb1, hc1⟩ := hx1 (by omega)
      obtain ⟨a2', cap2', ea2, _, _, hx2⟩ := stamp_at (HX2.out.at HB.out)
      rw [hn] at ea2
      cases ea2
      obtain ⟨b2, o2, rfl, hb2, hc2⟩ := hx2 (by omega)
      have hq1 := hc1 j (by omega)
      have hq2 := hc2 j (by omega)
      generalize xs.getD j default = z at *
      obtain ⟨x, y⟩ := z
      have q1 : wr.drew.cell? ⟨b1, o1 + j * 2, none⟩ = some (.int .i64 x) := hq1.1
      have q2 : wr.drew.cell? ⟨b1, o1 + j * 2 + 1, none⟩ = some (.int .i64 y) := hq1.2
      have q3 : wr.drew.cell? ⟨b2, o2 + j * 2, none⟩ = some (.int .i64 x) := hq2.1
      have q4 : wr.drew.cell? ⟨b2, o2 + j * 2 + 1, none⟩ = some (.int .i64 y) := hq2.2
      clear hx1 hx2 hc1 hc2 hq1 hq2
      have e1 : (x == x) = true := by simp
      have e2 : (y == y) = true := by simp
      go_upto_region 6 with fail
      go_region
      all_goals (go_wp2; exact ⟨⟨j + 1, hlt, by go_num, below_drewN HB.out 1⟩, by simp [intOf]; omega⟩)
    · go_wp2
      go_ret
      exact ⟨rfl, HB.out⟩
end Go.Proofs.Ytebilohcdpecoab
