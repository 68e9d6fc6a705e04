/-
  Rows of packets and nets: copied into new memory, held against each other.
-/
import Derived.Test.YtoaenoakdbieaabNetTo
import Derived.Test.YtoaenoakdbieaabEq
namespace Go.Proofs.Ytoaenoakdbieaab
open Go.RowKit

theorem Try.infoPk : (Try.prog.info? 39).map (fun i => (i.zero, i.size, i.bytes)) = some (some (.agg #[.int .i64 0, .int .i64 0, .slice none 0 0, .bool false]), 4, 48) := by kernel_rfl

def zeroX : Pk × Value := (⟨0, 0, [], false⟩, .slice none 0 0)
theorem ownX_made {w : World} {b hi g n c : Nat} (h : w.ownsRow b 39 4 (.slice (some ⟨g, 0, none⟩) n c) n ((List.replicate n zeroX).flatMap pkC)) (hg : g < hi) : OwnX w b hi (.slice (some ⟨g, 0, none⟩) n c) (List.replicate n zeroX) := by
  refine ⟨by rw [List.length_replicate]; exact h, fun x hx => ?_, ⟨fun u hu q hq => ?_, ?_⟩, fun q hq => ?_, fun u hu q hq => ?_⟩
  · rw [(List.mem_replicate.1 hx).2]; exact World.ownsRow_nil _ _ _ _
  · rw [List.map_replicate] at hu
    rw [(List.mem_replicate.1 hu).2] at hq; cases hq
  · rw [List.map_replicate, List.pairwise_replicate]; right; intro q hq; cases hq
  · cases hq; exact hg
  · rw [List.map_replicate] at hu
    rw [(List.mem_replicate.1 hu).2] at hq; cases hq

set_option maxHeartbeats 400000 in
theorem eqBt (w : World) (b1 b2 : Nat) (v1 v2 : Value) (zs : List Int) (h1 : Bt w b1 v1 zs) (h2 : Bt w b2 v2 zs) :
    Calls Try.prog 46 #[v1, v2] w fun e w' => e = .returned (.bool true) ∧ ∃ q, w' = w.drewN q := by
  obtain ⟨a1, c1, rfl, _, i1⟩ := h1
  obtain ⟨a2, c2, rfl, _, i2⟩ := h2
  have hl := i1.2.1
  have hne : ((zs.length : Int) != (zs.length : Int)) = false := by simp
  have H1 := hide i1.2.2.2
  have H2 := hide i2.2.2.2
  clear i1 i2
  generalize hn : zs.length = n at *
  go_enter Try.func46, Try.ntmps46
  go_wp2
  go_loopw [5] (fun i wr => ∃ k : Nat, k ≤ n ∧ i = .int .i64 k ∧ ∃ q, wr = w.drewN q) (fun i _ => n - (intOf i).toNat)
  case atStart => exact ⟨0, Nat.zero_le _, rfl, 0, rfl⟩
  case round =>
    obtain ⟨k, hk, rfl, q, rfl⟩ := hrel
    by_cases hlt : k < n
    · obtain ⟨g1, o1, rfl, _, hc1⟩ := H1.out (by omega)
      obtain ⟨g2, o2, rfl, _, hc2⟩ := H2.out (by omega)
      have e1 := hc1 k hlt
      have e2 := hc2 k hlt
      clear hc1 hc2
      have hbe : ((zs.getD k 0) != (zs.getD k 0)) = false := by simp
      go_wp2
      go_quiet (fail)
      go_wp2
      go_roundw
      case rel => exact ⟨k + 1, by omega, by go_num, q + nq, rfl⟩
      case measure => simp [intOf]; omega
    · go_wp2
      go_ret
      exact ⟨rfl, q, rfl⟩

set_option maxRecDepth 100000 in
set_option maxHeartbeats 1000000 in
theorem eqPk (w : World) (p : Pk) (v1 v2 : Value) (h1 : Bt w w.heap.size v1 p.b) (h2 : Bt w w.heap.size v2 p.b) :
    Calls Try.prog 17 #[pkV p v1, pkV p v2] w fun e w' => e = .returned (.bool true) ∧ Below w.heap.size w w' := by
  have H1 := hide h1
  have H2 := hide h2
  obtain ⟨a1, c1, rfl, _⟩ := h1
  obtain ⟨a2, c2, rfl, _⟩ := h2
  obtain ⟨f, t, zs, s⟩ := p
  simp only at H1 H2
  unfold pkV
  simp only
  have n0 : (f != f) = false := by simp
  have n1 : (t != t) = false := by simp
  have n2 : (s != s) = false := by simp
  go_enter Try.func17, Try.ntmps17
  go_wp2_with fail
  have bA := ((Below.refl w.heap.size w).alloc (Nat.le_refl _) (.cells #[.int .i64 f, .int .i64 t, .slice a1 zs.length c1, .bool s] 39)).alloc (by simp) (.cells #[.int .i64 f, .int .i64 t, .slice a2 zs.length c2, .bool s] 39)
  refine (eqBt _ _ _ _ _ _ (H1.out.at bA) (H2.out.at bA)).mono ?_
  rintro e w1 ⟨rfl, q, rfl⟩
  have HB := hide bA
  clear bA
  go_wp2
  go_ret
  exact ⟨rfl, below_drewN HB.out q⟩

end Go.Proofs.Ytoaenoakdbieaab
