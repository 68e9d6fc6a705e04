/-
  Joined: VlB, ValsS.
-/
import Derived.Test.YthlaihkpffddcaaJ17
import Derived.Test.YthlaihkpffddcaaJ34
/-
  Values: what is right.
-/
namespace Go.Proofs.Ythlaihkpffddcaa
open Go.RowKit

def vlB (v : Vl) : Bool := vOk v.r v.n
end Go.Proofs.Ythlaihkpffddcaa
/-
  Values in the model: whether all are right.
-/
namespace Go.Proofs.Ythlaihkpffddcaa
open Go.RowKit

set_option maxRecDepth 100000 in
set_option maxHeartbeats 4000000 in
theorem valsS (w : World) (xs : List Vl) (u : Value) (h : Reads w w.heap.size (vls xs) u) (hm : xs.length ≤ 1048576) :
    Calls Try.prog 68 #[u] w fun e w' => e = .returned (.bool (xs.all vlB)) ∧ Below w.heap.size w w' := by
  have HR := hide h
  obtain ⟨a1, c1, e1, _⟩ := h.shape
  subst e1
  clear h
  have HY : Hid (∀ j, j < xs.length → vlB (xs.getD j default) = false → xs.all vlB = false) := hide (fun j h1 h2 => allNo h1 h2)
  have HN : Hid ((∀ j, j < xs.length → vlB (xs.getD j default) = true) → xs.all vlB = true) := hide (fun h => allYes h)
  generalize xs.all vlB = V at *
  go_enter Try.func68, Try.ntmps68
  go_wp2
  go_loopw [3] (fun i wr => ∃ j : Nat, j ≤ xs.length ∧ i = .int .i64 (j : Int) ∧ Hid (Below w.heap.size w wr) ∧ Hid (∀ i, i < j → vlB (xs.getD i default) = true)) (fun i _ => xs.length - (intOf i).toNat)
  case atStart => exact ⟨0, Nat.zero_le _, rfl, hide (Below.refl _ _), hide (fun i hi => by omega)⟩
  case round =>
    obtain ⟨j, hj, rfl, HB, HQ⟩ := hrel
    by_cases hlt : j < xs.length
    · obtain ⟨a', cap', ea, hcap, _, hc⟩ := val_at (HR.out.at HB.out)
      cases ea
      obtain ⟨b, o, rfl, hbb, hcell⟩ := hc (by omega)
      obtain ⟨d0, d1⟩ := hcell j hlt
      clear hcell hc
      obtain ⟨y, hy⟩ : ∃ y, xs.getD j default = y := ⟨_, rfl⟩
      rw [hy] at d0 d1
      have HX := hide hy
      clear hy
      go_wp2_with fail
      refine (valSpec y.r y.n _).mono ?_
      rintro e w1 ⟨rfl, b1⟩
      replace HB := hide (HB.out.trans (b1.mono HB.out.size))
      clear b1
      cases k : vOk y.r y.n with
      | false =>
        have HF : Hid (V = false) := hide (HY.out j hlt (by rw [HX.out]; exact k))
        go_wp2
        go_ret
        exact ⟨by rw [HF.out]; rfl, HB.out⟩
      | true =>
        have HQ2 : Hid (∀ i, i < j + 1 → vlB (xs.getD i default) = true) := hide (fun i hi => by
          rcases Nat.lt_succ_iff_lt_or_eq.1 hi with h | rfl
          · exact HQ.out i h
          · rw [HX.out]; exact k)
        go_wp2
        exact ⟨⟨j + 1, by omega, by go_num, HB, HQ2⟩, by simp [intOf]; omega⟩
    · obtain rfl : j = xs.length := by omega
      have HF : Hid (V = true) := hide (HN.out HQ.out)
      go_wp2
      go_ret
      exact ⟨by rw [HF.out]; rfl, HB.out⟩
end Go.Proofs.Ythlaihkpffddcaa
