/-
  A thread's place in a model: what it is, and what the model does.
-/
import Derived.Test.YtelpdlhgjepgbaaMdR
import Derived.Test.YtelpdlhgjepgbaaPrgF
namespace Go.Proofs.Ytelpdlhgjepgbaa
open Go.RowKit

def thrAt (ts : List Th) (q : Int) : Int := atFst (fun y => y.i == q) ts
set_option maxRecDepth 100000 in
set_option maxHeartbeats 4000000 in
theorem threadOfS (w : World) (x : Md) (u1 u2 u3 u4 u5 : Value) (q : Int) (h4 : Reads w w.heap.size (ths x.t) u4) (hm : x.t.length ≤ 1048576) :
    Calls Try.prog 5 #[mdV x u1 u2 u3 u4 u5, .int .i64 q] w fun e w' => e = .returned (.int .i64 (thrAt x.t q)) ∧ Below w.heap.size w w' := by
  have HR := hide h4
  obtain ⟨a1, c1, e1, _⟩ := h4.shape
  subst e1
  clear h4
  have HY : Hid (∀ j, j < x.t.length → ((x.t.getD j default).i == q) = true → (∀ i, i < j → ((x.t.getD i default).i == q) = false) → thrAt x.t q = (j : Int)) := hide (fun j hj h h0 => atFst_hit hj h h0)
  have HN : Hid ((∀ i, i < x.t.length → ((x.t.getD i default).i == q) = false) → thrAt x.t q = -1) := hide (fun h0 => atFst_no h0)
  generalize thrAt x.t q = V at *
  have bA := ((Below.refl w.heap.size w).alloc (Nat.le_refl _) (.cells #[u1, u2, u3, .slice a1 x.t.length c1, u5] 44))
  have G0 := heap_alloc_new w (.cells #[u1, u2, u3, .slice a1 x.t.length c1, u5] 44)
  have E0 := hide (G0)
  have HB := hide bA
  replace HR := hide (HR.out.at bA)
  clear bA G0
  unfold mdV
  go_enter Try.func5, Try.ntmps5
  go_wp2
  generalize (w.alloc (.cells #[u1, u2, u3, .slice a1 x.t.length c1, u5] 44)) = W at *
  have q0 := (box_of E0.out).1 0 _ rfl
  have q1 := (box_of E0.out).1 1 _ rfl
  have q2 := (box_of E0.out).1 2 _ rfl
  have q3 := (box_of E0.out).1 3 _ rfl
  have q4 := (box_of E0.out).1 4 _ rfl
  go_loopw [5] (fun i wr => ∃ j : Nat, j ≤ x.t.length ∧ i = .int .i64 (j : Int) ∧ wr = W ∧ Hid (∀ i, i < j → ((x.t.getD i default).i == q) = false)) (fun i _ => x.t.length - (intOf i).toNat)
  case atStart => exact ⟨0, Nat.zero_le _, rfl, rfl, hide (fun i hi => by omega)⟩
  case round =>
    obtain ⟨j, hj, rfl, rfl, HQ⟩ := hrel
    by_cases hlt : j < x.t.length
    · obtain ⟨a', cap', ea, hcap, _, hc⟩ := thread_at HR.out
      cases ea
      obtain ⟨b, o, rfl, hbb, hcell⟩ := hc (by omega)
      obtain ⟨pv1, e0, e1, e2, e3, r1⟩ := hcell j hlt
      clear hcell hc r1 e1 e2 e3
      obtain ⟨y, hy⟩ : ∃ y, x.t.getD j default = y := ⟨_, rfl⟩
      rw [hy] at e0
      have HX := hide hy
      clear hy
      cases k : (y.i == q) with
      | true =>
        have HF : Hid (V = (j : Int)) := hide (HY.out j hlt (by rw [HX.out]; exact k) HQ.out)
        go_wp2
        go_ret
        exact ⟨by rw [HF.out]; rfl, HB.out⟩
      | false =>
        have HQ2 : Hid (∀ i, i < j + 1 → ((x.t.getD i default).i == q) = false) := hide (fun i hi => by
          rcases Nat.lt_succ_iff_lt_or_eq.1 hi with h | rfl
          · exact HQ.out i h
          · rw [HX.out]; exact k)
        go_wp2
        exact ⟨⟨j + 1, by omega, by go_num, by first | rfl | trivial, HQ2⟩, by simp [intOf]; omega⟩
    · obtain rfl : j = x.t.length := by omega
      have HF : Hid (V = -1) := hide (HN.out HQ.out)
      go_wp2
      go_ret
      exact ⟨by rw [HF.out]; rfl, HB.out⟩
end Go.Proofs.Ytelpdlhgjepgbaa
