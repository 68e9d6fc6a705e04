/-
  Code, by the program: jumps, ends.
-/
import Derived.Test.YtonkaomfahmchaaDoorInsOkJ
namespace Go.Proofs.YtonkaomfahmchaaDoor
open Go.RowKit

set_option maxRecDepth 100000 in
set_option maxHeartbeats 4000000 in
theorem jumpI (w : World) (x : Isn) (v : Value) (st : List Int) (h : Reads w w.heap.size (ints st) v) (hl : st.length ≤ 1000) (hs : ∀ j, j < st.length → 0 ≤ st.getD j default ∧ st.getD j default ≤ 255) : Calls Tryd.prog 39 #[inV x, v] w fun e w' => ∃ z, e = .returned (.tuple #[.int .u8 z, .bool (inB x.n 0 ((st.length : Int) - 1))]) ∧ Hid (inB x.n 0 ((st.length : Int) - 1) = true → z = st.getD x.n.toNat default) ∧ Below w.heap.size w w' := by
  have bA := (Below.refl w.heap.size w).alloc (Nat.le_refl _) (.cells #[.int .i64 x.o, .int .i64 x.n] 33)
  have HX := int_at (h.at bA)
  obtain ⟨a, cap, rfl, hcap, _⟩ := int_at h
  have HB := hide bA
  clear bA h
  obtain ⟨xo, xn⟩ := x
  unfold inV
  dsimp only at *
  generalize hn : st.length = n at *
  cases c : inB xn 0 ((n : Int) - 1) with
  | false =>
    clear HX
    go_enter Tryd.func39, Tryd.ntmps39
    go_wp2_with (go_at_call 31; refine (inImpl _ _ _ _).mono ?_; rintro e y ⟨rfl, hy⟩; rw [hy, c]; clear hy y)
    go_ret2
    exact ⟨_, by first | rfl | (rw [c]; rfl), hide (fun h => by first | cases h | (rw [c] at h; cases h)), HB.out⟩
  | true =>
    have hr := inB_yes c
    obtain ⟨q, rfl⟩ : ∃ q : Nat, xn = (q : Int) := ⟨xn.toNat, by omega⟩
    have hqn : q < n := by omega
    obtain ⟨a', cap', ea, _, _, h2⟩ := HX
    cases ea
    obtain ⟨b, of, rfl, _, h3⟩ := h2 (by omega)
    have e3 := h3 q hqn
    have hz := hs q hqn
    clear h2 h3
    rw [Int.toNat_natCast]
    generalize st.getD q default = z at *
    have hqi : (q : Int) < (n : Int) := by omega
    clear hr hs
    go_enter Tryd.func39, Tryd.ntmps39
    go_wp2_with (go_at_call 31; refine (inImpl _ _ _ _).mono ?_; rintro e y ⟨rfl, hy⟩; rw [hy, c]; clear hy y)
    go_ret2
    exact ⟨_, by first | rfl | (rw [c]; rfl), hide (fun _ => rfl), HB.out⟩
set_option maxRecDepth 100000 in
set_option maxHeartbeats 4000000 in
theorem endsImpl (w : World) (o : Int) : Calls Tryd.prog 32 #[.int .i64 o] w fun e w' => e = .returned (.bool (endB o)) ∧ w' = w := by
  unfold endB
  cases q1 : (o == 14) with
  | true =>
    go_enter Tryd.func32, Tryd.ntmps32
    go_wp2
    go_ret
    exact ⟨rfl, rfl⟩
  | false =>
    cases q2 : (o == 19) with
    | true =>
      go_enter Tryd.func32, Tryd.ntmps32
      go_wp2
      go_ret
      exact ⟨rfl, rfl⟩
    | false =>
      go_enter Tryd.func32, Tryd.ntmps32
      go_wp2
      go_ret
      exact ⟨rfl, rfl⟩
set_option maxRecDepth 100000 in
set_option maxHeartbeats 4000000 in
theorem isOpImpl (w : World) (o : Int) : Calls Tryd.prog 35 #[.int .i64 o] w fun e w' => e = .returned (.bool (inB o 1 24)) ∧ w' = w := by
  go_enter Tryd.func35, Tryd.ntmps35
  go_wp2_with (go_at_call 31; refine (inImpl _ _ _ _).mono ?_; rintro e y ⟨rfl, hy⟩; rw [hy]; clear hy y)
  go_ret
  exact ⟨rfl, rfl⟩
end Go.Proofs.YtonkaomfahmchaaDoor
