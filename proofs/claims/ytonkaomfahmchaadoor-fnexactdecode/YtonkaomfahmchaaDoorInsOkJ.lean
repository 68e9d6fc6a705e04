/-
  Code, by the program: what makes the bytes of a place.
-/
import Derived.Test.YtonkaomfahmchaaDoorInsOkI
namespace Go.Proofs.YtonkaomfahmchaaDoor
open Go.RowKit

set_option maxRecDepth 100000 in
set_option maxHeartbeats 4000000 in
theorem hasImpl (w : World) (o : Int) : Calls Tryd.prog 30 #[.int .i64 o] w fun e w' => e = .returned (.bool (hasB o)) ∧ Below w.heap.size w w' := by
  go_enter Tryd.func30, Tryd.ntmps30
  go_wp2_with fail
  refine (opImpl _ o).mono ?_
  rintro e w1 ⟨rfl, b1⟩
  have HB := hide b1
  clear b1
  cases c : hasB o with
  | false =>
    rw [opF_no c]
    have q := neqF0 w1
    go_wp2
    go_ret
    exact ⟨by rw [c]; rfl, HB.out⟩
  | true =>
    obtain ⟨k, hk⟩ := opF_yes c
    rw [hk]
    have q := neqF1 w1 k
    go_wp2
    go_ret
    exact ⟨by rw [c]; rfl, HB.out⟩
set_option maxRecDepth 100000 in
set_option maxHeartbeats 4000000 in
theorem pushI (w : World) (x : Isn) (v : Value) : Calls Tryd.prog 36 #[inV x, v] w fun e w' => ∃ z, e = .returned (.tuple #[.int .u8 z, .bool (inB x.n (-128) 127)]) ∧ Hid (inB x.n (-128) 127 = true → z = x.n + 128) ∧ Below w.heap.size w w' := by
  have bA := (Below.refl w.heap.size w).alloc (Nat.le_refl _) (.cells #[.int .i64 x.o, .int .i64 x.n] 33)
  have HX := Box.new w #[.int .i64 x.o, .int .i64 x.n] 33
  have e1 : (w.alloc (.cells #[.int .i64 x.o, .int .i64 x.n] 33)).cell? ⟨w.heap.size, 1, none⟩ = some (.int .i64 x.n) := HX 1 _ rfl
  have HB := hide bA
  clear bA HX
  cases c : inB x.n (-128) 127 with
  | false =>
    unfold inV
    go_enter Tryd.func36, Tryd.ntmps36
    go_upto_region 1 with fail
    generalize w.alloc (.cells #[.int .i64 x.o, .int .i64 x.n] 33) = W at *
    obtain ⟨g, hg⟩ : ∃ g, w.heap.size = g := ⟨_, rfl⟩
    rw [hg] at e1 ⊢
    have e2 : W.drew.cell? ⟨g, 1, none⟩ = some (.int .i64 x.n) := e1
    go_region_with (go_at_call 31; refine (inImpl _ _ _ _).mono ?_; rintro e y ⟨rfl, hy⟩; rw [hy, c]; clear hy y)
    all_goals (
      go_wp2_with fail
      go_ret2
      exact ⟨_, rfl, hide (fun h => by cases h), HB.out.drew⟩)
  | true =>
    have hr := inB_yes c
    unfold inV
    go_enter Tryd.func36, Tryd.ntmps36
    go_upto_region 1 with fail
    generalize w.alloc (.cells #[.int .i64 x.o, .int .i64 x.n] 33) = W at *
    obtain ⟨g, hg⟩ : ∃ g, w.heap.size = g := ⟨_, rfl⟩
    rw [hg] at e1 ⊢
    have e2 : W.drew.cell? ⟨g, 1, none⟩ = some (.int .i64 x.n) := e1
    go_region_with (go_at_call 31; refine (inImpl _ _ _ _).mono ?_; rintro e y ⟨rfl, hy⟩; rw [hy, c]; clear hy y)
    all_goals (
      go_wp2_with fail
      go_ret2
      exact ⟨_, rfl, hide (fun _ => by first | rfl | (rw [IntWalk.i64_in _ (by omega), IntWalk.u8_in _ (by omega)]) | (rw [IntWalk.u8_in _ (by omega)])), HB.out.drew⟩)
set_option maxRecDepth 100000 in
set_option maxHeartbeats 4000000 in
theorem poolI (w : World) (x : Isn) (v : Value) : Calls Tryd.prog 37 #[inV x, v] w fun e w' => ∃ z, e = .returned (.tuple #[.int .u8 z, .bool (inB x.n 0 23)]) ∧ Hid (inB x.n 0 23 = true → z = x.n) ∧ Below w.heap.size w w' := by
  have bA := (Below.refl w.heap.size w).alloc (Nat.le_refl _) (.cells #[.int .i64 x.o, .int .i64 x.n] 33)
  have HX := Box.new w #[.int .i64 x.o, .int .i64 x.n] 33
  have e1 : (w.alloc (.cells #[.int .i64 x.o, .int .i64 x.n] 33)).cell? ⟨w.heap.size, 1, none⟩ = some (.int .i64 x.n) := HX 1 _ rfl
  have HB := hide bA
  clear bA HX
  cases c : inB x.n 0 23 with
  | false =>
    unfold inV
    go_enter Tryd.func37, Tryd.ntmps37
    go_upto_region 1 with fail
    generalize w.alloc (.cells #[.int .i64 x.o, .int .i64 x.n] 33) = W at *
    obtain ⟨g, hg⟩ : ∃ g, w.heap.size = g := ⟨_, rfl⟩
    rw [hg] at e1 ⊢
    have e2 : W.drew.cell? ⟨g, 1, none⟩ = some (.int .i64 x.n) := e1
    go_region_with (go_at_call 31; refine (inImpl _ _ _ _).mono ?_; rintro e y ⟨rfl, hy⟩; rw [hy, c]; clear hy y)
    all_goals (
      go_wp2_with fail
      go_ret2
      exact ⟨_, rfl, hide (fun h => by cases h), HB.out.drew⟩)
  | true =>
    have hr := inB_yes c
    unfold inV
    go_enter Tryd.func37, Tryd.ntmps37
    go_upto_region 1 with fail
    generalize w.alloc (.cells #[.int .i64 x.o, .int .i64 x.n] 33) = W at *
    obtain ⟨g, hg⟩ : ∃ g, w.heap.size = g := ⟨_, rfl⟩
    rw [hg] at e1 ⊢
    have e2 : W.drew.cell? ⟨g, 1, none⟩ = some (.int .i64 x.n) := e1
    go_region_with (go_at_call 31; refine (inImpl _ _ _ _).mono ?_; rintro e y ⟨rfl, hy⟩; rw [hy, c]; clear hy y)
    all_goals (
      go_wp2_with fail
      go_ret2
      exact ⟨_, rfl, hide (fun _ => by first | rfl | (rw [IntWalk.i64_in _ (by omega), IntWalk.u8_in _ (by omega)]) | (rw [IntWalk.u8_in _ (by omega)])), HB.out.drew⟩)
set_option maxRecDepth 100000 in
set_option maxHeartbeats 4000000 in
theorem localI (w : World) (x : Isn) (v : Value) : Calls Tryd.prog 38 #[inV x, v] w fun e w' => ∃ z, e = .returned (.tuple #[.int .u8 z, .bool (inB x.n 0 5)]) ∧ Hid (inB x.n 0 5 = true → z = x.n) ∧ Below w.heap.size w w' := by
  have bA := (Below.refl w.heap.size w).alloc (Nat.le_refl _) (.cells #[.int .i64 x.o, .int .i64 x.n] 33)
  have HX := Box.new w #[.int .i64 x.o, .int .i64 x.n] 33
  have e1 : (w.alloc (.cells #[.int .i64 x.o, .int .i64 x.n] 33)).cell? ⟨w.heap.size, 1, none⟩ = some (.int .i64 x.n) := HX 1 _ rfl
  have HB := hide bA
  clear bA HX
  cases c : inB x.n 0 5 with
  | false =>
    unfold inV
    go_enter Tryd.func38, Tryd.ntmps38
    go_upto_region 1 with fail
    generalize w.alloc (.cells #[.int .i64 x.o, .int .i64 x.n] 33) = W at *
    obtain ⟨g, hg⟩ : ∃ g, w.heap.size = g := ⟨_, rfl⟩
    rw [hg] at e1 ⊢
    have e2 : W.drew.cell? ⟨g, 1, none⟩ = some (.int .i64 x.n) := e1
    go_region_with (go_at_call 31; refine (inImpl _ _ _ _).mono ?_; rintro e y ⟨rfl, hy⟩; rw [hy, c]; clear hy y)
    all_goals (
      go_wp2_with fail
      go_ret2
      exact ⟨_, rfl, hide (fun h => by cases h), HB.out.drew⟩)
  | true =>
    have hr := inB_yes c
    unfold inV
    go_enter Tryd.func38, Tryd.ntmps38
    go_upto_region 1 with fail
    generalize w.alloc (.cells #[.int .i64 x.o, .int .i64 x.n] 33) = W at *
    obtain ⟨g, hg⟩ : ∃ g, w.heap.size = g := ⟨_, rfl⟩
    rw [hg] at e1 ⊢
    have e2 : W.drew.cell? ⟨g, 1, none⟩ = some (.int .i64 x.n) := e1
    go_region_with (go_at_call 31; refine (inImpl _ _ _ _).mono ?_; rintro e y ⟨rfl, hy⟩; rw [hy, c]; clear hy y)
    all_goals (
      go_wp2_with fail
      go_ret2
      exact ⟨_, rfl, hide (fun _ => by first | rfl | (rw [IntWalk.i64_in _ (by omega), IntWalk.u8_in _ (by omega)]) | (rw [IntWalk.u8_in _ (by omega)])), HB.out.drew⟩)
end Go.Proofs.YtonkaomfahmchaaDoor
