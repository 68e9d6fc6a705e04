/-
  A thread's place in a model: what the program does.
-/
import Derived.Test.YtelpdlhgjepgbaaMdS
namespace Go.Proofs.Ytelpdlhgjepgbaa
open Go.RowKit

set_option maxRecDepth 100000 in
set_option maxHeartbeats 4000000 in
theorem thrC (w : World) (x : Th) (u1 : Value) (p : Nat) (q : Int) (hp : w.cell? ⟨p, 0, none⟩ = some (.int .i64 q)) (hlt : p < w.heap.size) :
    Calls Try.prog 18 #[thV x u1, .pointer (some ⟨p, 0, none⟩)] w fun e w' => e = .returned (.bool (x.i == q)) ∧ Below w.heap.size w w' := by
  unfold thV
  go_enter Try.func18, Try.ntmps18
  go_wp2
  go_ret
  exact ⟨rfl, (Below.refl _ _).alloc (Nat.le_refl _) _⟩
set_option maxRecDepth 100000 in
set_option maxHeartbeats 4000000 in
theorem idxThr (w : World) (v : Value) (xs : List Th) (p : Nat) (q : Int) (h : Reads w w.heap.size (ths xs) v) (hm : xs.length ≤ 1048576) (hp : w.cell? ⟨p, 0, none⟩ = some (.int .i64 q)) (hlt0 : p < w.heap.size) :
    Calls Try.prog 17 #[v, .func (.func 18) #[] #[.pointer (some ⟨p, 0, none⟩)]] w fun e w' => e = .returned (.int .i64 (thrAt xs q)) ∧ Below w.heap.size w w' := by
  have HX : Hid (∀ wr, Below w.heap.size w wr → _) := hide (fun wr hb => thread_at (h.at hb))
  have HY : Hid (∀ j, j < xs.length → ((xs.getD j default).i == q) = true → (∀ i, i < j → ((xs.getD i default).i == q) = false) → thrAt xs q = (j : Int)) := hide (fun j hj h h0 => atFst_hit hj h h0)
  have HN : Hid ((∀ i, i < xs.length → ((xs.getD i default).i == q) = false) → thrAt xs q = -1) := hide (fun h0 => atFst_no h0)
  obtain ⟨a, cap, rfl, _⟩ := thread_at h
  clear h
  generalize hn : xs.length = n at *
  generalize thrAt xs q = V at *
  go_enter Try.func17, Try.ntmps17
  go_wp2
  go_loopw [8] (fun i wr => ∃ j : Nat, j ≤ n ∧ i = .int .i64 (j : Int) ∧ Hid (∀ i, i < j → ((xs.getD i default).i == q) = false) ∧ Hid (Below w.heap.size w wr)) (fun i _ => n - (intOf i).toNat)
  case atStart => exact ⟨0, Nat.zero_le _, rfl, hide (fun i hi => by omega), hide (Below.refl _ _)⟩
  case round =>
    obtain ⟨j, hj, rfl, HR, HB⟩ := hrel
    by_cases hlt : j < n
    · obtain ⟨a', cap', ea, _, _, hc⟩ := HX.out wr HB.out
      cases ea
      obtain ⟨b, o, rfl, _, hcell⟩ := hc (by omega)
      obtain ⟨pv1, e0, e1, e2, e3, r1⟩ := hcell j hlt
      clear hcell hc
      obtain ⟨x, hx⟩ : ∃ x, xs.getD j default = x := ⟨_, rfl⟩
      rw [hx] at e0 e2 e3 r1
      obtain ⟨aa1, cc1, ea1, _⟩ := r1.shape
      subst ea1
      clear r1
      have HX9 := hide hx
      clear hx
      go_wp2_with fail
      refine (thrC _ x _ p q ((HB.out.cell (p := ⟨p, 0, none⟩) hlt0).trans hp) (Nat.lt_of_lt_of_le hlt0 HB.out.size)).mono ?_
      rintro e w1 ⟨rfl, b1⟩
      replace HB := hide (HB.out.trans (b1.mono HB.out.size))
      clear b1
      cases c : (x.i == q) with
      | true =>
        have HF : Hid (V = (j : Int)) := hide (HY.out j hlt (by rw [HX9.out]; exact c) HR.out)
        go_wp2
        go_ret
        exact ⟨by rw [HF.out]; rfl, HB.out⟩
      | false =>
        have HR2 : Hid (∀ i, i < j + 1 → ((xs.getD i default).i == q) = false) := hide (fun i hi => by
          rcases Nat.lt_succ_iff_lt_or_eq.1 hi with h | rfl
          · exact HR.out i h
          · rw [HX9.out]; exact c)
        go_wp2
        exact ⟨⟨j + 1, by omega, by go_num, HR2, HB⟩, by simp [intOf]; omega⟩
    · obtain rfl : j = n := by omega
      have HF : Hid (V = -1) := hide (HN.out HR.out)
      go_wp2
      go_ret
      exact ⟨by rw [HF.out]; rfl, HB.out⟩
set_option maxRecDepth 100000 in
set_option maxHeartbeats 4000000 in
theorem threadOfI (w : World) (x : Md) (u1 u2 u3 u4 u5 : Value) (q : Int) (h4 : Reads w w.heap.size (ths x.t) u4) (hm : x.t.length ≤ 1048576) :
    Calls Try.prog 7 #[mdV x u1 u2 u3 u4 u5, .int .i64 q] w fun e w' => e = .returned (.int .i64 (thrAt x.t q)) ∧ Below w.heap.size w w' := by
  obtain ⟨a1, c1, e1, _⟩ := h4.shape
  subst e1
  have bA := ((Below.refl w.heap.size w).alloc (Nat.le_refl _) (.cells #[u1, u2, u3, .slice a1 x.t.length c1, u5] 44)).alloc (by simp) (.cells #[.int .i64 q] 3)
  have HR := hide (h4.at bA)
  have HB := hide bA
  have G1 := heap_alloc_new (w.alloc (.cells #[u1, u2, u3, .slice a1 x.t.length c1, u5] 44)) (.cells #[.int .i64 q] 3)
  simp only [World.size_alloc] at G1
  have HC := hide ((box_of G1).1 0 _ rfl)
  have HS : Hid (w.heap.size + 1 < ((w.alloc (.cells #[u1, u2, u3, .slice a1 x.t.length c1, u5] 44)).alloc (.cells #[.int .i64 q] 3)).heap.size) := hide (by simp)
  clear h4 bA G1
  unfold mdV
  go_enter Try.func7, Try.ntmps7
  go_wp2_with fail
  refine (idxThr _ _ x.t _ q HR.out hm HC.out HS.out).mono ?_
  rintro e w1 ⟨rfl, b1⟩
  replace HB := hide (HB.out.trans (b1.mono HB.out.size))
  clear b1
  go_wp2
  go_ret
  exact ⟨rfl, HB.out⟩
end Go.Proofs.Ytelpdlhgjepgbaa
