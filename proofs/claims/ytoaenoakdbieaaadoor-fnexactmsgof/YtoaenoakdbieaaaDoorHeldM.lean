/-
  What heldCellS, heldNoteS and heldMsg answer of a message whose rows are marked.
-/
import Derived.Test.YtoaenoakdbieaaaDoorMarks
namespace Go.Proofs.YtoaenoakdbieaaaDoor
open Go.RowKit

theorem ownC_shape {w : World} {b : Nat} {v : Value} {cs : List (Int × Bool × Int)} (h : OwnC w b v cs) : ∃ a c, v = .slice a cs.length c := by
  rcases h.2 with ⟨rfl, h0⟩ | ⟨g, c, _, rfl, _⟩
  · exact ⟨_, _, by rw [h0]⟩
  · exact ⟨_, _, rfl⟩
theorem ownN_shape {w : World} {b : Nat} {v : Value} {ns : List (Int × Int)} (h : OwnN w b v ns) : ∃ a c, v = .slice a ns.length c := by
  rcases h.2 with ⟨rfl, h0⟩ | ⟨g, c, _, rfl, _⟩
  · exact ⟨_, _, by rw [h0]⟩
  · exact ⟨_, _, rfl⟩
set_option maxRecDepth 100000 in
set_option maxHeartbeats 2000000 in
theorem heldCells (w : World) (b n : Nat) (k : Int) (v : Value) (h : OwnC w b v (marksC k n)) (hk0 : 0 ≤ k) (hk : k ≤ 100000000) (hl : n ≤ 1048576) :
    Calls Tryd.prog 98 #[v, .int .i64 k] w fun e w' => e = .returned (.int .i64 (k + 3 * (n : Int))) ∧ w' = w := by
  have HO := hide h
  obtain ⟨a, c, rfl⟩ := ownC_shape h
  rw [marksC_len] at HO ⊢
  clear h
  go_enter Tryd.func98, Tryd.ntmps98
  go_wp2
  go_loopw [1, 5] (fun q i wr => ∃ j : Nat, j ≤ n ∧ q = .int .i64 (k + 3 * (j : Int)) ∧ i = .int .i64 (j : Int) ∧ wr = w) (fun _ i _ => n - (intOf i).toNat)
  case atStart => exact ⟨0, Nat.zero_le _, by simp, rfl, rfl⟩
  case round =>
    obtain ⟨j, hj, rfl, rfl, rfl⟩ := hrel
    by_cases hlt : j < n
    · obtain ⟨g, rfl⟩ : ∃ g, a = some ⟨g, 0, none⟩ := by
        rcases HO.out.2 with ⟨e, h1⟩ | ⟨g, c', _, e, _⟩
        · rw [marksC_len] at h1; omega
        · simp only [Value.slice.injEq] at e; exact ⟨g, e.1⟩
      have hrow := HO.out
      unfold OwnC at hrow
      rw [marksC_len] at hrow
      have fc : ∀ r, r < 3 → wr.cell? ⟨g, j * 3 + r, none⟩ = (cellC (markC1 (k + 3 * (j : Int))))[r]? := fun r hr => by
        rw [World.ownsRow.cellAt hrow _ (by omega), flat_get cellC 3 cellC_len _ (0, false, 0) j r (by rw [marksC_len]; exact hlt) hr, marksC_get k n j hlt]
      have d0 := fc 0 (by omega)
      have d1 := fc 1 (by omega)
      have d2 := fc 2 (by omega)
      rw [Nat.add_zero] at d0
      simp only [cellC, markC1, List.getElem?_cons_zero, List.getElem?_cons_succ] at d0 d1 d2
      have n0 : ((k + 3 * (j : Int)) != (k + 3 * (j : Int))) = false := by simp
      have n1 : (((k + 3 * (j : Int) + 1) % 3 == 0) != ((k + 3 * (j : Int) + 1) % 3 == 0)) = false := by simp
      have n2 : ((k + 3 * (j : Int) + 1 + 1) != (k + 3 * (j : Int) + 1 + 1)) = false := by simp
      clear hrow fc
      go_wp2
      exact ⟨⟨j + 1, by omega, by go_num, by go_num, trivial⟩, by simp [intOf]; omega⟩
    · obtain rfl : j = n := by omega
      go_wp2
      go_ret
      exact ⟨rfl, rfl⟩

set_option maxRecDepth 100000 in
set_option maxHeartbeats 2000000 in
theorem heldNotes (w : World) (b n : Nat) (k : Int) (v : Value) (h : OwnN w b v (marksN k n)) (hk0 : 0 ≤ k) (hk : k ≤ 100000000) (hl : n ≤ 1048576) :
    Calls Tryd.prog 99 #[v, .int .i64 k] w fun e w' => e = .returned (.int .i64 (k + 2 * (n : Int))) ∧ w' = w := by
  have HO := hide h
  obtain ⟨a, c, rfl⟩ := ownN_shape h
  rw [marksN_len] at HO ⊢
  clear h
  go_enter Tryd.func99, Tryd.ntmps99
  go_wp2
  go_loopw [1, 5] (fun q i wr => ∃ j : Nat, j ≤ n ∧ q = .int .i64 (k + 2 * (j : Int)) ∧ i = .int .i64 (j : Int) ∧ wr = w) (fun _ i _ => n - (intOf i).toNat)
  case atStart => exact ⟨0, Nat.zero_le _, by simp, rfl, rfl⟩
  case round =>
    obtain ⟨j, hj, rfl, rfl, rfl⟩ := hrel
    by_cases hlt : j < n
    · obtain ⟨g, rfl⟩ : ∃ g, a = some ⟨g, 0, none⟩ := by
        rcases HO.out.2 with ⟨e, h1⟩ | ⟨g, c', _, e, _⟩
        · rw [marksN_len] at h1; omega
        · simp only [Value.slice.injEq] at e; exact ⟨g, e.1⟩
      have hrow := HO.out
      unfold OwnN at hrow
      rw [marksN_len] at hrow
      have fc : ∀ r, r < 2 → wr.cell? ⟨g, j * 2 + r, none⟩ = (noteC (markN1 (k + 2 * (j : Int))))[r]? := fun r hr => by
        rw [World.ownsRow.cellAt hrow _ (by omega), flat_get noteC 2 noteC_len _ (0, 0) j r (by rw [marksN_len]; exact hlt) hr, marksN_get k n j hlt]
      have d0 := fc 0 (by omega)
      have d1 := fc 1 (by omega)
      rw [Nat.add_zero] at d0
      simp only [noteC, markN1, List.getElem?_cons_zero, List.getElem?_cons_succ] at d0 d1
      have n0 : ((k + 2 * (j : Int)) != (k + 2 * (j : Int))) = false := by simp
      have n1 : ((k + 2 * (j : Int) + 1) != (k + 2 * (j : Int) + 1)) = false := by simp
      clear hrow fc
      go_wp2
      exact ⟨⟨j + 1, by omega, by go_num, by go_num, trivial⟩, by simp [intOf]; omega⟩
    · obtain rfl : j = n := by omega
      go_wp2
      go_ret
      exact ⟨rfl, rfl⟩

set_option maxRecDepth 100000 in
set_option maxHeartbeats 2000000 in
theorem heldMsg (w : World) (b5 b6 nc nn : Nat) (k i u c n : Int) (v5 v6 : Value) (h5 : OwnC w b5 v5 (marksC 1 nc)) (h6 : OwnN w b6 v6 (marksN (1 + 3 * (nc : Int)) nn)) (hmc : nc ≤ 1048576) (hmn : nn ≤ 1048576) :
    Calls Tryd.prog 44 #[msgV k i u c n v5 v6, .int .i64 1] w fun e w' => e = .returned (.int .i64 (1 + 3 * (nc : Int) + 2 * (nn : Int))) ∧ Below w.heap.size w w' := by
  have H5 := hide h5
  have H6 := hide h6
  obtain ⟨a5, c5, rfl⟩ := ownC_shape h5
  obtain ⟨a6, c6, rfl⟩ := ownN_shape h6
  rw [marksC_len] at H5 ⊢
  rw [marksN_len] at H6 ⊢
  clear h5 h6
  unfold msgV
  have bA := (Below.refl w.heap.size w).alloc (Nat.le_refl _) (.cells #[.int .i64 k, .int .i64 i, .int .i64 u, .int .i64 c, .int .i64 n, .slice a5 nc c5, .slice a6 nn c6] 27)
  have HX := hide (Box.new w #[.int .i64 k, .int .i64 i, .int .i64 u, .int .i64 c, .int .i64 n, .slice a5 nc c5, .slice a6 nn c6] 27)
  replace H5 := hide (H5.out.below bA)
  replace H6 := hide (H6.out.below bA)
  have HB := hide bA
  clear bA
  go_enter Tryd.func44, Tryd.ntmps44
  go_wp2_with fail
  refine (heldCells _ _ nc _ _ H5.out (by omega) (by omega) hmc).mono ?_
  rintro e w1 ⟨rfl, rfl⟩
  have f6 := HX.out 6 _ rfl
  go_wp2_with fail
  refine (heldNotes _ _ nn _ _ H6.out (by omega) (by omega) hmn).mono ?_
  rintro e w2 ⟨rfl, rfl⟩
  go_wp2
  go_ret
  exact ⟨rfl, HB.out⟩
end Go.Proofs.YtoaenoakdbieaaaDoor
