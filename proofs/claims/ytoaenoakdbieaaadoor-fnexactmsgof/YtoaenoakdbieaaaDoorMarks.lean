/-
  What markCellS, markNoteS and markMsg leave in rows of one's own.
-/
import Derived.Test.YtoaenoakdbieaaaDoorMsgRows
namespace Go.Proofs.YtoaenoakdbieaaaDoor
open Go.RowKit

def markC1 (k : Int) : Int × Bool × Int := (k, (k + 1) % 3 == 0, k + 1 + 1)
def markN1 (k : Int) : Int × Int := (k, k + 1)
def marksC (k : Int) (n : Nat) : List (Int × Bool × Int) := (List.range n).map fun (j : Nat) => markC1 (k + 3 * (j : Int))
def marksN (k : Int) (n : Nat) : List (Int × Int) := (List.range n).map fun (j : Nat) => markN1 (k + 2 * (j : Int))
theorem marksC_len (k : Int) (n : Nat) : (marksC k n).length = n := by simp [marksC]
theorem marksN_len (k : Int) (n : Nat) : (marksN k n).length = n := by simp [marksN]
theorem marksC_get (k : Int) (n j : Nat) (h : j < n) : (marksC k n).getD j (0, false, 0) = markC1 (k + 3 * (j : Int)) := by simp [marksC, h]
theorem marksN_get (k : Int) (n j : Nat) (h : j < n) : (marksN k n).getD j (0, 0) = markN1 (k + 2 * (j : Int)) := by simp [marksN, h]
theorem markC_step (k : Int) (j : Nat) (cs : List (Int × Bool × Int)) (h : j < cs.length) : (marksC k j ++ cs.drop j).set j (markC1 (k + 3 * (j : Int))) = marksC k (j + 1) ++ cs.drop (j + 1) := by
  rw [List.drop_eq_getElem_cons h, List.set_append_right _ _ (by simp [marksC_len]), marksC_len, Nat.sub_self, List.set_cons_zero]
  unfold marksC
  rw [List.range_succ, List.map_append, List.append_assoc]
  rfl
theorem markN_step (k : Int) (j : Nat) (cs : List (Int × Int)) (h : j < cs.length) : (marksN k j ++ cs.drop j).set j (markN1 (k + 2 * (j : Int))) = marksN k (j + 1) ++ cs.drop (j + 1) := by
  rw [List.drop_eq_getElem_cons h, List.set_append_right _ _ (by simp [marksN_len]), marksN_len, Nat.sub_self, List.set_cons_zero]
  unfold marksN
  rw [List.range_succ, List.map_append, List.append_assoc]
  rfl
theorem markC_len (k : Int) (j : Nat) (cs : List (Int × Bool × Int)) (h : j ≤ cs.length) : (marksC k j ++ cs.drop j).length = cs.length := by simp [marksC_len]; omega
theorem markN_len (k : Int) (j : Nat) (cs : List (Int × Int)) (h : j ≤ cs.length) : (marksN k j ++ cs.drop j).length = cs.length := by simp [marksN_len]; omega


theorem OwnC.shape {w : World} {b : Nat} {v : Value} {cs : List (Int × Bool × Int)} (h : OwnC w b v cs) : (cs = [] ∧ ∃ a c, v = .slice a 0 c) ∨ (0 < cs.length ∧ ∃ g c, v = .slice (some ⟨g, 0, none⟩) cs.length c) := by
  rcases h.2 with ⟨rfl, h0⟩ | ⟨g, c, cur, rfl, _⟩
  · exact .inl ⟨List.eq_nil_of_length_eq_zero h0, _, _, rfl⟩
  · by_cases hz : cs.length = 0
    · exact .inl ⟨List.eq_nil_of_length_eq_zero hz, _, _, by rw [hz]⟩
    · exact .inr ⟨by omega, g, c, rfl⟩
theorem OwnN.shape {w : World} {b : Nat} {v : Value} {cs : List (Int × Int)} (h : OwnN w b v cs) : (cs = [] ∧ ∃ a c, v = .slice a 0 c) ∨ (0 < cs.length ∧ ∃ g c, v = .slice (some ⟨g, 0, none⟩) cs.length c) := by
  rcases h.2 with ⟨rfl, h0⟩ | ⟨g, c, cur, rfl, _⟩
  · exact .inl ⟨List.eq_nil_of_length_eq_zero h0, _, _, rfl⟩
  · by_cases hz : cs.length = 0
    · exact .inl ⟨List.eq_nil_of_length_eq_zero hz, _, _, by rw [hz]⟩
    · exact .inr ⟨by omega, g, c, rfl⟩

set_option maxRecDepth 100000 in
set_option maxHeartbeats 2000000 in
theorem markCells (w : World) (b : Nat) (k : Int) (v : Value) (cs : List (Int × Bool × Int)) (h : OwnC w b v cs) (hk0 : 0 ≤ k) (hk : k ≤ 100000000) (hl : cs.length ≤ 1048576) :
    Calls Tryd.prog 96 #[v, .int .i64 k] w fun e w' => e = .returned (.int .i64 (k + 3 * (cs.length : Int))) ∧ OwnC w' b v (marksC k cs.length) ∧ w.grownBy w' v.ownBlock := by
  rcases h.shape with ⟨rfl, a, c, rfl⟩ | ⟨hp, g, c, rfl⟩
  · have HO := hide h
    clear h
    go_enter Tryd.func96, Tryd.ntmps96
    go_wp2
    go_loopw [1, 5] (fun q i wr => q = .int .i64 k ∧ i = .int .i64 0 ∧ wr = w) (fun _ _ _ => 0)
    case atStart => exact ⟨rfl, rfl, rfl⟩
    case round =>
      obtain ⟨rfl, rfl, rfl⟩ := hrel
      go_wp2
      go_ret
      exact ⟨ret_int (by simp), HO.out, World.grownBy.refl _ _⟩
  · generalize hn : cs.length = n at *
    have HO := hide h
    clear h
    go_enter Tryd.func96, Tryd.ntmps96
    go_wp2
    go_loopw [1, 5] (fun q i wr => ∃ j : Nat, j ≤ n ∧ q = .int .i64 (k + 3 * (j : Int)) ∧ i = .int .i64 (j : Int) ∧ Hid (OwnC wr b (.slice (some ⟨g, 0, none⟩) n c) (marksC k j ++ cs.drop j)) ∧ Hid (w.grownBy wr (some g))) (fun _ i _ => n - (intOf i).toNat)
    case atStart => exact ⟨0, Nat.zero_le _, by simp, rfl, HO, hide (World.grownBy.refl _ _)⟩
    case round =>
      clear HO
      obtain ⟨j, hj, rfl, rfl, HO, HG⟩ := hrel
      have hml := markC_len k j cs (by omega)
      by_cases hlt : j < n
      · obtain ⟨⟨u0, hu0⟩, ⟨u1, hu1⟩, ⟨u2, hu2⟩, hf0, hf1, hf2, ho2⟩ := OwnC.put HO.out (by rw [hml]; exact hn) j hlt (k + 3 * (j : Int)) ((k + 3 * (j : Int) + 1) % 3 == 0) (k + 3 * (j : Int) + 1 + 1)
        have ho3 := ho2
        rw [show (k + 3 * (j : Int), (k + 3 * (j : Int) + 1) % 3 == 0, k + 3 * (j : Int) + 1 + 1) = markC1 (k + 3 * (j : Int)) from rfl, markC_step k j cs (by omega)] at ho3
        have HO2 := hide ho3
        have HG2 := hide (grown_set (grown_set (grown_set HG.out (j * 3) (.int .i64 (k + 3 * (j : Int)))) (j * 3 + 1) (.bool ((k + 3 * (j : Int) + 1) % 3 == 0))) (j * 3 + 2) (.int .i64 (k + 3 * (j : Int) + 1 + 1)))
        clear ho2 ho3 HO HG hml
        go_wp2
        exact ⟨⟨j + 1, by omega, by go_num, by go_num, HO2, HG2⟩, by simp [intOf]; omega⟩
      · obtain rfl : j = n := by omega
        have HF : Hid (OwnC wr b (.slice (some ⟨g, 0, none⟩) j c) (marksC k j)) := hide (by have := HO.out; rwa [← hn, List.drop_length, List.append_nil, hn] at this)
        go_wp2
        go_ret
        exact ⟨rfl, HF.out, HG.out⟩
set_option maxRecDepth 100000 in
set_option maxHeartbeats 2000000 in
theorem markNotes (w : World) (b : Nat) (k : Int) (v : Value) (cs : List (Int × Int)) (h : OwnN w b v cs) (hk0 : 0 ≤ k) (hk : k ≤ 100000000) (hl : cs.length ≤ 1048576) :
    Calls Tryd.prog 97 #[v, .int .i64 k] w fun e w' => e = .returned (.int .i64 (k + 2 * (cs.length : Int))) ∧ OwnN w' b v (marksN k cs.length) ∧ w.grownBy w' v.ownBlock := by
  rcases h.shape with ⟨rfl, a, c, rfl⟩ | ⟨hp, g, c, rfl⟩
  · have HO := hide h
    clear h
    go_enter Tryd.func97, Tryd.ntmps97
    go_wp2
    go_loopw [1, 5] (fun q i wr => q = .int .i64 k ∧ i = .int .i64 0 ∧ wr = w) (fun _ _ _ => 0)
    case atStart => exact ⟨rfl, rfl, rfl⟩
    case round =>
      obtain ⟨rfl, rfl, rfl⟩ := hrel
      go_wp2
      go_ret
      exact ⟨ret_int (by simp), HO.out, World.grownBy.refl _ _⟩
  · generalize hn : cs.length = n at *
    have HO := hide h
    clear h
    go_enter Tryd.func97, Tryd.ntmps97
    go_wp2
    go_loopw [1, 5] (fun q i wr => ∃ j : Nat, j ≤ n ∧ q = .int .i64 (k + 2 * (j : Int)) ∧ i = .int .i64 (j : Int) ∧ Hid (OwnN wr b (.slice (some ⟨g, 0, none⟩) n c) (marksN k j ++ cs.drop j)) ∧ Hid (w.grownBy wr (some g))) (fun _ i _ => n - (intOf i).toNat)
    case atStart => exact ⟨0, Nat.zero_le _, by simp, rfl, HO, hide (World.grownBy.refl _ _)⟩
    case round =>
      clear HO
      obtain ⟨j, hj, rfl, rfl, HO, HG⟩ := hrel
      have hml := markN_len k j cs (by omega)
      by_cases hlt : j < n
      · obtain ⟨⟨u0, hu0⟩, ⟨u1, hu1⟩, hf0, hf1, ho2⟩ := OwnN.put HO.out (by rw [hml]; exact hn) j hlt (k + 2 * (j : Int)) (k + 2 * (j : Int) + 1)
        have ho3 := ho2
        rw [show (k + 2 * (j : Int), k + 2 * (j : Int) + 1) = markN1 (k + 2 * (j : Int)) from rfl, markN_step k j cs (by omega)] at ho3
        have HO2 := hide ho3
        have HG2 := hide (grown_set (grown_set HG.out (j * 2) (.int .i64 (k + 2 * (j : Int)))) (j * 2 + 1) (.int .i64 (k + 2 * (j : Int) + 1)))
        clear ho2 ho3 HO HG hml
        go_wp2
        exact ⟨⟨j + 1, by omega, by go_num, by go_num, HO2, HG2⟩, by simp [intOf]; omega⟩
      · obtain rfl : j = n := by omega
        have HF : Hid (OwnN wr b (.slice (some ⟨g, 0, none⟩) j c) (marksN k j)) := hide (by have := HO.out; rwa [← hn, List.drop_length, List.append_nil, hn] at this)
        go_wp2
        go_ret
        exact ⟨rfl, HF.out, HG.out⟩

theorem OwnC.kept {w w' : World} {b : Nat} {v : Value} {row : Option Nat} {cs : List (Int × Bool × Int)} (h : OwnC w b v cs) (hg : w.grownBy w' row) (hne : ∀ q, v.ownBlock = some q → row ≠ some q) : OwnC w' b v cs := by
  refine World.ownsRow.kept h hg ?_
  cases hv : v.ownBlock with
  | none => exact .inl rfl
  | some q => exact .inr (fun e => hne q hv e.symm)
theorem OwnN.kept {w w' : World} {b : Nat} {v : Value} {row : Option Nat} {cs : List (Int × Int)} (h : OwnN w b v cs) (hg : w.grownBy w' row) (hne : ∀ q, v.ownBlock = some q → row ≠ some q) : OwnN w' b v cs := by
  refine World.ownsRow.kept h hg ?_
  cases hv : v.ownBlock with
  | none => exact .inl rfl
  | some q => exact .inr (fun e => hne q hv e.symm)

set_option maxRecDepth 100000 in
set_option maxHeartbeats 2000000 in
theorem markMsg (w : World) (b5 b6 : Nat) (k i u c n : Int) (v5 v6 : Value) (cs : List (Int × Bool × Int)) (ns : List (Int × Int)) (h5 : OwnC w b5 v5 cs) (h6 : OwnN w b6 v6 ns) (hne : ∀ q, v5.ownBlock = some q → ∀ r, v6.ownBlock = some r → q < r) (hmc : cs.length ≤ 1048576) (hmn : ns.length ≤ 1048576) :
    Calls Tryd.prog 43 #[msgV k i u c n v5 v6, .int .i64 1] w fun e w' => e = .returned (.int .i64 (1 + 3 * (cs.length : Int) + 2 * (ns.length : Int))) ∧ OwnC w' b5 v5 (marksC 1 cs.length) ∧ OwnN w' b6 v6 (marksN (1 + 3 * (cs.length : Int)) ns.length) ∧ ∃ w1, w.grownBy w1 v5.ownBlock ∧ w1.grownBy w' v6.ownBlock := by
  have H5 := hide h5
  have H6 := hide h6
  obtain ⟨a5, c5, rfl, _⟩ := cells_at (h5.rd (Nat.le_refl _))
  obtain ⟨a6, c6, rfl, _⟩ := notes_at (h6.rd (Nat.le_refl _))
  clear h5 h6
  unfold msgV
  have bA := (Below.refl w.heap.size w).alloc (Nat.le_refl _) (.cells #[.int .i64 k, .int .i64 i, .int .i64 u, .int .i64 c, .int .i64 n, .slice a5 cs.length c5, .slice a6 ns.length c6] 27)
  have HX := hide (Box.new w #[.int .i64 k, .int .i64 i, .int .i64 u, .int .i64 c, .int .i64 n, .slice a5 cs.length c5, .slice a6 ns.length c6] 27)
  have L5 := hide H5.out.lt
  have HN := hide hne
  replace H5 := hide (H5.out.below bA)
  replace H6 := hide (H6.out.below bA)
  have HA := hide (grown_of_below bA)
  clear bA hne
  go_enter Tryd.func43, Tryd.ntmps43
  go_wp2_with fail
  refine (markCells _ _ _ _ _ H5.out (by omega) (by omega) hmc).mono ?_
  rintro e w1 ⟨rfl, o5, g1⟩
  have f6 : w1.cell? ⟨w.heap.size, 6, none⟩ = some (.slice a6 ns.length c6) := (World.cell?_of_block (w := w.alloc (.cells #[.int .i64 k, .int .i64 i, .int .i64 u, .int .i64 c, .int .i64 n, .slice a5 cs.length c5, .slice a6 ns.length c6] 27)) (g1.block w.heap.size (by simp) (fun e => by have := (L5.out _ e.symm).2; omega))).trans (HX.out 6 _ rfl)
  replace H5 := hide o5
  replace H6 := hide (H6.out.kept g1 (fun q hq e => by have := HN.out q e q hq; omega))
  have G1 := hide (alloc_grown g1)
  clear o5 g1 HA
  go_wp2_with fail
  refine (markNotes _ _ _ _ _ H6.out (by omega) (by omega) hmn).mono ?_
  rintro e w2 ⟨rfl, o6, g2⟩
  replace H6 := hide o6
  replace H5 := hide (H5.out.kept g2 (fun q hq e => by have := HN.out q hq q e; omega))
  have G2 := hide g2
  clear o6 g2 f6
  go_wp2
  go_ret
  exact ⟨rfl, H5.out, H6.out, w1, G1.out, G2.out⟩
end Go.Proofs.YtoaenoakdbieaaaDoor
