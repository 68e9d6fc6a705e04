/-
  What eqByteS, markByteS and heldByteS do.
-/
import Derived.Test.YthagfdcfpffaoaaRows
import Derived.Test.YthagfdcfpffaoaaBytes
import Derived.Deep.QuietTactic
import Derived.BigQuiet
namespace Go.Proofs.Ythagfdcfpffaoaa
open Go.RowKit

set_option maxRecDepth 100000 in
set_option maxHeartbeats 400000 in
theorem eqB (w : World) (b1 b2 : Nat) (v1 v2 : Value) (zs : List Int) (h1 : Own w b1 v1 zs) (h2 : Own w b2 v2 zs) (hl : zs.length ≤ 1000000000) :
    Calls Try.prog 12 #[v1, v2] w fun e w' => e = .returned (.bool true) ∧ ∃ q, w' = w.drewN q := by
  rcases h1.form with ⟨hz, ao1, c1, rfl⟩ | ⟨hz, g1, c1, rfl, _, _, hc1, _⟩
  · rcases h2.form with ⟨_, ao2, c2, rfl⟩ | ⟨hz', _⟩
    · clear h1 h2 hz hl
      go_enter Try.func12, Try.ntmps12
      go_wp2
      go_loopw [5] (fun i wr => i = .int .i64 0 ∧ wr = w) (fun _ _ => 0)
      case atStart => exact ⟨rfl, rfl⟩
      case round =>
        obtain ⟨rfl, rfl⟩ := hrel
        go_wp2
        go_ret
        exact ⟨rfl, 0, rfl⟩
    · subst hz; simp at hz'
  · rcases h2.form with ⟨hz', _⟩ | ⟨_, g2, c2, rfl, _, _, hc2, _⟩
    · subst hz'; simp at hz
    · clear h1 h2
      have hne : ((zs.length : Int) != (zs.length : Int)) = false := by simp
      generalize hn : zs.length = n at *
      go_enter Try.func12, Try.ntmps12
      go_wp2
      go_loopw [5] (fun i wr => ∃ k : Nat, k ≤ n ∧ i = .int .i64 k ∧ ∃ q, wr = w.drewN q) (fun i _ => n - (intOf i).toNat)
      case atStart => exact ⟨0, Nat.zero_le _, rfl, 0, rfl⟩
      case round =>
        obtain ⟨k, hk, rfl, q, rfl⟩ := hrel
        by_cases hlt : k < n
        · have e1 := hc1 k hlt
          have e2 := hc2 k hlt
          clear hc1 hc2
          have hbe : ((zs.getD k 0) != (zs.getD k 0)) = false := by simp
          go_wp2
          go_quiet (fail)
          go_wp2
          go_roundw
          case rel => exact ⟨k + 1, by omega, by go_num, q + nq, rfl⟩
          case measure => simp [intOf]; omega
        · go_wp2
          go_ret
          exact ⟨rfl, q, rfl⟩

/-- The bytes that markByteS leaves: from k on, one more each. -/
def marks (k n : Nat) : List Int := (List.range n).map fun i => ((k + i : Nat) : Int) % 256

theorem marks_len (k n : Nat) : (marks k n).length = n := by simp [marks]
theorem marks_get (k n j : Nat) (h : j < n) : (marks k n).getD j 0 = ((k + j : Nat) : Int) % 256 := by simp [marks, h]

set_option maxRecDepth 100000 in
set_option maxHeartbeats 400000 in
theorem heldB (w : World) (b k n : Nat) (v : Value) (h : Own w b v (marks k n)) (hk : k + n ≤ 1000000000) :
    Calls Try.prog 15 #[v, .int .i64 (k : Int)] w fun e w' => e = .returned (.int .i64 ((k + n : Nat) : Int)) ∧ w' = w := by
  rcases h.form with ⟨hz, ao, c, rfl⟩ | ⟨hz, g, c, rfl, _, _, hc, _⟩
  · have hn : n = 0 := by have := marks_len k n; rw [hz] at this; simpa using this.symm
    clear h hz
    subst hn
    go_enter Try.func15, Try.ntmps15
    go_wp2
    go_loopw [1, 5] (fun q i wr => q = .int .i64 (k : Int) ∧ i = .int .i64 0 ∧ wr = w) (fun _ _ _ => 0)
    case atStart => exact ⟨rfl, rfl, rfl⟩
    case round =>
      obtain ⟨rfl, rfl, rfl⟩ := hrel
      go_wp2
      go_ret
      exact ⟨rfl, rfl⟩
  · rw [marks_len] at hz hc ⊢
    clear h
    go_enter Try.func15, Try.ntmps15
    go_wp2
    go_loopw [1, 5] (fun q i wr => ∃ j : Nat, j ≤ n ∧ q = .int .i64 ((k + j : Nat) : Int) ∧ i = .int .i64 (j : Int) ∧ wr = w) (fun _ i _ => n - (intOf i).toNat)
    case atStart => exact ⟨0, Nat.zero_le _, rfl, rfl, rfl⟩
    case round =>
      obtain ⟨j, hj, rfl, rfl, rfl⟩ := hrel
      by_cases hlt : j < n
      · have e1 := hc j hlt
        rw [marks_get k n j hlt] at e1
        clear hc
        go_wp2
        exact ⟨⟨j + 1, by omega, by go_num, by go_num, trivial⟩, by simp [intOf]; omega⟩
      · have hjn : j = n := by omega
        subst hjn
        go_wp2
        go_ret
        exact ⟨rfl, rfl⟩
theorem marks_step (k j : Nat) (zs : List Int) (h : j < zs.length) :
    ((marks k j ++ zs.drop j).map (Value.int .u8)).set j (.int .u8 (((k + j : Nat) : Int) % 256)) = (marks k (j + 1) ++ zs.drop (j + 1)).map (Value.int .u8) := by
  rw [List.drop_eq_getElem_cons h]
  simp only [List.map_append, List.map_cons]
  rw [List.set_append_right _ _ (by simp [marks_len])]
  simp [marks, List.range_succ]

theorem mark_len (k j : Nat) (zs : List Int) (h : j ≤ zs.length) : (marks k j ++ zs.drop j).length = zs.length := by
  simp [marks_len]; omega

set_option maxRecDepth 100000 in
set_option maxHeartbeats 400000 in
theorem markB (w : World) (b k : Nat) (v : Value) (zs : List Int) (h : Own w b v zs) (hk : k + zs.length ≤ 1000000000) :
    Calls Try.prog 14 #[v, .int .i64 (k : Int)] w fun e w' => e = .returned (.int .i64 ((k + zs.length : Nat) : Int)) ∧ Own w' b v (marks k zs.length) ∧ w.grownBy w' v.ownBlock := by
  rcases h.form with ⟨hz, ao, c, rfl⟩ | ⟨hz, g, c, rfl, _, hg, _, _⟩
  · subst hz
    have H : Hid (Own w b (.slice ao 0 c) (marks k 0)) := h
    clear h
    go_enter Try.func14, Try.ntmps14
    go_wp2
    go_loopw [1, 5] (fun q i wr => q = .int .i64 (k : Int) ∧ i = .int .i64 0 ∧ wr = w) (fun _ _ _ => 0)
    case atStart => exact ⟨rfl, rfl, rfl⟩
    case round =>
      obtain ⟨rfl, rfl, rfl⟩ := hrel
      go_wp2
      go_ret
      exact ⟨rfl, H.out, World.grownBy.refl _ _⟩
  · go_enter Try.func14, Try.ntmps14
    go_wp2
    go_loopw [1, 5] (fun q i wr => ∃ j : Nat, j ≤ zs.length ∧ q = .int .i64 ((k + j : Nat) : Int) ∧ i = .int .i64 (j : Int) ∧ Own wr b (.slice (some ⟨g, 0, none⟩) zs.length c) (marks k j ++ zs.drop j) ∧ w.grownBy wr (some g)) (fun _ i _ => zs.length - (intOf i).toNat)
    case atStart => exact ⟨0, Nat.zero_le _, rfl, rfl, h, World.grownBy.refl _ _⟩
    case round =>
      obtain ⟨j, hj, rfl, rfl, ho, hgr⟩ := hrel
      have hml := mark_len k j zs hj
      by_cases hlt : j < zs.length
      · have ho' : wr.ownsRow b 5 1 (.slice (some ⟨g, 0, none⟩) zs.length c) zs.length ((marks k j ++ zs.drop j).map (Value.int .u8)) := by have := ho; unfold Own at this; rwa [hml] at this
        have hfz := World.ownsRow.frozenAt ho' j
        have hce := World.ownsRow.cellAt ho' j (by omega)
        obtain ⟨u, hu⟩ : ∃ u, wr.cell? ⟨g, j, none⟩ = some u := by
          rw [hce]; exact ⟨_, List.getElem?_eq_getElem (by simp only [List.length_map]; omega)⟩
        have HS := World.ownsRow.stored ho' j (.int .u8 (((k + j : Nat) : Int) % 256))
        rw [marks_step k j zs hlt, Int.natCast_add] at HS
        have H2 : Hid (Own (wr.setCell ⟨g, j, none⟩ (.int .u8 (((k : Int) + (j : Int)) % 256))) b (.slice (some ⟨g, 0, none⟩) zs.length c) (marks k (j + 1) ++ zs.drop (j + 1)) ∧ wr.grownBy (wr.setCell ⟨g, j, none⟩ (.int .u8 (((k : Int) + (j : Int)) % 256))) (some g)) := by
          refine ⟨?_, HS.2⟩
          unfold Own
          rw [mark_len k (j + 1) zs hlt]
          exact HS.1
        clear HS hce ho' ho hml h
        have HG : Hid (w.grownBy wr (some g)) := hgr
        clear hgr
        go_wp2
        exact ⟨⟨j + 1, hlt, by go_num, by go_num, H2.out.1, grownBy_trans HG.out H2.out.2⟩, by simp [intOf]; omega⟩
      · have hjn : j = zs.length := by omega
        have HF : Hid (Own wr b (.slice (some ⟨g, 0, none⟩) zs.length c) (marks k zs.length)) := by
          have := ho; rw [hjn, List.drop_length, List.append_nil] at this; exact this
        have HG : Hid (w.grownBy wr (some g)) := hgr
        clear ho hgr hml h
        subst hjn
        go_wp2
        go_ret
        exact ⟨rfl, HF.out, HG.out⟩

theorem mark1 (w : World) (b : Nat) (v : Value) (zs : List Int) (h : Own w b v zs) (hk : zs.length ≤ 100000000) :
    Calls Try.prog 14 #[v, .int .i64 1] w fun e w' => e = .returned (.int .i64 (1 + (zs.length : Int))) ∧ Own w' b v (marks 1 zs.length) ∧ w.grownBy w' v.ownBlock := by
  have := markB w b 1 v zs h (by omega)
  simpa only [Int.natCast_add, Int.natCast_one] using this

theorem held1 (w : World) (b n : Nat) (v : Value) (h : Own w b v (marks 1 n)) (hk : n ≤ 100000000) :
    Calls Try.prog 15 #[v, .int .i64 1] w fun e w' => e = .returned (.int .i64 (1 + (n : Int))) ∧ w' = w := by
  have := heldB w b 1 n v h (by omega)
  simpa only [Int.natCast_add, Int.natCast_one] using this

theorem below_mark {B : Nat} {w w1 w2 : World} {v : Value} {zs : List Int} {b : Nat} (hb : Below B w w1) (hB : B ≤ b) (hB' : B ≤ w1.heap.size) (h : Own w1 b v zs) (hg : w1.grownBy w2 v.ownBlock) : Below B w w2 :=
  hb.grown hg hB' (fun k hk => Nat.le_trans hB (h.lt k hk).1)

end Go.Proofs.Ythagfdcfpffaoaa
