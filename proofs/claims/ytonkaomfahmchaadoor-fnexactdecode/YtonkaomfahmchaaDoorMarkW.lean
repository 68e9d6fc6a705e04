/-
  What markByteS leaves in bytes of one's own (where a seat has no heldByteS).
-/
import Derived.Test.YtonkaomfahmchaaDoorEq
namespace Go.Proofs.YtonkaomfahmchaaDoor
open Go.RowKit
set_option maxRecDepth 100000 in
set_option maxHeartbeats 400000 in

set_option maxRecDepth 100000 in
set_option maxHeartbeats 400000 in
theorem markB (w : World) (b k : Nat) (v : Value) (zs : List Int) (h : Own w b v zs) (hk : k + zs.length ≤ 1000000000) :
    Calls Tryd.prog 9 #[v, .int .i64 (k : Int)] w fun e w' => e = .returned (.int .i64 ((k + zs.length : Nat) : Int)) ∧ Own w' b v (marks k zs.length) ∧ w.grownBy w' v.ownBlock := by
  rcases h.form with ⟨hz, ao, c, rfl⟩ | ⟨hz, g, c, rfl, _, hg, _, _⟩
  · subst hz
    have H : Hid (Own w b (.slice ao 0 c) (marks k 0)) := h
    clear h
    go_enter Tryd.func9, Tryd.ntmps9
    go_wp2
    go_loopw [1, 5] (fun q i wr => q = .int .i64 (k : Int) ∧ i = .int .i64 0 ∧ wr = w) (fun _ _ _ => 0)
    case atStart => exact ⟨rfl, rfl, rfl⟩
    case round =>
      obtain ⟨rfl, rfl, rfl⟩ := hrel
      go_wp2
      go_ret
      exact ⟨rfl, H.out, World.grownBy.refl _ _⟩
  · go_enter Tryd.func9, Tryd.ntmps9
    go_wp2
    go_loopw [1, 5] (fun q i wr => ∃ j : Nat, j ≤ zs.length ∧ q = .int .i64 ((k + j : Nat) : Int) ∧ i = .int .i64 (j : Int) ∧ Own wr b (.slice (some ⟨g, 0, none⟩) zs.length c) (marks k j ++ zs.drop j) ∧ w.grownBy wr (some g)) (fun _ i _ => zs.length - (intOf i).toNat)
    case atStart => exact ⟨0, Nat.zero_le _, rfl, rfl, h, World.grownBy.refl _ _⟩
    case round =>
      obtain ⟨j, hj, rfl, rfl, ho, hgr⟩ := hrel
      have hml := mark_len k j zs hj
      by_cases hlt : j < zs.length
      · have ho' : wr.ownsRow b 5 1 (.slice (some ⟨g, 0, none⟩) zs.length c) zs.length ((marks k j ++ zs.drop j).map (Value.int .u8)) := by have := ho; unfold Own at this; rwa [hml] at this
        have hfz := World.ownsRow.frozenAt ho' j
        have hce := World.ownsRow.cellAt ho' j (by omega)
        obtain ⟨u, hu⟩ : ∃ u, wr.cell? ⟨g, j, none⟩ = some u := by
          rw [hce]; exact ⟨_, List.getElem?_eq_getElem (by simp only [List.length_map]; omega)⟩
        have HS := World.ownsRow.stored ho' j (.int .u8 (((k + j : Nat) : Int) % 256))
        rw [marks_step k j zs hlt, Int.natCast_add] at HS
        have H2 : Hid (Own (wr.setCell ⟨g, j, none⟩ (.int .u8 (((k : Int) + (j : Int)) % 256))) b (.slice (some ⟨g, 0, none⟩) zs.length c) (marks k (j + 1) ++ zs.drop (j + 1)) ∧ wr.grownBy (wr.setCell ⟨g, j, none⟩ (.int .u8 (((k : Int) + (j : Int)) % 256))) (some g)) := by
          refine ⟨?_, HS.2⟩
          unfold Own
          rw [mark_len k (j + 1) zs hlt]
          exact HS.1
        clear HS hce ho' ho hml h
        have HG : Hid (w.grownBy wr (some g)) := hgr
        clear hgr
        go_wp2
        exact ⟨⟨j + 1, hlt, by go_num, by go_num, H2.out.1, grownBy_trans HG.out H2.out.2⟩, by simp [intOf]; omega⟩
      · have hjn : j = zs.length := by omega
        have HF : Hid (Own wr b (.slice (some ⟨g, 0, none⟩) zs.length c) (marks k zs.length)) := by
          have := ho; rw [hjn, List.drop_length, List.append_nil] at this; exact this
        have HG : Hid (w.grownBy wr (some g)) := hgr
        clear ho hgr hml h
        subst hjn
        go_wp2
        go_ret
        exact ⟨rfl, HF.out, HG.out⟩

theorem mark1 (w : World) (b : Nat) (v : Value) (zs : List Int) (h : Own w b v zs) (hk : zs.length ≤ 100000000) :
    Calls Tryd.prog 9 #[v, .int .i64 1] w fun e w' => e = .returned (.int .i64 (1 + (zs.length : Int))) ∧ Own w' b v (marks 1 zs.length) ∧ w.grownBy w' v.ownBlock := by
  have := markB w b 1 v zs h (by omega)
  simpa only [Int.natCast_add, Int.natCast_one] using this
end Go.Proofs.YtonkaomfahmchaaDoor
