/-
  What toByteS does: a copy of the bytes in new memory.
-/
import Derived.Test.YthagfdcfpffaoaaBytes
namespace Go.Proofs.Ythagfdcfpffaoaa
open Go.RowKit

theorem copy_step (zs : List Int) (j : Nat) (h : j < zs.length) :
    ((zs.take j ++ List.replicate (zs.length - j) 0).map (Value.int .u8)).set j (.int .u8 (zs.getD j 0)) = (zs.take (j + 1) ++ List.replicate (zs.length - (j + 1)) 0).map (Value.int .u8) := by
  have e : zs.length - j = (zs.length - (j + 1)) + 1 := by omega
  rw [e, List.replicate_succ]
  simp only [List.map_append, List.map_cons]
  rw [List.set_append_right _ _ (by simp; omega)]
  have e2 : (List.map (Value.int IntKind.u8) (List.take j zs)).length = j := by simp; omega
  rw [e2, Nat.sub_self, List.set_cons_zero]
  have hg : zs.getD j 0 = zs[j] := by simp [h]
  rw [List.take_succ_eq_append_getElem h, hg, List.map_append, List.append_assoc]
  rfl

theorem copy_len (zs : List Int) (j : Nat) (h : j ≤ zs.length) : (zs.take j ++ List.replicate (zs.length - j) 0).length = zs.length := by
  simp; omega

set_option maxRecDepth 100000 in
set_option maxHeartbeats 1000000 in
theorem copyB (w : World) (a : Option Addr) (len cap : Nat) (zs : List Int) (hin : In w w.heap.size a len zs) :
    Calls Try.prog 80 #[.slice a len cap] w fun e w' => ∃ c, e = .returned (.slice (some ⟨w.heap.size, 0, none⟩) len c) ∧ Own w' w.heap.size (.slice (some ⟨w.heap.size, 0, none⟩) len c) zs ∧ Below w.heap.size w w' := by
  have hl := hin.2.1
  have hlen := hin.1
  obtain ⟨i0, hi, hz0, hz1, hz2⟩ := info_parts Try.info5
  go_enter Try.func80, Try.ntmps80
  go_wp2_with (at_make; refine wpList_make_full _ rfl _ _ 37 rfl w.heap.size 5 i0 (.int .u8 0) 1 Try.underlying37 hi hz0 hz1 _ _ _ _ len rfl rfl rfl rfl (by rw [hz2]; omega) (by unfold maxLen; omega) (Nat.le_refl _) ?_; intro w1 ho1 hg1)
  have o1 : Own w1 w.heap.size (.slice (some ⟨w.heap.size, 0, none⟩) len len) (List.replicate len 0) := by
    unfold Own
    have e1 : (madeCells (Value.int IntKind.u8 0).cells (len * 1)).toList = (List.replicate len (0 : Int)).map (Value.int .u8) := by
      rw [Nat.mul_one, List.map_replicate]; exact toList_madeCells_one _ _
    rw [e1] at ho1
    rw [List.length_replicate]
    exact ho1
  have b1 : Below w.heap.size w w1 := (Below.refl _ _).grown hg1 (Nat.le_refl _) (fun k hk => by cases hk)
  have s1 : w.heap.size < w1.heap.size := (o1.lt _ rfl).2
  clear ho1 hg1 hi hz0 hz1 hz2
  go_loopw [4] (fun i wr => ∃ j : Nat, j ≤ len ∧ i = .int .i64 (j : Int) ∧ Own wr w.heap.size (.slice (some ⟨w.heap.size, 0, none⟩) len len) (zs.take j ++ List.replicate (zs.length - j) 0) ∧ Below w.heap.size w wr) (fun i _ => len - (intOf i).toNat)
  case atStart => exact ⟨0, Nat.zero_le _, rfl, by rw [hlen]; simpa using o1, b1⟩
  case round =>
    obtain ⟨j, hj, rfl, ho, hb⟩ := hrel
    have hml := copy_len zs j (by omega)
    clear o1 b1 s1
    by_cases hlt : j < len
    · have ho' : wr.ownsRow w.heap.size 5 1 (.slice (some ⟨w.heap.size, 0, none⟩) len len) len ((zs.take j ++ List.replicate (zs.length - j) 0).map (Value.int .u8)) := by
        have := ho; unfold Own at this; rw [hml] at this; rw [hlen] at this ⊢; exact this
      have hfz := World.ownsRow.frozenAt ho' j
      have hce := World.ownsRow.cellAt ho' j (by omega)
      obtain ⟨u, hu⟩ : ∃ u, wr.cell? ⟨w.heap.size, j, none⟩ = some u := by
        rw [hce]; exact ⟨_, List.getElem?_eq_getElem (by simp only [List.length_map]; omega)⟩
      obtain ⟨b, o, rfl, hbB, hcell⟩ := (hin.low hb (Nat.le_refl _)).2.2.2 (by omega)
      have hz := hcell j hlt
      have HS := World.ownsRow.stored ho' j (.int .u8 (zs.getD j 0))
      rw [copy_step zs j (by omega)] at HS
      have H2 : Hid (Own (wr.setCell ⟨w.heap.size, j, none⟩ (.int .u8 (zs.getD j 0))) w.heap.size (.slice (some ⟨w.heap.size, 0, none⟩) len len) (zs.take (j + 1) ++ List.replicate (zs.length - (j + 1)) 0) ∧ Below w.heap.size w (wr.setCell ⟨w.heap.size, j, none⟩ (.int .u8 (zs.getD j 0)))) := by
        refine ⟨?_, hb.setCell (Nat.le_refl _) _⟩
        unfold Own
        rw [copy_len zs (j + 1) (by omega), hlen]
        rw [hlen] at HS
        exact HS.1
      have hbw : ¬ b = w.heap.size := by omega
      clear HS hce ho' ho hml hin hcell hb
      generalize zs.getD j 0 = z at *
      go_wp2
      exact ⟨⟨j + 1, hlt, by go_num, H2.out.1, H2.out.2⟩, by simp [intOf]; omega⟩
    · have hjn : j = len := by omega
      have HF : Hid (Own wr w.heap.size (.slice (some ⟨w.heap.size, 0, none⟩) len len) zs) := by
        have := ho; rw [hjn, ← hlen, List.take_length, Nat.sub_self, List.replicate_zero, List.append_nil, hlen] at this; exact this
      have HG := hide hb
      clear ho hb hml hin
      subst hjn
      go_wp2
      go_ret
      exact ⟨_, rfl, HF.out, HG.out⟩
end Go.Proofs.Ythagfdcfpffaoaa
