/-
  What l1DrawNums and l2DrawBytes do: the bytes that are drawn, told by the code's bytes and by where the cursor stands, in new memory; nothing that was there is turned but the cursor.
-/
import Derived.Test.YtmlbemcblgnbjaaCurF
import Derived.Test.YtmlbemcblgnbjaaPutNumW
import Derived.Test.YtmlbemcblgnbjaaPnB
import Derived.WalkSmall
namespace Go.Proofs.Ytmlbemcblgnbjaa
open Go.RowKit

/-- The bytes that l1DrawNums draws. -/
def numsF (zs : List Int) : Nat → Nat → List Int → Nat × Int → List Int × (Nat × Int)
  | 0, _, ys, s => (ys, s)
  | f + 1, k, ys, s =>
    if (k : Int) < (belowF zs s 5).1 then
      numsF zs f (k + 1) (ys ++ pn (pickF zs (belowF zs s 5).2 [0, 1, 127, 128, 300, 16777215]).1) (pickF zs (belowF zs s 5).2 [0, 1, 127, 128, 300, 16777215]).2
    else if (onceF zs (belowF zs s 5).2 3).1 then
      (ys ++ [(pickF zs (onceF zs (belowF zs s 5).2 3).2 [0, 128, 255]).1, (belowF zs (pickF zs (onceF zs (belowF zs s 5).2 3).2 [0, 128, 255]).2 3).1],
        (belowF zs (pickF zs (onceF zs (belowF zs s 5).2 3).2 [0, 128, 255]).2 3).2)
    else (ys, (onceF zs (belowF zs s 5).2 3).2)

theorem numsF_more (zs : List Int) (f k : Nat) (ys : List Int) (s : Nat × Int) (h : (k : Int) < (belowF zs s 5).1) :
    numsF zs (f + 1) k ys s = numsF zs f (k + 1) (ys ++ pn (pickF zs (belowF zs s 5).2 [0, 1, 127, 128, 300, 16777215]).1) (pickF zs (belowF zs s 5).2 [0, 1, 127, 128, 300, 16777215]).2 := by
  rw [numsF, if_pos h]
theorem numsF_two (zs : List Int) (f k : Nat) (ys : List Int) (s : Nat × Int) (h : ¬ (k : Int) < (belowF zs s 5).1) (h' : (onceF zs (belowF zs s 5).2 3).1 = true) :
    numsF zs (f + 1) k ys s = (ys ++ [(pickF zs (onceF zs (belowF zs s 5).2 3).2 [0, 128, 255]).1, (belowF zs (pickF zs (onceF zs (belowF zs s 5).2 3).2 [0, 128, 255]).2 3).1],
        (belowF zs (pickF zs (onceF zs (belowF zs s 5).2 3).2 [0, 128, 255]).2 3).2) := by
  rw [numsF, if_neg h, if_pos h']
theorem numsF_end (zs : List Int) (f k : Nat) (ys : List Int) (s : Nat × Int) (h : ¬ (k : Int) < (belowF zs s 5).1) (h' : (onceF zs (belowF zs s 5).2 3).1 = false) :
    numsF zs (f + 1) k ys s = (ys, (onceF zs (belowF zs s 5).2 3).2) := by
  rw [numsF, if_neg h, if_neg (by simp [h'])]

set_option maxRecDepth 100000 in
set_option maxHeartbeats 1000000 in
theorem drawNums (w : World) (g : Nat) (zs : List Int) (s0 : Nat × Int) (hc : Cur w g zs s0) :
    Calls Try.prog 23 #[.pointer (some ⟨g, 0, none⟩)] w fun e w' => ∃ b c ys s, numsF zs 6 0 [] s0 = (ys, s) ∧ e = .returned (.slice (some ⟨b, 0, none⟩) ys.length c) ∧ Own w' w.heap.size (.slice (some ⟨b, 0, none⟩) ys.length c) ys ∧ Byt ys ∧ ys.length ≤ 30 ∧ Cur w' g zs s ∧ w.grownBy w' (some g) := by
  have hgl := hc.lt
  have HC := hide hc
  clear hc
  obtain ⟨i0, hi, hz0, hz1, hz2⟩ := info_parts Try.info5
  go_enter Try.func23, Try.ntmps23
  go_wp2
  go_loopw [3, 4] (fun v i wr => ∃ (k b c : Nat) (ys : List Int) (s : Nat × Int), k ≤ 5 ∧ i = .int .i64 (k : Int) ∧ v = .slice (some ⟨b, 0, none⟩) ys.length c ∧ Hid (Own wr w.heap.size (.slice (some ⟨b, 0, none⟩) ys.length c) ys) ∧ Hid (Byt ys) ∧ ys.length ≤ 4 * k ∧ Hid (Cur wr g zs s) ∧ Hid (numsF zs (6 - k) k ys s = numsF zs 6 0 [] s0) ∧ Hid (w.grownBy wr (some g)))
    (fun _ i _ => 5 - (intOf i).toNat)
  case atStart => exact ⟨0, w.heap.size, 0, [], s0, by omega, rfl, rfl, own_empty _ _ (Nat.le_refl _), (fun z hz => by cases hz), by simp, HC.out.alloc _, rfl, World.grownBy_alloc _ _ _⟩
  case round =>
    obtain ⟨k, b, c, ys, s, hk, rfl, rfl, HO, HY, hyl, HC1, HN, HG⟩ := hrel
    clear HC
    have hx := belowF_bd zs s 5 (by omega)
    go_wp2_with fail
    refine (belowDraw _ _ _ _ _ (by omega) (by omega) HC1.out).mono ?_
    rintro e w1 ⟨rfl, hc1, hg1⟩
    have HO1 := hide (HO.out.cur hg1 hgl)
    have HG1 := hide (grown_step HG.out hg1 (fun k hk => by cases hk; exact .inl rfl))
    have HC2 := hide hc1
    clear HO HG HC1 hc1 hg1
    by_cases hkx : (k : Int) < (belowF zs s 5).1
    · have HM := hide (numsF_more zs (5 - k) k ys s hkx)
      go_wp2_with fail
      refine (pickDraw _ _ _ 6 _ _ [0, 1, 127, 128, 300, 16777215] rfl (by omega) (by omega) HC2.out.lt (HC2.out.alloc _) (heap_alloc_new w1 _)).mono ?_
      rintro e w3 ⟨rfl, hc3, hg3⟩
      have hy := pickF_mem zs (belowF zs s 5).2 [0, 1, 127, 128, 300, 16777215] (by simp)
      generalize hp : pickF zs (belowF zs s 5).2 [0, 1, 127, 128, 300, 16777215] = py at *
      obtain ⟨y, s3⟩ := py
      have HP := hide hp
      clear hp
      have HM : Hid (numsF zs (5 - k + 1) k ys s = numsF zs (5 - k) (k + 1) (ys ++ pn y) s3) := HM
      have hc3 : Cur w3 g zs s3 := hc3
      have hyb : 0 ≤ y ∧ y ≤ 16777215 := by simp at hy; omega
      have hg3' := alloc_grown hg3
      have HO3 := hide (HO1.out.cur hg3' hgl)
      have HG3 := hide (grown_step HG1.out hg3' (fun k hk => by cases hk; exact .inl rfl))
      have HC3 := hide hc3
      clear HO1 HG1 HC2 hc3 hg3 hg3' hy
      go_wp2_with fail
      refine (putNumSpec _ _).mono ?_
      rintro e w4 ⟨v4, rfl, o4, b4⟩
      have hpl := pn_len y
      obtain ⟨g4, c4, rfl, hcell⟩ := o4.some_of (pn_pos y hyb.1 hyb.2)
      have HO4 := hide (HO3.out.below b4)
      have hg4 := grown_of_below b4
      have HG4 := hide (grown_step HG3.out hg4 (fun k hk => by cases hk))
      have HC4 := hide (HC3.out.row hg4 (fun k hk => by cases hk))
      have HCL := hide hcell
      have hsz : w.heap.size ≤ w4.heap.size := HG4.out.size
      clear HO3 HG3 HC3 o4 b4 hg4 hcell
      go_wp2_with (at_builtin; refine wpList_append_own _ rfl _ _ 22 rfl w.heap.size 5 i0 (.int .u8 0) 1 1 Try.underlying22 hi hz0 hz1 hz2 rfl (by decide) _ _ _ rfl HO4.out ⟨g4, 0, none⟩ (pn y).length c4 ((pn y).map (Value.int .u8)) rfl (by simp) HCL.out (byt_cells _) (by unfold maxLen; omega) (by omega) (by omega) ?_; intro v' w5 hown' hgrow5 hnil5)
      obtain ⟨g5, c5, hv5⟩ : ∃ g5 c5, v' = .slice (some ⟨g5, 0, none⟩) (ys ++ pn y).length c5 := by
        rcases hown'.2 with ⟨_, h⟩ | ⟨g5, c5, _, h, _⟩
        · have := pn_pos y hyb.1 hyb.2; omega
        · exact ⟨g5, c5, by rw [h, List.length_append]⟩
      subst hv5
      have HO5 := hide (own_more hown')
      have hrow : ∀ q, Value.ownBlock (.slice (some ⟨b, 0, none⟩) ys.length c) = some q → w.heap.size ≤ q := fun q hq => (HO4.out.lt q hq).1
      have HG5 := hide (grown_step HG4.out hgrow5 (fun q hq => .inr (hrow q hq)))
      have HC5 := hide (HC4.out.row hgrow5 (fun q hq => by have := hrow q hq; omega))
      have HB5 := hide (HY.out.append (pn_byt y))
      have HN5 : Hid (numsF zs (6 - (k + 1)) (k + 1) (ys ++ pn y) s3 = numsF zs 6 0 [] s0) := by
        show _ = _
        rw [← HN.out, show 6 - k = 5 - k + 1 from by omega, HM.out, show 6 - (k + 1) = 5 - k from by omega]
      clear hown' hgrow5 hnil5 HO4 HG4 HC4 HCL HY hrow HN HM HP
      go_wp2
      exact ⟨⟨k + 1, g5, c5, ys ++ pn y, s3, by omega, by go_num, rfl, HO5, HB5, by simp; omega, HC5, HN5, HG5⟩, by simp [intOf]; omega⟩
    · go_wp2_with fail
      refine (onceDraw _ _ _ _ _ (by omega) (by omega) HC2.out).mono ?_
      rintro e w2 ⟨rfl, hc2, hg2⟩
      have HO2 := hide (HO1.out.cur hg2 hgl)
      have HG2 := hide (grown_step HG1.out hg2 (fun k hk => by cases hk; exact .inl rfl))
      have HC3 := hide hc2
      clear HO1 HG1 HC2 hc2 hg2
      cases ho : (onceF zs (belowF zs s 5).2 3).1 with
      | false =>
        have HE := hide (numsF_end zs (5 - k) k ys s (by omega) ho)
        clear ho
        go_wp2
        go_ret
        refine ⟨_, _, ys, _, ?_, rfl, HO2.out, HY.out, by omega, HC3.out, HG2.out⟩
        rw [← HN.out, show 6 - k = 5 - k + 1 from by omega, HE.out]
      | true =>
        have HE := hide (numsF_two zs (5 - k) k ys s (by omega) ho)
        clear ho
        go_wp2_with fail
        refine (pickDraw _ _ _ 3 _ _ [0, 128, 255] rfl (by omega) (by omega) HC3.out.lt (HC3.out.alloc _) (heap_alloc_new w2 _)).mono ?_
        rintro e w3 ⟨rfl, hc3, hg3⟩
        have hy := pickF_mem zs (onceF zs (belowF zs s 5).2 3).2 [0, 128, 255] (by simp)
        generalize hp : pickF zs (onceF zs (belowF zs s 5).2 3).2 [0, 128, 255] = py at *
        obtain ⟨y, s3⟩ := py
        have HP := hide hp
        clear hp
        have hc3 : Cur w3 g zs s3 := hc3
        have HE : Hid (numsF zs (5 - k + 1) k ys s = (ys ++ [y, (belowF zs s3 3).1], (belowF zs s3 3).2)) := HE
        have hyb : 0 ≤ y ∧ y ≤ 255 := by simp at hy; omega
        have hg3' := alloc_grown hg3
        have HO3 := hide (HO2.out.cur hg3' hgl)
        have HG3 := hide (grown_step HG2.out hg3' (fun k hk => by cases hk; exact .inl rfl))
        have HC4 := hide hc3
        clear HO2 HG2 HC3 hc3 hg3 hg3' hy
        go_wp2_with fail
        refine (belowDraw _ _ _ _ _ (by omega) (by omega) HC4.out).mono ?_
        rintro e w4 ⟨rfl, hc4, hg4⟩
        have hz := belowF_bd zs s3 3 (by omega)
        generalize hq : belowF zs s3 3 = pz at *
        obtain ⟨z, s4⟩ := pz
        have HQ := hide hq
        clear hq
        have hc4 : Cur w4 g zs s4 := hc4
        have HE : Hid (numsF zs (5 - k + 1) k ys s = (ys ++ [y, z], s4)) := HE
        have hz : 0 ≤ z ∧ z < 3 := hz
        have HO4 := hide (HO3.out.cur hg4 hgl)
        have HG4 := hide (grown_step HG3.out hg4 (fun k hk => by cases hk; exact .inl rfl))
        have HC5 := hide hc4
        have hsz : w.heap.size ≤ w4.heap.size := HG4.out.size
        clear HO3 HG3 HC4 hc4 hg4
        go_wp2_with (at_builtin; refine wpList_append_own _ rfl _ _ 22 rfl w.heap.size 5 i0 (.int .u8 0) 1 1 Try.underlying22 hi hz0 hz1 hz2 rfl (by decide) _ _ _ rfl (World.ownsRow.alloc HO4.out _) ⟨w4.heap.size, 0, none⟩ 2 2 [.int .u8 y, .int .u8 z] rfl rfl (cell_two_new _ _ _ _) (fun x hx => by simp at hx; rcases hx with rfl | rfl <;> rfl) (by unfold maxLen; omega) (by omega) (by simp; omega) ?_; intro v' w5 hown' hgrow5 hnil5)
        obtain ⟨g5, c5, hv5⟩ : ∃ g5 c5, v' = .slice (some ⟨g5, 0, none⟩) (ys ++ [y, z]).length c5 := by
          rcases hown'.2 with ⟨_, h⟩ | ⟨g5, c5, _, h, _⟩
          · omega
          · exact ⟨g5, c5, by rw [h, List.length_append]; rfl⟩
        subst hv5
        have HO5 := hide (own_more (ys := [y, z]) hown')
        have hrow : ∀ q, Value.ownBlock (.slice (some ⟨b, 0, none⟩) ys.length c) = some q → w.heap.size ≤ q := fun q hq => (HO4.out.lt q hq).1
        have hga := alloc_grown hgrow5
        have HG5 := hide (grown_step HG4.out hga (fun q hq => .inr (hrow q hq)))
        have HC6 := hide (HC5.out.row hga (fun q hq => by have := hrow q hq; omega))
        have HB5 := hide (HY.out.append (ys := [y, z]) (fun q hq => by simp at hq; omega))
        have HN5 : Hid (numsF zs 6 0 [] s0 = (ys ++ [y, z], s4)) := by
          show _ = _
          rw [← HN.out, show 6 - k = 5 - k + 1 from by omega, HE.out]
        clear hown' hgrow5 hnil5 HO4 HG4 HC5 HY hrow hga HN HE HP HQ
        go_wp2
        go_ret
        exact ⟨_, _, ys ++ [y, z], s4, HN5.out, rfl, HO5.out, HB5.out, by simp; omega, HC6.out, HG5.out⟩
end Go.Proofs.Ytmlbemcblgnbjaa
