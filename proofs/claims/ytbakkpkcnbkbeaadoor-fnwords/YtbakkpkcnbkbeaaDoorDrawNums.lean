/-
  What l1DrawNums and DrawGetWord do: some bytes are drawn, in new memory, and some place; nothing that was there is turned but the cursor.
-/
import Derived.Test.YtbakkpkcnbkbeaaDoorDraw
import Derived.Test.YtbakkpkcnbkbeaaDoorPutWordW
import Derived.Test.YtbakkpkcnbkbeaaDoorEq
import Derived.Test.YtbakkpkcnbkbeaaDoorTake
import Derived.WalkSmall
namespace Go.Proofs.YtbakkpkcnbkbeaaDoor
open Go.RowKit

/-- Numbers that are bytes. -/
def Byt (zs : List Int) : Prop := ∀ z ∈ zs, 0 ≤ z ∧ z ≤ 255

theorem pnF_byt : ∀ (k : Nat) (n : Int), 0 ≤ n → n ≤ pnB k → Byt (pnF k n)
  | 0, n, h0, h1 => by
    intro z hz
    simp [pnF] at hz
    simp [pnB] at h1
    omega
  | k + 1, n, h0, h1 => by
    intro z hz
    unfold pnF at hz
    split at hz
    · rcases List.mem_cons.1 hz with rfl | hz
      · omega
      · exact pnF_byt k (n / 128) (by omega) (by simp only [pnB] at h1; omega) z hz
    · simp at hz; omega
theorem pn_byt (n : Int) : Byt (pn n) := by
  unfold pn
  split
  · rename_i h
    exact pnF_byt 3 n h.1 (by simp [pnB]; omega)
  · intro z hz; cases hz
theorem pw_byt (n : Int) : Byt (pw n) := by
  unfold pw
  split
  · intro z hz
    simp at hz
    omega
  · intro z hz; cases hz
theorem Byt.append {xs ys : List Int} (h : Byt xs) (h' : Byt ys) : Byt (xs ++ ys) := by
  intro z hz
  rcases List.mem_append.1 hz with hz | hz
  · exact h z hz
  · exact h' z hz
theorem pnF_pos : ∀ (k : Nat) (n : Int), 0 < (pnF k n).length
  | 0, n => by simp [pnF]
  | k + 1, n => by unfold pnF; split <;> simp
theorem pn_pos (n : Int) (h0 : 0 ≤ n) (h1 : n ≤ 16777215) : 0 < (pn n).length := by rw [pn_in n h0 h1]; exact pnF_pos 3 n

theorem grown_step {w w1 w2 : World} {g : Nat} {row : Option Nat} (h : w.grownBy w1 (some g)) (h' : w1.grownBy w2 row) (hr : ∀ k, row = some k → k = g ∨ w.heap.size ≤ k) : w.grownBy w2 (some g) :=
  ⟨h'.os.trans h.os, h'.tape.trans h.tape, h'.output.trans h.output, Nat.le_trans h.size h'.size, fun k hk hne => (h'.block k (Nat.lt_of_lt_of_le hk h.size) (fun e => by
    rcases hr k e.symm with rfl | h2
    · exact hne rfl
    · omega)).trans (h.block k hk hne)⟩

theorem Own.cur {w w' : World} {b g : Nat} {v : Value} {zs : List Int} (h : Own w b v zs) (hg : w.grownBy w' (some g)) (hb : g < b) : Own w' b v zs := by
  refine World.ownsRow.kept h hg ?_
  cases hv : v.ownBlock with
  | none => exact .inl rfl
  | some k => exact .inr (fun e => by have := (h.lt k hv).1; cases e; omega)

theorem Cur.row {w w' : World} {g : Nat} {row : Option Nat} (h : Cur w g) (hg : w.grownBy w' row) (hr : ∀ k, row = some k → g < k) : Cur w' g :=
  h.kept (fun k hk => hg.block k (by have := h.lt; omega) (fun e => by have := hr k e.symm; omega))

theorem Own.some {w : World} {b : Nat} {v : Value} {zs : List Int} (h : Own w b v zs) (hz : 0 < zs.length) : ∃ g c, v = .slice (some ⟨g, 0, none⟩) zs.length c ∧ (∀ j u, (zs.map (Value.int .u8))[j]? = Option.some u → w.cell? ((⟨g, 0, none⟩ : Addr).add j) = Option.some u) := by
  rcases h.form with ⟨h0, _⟩ | ⟨_, g, c, rfl, _⟩
  · rw [h0] at hz; simp at hz
  · exact ⟨g, c, rfl, World.ownsRow.cells h (g := g) rfl⟩

theorem byt_cells (zs : List Int) : ∀ u ∈ zs.map (Value.int .u8), u.oneCell' = true := ints_oneCell .u8 zs

set_option maxRecDepth 100000 in
set_option maxHeartbeats 1000000 in
theorem drawNums (w : World) (g : Nat) (hc : Cur w g) :
    Calls Tryd.prog 38 #[.pointer (some ⟨g, 0, none⟩)] w fun e w' => ∃ b c ys, e = .returned (.slice (some ⟨b, 0, none⟩) ys.length c) ∧ Own w' w.heap.size (.slice (some ⟨b, 0, none⟩) ys.length c) ys ∧ Byt ys ∧ ys.length ≤ 30 ∧ Cur w' g ∧ w.grownBy w' (some g) := by
  have hgl := hc.lt
  have HC := hide hc
  clear hc
  obtain ⟨i0, hi, hz0, hz1, hz2⟩ := info_parts Tryd.info5
  go_enter Tryd.func38, Tryd.ntmps38
  go_wp2
  go_loopw [3, 4] (fun v i wr => ∃ (k b c : Nat) (ys : List Int), k ≤ 5 ∧ i = .int .i64 (k : Int) ∧ v = .slice (some ⟨b, 0, none⟩) ys.length c ∧ Hid (Own wr w.heap.size (.slice (some ⟨b, 0, none⟩) ys.length c) ys) ∧ Hid (Byt ys) ∧ ys.length ≤ 4 * k ∧ Hid (Cur wr g) ∧ Hid (w.grownBy wr (some g)))
    (fun _ i _ => 5 - (intOf i).toNat)
  case atStart => exact ⟨0, w.heap.size, 0, [], by omega, rfl, rfl, own_empty _ _ (Nat.le_refl _), (fun z hz => by cases hz), by simp, HC.out.alloc _, World.grownBy_alloc _ _ _⟩
  case round =>
    obtain ⟨k, b, c, ys, hk, rfl, rfl, HO, HY, hyl, HC1, HG⟩ := hrel
    clear HC
    go_wp2_with fail
    refine (belowDraw _ _ _ (by omega) (by omega) HC1.out).mono ?_
    rintro e w1 ⟨x, rfl, hx0, hx1, hc1, hg1⟩
    have HO1 := hide (HO.out.cur hg1 hgl)
    have HG1 := hide (grown_step HG.out hg1 (fun k hk => by cases hk; exact .inl rfl))
    have HC2 := hide hc1
    clear HO HG HC1 hc1 hg1
    by_cases hkx : (k : Int) < x
    · go_wp2_with fail
      refine (pickDraw _ _ _ 6 [0, 1, 127, 128, 300, 16777215] rfl (by omega) (by omega) HC2.out.lt (HC2.out.alloc _) (heap_alloc_new w1 _)).mono ?_
      rintro e w3 ⟨y, rfl, hy, hc3, hg3⟩
      have hyb : 0 ≤ y ∧ y ≤ 16777215 := by simp at hy; omega
      have hg3' := alloc_grown hg3
      have HO3 := hide (HO1.out.cur hg3' hgl)
      have HG3 := hide (grown_step HG1.out hg3' (fun k hk => by cases hk; exact .inl rfl))
      have HC3 := hide hc3
      clear HO1 HG1 HC2 hc3 hg3 hg3' hy
      go_wp2_with fail
      refine (putNumSpec _ _).mono ?_
      rintro e w4 ⟨v4, rfl, o4, b4⟩
      have hpl := pn_len y
      obtain ⟨g4, c4, rfl, hcell⟩ := o4.some (pn_pos y hyb.1 hyb.2)
      have HO4 := hide (HO3.out.below b4)
      have hg4 := grown_of_below b4
      have HG4 := hide (grown_step HG3.out hg4 (fun k hk => by cases hk))
      have HC4 := hide (HC3.out.row hg4 (fun k hk => by cases hk))
      have HCL := hide hcell
      have hsz : w.heap.size ≤ w4.heap.size := HG4.out.size
      clear HO3 HG3 HC3 o4 b4 hg4 hcell
      go_wp2_with (at_builtin; refine wpList_append_own _ rfl _ _ 22 rfl w.heap.size 5 i0 (.int .u8 0) 1 1 Tryd.underlying22 hi hz0 hz1 hz2 rfl (by decide) _ _ _ rfl HO4.out ⟨g4, 0, none⟩ (pn y).length c4 ((pn y).map (Value.int .u8)) rfl (by simp) HCL.out (byt_cells _) (by unfold maxLen; omega) (by omega) (by omega) ?_; intro v' w5 hown' hgrow5 hnil5)
      obtain ⟨g5, c5, hv5⟩ : ∃ g5 c5, v' = .slice (some ⟨g5, 0, none⟩) (ys ++ pn y).length c5 := by
        rcases hown'.2 with ⟨_, h⟩ | ⟨g5, c5, _, h, _⟩
        · have := pn_pos y hyb.1 hyb.2; omega
        · exact ⟨g5, c5, by rw [h, List.length_append]⟩
      subst hv5
      have HO5 := hide (own_more hown')
      have hrow : ∀ q, Value.ownBlock (.slice (some ⟨b, 0, none⟩) ys.length c) = some q → w.heap.size ≤ q := fun q hq => (HO4.out.lt q hq).1
      have HG5 := hide (grown_step HG4.out hgrow5 (fun q hq => .inr (hrow q hq)))
      have HC5 := hide (HC4.out.row hgrow5 (fun q hq => by have := hrow q hq; omega))
      have HB5 := hide (HY.out.append (pn_byt y))
      clear hown' hgrow5 hnil5 HO4 HG4 HC4 HCL HY hrow
      go_wp2
      exact ⟨⟨k + 1, g5, c5, ys ++ pn y, by omega, by go_num, rfl, HO5, HB5, by simp; omega, HC5, HG5⟩, by simp [intOf]; omega⟩
    · go_wp2_with fail
      refine (onceDraw _ _ _ (by omega) (by omega) HC2.out).mono ?_
      rintro e w2 ⟨y, rfl, hc2, hg2⟩
      have HO2 := hide (HO1.out.cur hg2 hgl)
      have HG2 := hide (grown_step HG1.out hg2 (fun k hk => by cases hk; exact .inl rfl))
      have HC3 := hide hc2
      clear HO1 HG1 HC2 hc2 hg2
      cases y
      · go_wp2
        go_ret
        exact ⟨_, _, ys, rfl, HO2.out, HY.out, by omega, HC3.out, HG2.out⟩
      · go_wp2_with fail
        refine (pickDraw _ _ _ 3 [0, 128, 255] rfl (by omega) (by omega) HC3.out.lt (HC3.out.alloc _) (heap_alloc_new w2 _)).mono ?_
        rintro e w3 ⟨y, rfl, hy, hc3, hg3⟩
        have hyb : 0 ≤ y ∧ y ≤ 255 := by simp at hy; omega
        have hg3' := alloc_grown hg3
        have HO3 := hide (HO2.out.cur hg3' hgl)
        have HG3 := hide (grown_step HG2.out hg3' (fun k hk => by cases hk; exact .inl rfl))
        have HC4 := hide hc3
        clear HO2 HG2 HC3 hc3 hg3 hg3' hy
        go_wp2_with fail
        refine (belowDraw _ _ _ (by omega) (by omega) HC4.out).mono ?_
        rintro e w4 ⟨z, rfl, hz0', hz1', hc4, hg4⟩
        have HO4 := hide (HO3.out.cur hg4 hgl)
        have HG4 := hide (grown_step HG3.out hg4 (fun k hk => by cases hk; exact .inl rfl))
        have HC5 := hide hc4
        have hsz : w.heap.size ≤ w4.heap.size := HG4.out.size
        clear HO3 HG3 HC4 hc4 hg4
        go_wp2_with (at_builtin; refine wpList_append_own _ rfl _ _ 22 rfl w.heap.size 5 i0 (.int .u8 0) 1 1 Tryd.underlying22 hi hz0 hz1 hz2 rfl (by decide) _ _ _ rfl (World.ownsRow.alloc HO4.out _) ⟨w4.heap.size, 0, none⟩ 2 2 [.int .u8 y, .int .u8 z] rfl rfl (cell_two_new _ _ _ _) (fun x hx => by simp at hx; rcases hx with rfl | rfl <;> rfl) (by unfold maxLen; omega) (by omega) (by simp; omega) ?_; intro v' w5 hown' hgrow5 hnil5)
        obtain ⟨g5, c5, hv5⟩ : ∃ g5 c5, v' = .slice (some ⟨g5, 0, none⟩) (ys ++ [y, z]).length c5 := by
          rcases hown'.2 with ⟨_, h⟩ | ⟨g5, c5, _, h, _⟩
          · omega
          · exact ⟨g5, c5, by rw [h, List.length_append]; rfl⟩
        subst hv5
        have HO5 := hide (own_more (ys := [y, z]) hown')
        have hrow : ∀ q, Value.ownBlock (.slice (some ⟨b, 0, none⟩) ys.length c) = some q → w.heap.size ≤ q := fun q hq => (HO4.out.lt q hq).1
        have hga := alloc_grown hgrow5
        have HG5 := hide (grown_step HG4.out hga (fun q hq => .inr (hrow q hq)))
        have HC6 := hide (HC5.out.row hga (fun q hq => by have := hrow q hq; omega))
        have HB5 := hide (HY.out.append (ys := [y, z]) (fun q hq => by simp at hq; omega))
        clear hown' hgrow5 hnil5 HO4 HG4 HC5 HY hrow hga
        go_wp2
        go_ret
        exact ⟨_, _, ys ++ [y, z], rfl, HO5.out, HB5.out, by simp; omega, HC6.out, HG5.out⟩
end Go.Proofs.YtbakkpkcnbkbeaaDoor
