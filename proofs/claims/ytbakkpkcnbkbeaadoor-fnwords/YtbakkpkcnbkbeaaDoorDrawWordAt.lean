/-
  What DrawGetWord does: some bytes are drawn, in new memory, and some place; nothing that was there is turned.
-/
import Derived.Test.YtbakkpkcnbkbeaaDoorDrawNums
namespace Go.Proofs.YtbakkpkcnbkbeaaDoor
open Go.RowKit

theorem Byt.at {zs : List Int} (h : Byt zs) : ∀ j, j < zs.length → 0 ≤ zs.getD j 0 ∧ zs.getD j 0 ≤ 255 := by
  intro j hj
  have e : zs.getD j 0 = zs[j] := by simp [hj]
  rw [e]
  exact h _ (List.getElem_mem _)

/-- What one owns may be read. -/
theorem in_any {w : World} {b B : Nat} {v : Value} {zs : List Int} (h : Own w b v zs) (hm : zs.length ≤ 1048576) (hz : Byt zs) (hB : w.heap.size ≤ B) : ∃ a c, v = .slice a zs.length c ∧ In w B a zs.length zs ∧ zs.length ≤ c := by
  rcases h.2 with ⟨rfl, h0⟩ | ⟨g, c, cur, rfl, _, hg, hn, _⟩
  · refine ⟨none, 0, by rw [h0], ⟨rfl, hm, hz.at, fun hp => by omega⟩, by omega⟩
  · refine ⟨some ⟨g, 0, none⟩, c, rfl, ⟨rfl, hm, hz.at, fun hp => ⟨g, 0, rfl, ?_, fun j hj => ?_⟩⟩, hn⟩
    · have := (Array.getElem?_eq_some_iff.1 hg).1; omega
    · have := World.ownsRow.cellAt h j (by omega)
      rw [Nat.zero_add, this]
      simp [hj]

theorem own_shape {w : World} {b : Nat} {v : Value} {zs : List Int} (h : Own w b v zs) : ∃ a c, v = .slice a zs.length c := by
  rcases h.2 with ⟨rfl, h0⟩ | ⟨g, c, _, rfl, _⟩
  · exact ⟨_, _, by rw [h0]⟩
  · exact ⟨_, _, rfl⟩

theorem in_slice {w : World} {b B c : Nat} {a : Option Addr} {zs : List Int} (h : Own w b (.slice a zs.length c) zs) (hm : zs.length ≤ 1048576) (hz : Byt zs) (hB : w.heap.size ≤ B) : In w B a zs.length zs ∧ zs.length ≤ c := by
  obtain ⟨a', c', e, hi, hc⟩ := in_any h hm hz hB
  cases e
  exact ⟨hi, hc⟩

set_option maxRecDepth 100000 in
set_option maxHeartbeats 1000000 in
theorem drawGetWord (w : World) (a : Option Addr) (len cap : Nat) (zs : List Int) (hin : In w w.heap.size a len zs) :
    Calls Tryd.prog 26 #[.slice a len cap] w fun e w' => ∃ a' c' ys k, e = .returned (.tuple #[.slice a' ys.length c', .int .i64 k]) ∧ In w' w'.heap.size a' ys.length ys ∧ ys.length ≤ c' ∧ I64 k ∧ Below w.heap.size w w' := by
  obtain ⟨i0, hi, hz0, hz1, hz2⟩ := info_parts Tryd.info5
  have HIN := hide hin
  clear hin
  go_enter Tryd.func26, Tryd.ntmps26
  go_wp2_with fail
  refine (newDraw _ _ _ _ _ HIN.out).mono ?_
  rintro e w1 ⟨rfl, hc1, hb1⟩
  have hgl := hc1.lt
  have HC1 := hide hc1
  have HB1 := hide hb1
  clear hc1 hb1 HIN
  go_wp2_with fail
  refine (drawWord _ _ HC1.out).mono ?_
  rintro e w2 ⟨x, rfl, hx, hc2, hg2⟩
  have HB2 := hide (HB1.out.grown hg2 HB1.out.size (fun k hk => by cases hk; exact Nat.le_refl _))
  have HC2 := hide hc2
  clear hx hc2 hg2 HB1 HC1
  go_wp2_with fail
  refine (putWordSpec _ _).mono ?_
  rintro e w3 ⟨v3, rfl, o3, b3⟩
  have hg2 := HC2.out.lt
  have HB3 := hide (HB2.out.trans (b3.mono HB2.out.size))
  have HC3 := hide (HC2.out.row (grown_of_below b3) (fun k hk => by cases hk))
  have HO3 := hide o3
  have hs3 := b3.size
  have hpl := pw_len x
  clear o3 b3 HB2 HC2
  go_wp2_with fail
  refine (drawNums _ _ HC3.out).mono ?_
  rintro e w4 ⟨b4, c4, ys, rfl, o4, hy, hyl, hc4, hg4⟩
  have hg3 := HC3.out.lt
  have HB4 := hide (HB3.out.grown hg4 HB3.out.size (fun k hk => by cases hk; exact Nat.le_refl _))
  have HC4 := hide hc4
  have HO4 := hide (HO3.out.cur hg4 hg2)
  have HCL := hide (World.ownsRow.cells o4 (g := b4) rfl)
  have HY := hide hy
  have hs4 : w2.heap.size ≤ w4.heap.size := Nat.le_trans hs3 hg4.size
  have hs0 : w.heap.size ≤ w2.heap.size := by omega
  clear o4 hy hc4 hg4 HB3 HC3 HO3 hg3 hs3
  have HBY := hide ((pw_byt x).append HY.out)
  have hal : (pw x ++ ys).length ≤ 34 := by simp; omega
  go_wp2_with (at_builtin; refine wpList_append_own _ rfl _ _ 22 rfl w2.heap.size 5 i0 (.int .u8 0) 1 1 Tryd.underlying22 hi hz0 hz1 hz2 rfl (by decide) _ _ _ rfl HO4.out ⟨b4, 0, none⟩ ys.length c4 (ys.map (Value.int .u8)) rfl (by simp) HCL.out (byt_cells _) (by unfold maxLen; omega) (by omega) (by omega) ?_; intro v' w5 hown' hgrow5 hnil5; have HO5 := hide (own_more hown'); obtain ⟨a5, c5, rfl⟩ := own_shape HO5.out; have HB5 := hide (HB4.out.grown hgrow5 HB4.out.size (fun q hq => Nat.le_trans hs0 (HO4.out.lt q hq).1)); have HC5 := hide (HC4.out.row hgrow5 (fun q hq => Nat.lt_of_lt_of_le hg2 (HO4.out.lt q hq).1)); clear hown' hgrow5 hnil5 HO4 HCL HY HB4 HC4; generalize pw x ++ ys = L at *)
  have hgL := HC5.out.lt
  refine (pickDraw _ _ _ 8 [0, 0, 0, 1, (L.length : Int) - 4, (L.length : Int) - 3, -1, 9223372036854775807] rfl (by omega) (by omega) hgL (HC5.out.alloc _) (heap_alloc_new w5 _)).mono ?_
  rintro e w6 ⟨k, rfl, hk, -, hg6⟩
  have hk64 : I64 k := by simp at hk; unfold I64; omega
  have hga := alloc_grown hg6
  have HO6 := HO5.out.cur hga hg2
  have HI := hide (in_slice HO6 (by omega) HBY.out (Nat.le_refl _))
  have HB6 := hide (HB5.out.grown hga HB5.out.size (fun q hq => by cases hq; exact Nat.le_refl _))
  clear HO6 hga hg6 hk HO5 HB5 HC5 HBY
  go_wp2
  go_ret2
  exact ⟨a5, c5, L, k, rfl, HI.out.1, HI.out.2, hk64, HB6.out⟩
end Go.Proofs.YtbakkpkcnbkbeaaDoor
