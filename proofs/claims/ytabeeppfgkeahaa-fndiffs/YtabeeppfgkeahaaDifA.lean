/-
  What is apart, in the model.
-/
import Derived.Test.YtabeeppfgkeahaaDifS
namespace Go.Proofs.Ytabeeppfgkeahaa
open Go.RowKit

set_option maxRecDepth 100000 in
set_option maxHeartbeats 8000000 in
theorem apartS (w : World) (a b : List Cel) (v1 v2 : Value) (h1 : Reads w w.heap.size (cels a) v1) (h2 : Reads w w.heap.size (cels b) v2) (hla : a.length ≤ 1048576) (hlb : b.length ≤ 1048576) :
    Calls Try.prog 21 #[v1, v2] w fun e w' => e = .returned (.bool (apX a b)) ∧ Below w.heap.size w w' := by
  have H1 := hide h1
  have H2 := hide h2
  obtain ⟨a1, c1, e1, _⟩ := h1.shape
  obtain ⟨a2, c2, e2, _⟩ := h2.shape
  subst e1 e2
  clear h1 h2
  have HN : Hid (∀ i j, i < a.length → j < b.length → ((a.getD i default).a == (b.getD j default).a) = true → apX a b = false) := hide (fun i j hi hj h => ap_no hi hj h)
  have HYs : Hid ((∀ i j, i < a.length → j < b.length → ((a.getD i default).a == (b.getD j default).a) = false) → apX a b = true) := hide (fun h => ap_yes h)
  generalize apX a b = V at *
  go_enter Try.func21, Try.ntmps21
  go_wp2
  go_loopw [5, 6] (fun k _ wr => ∃ i : Nat, i ≤ a.length ∧ k = .int .i64 (i : Int) ∧ Hid (∀ p q, p < i → q < b.length → ((a.getD p default).a == (b.getD q default).a) = false) ∧ Hid (Below w.heap.size w wr)) (fun k _ _ => a.length - (intOf k).toNat)
  case atStart => exact ⟨0, Nat.zero_le _, rfl, hide (fun p q hp => by omega), hide (Below.refl _ _)⟩
  case round =>
    obtain ⟨i, hi, rfl, HP, HB⟩ := hrel
    by_cases hli : i < a.length
    · have hliI : (i : Int) < (a.length : Int) := by omega
      obtain ⟨_, _, ea, _, _, hcv⟩ := cel_at (H1.out)
      cases ea
      obtain ⟨b1, o1, rfl, hb1w, hcell1⟩ := hcv (by omega)
      obtain ⟨k0, _⟩ := hcell1 i hli
      have HXN := hide hli
      clear hcell1 hcv
      obtain ⟨x, hx⟩ : ∃ x, a.getD i default = x := ⟨_, rfl⟩
      rw [hx] at k0
      have HX := hide hx
      clear hx
      go_wp2
      go_loopw [6] (fun k wr => ∃ j : Nat, j ≤ b.length ∧ k = .int .i64 (j : Int) ∧ Hid (∀ q, q < j → (x.a == (b.getD q default).a) = false) ∧ Hid (Below w.heap.size w wr)) (fun k _ => b.length - (intOf k).toNat)
      case atStart => exact ⟨0, Nat.zero_le _, rfl, hide (fun q hq => by omega), HB⟩
      case round =>
        clear HB
        obtain ⟨j, hj, rfl, HQ, HB⟩ := hrel
        by_cases hlj : j < b.length
        · have hljI : (j : Int) < (b.length : Int) := by omega
          obtain ⟨_, _, eb, _, _, hcw⟩ := cel_at (H2.out.at HB.out)
          cases eb
          obtain ⟨b2, o2, rfl, hb2, hcell2⟩ := hcw (by omega)
          obtain ⟨f0, _⟩ := hcell2 j hlj
          clear hcell2 hcw
          have d0 := (HB.out.cell (p := ⟨b1, o1 + i * 3, none⟩) hb1w).trans k0
          have hb1 := Nat.lt_of_lt_of_le hb1w HB.out.size
          obtain ⟨y, hy⟩ : ∃ y, b.getD j default = y := ⟨_, rfl⟩
          rw [hy] at f0
          have HYY := hide hy
          clear hy
          cases k : (x.a == y.a) with
          | true =>
            have HF : Hid (V = false) := hide (HN.out i j HXN.out hlj (by rw [HX.out, HYY.out]; exact k))
            go_upto_region 7 with fail
            have HS : Hid (∀ w', Below wr.heap.size wr w' → w'.cell? ⟨b1, o1 + i * 3, none⟩ = some (.int .i64 x.a) ∧ w'.cell? ⟨b2, o2 + j * 3, none⟩ = some (.int .i64 y.a)) := hide (fun w' hb => ⟨(hb.cell (p := ⟨b1, o1 + i * 3, none⟩) hb1).trans d0, (hb.cell (p := ⟨b2, o2 + j * 3, none⟩) hb2).trans f0⟩)
            have HD : Hid (Below wr.heap.size wr wr.drew) := hide (Below.refl wr.heap.size wr).drew
            refine wp_region_held_drew (S := fun w' => w'.cell? ⟨b1, o1 + i * 3, none⟩ = some (.int .i64 x.a) ∧ w'.cell? ⟨b2, o2 + j * 3, none⟩ = some (.int .i64 y.a)) (by kernel_rfl) (HS.out _ HD.out) (fun hHeld => ?_)
            generalize wr.drew = x0 at HD hHeld ⊢
            refine wpAnyH_take (i := 0) (v := ?_) rfl (by kernel_rfl) (by kernel_rfl) (by kernel_rfl) (fun _ _ _ h => h) (Or.inl ⟨by rfl, ?_⟩) (by assumption) ?_
            rotate_left
            · intro w' hSw
              try dsimp only at hSw
              go_simp; try rfl
            simp only [List.getElem_toArray, List.getElem_cons_zero, Act.put, List.setIfInBounds_toArray, List.set_cons_zero, List.set_cons_succ]
            refine wpAnyH_take (i := 1) (v := ?_) rfl (by kernel_rfl) (by kernel_rfl) (by kernel_rfl) (fun _ _ _ h => h) (Or.inl ⟨by rfl, ?_⟩) (by assumption) ?_
            rotate_left
            · intro w' hSw
              try dsimp only at hSw
              go_simp; try rfl
            simp only [List.getElem_toArray, List.getElem_cons_succ, List.getElem_cons_zero, Act.put, List.setIfInBounds_toArray, List.set_cons_zero, List.set_cons_succ]
            refine wpAnyH_take (i := 2) (v := ?_) rfl (by kernel_rfl) (by kernel_rfl) (by kernel_rfl) (fun _ _ _ h => h) (Or.inl ⟨by rfl, ?_⟩) (by assumption) ?_
            rotate_left
            · intro w' hSw
              try dsimp only at hSw
              go_simp; try rfl
            simp only [List.getElem_toArray, List.getElem_cons_succ, List.getElem_cons_zero, Act.put, List.setIfInBounds_toArray, List.set_cons_zero, List.set_cons_succ]
            refine wpAnyH_take (i := 3) (v := ?_) rfl (by kernel_rfl) (by kernel_rfl) (by kernel_rfl) (fun _ _ _ h => h) (Or.inl ⟨by rfl, ?_⟩) (by assumption) ?_
            rotate_left
            · intro w' hSw
              try dsimp only at hSw
              go_simp; try rfl
            simp only [List.getElem_toArray, List.getElem_cons_succ, List.getElem_cons_zero, Act.put, List.setIfInBounds_toArray, List.set_cons_zero, List.set_cons_succ]
            refine wpAnyH_take (i := 4) (v := ?_) rfl (by kernel_rfl) (by kernel_rfl) (by kernel_rfl) (fun _ _ _ h => h) (Or.inl ⟨by rfl, ?_⟩) (by assumption) ?_
            rotate_left
            · intro w' hSw
              try dsimp only at hSw
              go_simp; try rfl
            simp only [List.getElem_toArray, List.getElem_cons_succ, List.getElem_cons_zero, Act.put, List.setIfInBounds_toArray, List.set_cons_zero, List.set_cons_succ]
            refine wpAnyH_take (i := 5) (v := ?_) rfl (by kernel_rfl) (by kernel_rfl) (by kernel_rfl) (fun _ _ _ h => h) (Or.inl ⟨by rfl, ?_⟩) (by assumption) ?_
            rotate_left
            · intro w' hSw
              try dsimp only at hSw
              go_simp; try rfl
            simp only [List.getElem_toArray, List.getElem_cons_succ, List.getElem_cons_zero, Act.put, List.setIfInBounds_toArray, List.set_cons_zero, List.set_cons_succ]
            refine wpAnyH_take (i := 6) (v := ?_) rfl (by kernel_rfl) (by kernel_rfl) (by kernel_rfl) (fun _ _ _ h => h) (Or.inl ⟨by rfl, ?_⟩) (by assumption) ?_
            rotate_left
            · intro w' hSw
              try dsimp only at hSw
              go_simp; try rfl
            simp only [List.getElem_toArray, List.getElem_cons_succ, List.getElem_cons_zero, Act.put, List.setIfInBounds_toArray, List.set_cons_zero, List.set_cons_succ]
            refine wpAnyH_take (i := 7) (v := ?_) rfl (by kernel_rfl) (by kernel_rfl) (by kernel_rfl) (fun _ _ _ h => h) (Or.inl ⟨by rfl, ?_⟩) (by assumption) ?_
            rotate_left
            · intro w' hSw
              try dsimp only at hSw
              go_simp; try rfl
            simp only [List.getElem_toArray, List.getElem_cons_succ, List.getElem_cons_zero, Act.put, List.setIfInBounds_toArray, List.set_cons_zero, List.set_cons_succ]
            refine wpAnyH_take (i := 8) (v := ?_) rfl (by kernel_rfl) (by kernel_rfl) (by kernel_rfl) (fun _ _ _ h => h) (Or.inl ⟨by rfl, ?_⟩) (by assumption) ?_
            rotate_left
            · intro w' hSw
              try dsimp only at hSw
              go_simp; try rfl
            simp only [List.getElem_toArray, List.getElem_cons_succ, List.getElem_cons_zero, Act.put, List.setIfInBounds_toArray, List.set_cons_zero, List.set_cons_succ]
            refine wpAnyH_take (i := 9) (v := ?_) rfl (by kernel_rfl) (by kernel_rfl) (by kernel_rfl) (fun _ _ _ h => h) (Or.inl ⟨by rfl, ?_⟩) (by assumption) ?_
            rotate_left
            · intro w' hSw
              try dsimp only at hSw
              go_simp; try rfl
            simp only [List.getElem_toArray, List.getElem_cons_succ, List.getElem_cons_zero, Act.put, List.setIfInBounds_toArray, List.set_cons_zero, List.set_cons_succ]
            refine wpAnyH_take (i := 10) (v := ?_) rfl (by kernel_rfl) (by kernel_rfl) (by kernel_rfl) (fun _ _ _ h => h) (Or.inl ⟨by rfl, ?_⟩) (by assumption) ?_
            rotate_left
            · intro w' hSw
              try dsimp only at hSw
              go_simp; try rfl
            simp only [List.getElem_toArray, List.getElem_cons_succ, List.getElem_cons_zero, Act.put, List.setIfInBounds_toArray, List.set_cons_zero, List.set_cons_succ]
            refine wpAnyH_done (by kernel_rfl) ?_ _
            have HX2 := hide (HB.out.trans (HD.out.mono HB.out.size))
            clear HS HD hHeld
            go_wp2
            go_ret
            exact ⟨by rw [HF.out]; rfl, HX2.out⟩
          | false =>
            have HQ2 : Hid (∀ q, q < j + 1 → (x.a == (b.getD q default).a) = false) := hide (fun q hq => by
              rcases Nat.lt_succ_iff_lt_or_eq.1 hq with h | rfl
              · exact HQ.out q h
              · rw [HYY.out]; exact k)
            go_upto_region 7 with fail
            have HS : Hid (∀ w', Below wr.heap.size wr w' → w'.cell? ⟨b1, o1 + i * 3, none⟩ = some (.int .i64 x.a) ∧ w'.cell? ⟨b2, o2 + j * 3, none⟩ = some (.int .i64 y.a)) := hide (fun w' hb => ⟨(hb.cell (p := ⟨b1, o1 + i * 3, none⟩) hb1).trans d0, (hb.cell (p := ⟨b2, o2 + j * 3, none⟩) hb2).trans f0⟩)
            have HD : Hid (Below wr.heap.size wr wr.drew) := hide (Below.refl wr.heap.size wr).drew
            refine wp_region_held_drew (S := fun w' => w'.cell? ⟨b1, o1 + i * 3, none⟩ = some (.int .i64 x.a) ∧ w'.cell? ⟨b2, o2 + j * 3, none⟩ = some (.int .i64 y.a)) (by kernel_rfl) (HS.out _ HD.out) (fun hHeld => ?_)
            generalize wr.drew = x0 at HD hHeld ⊢
            refine wpAnyH_take (i := 0) (v := ?_) rfl (by kernel_rfl) (by kernel_rfl) (by kernel_rfl) (fun _ _ _ h => h) (Or.inl ⟨by rfl, ?_⟩) (by assumption) ?_
            rotate_left
            · intro w' hSw
              try dsimp only at hSw
              go_simp; try rfl
            simp only [List.getElem_toArray, List.getElem_cons_zero, Act.put, List.setIfInBounds_toArray, List.set_cons_zero, List.set_cons_succ]
            refine wpAnyH_take (i := 1) (v := ?_) rfl (by kernel_rfl) (by kernel_rfl) (by kernel_rfl) (fun _ _ _ h => h) (Or.inl ⟨by rfl, ?_⟩) (by assumption) ?_
            rotate_left
            · intro w' hSw
              try dsimp only at hSw
              go_simp; try rfl
            simp only [List.getElem_toArray, List.getElem_cons_succ, List.getElem_cons_zero, Act.put, List.setIfInBounds_toArray, List.set_cons_zero, List.set_cons_succ]
            refine wpAnyH_take (i := 2) (v := ?_) rfl (by kernel_rfl) (by kernel_rfl) (by kernel_rfl) (fun _ _ _ h => h) (Or.inl ⟨by rfl, ?_⟩) (by assumption) ?_
            rotate_left
            · intro w' hSw
              try dsimp only at hSw
              go_simp; try rfl
            simp only [List.getElem_toArray, List.getElem_cons_succ, List.getElem_cons_zero, Act.put, List.setIfInBounds_toArray, List.set_cons_zero, List.set_cons_succ]
            refine wpAnyH_take (i := 3) (v := ?_) rfl (by kernel_rfl) (by kernel_rfl) (by kernel_rfl) (fun _ _ _ h => h) (Or.inl ⟨by rfl, ?_⟩) (by assumption) ?_
            rotate_left
            · intro w' hSw
              try dsimp only at hSw
              go_simp; try rfl
            simp only [List.getElem_toArray, List.getElem_cons_succ, List.getElem_cons_zero, Act.put, List.setIfInBounds_toArray, List.set_cons_zero, List.set_cons_succ]
            refine wpAnyH_take (i := 4) (v := ?_) rfl (by kernel_rfl) (by kernel_rfl) (by kernel_rfl) (fun _ _ _ h => h) (Or.inl ⟨by rfl, ?_⟩) (by assumption) ?_
            rotate_left
            · intro w' hSw
              try dsimp only at hSw
              go_simp; try rfl
            simp only [List.getElem_toArray, List.getElem_cons_succ, List.getElem_cons_zero, Act.put, List.setIfInBounds_toArray, List.set_cons_zero, List.set_cons_succ]
            refine wpAnyH_take (i := 5) (v := ?_) rfl (by kernel_rfl) (by kernel_rfl) (by kernel_rfl) (fun _ _ _ h => h) (Or.inl ⟨by rfl, ?_⟩) (by assumption) ?_
            rotate_left
            · intro w' hSw
              try dsimp only at hSw
              go_simp; try rfl
            simp only [List.getElem_toArray, List.getElem_cons_succ, List.getElem_cons_zero, Act.put, List.setIfInBounds_toArray, List.set_cons_zero, List.set_cons_succ]
            refine wpAnyH_take (i := 6) (v := ?_) rfl (by kernel_rfl) (by kernel_rfl) (by kernel_rfl) (fun _ _ _ h => h) (Or.inl ⟨by rfl, ?_⟩) (by assumption) ?_
            rotate_left
            · intro w' hSw
              try dsimp only at hSw
              go_simp; try rfl
            simp only [List.getElem_toArray, List.getElem_cons_succ, List.getElem_cons_zero, Act.put, List.setIfInBounds_toArray, List.set_cons_zero, List.set_cons_succ]
            refine wpAnyH_take (i := 7) (v := ?_) rfl (by kernel_rfl) (by kernel_rfl) (by kernel_rfl) (fun _ _ _ h => h) (Or.inl ⟨by rfl, ?_⟩) (by assumption) ?_
            rotate_left
            · intro w' hSw
              try dsimp only at hSw
              go_simp; try rfl
            simp only [List.getElem_toArray, List.getElem_cons_succ, List.getElem_cons_zero, Act.put, List.setIfInBounds_toArray, List.set_cons_zero, List.set_cons_succ]
            refine wpAnyH_take (i := 8) (v := ?_) rfl (by kernel_rfl) (by kernel_rfl) (by kernel_rfl) (fun _ _ _ h => h) (Or.inl ⟨by rfl, ?_⟩) (by assumption) ?_
            rotate_left
            · intro w' hSw
              try dsimp only at hSw
              go_simp; try rfl
            simp only [List.getElem_toArray, List.getElem_cons_succ, List.getElem_cons_zero, Act.put, List.setIfInBounds_toArray, List.set_cons_zero, List.set_cons_succ]
            refine wpAnyH_take (i := 9) (v := ?_) rfl (by kernel_rfl) (by kernel_rfl) (by kernel_rfl) (fun _ _ _ h => h) (Or.inl ⟨by rfl, ?_⟩) (by assumption) ?_
            rotate_left
            · intro w' hSw
              try dsimp only at hSw
              go_simp; try rfl
            simp only [List.getElem_toArray, List.getElem_cons_succ, List.getElem_cons_zero, Act.put, List.setIfInBounds_toArray, List.set_cons_zero, List.set_cons_succ]
            refine wpAnyH_take (i := 10) (v := ?_) rfl (by kernel_rfl) (by kernel_rfl) (by kernel_rfl) (fun _ _ _ h => h) (Or.inl ⟨by rfl, ?_⟩) (by assumption) ?_
            rotate_left
            · intro w' hSw
              try dsimp only at hSw
              go_simp; try rfl
            simp only [List.getElem_toArray, List.getElem_cons_succ, List.getElem_cons_zero, Act.put, List.setIfInBounds_toArray, List.set_cons_zero, List.set_cons_succ]
            refine wpAnyH_done (by kernel_rfl) ?_ _
            have HX2 := hide (HB.out.trans (HD.out.mono HB.out.size))
            clear HS HD hHeld
            go_wp2
            exact ⟨⟨j + 1, by omega, by go_num, HQ2, HX2⟩, by simp [intOf]; omega⟩
        · obtain rfl : j = b.length := by omega
          have hnl : ¬ (b.length : Int) < (b.length : Int) := by omega
          have HP2 : Hid (∀ p q, p < i + 1 → q < b.length → ((a.getD p default).a == (b.getD q default).a) = false) := hide (fun p q hp hq => by
            rcases Nat.lt_succ_iff_lt_or_eq.1 hp with h | rfl
            · exact HP.out p q h hq
            · rw [HX.out]; exact HQ.out q hq)
          go_wp2
          exact ⟨⟨i + 1, by omega, by go_num, HP2, HB⟩, by simp [intOf]; omega⟩
    · obtain rfl : i = a.length := by omega
      have hnl : ¬ (a.length : Int) < (a.length : Int) := by omega
      have HF : Hid (V = true) := hide (HYs.out HP.out)
      go_wp2
      go_ret
      exact ⟨by rw [HF.out]; rfl, HB.out⟩
end Go.Proofs.Ytabeeppfgkeahaa
