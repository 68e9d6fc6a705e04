/-
  What a name is, asked by the program and by its model.
-/
import Derived.Test.YthagfdcfpffaoaaPutTextW
import Derived.Test.YthagfdcfpffaoaaValW
import Derived.Laws.Strings
namespace Go.Proofs.Ythagfdcfpffaoaa
open Go.RowKit

/-- z is a letter. -/
def lett (z : Int) : Bool := (decide (97 ≤ z) && decide (z ≤ 122)) || (decide (65 ≤ z) && decide (z ≤ 90))
/-- s is a name. -/
def nameB (s : ByteArray) : Bool := inB s.size 1 8 && (bts s).all lett

theorem str_idx (s : ByteArray) (k : Nat) (hk : k < s.size) (w : World) : (Instr.index 9 (.string s) (.int .i64 (k : Int))).run Try.prog w = .ok (.int .u8 ((bts s).getD k 0)) w := by
  rw [run_index_string w 9 s .i64 k Try.underlying9, dif_pos ⟨by omega, by omega⟩]
  obtain ⟨⟨l⟩⟩ := s
  have hl : k < l.length := hk
  have e : (ByteArray.mk ⟨l⟩)[k]'hl = l.getD k 0 := by
    simp only [List.getD, List.getElem?_eq_getElem hl, Option.getD_some]
    rfl
  simp [bts, e, hl]
theorem bts_byte (s : ByteArray) (k : Nat) : 0 ≤ (bts s).getD k 0 ∧ (bts s).getD k 0 ≤ 255 := by
  by_cases hk : k < (bts s).length
  · have : (bts s).getD k 0 ∈ bts s := by
      rw [List.getD_eq_getElem?_getD, List.getElem?_eq_getElem hk]
      exact List.getElem_mem hk
    simp only [bts, List.mem_map] at this
    obtain ⟨b, _, hb⟩ := this
    have := b.toNat_lt
    rw [show (bts s) = s.data.toList.map fun b => (b.toNat : Int) from rfl, ← hb]
    omega
  · rw [List.getD_eq_getElem?_getD, List.getElem?_eq_none (by omega)]
    simp

theorem all_bad {s : ByteArray} {k : Nat} (hk : k < s.size) (h : lett ((bts s).getD k 0) = false) : (bts s).all lett = false := by
  have hl : k < (bts s).length := by rw [bts_len]; exact hk
  rw [List.all_eq_false]
  refine ⟨(bts s)[k], List.getElem_mem hl, ?_⟩
  rw [List.getD_eq_getElem?_getD, List.getElem?_eq_getElem hl] at h
  simpa using h
theorem all_good {s : ByteArray} (h : ∀ j, j < s.size → lett ((bts s).getD j 0) = true) : (bts s).all lett = true := by
  rw [List.all_eq_true]
  intro z hz
  obtain ⟨j, hj, rfl⟩ := List.getElem_of_mem hz
  have := h j (by rw [← bts_len]; exact hj)
  rw [List.getD_eq_getElem?_getD, List.getElem?_eq_getElem hj] at this
  simpa using this

theorem letterImpl (z : Int) (w : World) (h0 : 0 ≤ z) (h1 : z ≤ 255) :
    Calls Try.prog 93 #[.int .u8 z] w fun e w' => e = .returned (.bool (lett z)) ∧ w' = w := by
  by_cases a : 97 ≤ z
  · by_cases b : z ≤ 122
    · rw [show lett z = true from by simp [lett]; omega]
      go_enter Try.func93, Try.ntmps93
      go_wp2
      go_ret
      exact ⟨ret_bool (by simp), rfl⟩
    · rw [show lett z = false from by simp [lett]; omega]
      have c : 65 ≤ z := by omega
      have d : ¬ z ≤ 90 := by omega
      go_enter Try.func93, Try.ntmps93
      go_wp2
      go_ret
      exact ⟨ret_bool (by simp), rfl⟩
  · by_cases c : 65 ≤ z
    · by_cases d : z ≤ 90
      · rw [show lett z = true from by simp [lett]; omega]
        go_enter Try.func93, Try.ntmps93
        go_wp2
        go_ret
        exact ⟨ret_bool (by simp), rfl⟩
      · rw [show lett z = false from by simp [lett]; omega]
        go_enter Try.func93, Try.ntmps93
        go_wp2
        go_ret
        exact ⟨ret_bool (by simp), rfl⟩
    · rw [show lett z = false from by simp [lett]; omega]
      go_enter Try.func93, Try.ntmps93
      go_wp2
      go_ret
      exact ⟨ret_bool (by simp), rfl⟩

set_option maxRecDepth 100000 in
set_option maxHeartbeats 1000000 in
theorem nameImpl (s : ByteArray) (w : World) (hs : s.size ≤ maxLen) :
    Calls Try.prog 81 #[.string s] w fun e w' => e = .returned (.bool (nameB s)) ∧ w' = w := by
  unfold maxLen at hs
  have HN : Hid (nameB s = (inB s.size 1 8 && (bts s).all lett)) := hide rfl
  cases hb : inB s.size 1 8 with
  | false =>
    rw [hb] at HN
    go_enter Try.func81, Try.ntmps81
    go_wp2_with fail
    refine (inImpl _ _ _ _).mono ?_
    rintro e w1 ⟨rfl, rfl⟩
    rw [hb]
    go_wp2
    go_ret
    exact ⟨by rw [HN.out]; rfl, rfl⟩
  | true =>
    rw [hb] at HN
    go_enter Try.func81, Try.ntmps81
    go_wp2_with fail
    refine (inImpl _ _ _ _).mono ?_
    rintro e w1 ⟨rfl, rfl⟩
    rw [hb]
    clear hb
    go_wp2
    go_loopw [10] (fun x wr => ∃ j : Nat, j ≤ s.size ∧ x = .int .i64 (j : Int) ∧ Hid (∀ i, i < j → lett ((bts s).getD i 0) = true) ∧ wr = w1) (fun x _ => s.size - (intOf x).toNat)
    case atStart => exact ⟨0, by omega, rfl, hide (fun i hi => by omega), rfl⟩
    case round =>
      obtain ⟨j, hj, rfl, HG, rfl⟩ := hrel
      by_cases hlt : j < s.size
      · have hx := str_idx s j hlt
        have hz := bts_byte s j
        cases hl : lett ((bts s).getD j 0) with
        | false =>
          have HF : Hid (nameB s = false) := hide (by rw [HN.out, all_bad hlt hl]; rfl)
          clear HN HG
          generalize (bts s).getD j 0 = z at *
          go_wp2_with fail
          refine (letterImpl _ _ hz.1 hz.2).mono ?_
          rintro e w2 ⟨rfl, rfl⟩
          rw [hl]
          go_wp2
          go_ret
          exact ⟨by rw [HF.out]; rfl, rfl⟩
        | true =>
          have HY : Hid (∀ i, i < j + 1 → lett ((bts s).getD i 0) = true) := hide (fun i hi => by
            rcases Nat.lt_succ_iff_lt_or_eq.1 hi with h | rfl
            · exact HG.out i h
            · exact hl)
          clear HN HG
          generalize (bts s).getD j 0 = z at *
          go_wp2_with fail
          refine (letterImpl _ _ hz.1 hz.2).mono ?_
          rintro e w2 ⟨rfl, rfl⟩
          rw [hl]
          go_wp2
          exact ⟨⟨j + 1, by omega, by go_num, HY, by first | rfl | trivial⟩, by simp [intOf]; omega⟩
      · obtain rfl : j = s.size := by omega
        have HF : Hid (nameB s = true) := hide (by rw [HN.out, all_good HG.out]; rfl)
        clear HN HG
        go_wp2
        go_ret
        exact ⟨by rw [HF.out]; rfl, rfl⟩
set_option maxRecDepth 100000 in
set_option maxHeartbeats 2000000 in
theorem nameSpec (s : ByteArray) (w : World) (hs : s.size ≤ maxLen) :
    Calls Try.prog 49 #[.string s] w fun e w' => e = .returned (.bool (nameB s)) ∧ w' = w := by
  unfold maxLen at hs
  have HN : Hid (nameB s = (inB s.size 1 8 && (bts s).all lett)) := hide rfl
  go_enter Try.func49, Try.ntmps49
  go_wp2
  go_loopw [3] (fun x wr => ∃ j : Nat, j ≤ s.size ∧ x = .int .i64 (j : Int) ∧ Hid (∀ i, i < j → lett ((bts s).getD i 0) = true) ∧ wr = w) (fun x _ => s.size - (intOf x).toNat)
  case atStart => exact ⟨0, by omega, rfl, hide (fun i hi => by omega), rfl⟩
  case round =>
    obtain ⟨j, hj, rfl, HG, rfl⟩ := hrel
    by_cases hlt : j < s.size
    · have hx := str_idx s j hlt
      have hz := bts_byte s j
      have HF : lett ((bts s).getD j 0) = false → Hid (nameB s = false) := fun hl => hide (by rw [HN.out, all_bad hlt hl]; simp)
      have HY : lett ((bts s).getD j 0) = true → Hid (∀ i, i < j + 1 → lett ((bts s).getD i 0) = true) := fun hl => hide (fun i hi => by
          rcases Nat.lt_succ_iff_lt_or_eq.1 hi with h | rfl
          · exact HG.out i h
          · exact hl)
      clear HN HG
      generalize (bts s).getD j 0 = z at *
      by_cases a : 97 ≤ z
      · by_cases b : z ≤ 122
        · replace HY := HY (by simp [lett]; omega)
          clear HF
          go_wp2
          exact ⟨⟨j + 1, by omega, by go_num, HY, by first | rfl | trivial⟩, by simp [intOf]; omega⟩
        · replace HF := HF (by simp [lett]; omega)
          clear HY
          have c : 65 ≤ z := by omega
          have d : ¬ z ≤ 90 := by omega
          go_wp2
          go_ret
          exact ⟨by rw [HF.out]; rfl, rfl⟩
      · by_cases c : 65 ≤ z
        · by_cases d : z ≤ 90
          · replace HY := HY (by simp [lett]; omega)
            clear HF
            go_wp2
            exact ⟨⟨j + 1, by omega, by go_num, HY, by first | rfl | trivial⟩, by simp [intOf]; omega⟩
          · replace HF := HF (by simp [lett]; omega)
            clear HY
            go_wp2
            go_ret
            exact ⟨by rw [HF.out]; rfl, rfl⟩
        · replace HF := HF (by simp [lett]; omega)
          clear HY
          go_wp2
          go_ret
          exact ⟨by rw [HF.out]; rfl, rfl⟩
    · obtain rfl : j = s.size := by omega
      have HF : Hid (nameB s = inB s.size 1 8) := hide (by rw [HN.out, all_good HG.out]; simp)
      clear HN HG
      go_wp2_with fail
      refine (inSpec _ _ _ _).mono ?_
      rintro e w1 ⟨rfl, rfl⟩
      go_wp2
      go_ret
      exact ⟨by rw [HF.out]; rfl, rfl⟩
end Go.Proofs.Ythagfdcfpffaoaa
