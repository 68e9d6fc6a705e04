/-
  Joined: PutTextW, ValW, NameW.
-/
import Derived.Test.YtpgmipbanpofaaaGreatDoorJ6
import Derived.Lib.AppendStr
import Derived.Laws.IdiomStrings
import Derived.Deep.QuietTactic
import Derived.BigQuiet
import Derived.Laws.Strings
/-
  What PutText does, in the program and in its model: both answer the length and the bytes of the text (none, where it is too long) in new memory, and touch nothing that was there.
-/
namespace Go.Proofs.YtpgmipbanpofaaaGreatDoor
open Go.RowKit

/-- The bytes of a text, as numbers. -/
def bts (s : ByteArray) : List Int := s.data.toList.map fun b => (b.toNat : Int)
theorem bts_len (s : ByteArray) : (bts s).length = s.size := by simp [bts]
theorem bts_cells (s : ByteArray) : Lib.strCells s = (bts s).map (Value.int .u8) := by simp [bts, Lib.strCells]

def pt (s : ByteArray) : List Int := if s.size ≤ 200 then pn s.size ++ bts s else []
theorem pt_in (s : ByteArray) (h : s.size ≤ 200) : pt s = pn s.size ++ bts s := by simp [pt, h]
theorem pt_out (s : ByteArray) (h : 200 < s.size) : pt s = [] := by unfold pt; rw [if_neg (by omega)]
theorem pt_len (s : ByteArray) : (pt s).length ≤ 204 := by
  unfold pt
  have := pn_len s.size
  have := bts_len s
  split <;> simp <;> omega

theorem own_text {w : World} {b : Nat} {v : Value} {xs : List Int} {s : ByteArray} (h : w.ownsRow b 5 1 v (xs.length + s.size) (xs.map (Value.int .u8) ++ Lib.strCells s)) : Own w b v (xs ++ bts s) := by
  rw [bts_cells, ← bts_len s] at h
  exact own_more h

theorem bytes_cells (w : World) (s : ByteArray) (cap : Nat) (fz : Nat × Nat) : ∀ j u, (Lib.strCells s)[j]? = some u →
    (w.alloc (.cells (bytesRow s cap) 5 fz)).cell? ((⟨w.heap.size, 0, none⟩ : Addr).add j) = some u := by
  intro j u hu
  have hj : j < s.size := by
    have := (List.getElem?_eq_some_iff.1 hu).1
    rwa [Lib.strCells_length] at this
  rw [Addr.add_lit, Nat.zero_add, cell_of_row _ w.heap.size j (bytesRow s cap) 5 fz (heap_alloc_new w _), ← hu]
  have hj' : j < s.data.size := hj
  have hl : (s.data.map fun b => Value.int .u8 (b.toNat : Int)).size = s.data.size := by simp
  rw [bytesRow, Array.getElem?_append, if_pos (by rw [hl]; exact hj')]
  simp [Lib.strCells]

set_option maxRecDepth 100000 in
set_option maxHeartbeats 400000 in
theorem putTextSpec (s : ByteArray) (w : World) (hs : s.size ≤ maxLen) :
    Calls Tryz.prog 34 #[.string s] w fun e w' => ∃ v, e = .returned v ∧ Own w' w.heap.size v (pt s) ∧ Below w.heap.size w w' := by
  unfold maxLen at hs
  by_cases hn : 200 < s.size
  · rw [pt_out s hn]
    go_enter Tryz.func34, Tryz.ntmps34
    go_wp2
    go_ret
    exact ⟨_, rfl, own_empty _ _ (Nat.le_refl _), (Below.refl _ _).alloc (Nat.le_refl _) _⟩
  · rw [pt_in s (by omega)]
    have hpl := pn_len s.size
    obtain ⟨i0, hi, hz0, hz1, hz2⟩ := info_parts Tryz.info5
    have hcv := fun W : World => run_bytes_of_string (P := Tryz.prog) W 9 22 5 s Tryz.underlying9 Tryz.underlying22 Tryz.underlying5
    go_enter Tryz.func34, Tryz.ntmps34
    go_wp2_with fail
    refine (putNumSpec _ _).mono ?_
    rintro e w1 ⟨v0, rfl, o0, b0⟩
    have hsz := b0.size
    go_wp2_with (first | (at_builtin; refine wpList_append_own _ rfl _ _ 22 rfl w.heap.size 5 i0 (.int .u8 0) 1 1 Tryz.underlying22 hi hz0 hz1 hz2 rfl (by decide) _ _ _ rfl (by exact World.ownsRow.alloc o0 _) ⟨w1.heap.size, 0, none⟩ s.size _ (Lib.strCells s) rfl (by simp [Lib.strCells_length]) (by exact bytes_cells w1.drew s _ _) (Lib.strCells_oneCell s) (by unfold maxLen; omega) (by omega) (by simp; omega) ?_; intro v' w3 hown' hgrow3 hnil3))
    go_ret
    exact ⟨_, rfl, own_text hown', below_app (below_drewN b0 1) hsz (o0.drewN 1) hgrow3⟩

end Go.Proofs.YtpgmipbanpofaaaGreatDoor
/-
  What a value of a field is, and what ValOk does with it, in the program and in its model.
-/
namespace Go.Proofs.YtpgmipbanpofaaaGreatDoor
open Go.RowKit

/-- What ValOk says of a value. -/
def vOk (r : Bool) (n : Int) : Bool := bif r then inB n 0 1000000 else inB n (-2147483648) 2147483647

theorem wordSpec (n : Int) (w : World) :
    Calls Tryz.prog 54 #[.int .i64 n] w fun e w' => e = .returned (.bool (inB n (-2147483648) 2147483647)) ∧ w' = w := by
  cases h : inB n (-2147483648) 2147483647 with
  | true => have := inB_yes h; exact wordYes n w this.1 this.2
  | false => exact wordNo n w (inB_no h)

theorem rnd_eq (n : Int) : (rnd n == n) = inB n (-2147483648) 2147483647 := by
  cases h : inB n (-2147483648) 2147483647 with
  | true => have := inB_yes h; simp [rnd]; omega
  | false => have := inB_no h; simp [rnd]; omega

end Go.Proofs.YtpgmipbanpofaaaGreatDoor
/-
  What a name is, asked by the program and by its model.
-/
namespace Go.Proofs.YtpgmipbanpofaaaGreatDoor
open Go.RowKit

/-- z is a letter. -/
def lett (z : Int) : Bool := (decide (97 ≤ z) && decide (z ≤ 122)) || (decide (65 ≤ z) && decide (z ≤ 90))
/-- s is a name. -/
def nameB (s : ByteArray) : Bool := inB s.size 1 8 && (bts s).all lett

theorem str_idx (s : ByteArray) (k : Nat) (hk : k < s.size) (w : World) : (Instr.index 9 (.string s) (.int .i64 (k : Int))).run Tryz.prog w = .ok (.int .u8 ((bts s).getD k 0)) w := by
  rw [run_index_string w 9 s .i64 k Tryz.underlying9, dif_pos ⟨by omega, by omega⟩]
  obtain ⟨⟨l⟩⟩ := s
  have hl : k < l.length := hk
  have e : (ByteArray.mk ⟨l⟩)[k]'hl = l.getD k 0 := by
    simp only [List.getD, List.getElem?_eq_getElem hl, Option.getD_some]
    rfl
  simp [bts, e, hl]
theorem bts_byte (s : ByteArray) (k : Nat) : 0 ≤ (bts s).getD k 0 ∧ (bts s).getD k 0 ≤ 255 := by
  by_cases hk : k < (bts s).length
  · have : (bts s).getD k 0 ∈ bts s := by
      rw [List.getD_eq_getElem?_getD, List.getElem?_eq_getElem hk]
      exact List.getElem_mem hk
    simp only [bts, List.mem_map] at this
    obtain ⟨b, _, hb⟩ := this
    have := b.toNat_lt
    rw [show (bts s) = s.data.toList.map fun b => (b.toNat : Int) from rfl, ← hb]
    omega
  · rw [List.getD_eq_getElem?_getD, List.getElem?_eq_none (by omega)]
    simp

theorem all_bad {s : ByteArray} {k : Nat} (hk : k < s.size) (h : lett ((bts s).getD k 0) = false) : (bts s).all lett = false := by
  have hl : k < (bts s).length := by rw [bts_len]; exact hk
  rw [List.all_eq_false]
  refine ⟨(bts s)[k], List.getElem_mem hl, ?_⟩
  rw [List.getD_eq_getElem?_getD, List.getElem?_eq_getElem hl] at h
  simpa using h
theorem all_good {s : ByteArray} (h : ∀ j, j < s.size → lett ((bts s).getD j 0) = true) : (bts s).all lett = true := by
  rw [List.all_eq_true]
  intro z hz
  obtain ⟨j, hj, rfl⟩ := List.getElem_of_mem hz
  have := h j (by rw [← bts_len]; exact hj)
  rw [List.getD_eq_getElem?_getD, List.getElem?_eq_getElem hj] at this
  simpa using this

theorem letterImpl (z : Int) (w : World) (h0 : 0 ≤ z) (h1 : z ≤ 255) :
    Calls Tryz.prog 98 #[.int .u8 z] w fun e w' => e = .returned (.bool (lett z)) ∧ w' = w := by
  by_cases a : 97 ≤ z
  · by_cases b : z ≤ 122
    · rw [show lett z = true from by simp [lett]; omega]
      go_enter Tryz.func98, Tryz.ntmps98
      go_wp2
      go_ret
      exact ⟨ret_bool (by simp), rfl⟩
    · rw [show lett z = false from by simp [lett]; omega]
      have c : 65 ≤ z := by omega
      have d : ¬ z ≤ 90 := by omega
      go_enter Tryz.func98, Tryz.ntmps98
      go_wp2
      go_ret
      exact ⟨ret_bool (by simp), rfl⟩
  · by_cases c : 65 ≤ z
    · by_cases d : z ≤ 90
      · rw [show lett z = true from by simp [lett]; omega]
        go_enter Tryz.func98, Tryz.ntmps98
        go_wp2
        go_ret
        exact ⟨ret_bool (by simp), rfl⟩
      · rw [show lett z = false from by simp [lett]; omega]
        go_enter Tryz.func98, Tryz.ntmps98
        go_wp2
        go_ret
        exact ⟨ret_bool (by simp), rfl⟩
    · rw [show lett z = false from by simp [lett]; omega]
      go_enter Tryz.func98, Tryz.ntmps98
      go_wp2
      go_ret
      exact ⟨ret_bool (by simp), rfl⟩

set_option maxRecDepth 100000 in
set_option maxHeartbeats 1000000 in
theorem nameImpl (s : ByteArray) (w : World) (hs : s.size ≤ maxLen) :
    Calls Tryz.prog 88 #[.string s] w fun e w' => e = .returned (.bool (nameB s)) ∧ w' = w := by
  unfold maxLen at hs
  have HN : Hid (nameB s = (inB s.size 1 8 && (bts s).all lett)) := hide rfl
  cases hb : inB s.size 1 8 with
  | false =>
    rw [hb] at HN
    go_enter Tryz.func88, Tryz.ntmps88
    go_wp2_with fail
    refine (inImpl _ _ _ _).mono ?_
    rintro e w1 ⟨rfl, rfl⟩
    rw [hb]
    go_wp2
    go_ret
    exact ⟨by rw [HN.out]; rfl, rfl⟩
  | true =>
    rw [hb] at HN
    go_enter Tryz.func88, Tryz.ntmps88
    go_wp2_with fail
    refine (inImpl _ _ _ _).mono ?_
    rintro e w1 ⟨rfl, rfl⟩
    rw [hb]
    clear hb
    go_wp2
    go_loopw [10] (fun x wr => ∃ j : Nat, j ≤ s.size ∧ x = .int .i64 (j : Int) ∧ Hid (∀ i, i < j → lett ((bts s).getD i 0) = true) ∧ wr = w1) (fun x _ => s.size - (intOf x).toNat)
    case atStart => exact ⟨0, by omega, rfl, hide (fun i hi => by omega), rfl⟩
    case round =>
      obtain ⟨j, hj, rfl, HG, rfl⟩ := hrel
      by_cases hlt : j < s.size
      · have hx := str_idx s j hlt
        have hz := bts_byte s j
        cases hl : lett ((bts s).getD j 0) with
        | false =>
          have HF : Hid (nameB s = false) := hide (by rw [HN.out, all_bad hlt hl]; rfl)
          clear HN HG
          generalize (bts s).getD j 0 = z at *
          go_wp2_with fail
          refine (letterImpl _ _ hz.1 hz.2).mono ?_
          rintro e w2 ⟨rfl, rfl⟩
          rw [hl]
          go_wp2
          go_ret
          exact ⟨by rw [HF.out]; rfl, rfl⟩
        | true =>
          have HY : Hid (∀ i, i < j + 1 → lett ((bts s).getD i 0) = true) := hide (fun i hi => by
            rcases Nat.lt_succ_iff_lt_or_eq.1 hi with h | rfl
            · exact HG.out i h
            · exact hl)
          clear HN HG
          generalize (bts s).getD j 0 = z at *
          go_wp2_with fail
          refine (letterImpl _ _ hz.1 hz.2).mono ?_
          rintro e w2 ⟨rfl, rfl⟩
          rw [hl]
          go_wp2
          exact ⟨⟨j + 1, by omega, by go_num, HY, by first | rfl | trivial⟩, by simp [intOf]; omega⟩
      · obtain rfl : j = s.size := by omega
        have HF : Hid (nameB s = true) := hide (by rw [HN.out, all_good HG.out]; rfl)
        clear HN HG
        go_wp2
        go_ret
        exact ⟨by rw [HF.out]; rfl, rfl⟩
set_option maxRecDepth 100000 in
set_option maxHeartbeats 2000000 in
theorem nameSpec (s : ByteArray) (w : World) (hs : s.size ≤ maxLen) :
    Calls Tryz.prog 55 #[.string s] w fun e w' => e = .returned (.bool (nameB s)) ∧ w' = w := by
  unfold maxLen at hs
  have HN : Hid (nameB s = (inB s.size 1 8 && (bts s).all lett)) := hide rfl
  go_enter Tryz.func55, Tryz.ntmps55
  go_wp2
  go_loopw [3] (fun x wr => ∃ j : Nat, j ≤ s.size ∧ x = .int .i64 (j : Int) ∧ Hid (∀ i, i < j → lett ((bts s).getD i 0) = true) ∧ wr = w) (fun x _ => s.size - (intOf x).toNat)
  case atStart => exact ⟨0, by omega, rfl, hide (fun i hi => by omega), rfl⟩
  case round =>
    obtain ⟨j, hj, rfl, HG, rfl⟩ := hrel
    by_cases hlt : j < s.size
    · have hx := str_idx s j hlt
      have hz := bts_byte s j
      have HF : lett ((bts s).getD j 0) = false → Hid (nameB s = false) := fun hl => hide (by rw [HN.out, all_bad hlt hl]; simp)
      have HY : lett ((bts s).getD j 0) = true → Hid (∀ i, i < j + 1 → lett ((bts s).getD i 0) = true) := fun hl => hide (fun i hi => by
          rcases Nat.lt_succ_iff_lt_or_eq.1 hi with h | rfl
          · exact HG.out i h
          · exact hl)
      clear HN HG
      generalize (bts s).getD j 0 = z at *
      by_cases a : 97 ≤ z
      · by_cases b : z ≤ 122
        · replace HY := HY (by simp [lett]; omega)
          clear HF
          go_wp2
          exact ⟨⟨j + 1, by omega, by go_num, HY, by first | rfl | trivial⟩, by simp [intOf]; omega⟩
        · replace HF := HF (by simp [lett]; omega)
          clear HY
          have c : 65 ≤ z := by omega
          have d : ¬ z ≤ 90 := by omega
          go_wp2
          go_ret
          exact ⟨by rw [HF.out]; rfl, rfl⟩
      · by_cases c : 65 ≤ z
        · by_cases d : z ≤ 90
          · replace HY := HY (by simp [lett]; omega)
            clear HF
            go_wp2
            exact ⟨⟨j + 1, by omega, by go_num, HY, by first | rfl | trivial⟩, by simp [intOf]; omega⟩
          · replace HF := HF (by simp [lett]; omega)
            clear HY
            go_wp2
            go_ret
            exact ⟨by rw [HF.out]; rfl, rfl⟩
        · replace HF := HF (by simp [lett]; omega)
          clear HY
          go_wp2
          go_ret
          exact ⟨by rw [HF.out]; rfl, rfl⟩
    · obtain rfl : j = s.size := by omega
      have HF : Hid (nameB s = inB s.size 1 8) := hide (by rw [HN.out, all_good HG.out]; simp)
      clear HN HG
      go_wp2_with fail
      refine (inSpec _ _ _ _).mono ?_
      rintro e w1 ⟨rfl, rfl⟩
      go_wp2
      go_ret
      exact ⟨by rw [HF.out]; rfl, rfl⟩
end Go.Proofs.YtpgmipbanpofaaaGreatDoor
