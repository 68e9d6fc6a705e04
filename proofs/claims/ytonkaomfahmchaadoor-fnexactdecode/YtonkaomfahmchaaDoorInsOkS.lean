/-
  CodeOk and Encode, in the model.
-/
import Derived.Test.YtonkaomfahmchaaDoorInsM
import Derived.Test.YtonkaomfahmchaaDoorDeepF
import Derived.Test.YtonkaomfahmchaaDoorStepW
import Derived.Deep.RegionWith
import Derived.Deep.CutRange
namespace Go.Proofs.YtonkaomfahmchaaDoor
open Go.RowKit

set_option maxRecDepth 100000 in
set_option maxHeartbeats 4000000 in
theorem insSpec (w : World) (x : Isn) (m : Nat) (hm : m ≤ 1048576) : Calls Tryd.prog 22 #[inV x, .int .i64 (m : Int)] w fun e w' => e = .returned (.bool (insB x m)) ∧ Below w.heap.size w w' := by
  have hb := hide ((Below.refl w.heap.size w).alloc (Nat.le_refl _) (.cells #[.int .i64 x.o, .int .i64 x.n] 33))
  obtain ⟨o, n⟩ := x
  unfold inV
  dsimp only at hb ⊢
  by_cases h1 : o = 1
  · subst h1
    rw [show insB ⟨1, n⟩ m = inB n (-128) 127 from rfl]
    go_enter Tryd.func22, Tryd.ntmps22
    go_wp2_with (go_at_call 21; refine (inSpec _ _ _ _).mono ?_; rintro e y ⟨rfl, hy⟩; rw [hy]; clear hy y)
    go_ret
    exact ⟨rfl, hb.out⟩
  by_cases h2 : o = 2
  · subst h2
    rw [show insB ⟨2, n⟩ m = inB n 0 23 from rfl]
    go_enter Tryd.func22, Tryd.ntmps22
    go_wp2_with (go_at_call 21; refine (inSpec _ _ _ _).mono ?_; rintro e y ⟨rfl, hy⟩; rw [hy]; clear hy y)
    go_ret
    exact ⟨rfl, hb.out⟩
  by_cases h9 : o = 9
  · subst h9
    rw [show insB ⟨9, n⟩ m = inB n 0 23 from rfl]
    go_enter Tryd.func22, Tryd.ntmps22
    go_wp2_with (go_at_call 21; refine (inSpec _ _ _ _).mono ?_; rintro e y ⟨rfl, hy⟩; rw [hy]; clear hy y)
    go_ret
    exact ⟨rfl, hb.out⟩
  by_cases h10 : o = 10
  · subst h10
    rw [show insB ⟨10, n⟩ m = inB n 0 23 from rfl]
    go_enter Tryd.func22, Tryd.ntmps22
    go_wp2_with (go_at_call 21; refine (inSpec _ _ _ _).mono ?_; rintro e y ⟨rfl, hy⟩; rw [hy]; clear hy y)
    go_ret
    exact ⟨rfl, hb.out⟩
  by_cases h11 : o = 11
  · subst h11
    rw [show insB ⟨11, n⟩ m = inB n 0 23 from rfl]
    go_enter Tryd.func22, Tryd.ntmps22
    go_wp2_with (go_at_call 21; refine (inSpec _ _ _ _).mono ?_; rintro e y ⟨rfl, hy⟩; rw [hy]; clear hy y)
    go_ret
    exact ⟨rfl, hb.out⟩
  by_cases h12 : o = 12
  · subst h12
    rw [show insB ⟨12, n⟩ m = inB n 0 23 from rfl]
    go_enter Tryd.func22, Tryd.ntmps22
    go_wp2_with (go_at_call 21; refine (inSpec _ _ _ _).mono ?_; rintro e y ⟨rfl, hy⟩; rw [hy]; clear hy y)
    go_ret
    exact ⟨rfl, hb.out⟩
  by_cases h3 : o = 3
  · subst h3
    rw [show insB ⟨3, n⟩ m = inB n 0 5 from rfl]
    go_enter Tryd.func22, Tryd.ntmps22
    go_wp2_with (go_at_call 21; refine (inSpec _ _ _ _).mono ?_; rintro e y ⟨rfl, hy⟩; rw [hy]; clear hy y)
    go_ret
    exact ⟨rfl, hb.out⟩
  by_cases h4 : o = 4
  · subst h4
    rw [show insB ⟨4, n⟩ m = inB n 0 5 from rfl]
    go_enter Tryd.func22, Tryd.ntmps22
    go_wp2_with (go_at_call 21; refine (inSpec _ _ _ _).mono ?_; rintro e y ⟨rfl, hy⟩; rw [hy]; clear hy y)
    go_ret
    exact ⟨rfl, hb.out⟩
  by_cases h13 : o = 13
  · subst h13
    rw [show insB ⟨13, n⟩ m = inB n 0 ((m : Int) - 1) from rfl]
    go_enter Tryd.func22, Tryd.ntmps22
    go_wp2_with (go_at_call 21; refine (inSpec _ _ _ _).mono ?_; rintro e y ⟨rfl, hy⟩; rw [hy]; clear hy y)
    go_ret
    exact ⟨rfl, hb.out⟩
  by_cases h14 : o = 14
  · subst h14
    rw [show insB ⟨14, n⟩ m = inB n 0 ((m : Int) - 1) from rfl]
    go_enter Tryd.func22, Tryd.ntmps22
    go_wp2_with (go_at_call 21; refine (inSpec _ _ _ _).mono ?_; rintro e y ⟨rfl, hy⟩; rw [hy]; clear hy y)
    go_ret
    exact ⟨rfl, hb.out⟩
  have hh : ¬ hasB o = true := fun h => by unfold hasB at h; have := of_decide_eq_true h; omega
  rw [Ins8.other hh]
  clear hh
  dsimp only
  have e1 : (o == 1) = false := by simp [h1]
  have e2 : (o == 2) = false := by simp [h2]
  have e9 : (o == 9) = false := by simp [h9]
  have e10 : (o == 10) = false := by simp [h10]
  have e11 : (o == 11) = false := by simp [h11]
  have e12 : (o == 12) = false := by simp [h12]
  have e3 : (o == 3) = false := by simp [h3]
  have e4 : (o == 4) = false := by simp [h4]
  have e13 : (o == 13) = false := by simp [h13]
  have e14 : (o == 14) = false := by simp [h14]
  clear h1 h2 h9 h10 h11 h12 h3 h4 h13 h14
  cases c : inB o 1 24 with
  | false =>
    go_enter Tryd.func22, Tryd.ntmps22
    go_wp2_with (go_at_call 21; refine (inSpec _ _ _ _).mono ?_; rintro e y ⟨rfl, hy⟩; rw [hy, c]; clear hy y)
    go_ret
    exact ⟨rfl, hb.out⟩
  | true =>
    go_enter Tryd.func22, Tryd.ntmps22
    go_wp2_with (go_at_call 21; refine (inSpec _ _ _ _).mono ?_; rintro e y ⟨rfl, hy⟩; rw [hy, c]; clear hy y)
    go_ret
    exact ⟨rfl, hb.out⟩
def bitI (b : Bool) : Int := if b then 1 else 0
theorem stA_bit (xs : List Isn) (j : Nat) (h : j < xs.length) : (stA xs j : Int) + 1 + bitI (hasB (xs.getD j default).o) = (stA xs (j + 1) : Int) := by
  rw [stA_step xs j h]
  unfold inW bitI
  split <;> simp [*] <;> omega
set_option maxRecDepth 100000 in
set_option maxHeartbeats 4000000 in
theorem bitSpec (w : World) (b : Bool) : Calls Tryd.prog 20 #[.bool b] w fun e w' => e = .returned (.int .i64 (bitI b)) ∧ Below w.heap.size w w' := by
  have hb := hide (Below.refl w.heap.size w)
  cases b
  all_goals (
    go_enter Tryd.func20, Tryd.ntmps20
    go_wp2
    go_ret
    exact ⟨rfl, hb.out⟩)
set_option maxRecDepth 100000 in
set_option maxHeartbeats 4000000 in
theorem startsSpec (w : World) (v : Value) (xs : List Isn) (h : Reads w w.heap.size (inss xs) v) (hm : xs.length ≤ 1000) :
    Calls Tryd.prog 13 #[v] w fun e w' => ∃ v', e = .returned v' ∧ OwnD w' w.heap.size w'.heap.size (ints (stL xs (xs.length + 1))) v' ∧ Below w.heap.size w w' := by
  have HX : Hid (∀ wr, Below w.heap.size w wr → _) := hide (fun wr hb => ins_at (h.at hb))
  have HT : Hid (∀ j, j < xs.length → _) := hide (stA_bit xs)
  have HL : Hid (∀ j, stA xs j ≤ 2 * j) := hide (stA_le xs)
  obtain ⟨a, cap, rfl, _⟩ := ins_at h
  clear h
  obtain ⟨i0, hi, hz0, hz1, hz2⟩ := info_parts Tryd.infoI
  have HI := hide (And.intro hi (And.intro hz0 (And.intro hz1 hz2)))
  clear hi hz0 hz1 hz2
  generalize hn : xs.length = n at *
  have o1 : OwnD (w.alloc (.cells #[.int .i64 0] 3)) w.heap.size (w.alloc (.cells #[.int .i64 0] 3)).heap.size (ints (stL xs 1)) (.slice (some ⟨w.heap.size, 0, none⟩) 1 1) := ownD_lit w w.heap.size (Nat.le_refl _) 3 1 1 #[.int .i64 0] (by omega) rfl
  have b1 := (Below.refl w.heap.size w).alloc (Nat.le_refl _) (.cells #[.int .i64 0] 3)
  have HO := hide o1
  have HB := hide b1
  clear o1 b1
  go_enter Tryd.func13, Tryd.ntmps13
  go_wp2
  go_loopw [3, 4] (fun out i wr => ∃ (j g c : Nat), j ≤ n ∧ out = .slice (some ⟨g, 0, none⟩) (j + 1) c ∧ i = .int .i64 (j : Int) ∧ Hid (OwnD wr w.heap.size wr.heap.size (ints (stL xs (j + 1))) (.slice (some ⟨g, 0, none⟩) (j + 1) c)) ∧ Hid (Below w.heap.size w wr)) (fun _ i _ => n - (intOf i).toNat)
  case atStart => exact ⟨0, _, _, Nat.zero_le _, rfl, rfl, HO, HB⟩
  case round =>
    clear HO HB
    obtain ⟨j, g, c, hj, rfl, rfl, HO, HB⟩ := hrel
    by_cases hlt : j < n
    · obtain ⟨a', cap', ea, _, _, hx⟩ := HX.out wr HB.out
      cases ea
      obtain ⟨b, o, rfl, hbl, hcell⟩ := hx (by omega)
      obtain ⟨e0, _⟩ := hcell j hlt
      obtain ⟨a2, c2, e2, hcap, _, h2⟩ := int_at (HO.out.rd (Nat.le_refl _))
      rw [stL_len] at h2 e2 hcap
      cases e2
      obtain ⟨g', o', e', hgl, h3⟩ := h2 (by omega)
      cases e'
      have e1 := h3 j (by omega)
      rw [stL_get _ _ _ (by omega), Nat.zero_add] at e1
      clear hcell hx h2 h3
      have hT := HT.out j hlt
      have hL := HL.out j
      obtain ⟨x, hx9⟩ : ∃ x, xs.getD j default = x := ⟨_, rfl⟩
      rw [hx9] at e0 hT
      clear hx9
      obtain ⟨s, hs⟩ : ∃ s, stA xs j = s := ⟨_, rfl⟩
      have HN : Hid (stL xs (j + 1 + 1) = stL xs (j + 1) ++ [(s : Int) + 1 + bitI (hasB x.o)]) := hide (by rw [stL_step xs (j + 1), ← hT, hs])
      rw [hs] at e1 hL
      clear hs hT
      have hbit : 0 ≤ bitI (hasB x.o) ∧ bitI (hasB x.o) ≤ 1 := by unfold bitI; split <;> omega
      have HV : Hid ((IntKind.i64.wrap (IntKind.i64.wrap ((s : Int) + 1) + bitI (hasB x.o))) = (s : Int) + 1 + bitI (hasB x.o)) := hide (by rw [IntWalk.i64_in ((s : Int) + 1) (by omega), IntWalk.i64_in _ (by omega)])
      have HS : Hid (∀ w', Below wr.heap.size wr w' → w'.cell? ⟨g, j, none⟩ = some (.int .i64 (s : Int)) ∧ w'.cell? ⟨b, o + j * 2, none⟩ = some (.int .i64 x.o)) := hide (fun w' hw => ⟨(hw.cell (p := ⟨g, j, none⟩) hgl).trans e1, (hw.cell (p := ⟨b, o + j * 2, none⟩) hbl).trans e0⟩)
      have HD0 : Hid (Below wr.heap.size wr wr.drew) := hide (Below.refl wr.heap.size wr).drew
      go_upto_region 5 with fail
      have hjj : (j : Int) < (j : Int) + 1 := by omega
      obtain ⟨q0, q1⟩ := HS.out _ HD0.out
      go_region_law
        (first
          | (refine step_callC rfl 12 _ _ rfl #[.int .i64 x.o] (by kernel_rfl) (hasSpecB _ x.o) ?_; rintro e x1 ⟨rfl, b1⟩; refine ⟨_, rfl, ?_⟩; have HD1 : Hid (Below wr.heap.size wr x1) := hide (HD0.out.trans (b1.mono HD0.out.size)); obtain ⟨q2, q3⟩ := HS.out _ HD1.out; clear b1)
          | (refine step_callC rfl 20 _ _ rfl #[.bool (hasB x.o)] (by kernel_rfl) (bitSpec _ _) ?_; rintro e x2 ⟨rfl, b2⟩; refine ⟨_, rfl, ?_⟩; have HD2 : Hid (Below wr.heap.size wr x2) := hide (HD1.out.trans (b2.mono HD1.out.size)); obtain ⟨q4, q5⟩ := HS.out _ HD2.out; have HD3 : Hid (Below wr.heap.size wr (x2.alloc (.cells #[.int .i64 (IntKind.i64.wrap (IntKind.i64.wrap ((s : Int) + 1) + bitI (hasB x.o)))] 3))) := hide (HD2.out.alloc HD2.out.size _); have HOw := hide (ownD_one (HO.out.below HD3.out)); have HBx := hide (Box.new x2 #[.int .i64 (IntKind.i64.wrap (IntKind.i64.wrap ((s : Int) + 1) + bitI (hasB x.o)))] 3); have HDs : Hid (OwnDL (x2.alloc (.cells #[.int .i64 (IntKind.i64.wrap (IntKind.i64.wrap ((s : Int) + 1) + bitI (hasB x.o)))] 3)) wr.heap.size (x2.alloc (.cells #[.int .i64 (IntKind.i64.wrap (IntKind.i64.wrap ((s : Int) + 1) + bitI (hasB x.o)))] 3)).heap.size (itD (IntKind.i64.wrap (IntKind.i64.wrap ((s : Int) + 1) + bitI (hasB x.o)))) [.int .i64 (IntKind.i64.wrap (IntKind.i64.wrap ((s : Int) + 1) + bitI (hasB x.o)))]) := hide (OwnDL.val (ownDL_nil _ _ _)); clear b2)
          | (refine step_appL rfl _ _ 35 rfl w.heap.size wr.heap.size wr.heap.size 3 i0 (.int .i64 0) 1 8 Tryd.underlying35 HI.out.1 HI.out.2.1 HI.out.2.2.1 HI.out.2.2.2 rfl (by decide) (.slice (some ⟨g, 0, none⟩) (j + 1) c) (j + 1) ((stL xs (j + 1)).flatMap itD) [] [] [] [] (by rfl) (by have := HOw.out; unfold ints at this; rw [stL_len] at this; exact this) rfl x2.heap.size 1 [.int .i64 (IntKind.i64.wrap (IntKind.i64.wrap ((s : Int) + 1) + bitI (hasB x.o)))] (itD (IntKind.i64.wrap (IntKind.i64.wrap ((s : Int) + 1) + bitI (hasB x.o)))) (by rfl) HBx.out HDs.out rfl (by simp [Value.oneCell']) (by omega) (by decide) (Nat.le_refl _) HB.out.size HD3.out.size ?_; intro g9 c9 w6 o6 g6 q6; have HK := hide (ownDL_one o6); have HD6 : Hid (Below w.heap.size w w6) := hide ((HB.out.trans (HD3.out.mono HB.out.size)).grown g6 (Nat.le_trans HB.out.size HD3.out.size) (fun q hq => (q6 q hq).1)); clear o6 g6 q6)
          | fail)
      all_goals (
        go_wp2_with fail
        exact ⟨⟨j + 1, g9, c9, by omega, rfl, by go_num, hide (by unfold ints; rw [HN.out, ← HV.out, List.flatMap_append, List.length_append, stL_len]; exact HK.out), HD6⟩, by simp [intOf]; omega⟩)
    · obtain rfl : j = n := by omega
      go_wp2
      go_ret
      exact ⟨_, rfl, HO.out, HB.out⟩
set_option maxRecDepth 100000 in
set_option maxHeartbeats 4000000 in
theorem codeOkSpec (w : World) (v : Value) (xs : List Isn) (h : Reads w w.heap.size (inss xs) v) (hm : xs.length ≤ 1048576) :
    Calls Tryd.prog 14 #[v] w fun e w' => e = .returned (.bool (codeB xs)) ∧ Below w.heap.size w w' := by
  have HX : Hid (∀ wr, Below w.heap.size w wr → _) := hide (fun wr hb => ins_at (h.at hb))
  have HR := hide h
  have hb := hide (Below.refl w.heap.size w)
  have HL := hide (stL_len xs (xs.length + 1))
  have HG := hide (stL_get xs (xs.length + 1) xs.length (by omega))
  obtain ⟨a, cap, rfl, _⟩ := ins_at h
  clear h
  cases c1 : inB (xs.length : Int) 1 90 with
  | false =>
    have HF := hide (codeB_1 c1)
    generalize xs.length = n at *
    go_enter Tryd.func14, Tryd.ntmps14
    go_wp2_with (go_at_call 21; refine (inSpec _ _ _ _).mono ?_; rintro e y ⟨rfl, hy⟩; rw [hy, c1]; clear hy y)
    go_ret
    exact ⟨by rw [HF.out]; rfl, hb.out⟩
  | true =>
    have h90 := inB_yes c1
    have hn1 : 1 ≤ xs.length := by omega
    have hn2 : xs.length ≤ 90 := by omega
    clear h90
    have HN3 : Hid (∀ j, j < xs.length → insB (xs.getD j default) xs.length = false → codeB xs = false) := hide (fun j hj h => codeB_3 hj h)
    have HN4 : Hid (endB (xs.getD (xs.length - 1) default).o = false → codeB xs = false) := hide codeB_4
    have HNY : Hid (stA xs xs.length ≤ 90 → (∀ j, j < xs.length → insB (xs.getD j default) xs.length = true) → endB (xs.getD (xs.length - 1) default).o = true → codeB xs = true) := hide (fun h2 h3 h4 => codeB_y c1 h2 h3 h4)
    have HN2 : Hid (¬ stA xs xs.length ≤ 90 → codeB xs = false) := hide codeB_2
    obtain ⟨s, hs⟩ : ∃ s, stA xs xs.length = s := ⟨_, rfl⟩
    rw [hs] at HG HNY HN2
    have hsl : s ≤ 2 * 90 := by have := stA_le xs xs.length; omega
    clear hs
    have HT := hide (startsSpec · · xs · (by omega : xs.length ≤ 1000))
    generalize hn : xs.length = n at *
    have hnI : (n : Int) < (n : Int) + 1 := by omega
    go_enter Tryd.func14, Tryd.ntmps14
    go_wp2_with (first
      | (go_at_call 21; refine (inSpec _ _ _ _).mono ?_; rintro e y ⟨rfl, hy⟩; rw [hy, c1]; clear hy y)
      | fail)
    refine (HT.out _ _ HR.out).mono ?_
    rintro e w1 ⟨sv, rfl, o1, b1⟩
    obtain ⟨a2, c2, rfl, hcap, _, h2⟩ := int_at (o1.rd (Nat.le_refl _))
    rw [HL.out] at h2 hcap ⊢
    obtain ⟨g, o, rfl, hgl, h3⟩ := h2 (by omega)
    have e1 := h3 n (by omega)
    rw [HG.out] at e1
    have HB := hide b1
    clear h2 h3 o1 b1 HL HG HT
    by_cases hs : s ≤ 90
    · have hs' : ¬ (90 : Int) < (s : Int) := by omega
      replace HNY := hide (HNY.out hs)
      go_wp2_with fail
      clear e1
      go_loopw [4] (fun i wr => ∃ j : Nat, j ≤ n ∧ i = .int .i64 (j : Int) ∧ Hid (∀ k, k < j → insB (xs.getD k default) n = true) ∧ Hid (Below w.heap.size w wr)) (fun i _ => n - (intOf i).toNat)
      case atStart => exact ⟨0, Nat.zero_le _, rfl, hide (fun k hk => by omega), HB⟩
      case round =>
        clear HB
        obtain ⟨j, hj, rfl, HA, HB⟩ := hrel
        have hsz := HB.out.size
        obtain ⟨a', cap', ea, _, _, hx⟩ := HX.out wr HB.out
        cases ea
        obtain ⟨b, o, rfl, hbl, hcell⟩ := hx (by omega)
        by_cases hlt : j < n
        · obtain ⟨e0, e1⟩ := hcell j hlt
          have hI := HN3.out j hlt
          clear hcell hx
          obtain ⟨x, hx9⟩ : ∃ x, xs.getD j default = x := ⟨_, rfl⟩
          rw [hx9] at e0 e1 hI
          have HX9 := hide hx9
          have HI := hide hI
          clear hx9 hI
          have HIS := hide (fun w => insSpec w x n (by omega))
          unfold inV at HIS
          go_wp2_with fail
          refine (HIS.out _).mono ?_
          rintro e w2 ⟨rfl, b2⟩
          replace HB := hide (HB.out.trans (b2.mono HB.out.size))
          clear b2 e0 e1 HIS
          cases c : insB x n with
          | false =>
            have HF := hide (HI.out c)
            go_wp2
            go_ret
            exact ⟨by rw [HF.out]; rfl, HB.out⟩
          | true =>
            have HA2 : Hid (∀ k, k < j + 1 → insB (xs.getD k default) n = true) := hide (fun k hk => by
              rcases Nat.lt_succ_iff_lt_or_eq.1 hk with h | rfl
              · exact HA.out k h
              · rw [HX9.out]; exact c)
            clear HA
            go_wp2
            exact ⟨⟨j + 1, by omega, by go_num, HA2, HB⟩, by simp [intOf]; omega⟩
        · obtain rfl : j = n := by omega
          obtain ⟨e0, _⟩ := hcell (j - 1) (by omega)
          clear hcell hx
          obtain ⟨m, rfl⟩ : ∃ m, j = m + 1 := ⟨j - 1, by omega⟩
          rw [Nat.add_sub_cancel] at e0 HN4 HNY
          have HY2 := hide (HNY.out HA.out)
          obtain ⟨x, hx9⟩ : ∃ x, xs.getD m default = x := ⟨_, rfl⟩
          rw [hx9] at e0 HN4 HY2
          clear hx9
          cases q1 : (x.o == 14) with
          | true =>
            have HF := hide (HY2.out (by unfold endB; rw [q1]; rfl))
            go_wp2
            go_ret
            exact ⟨by rw [HF.out]; rfl, HB.out⟩
          | false =>
            cases q2 : (x.o == 19) with
            | true =>
              have HF := hide (HY2.out (by unfold endB; rw [q1, q2]; rfl))
              go_wp2
              go_ret
              exact ⟨by rw [HF.out]; rfl, HB.out⟩
            | false =>
              have HF := hide (HN4.out (by unfold endB; rw [q1, q2]; rfl))
              go_wp2
              go_ret
              exact ⟨by rw [HF.out]; rfl, HB.out⟩
    · have hs' : (90 : Int) < (s : Int) := by omega
      have HF := hide (HN2.out hs)
      go_wp2_with fail
      go_ret
      exact ⟨by rw [HF.out]; rfl, HB.out⟩
end Go.Proofs.YtonkaomfahmchaaDoor
