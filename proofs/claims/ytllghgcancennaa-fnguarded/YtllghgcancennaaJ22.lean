/-
  Joined: CmpI, ClkP.
-/
import Derived.Test.YtllghgcancennaaJ8
import Derived.Test.YtllghgcancennaaJ2
/-
  Numbers that ascend; cmp.Compare.
-/
namespace Go.Proofs.Ytllghgcancennaa
open Go.RowKit

def ascB : List Int → Int → Bool
  | [], _ => true
  | x :: xs, l => inB x l 1000000 && ascB xs (x + 1)
theorem drop_getD {α : Type} [Inhabited α] {xs : List α} {j : Nat} (h : j < xs.length) : xs.drop j = xs.getD j default :: xs.drop (j + 1) := by
  rw [List.drop_eq_getElem_cons h, List.getD_eq_getElem?_getD, List.getElem?_eq_getElem h, Option.getD_some]
def cmpX (x y : Int) : Int := if x < y then -1 else if y < x then 1 else 0
set_option maxHeartbeats 1000000 in
theorem isNaNI (w : World) (x : Int) : Calls Try.prog 79 #[.int .i64 x] w fun e w' => e = .returned (.bool false) ∧ w' = w := by
  go_enter Try.func79, Try.ntmps79
  go_wp2
  go_ret
  exact ⟨by simp, rfl⟩
set_option maxRecDepth 100000 in
set_option maxHeartbeats 4000000 in
theorem cmpI (w : World) (x y : Int) : Calls Try.prog 77 #[.int .i64 x, .int .i64 y] w fun e w' => e = .returned (.int .i64 (cmpX x y)) ∧ w' = w := by
  by_cases h1 : x < y
  · rw [show cmpX x y = -1 from if_pos h1]
    go_enter Try.func77, Try.ntmps77
    go_wp2_with fail
    refine (isNaNI _ x).mono ?_
    rintro e x2 ⟨rfl, hx2⟩
    rw [hx2]
    clear hx2 x2
    go_wp2_with fail
    refine (isNaNI _ y).mono ?_
    rintro e x2 ⟨rfl, hx2⟩
    rw [hx2]
    clear hx2 x2
    go_wp2
    go_ret
    exact ⟨rfl, rfl⟩
  · by_cases h2 : y < x
    · rw [show cmpX x y = 1 from (if_neg h1).trans (if_pos h2)]
      go_enter Try.func77, Try.ntmps77
      go_wp2_with fail
      refine (isNaNI _ x).mono ?_
      rintro e x2 ⟨rfl, hx2⟩
      rw [hx2]
      clear hx2 x2
      go_wp2_with fail
      refine (isNaNI _ y).mono ?_
      rintro e x2 ⟨rfl, hx2⟩
      rw [hx2]
      clear hx2 x2
      go_wp2
      go_ret
      exact ⟨rfl, rfl⟩
    · rw [show cmpX x y = 0 from (if_neg h1).trans (if_neg h2)]
      go_enter Try.func77, Try.ntmps77
      go_wp2_with fail
      refine (isNaNI _ x).mono ?_
      rintro e x2 ⟨rfl, hx2⟩
      rw [hx2]
      clear hx2 x2
      go_wp2_with fail
      refine (isNaNI _ y).mono ?_
      rintro e x2 ⟨rfl, hx2⟩
      rw [hx2]
      clear hx2 x2
      go_wp2
      go_ret
      exact ⟨rfl, rfl⟩
end Go.Proofs.Ytllghgcancennaa
/-
  Clocks in the program: ClockOk, Count.
-/
namespace Go.Proofs.Ytllghgcancennaa
open Go.RowKit

theorem asc_list : ∀ (xs : List Smp) (L : Int), 1 ≤ L → ascB (xs.map (·.w)) L = true → ∀ i, i < xs.length → L ≤ (xs.getD i default).w ∧ (xs.getD i default).w ≤ 1000000 ∧ (i = 0 ∨ (xs.getD (i - 1) default).w < (xs.getD i default).w)
  | [], _, _, _, i, hi => by simp at hi
  | x :: xs, L, hL, h, i, hi => by
    rw [List.map_cons] at h
    unfold ascB at h
    rw [Bool.and_eq_true] at h
    have h1 := inB_yes h.1
    have ih := asc_list xs (x.w + 1) (by omega) h.2
    match i, hi with
    | 0, _ => exact ⟨by simpa using h1.1, by simpa using h1.2, .inl rfl⟩
    | i + 1, hi =>
      obtain ⟨e1, e2, e3⟩ := ih i (by simpa using hi)
      rw [List.getD_cons_succ]
      refine ⟨by omega, e2, .inr ?_⟩
      rw [Nat.add_sub_cancel]
      rcases e3 with rfl | e3
      · rw [List.getD_cons_zero]; omega
      · match i, e1, e3 with
        | 0, e1, _ => rw [List.getD_cons_zero]; omega
        | i + 1, _, e3 => rw [List.getD_cons_succ]; rwa [Nat.add_sub_cancel] at e3
theorem asc_of {xs : List Smp} (h : clkB xs = true) : ∀ k j, j + k = xs.length → ascB ((xs.drop j).map (·.w)) (if j = 0 then 1 else (xs.getD (j - 1) default).w + 1) = true
  | 0, j, hj => by rw [List.drop_eq_nil_of_le (by omega)]; rfl
  | k + 1, j, hj => by
    have hlt : j < xs.length := by omega
    have h1 := clkB_at h hlt
    have ih := asc_of h k (j + 1) (by omega)
    rw [if_neg (by omega), Nat.add_sub_cancel] at ih
    rw [drop_getD hlt, List.map_cons]
    unfold ascB
    rw [ih, Bool.and_true]
    unfold clkAt at h1
    rw [Bool.and_eq_true, Bool.and_eq_true, Bool.or_eq_true] at h1
    have h2 := inB_yes h1.1
    unfold inB
    rw [decide_eq_true_iff]
    refine ⟨?_, h2.2⟩
    split
    · exact h2.1
    · rename_i hz
      rcases h1.2.2 with e | e
      · exact absurd (of_decide_eq_true e) hz
      · have := of_decide_eq_true e
        omega
theorem clkB_asc (xs : List Smp) : clkB xs = (ascB (xs.map (·.w)) 1 && xs.all (fun y => inB y.n 1 16777215)) := by
  rw [Bool.eq_iff_iff, Bool.and_eq_true]
  constructor
  · intro h
    have h0 := asc_of h xs.length 0 (by omega)
    rw [List.drop_zero, if_pos rfl] at h0
    refine ⟨h0, all_yesS (fun i hi => ?_)⟩
    have h1 := clkB_at h hi
    unfold clkAt at h1
    rw [Bool.and_eq_true, Bool.and_eq_true] at h1
    exact h1.2.1
  · rintro ⟨h1, h2⟩
    refine clkB_yes (fun i hi => ?_)
    obtain ⟨e1, e2, e3⟩ := asc_list xs 1 (by omega) h1 i hi
    rw [List.all_eq_true] at h2
    have h3 := h2 (xs.getD i default) (by rw [List.getD_eq_getElem?_getD, List.getElem?_eq_getElem hi]; exact List.getElem_mem hi)
    have h4 : inB (xs.getD i default).w 1 1000000 = true := by unfold inB; rw [decide_eq_true_iff]; exact ⟨e1, e2⟩
    unfold clkAt
    rw [h4, h3]
    rcases e3 with e | e
    · rw [decide_eq_true e]; rfl
    · rw [decide_eq_true e, Bool.or_true]; rfl
set_option maxRecDepth 100000 in
set_option maxHeartbeats 4000000 in
theorem numberS (w : World) (y : Smp) :
    Calls Try.prog 51 #[.agg #[.int .i64 y.w, .int .i64 y.n]] w fun e w' => e = .returned (.int .i64 y.w) ∧ Below w.heap.size w w' := by
  go_enter Try.func51, Try.ntmps51
  go_wp2
  go_ret
  exact ⟨rfl, (Below.refl _ _).alloc (Nat.le_refl _) _⟩
set_option maxRecDepth 100000 in
set_option maxHeartbeats 4000000 in
theorem countsS (w : World) (y : Smp) :
    Calls Try.prog 53 #[.agg #[.int .i64 y.w, .int .i64 y.n]] w fun e w' => e = .returned (.bool (inB y.n 1 16777215)) ∧ Below w.heap.size w w' := by
  go_enter Try.func53, Try.ntmps53
  go_wp2_with fail
  refine (inImpl _ _ _ _).mono ?_
  rintro e x2 ⟨rfl, hx2⟩
  rw [hx2]
  clear hx2 x2
  go_wp2
  go_ret
  exact ⟨rfl, (Below.refl _ _).alloc (Nat.le_refl _) _⟩
set_option maxRecDepth 100000 in
set_option maxHeartbeats 8000000 in
theorem ascS (w : World) (xs : List Smp) (u : Value) (h : Reads w w.heap.size (smps xs) u) (hm : xs.length ≤ 1048576) :
    Calls Try.prog 50 #[u, .func (.func 51) #[] #[]] w fun e w' => e = .returned (.bool (ascB (xs.map (·.w)) 1)) ∧ Below w.heap.size w w' := by
  have HR := hide h
  obtain ⟨a1, c1, e1, _⟩ := h.shape
  subst e1
  clear h
  obtain ⟨V, hV⟩ : ∃ V, ascB (xs.map (·.w)) 1 = V := ⟨_, rfl⟩
  have HV0 : Hid (ascB ((xs.drop 0).map (·.w)) 1 = V) := hide (by rw [List.drop_zero]; exact hV)
  rw [hV]
  clear hV
  go_enter Try.func50, Try.ntmps50
  go_wp2
  go_loopw [5, 10] (fun r i wr => ∃ (j : Nat) (L : Int), j ≤ xs.length ∧ i = .int .i64 (j : Int) ∧ r = .int .i64 L ∧ 1 ≤ L ∧ L ≤ 1000001 ∧ Hid (ascB ((xs.drop j).map (·.w)) L = V) ∧ Hid (Below w.heap.size w wr)) (fun _ i _ => xs.length - (intOf i).toNat)
  case atStart => exact ⟨0, 1, Nat.zero_le _, rfl, rfl, by omega, by omega, HV0, hide (Below.refl _ _)⟩
  case round =>
    obtain ⟨j, L, hj, rfl, rfl, hL1, hL2, HA, HBr⟩ := hrel
    by_cases hlt : j < xs.length
    · skip
      obtain ⟨a', cap', ea, hcap, _, hc⟩ := stamp_at (HR.out.at HBr.out)
      cases ea
      obtain ⟨b, o, rfl, hbb, hcell⟩ := hc (by omega)
      obtain ⟨d0, d1⟩ := hcell j hlt
      have HA2 := hide (by have h := HA.out; rw [drop_getD hlt] at h; exact h)
      clear hcell hc HA
      obtain ⟨y, hy⟩ : ∃ y, xs.getD j default = y := ⟨_, rfl⟩
      rw [hy] at d0 d1 HA2
      clear hy
      go_upto_region 5 with fail
      clear d0 d1
      have bA := (Below.refl wr.heap.size wr).alloc (Nat.le_refl _) (.cells #[.int .i64 y.w, .int .i64 y.n] 72)
      have EF := hide (heap_alloc_new wr (.cells #[.int .i64 y.w, .int .i64 y.n] 72))
      have HBw := hide bA
      clear bA hbb
      have hw0 := HBr.out.size
      obtain ⟨gf, hgf⟩ : ∃ g, wr.heap.size = g := ⟨_, rfl⟩
      rw [hgf] at EF ⊢
      clear hgf
      generalize wr.alloc (.cells #[.int .i64 y.w, .int .i64 y.n] 72) = W2 at *
      have f0 := (box_of EF.out).1 0 _ rfl
      have f1 := (box_of EF.out).1 1 _ rfl
      go_wp2_with fail
      refine (numberS _ y).mono ?_
      rintro e W3 ⟨rfl, b9⟩
      replace EF := hide ((b9.block _ (Array.getElem?_eq_some_iff.1 EF.out).1).trans EF.out)
      replace HBw := hide (HBw.out.trans (b9.mono HBw.out.size))
      clear b9 f0 f1
      go_wp2_with fail
      refine (inImpl _ _ _ _).mono ?_
      rintro e x2 ⟨rfl, hx2⟩
      rw [hx2]
      clear hx2 x2
      cases ci : inB y.w L 1000000 with
      | false =>
        have HF : Hid (V = false) := hide (by have h := HA2.out; rw [List.map_cons] at h; unfold ascB at h; rw [ci] at h; exact h.symm)
        clear HA2
        go_wp2
        go_ret
        exact ⟨by rw [HF.out]; rfl, HBr.out.trans (HBw.out.mono hw0)⟩
      | true =>
        have hin := inB_yes ci
        have HF : Hid (ascB ((xs.drop (j + 1)).map (·.w)) (y.w + 1) = V) := hide (by have h := HA2.out; rw [List.map_cons] at h; unfold ascB at h; rw [ci] at h; exact h)
        clear HA2 ci
        have f0 := (box_of EF.out).1 0 _ rfl
        have f1 := (box_of EF.out).1 1 _ rfl
        go_wp2_with fail
        refine (numberS _ y).mono ?_
        rintro e W4 ⟨rfl, b9⟩
        replace HBw := hide (HBw.out.trans (b9.mono HBw.out.size))
        clear b9 f0 f1
        have hw : IntKind.i64.wrap (y.w + 1) = y.w + 1 := by rw [IntKind.wrap_i64]; omega
        go_wp2
        exact ⟨⟨j + 1, y.w + 1, by omega, by go_num, by rfl, by omega, by omega, HF, hide (HBr.out.trans (HBw.out.mono hw0))⟩, by simp [intOf]; omega⟩
    · have he : j = xs.length := by omega
      have HF : Hid (V = true) := hide (by have h := HA.out; rw [he, List.drop_length] at h; exact h.symm)
      go_wp2
      go_ret
      exact ⟨by rw [HF.out]; rfl, HBr.out⟩
set_option maxRecDepth 100000 in
set_option maxHeartbeats 8000000 in
theorem eachS (w : World) (xs : List Smp) (u : Value) (h : Reads w w.heap.size (smps xs) u) (hm : xs.length ≤ 1048576) :
    Calls Try.prog 52 #[u, .int .i64 xs.length, .func (.func 53) #[] #[]] w fun e w' => e = .returned (.bool (xs.all (fun y => inB y.n 1 16777215))) ∧ Below w.heap.size w w' := by
  have HR := hide h
  obtain ⟨a1, c1, e1, _⟩ := h.shape
  subst e1
  clear h
  have HN : Hid (∀ j, j < xs.length → (fun y => inB y.n 1 16777215) (xs.getD j default) = false → xs.all (fun y => inB y.n 1 16777215) = false) := hide (fun j h1 h2 => all_hitS h1 h2)
  have HYs : Hid ((∀ i, i < xs.length → (fun y => inB y.n 1 16777215) (xs.getD i default) = true) → xs.all (fun y => inB y.n 1 16777215) = true) := hide (fun h => all_yesS h)
  generalize xs.all (fun y => inB y.n 1 16777215) = V at *
  go_enter Try.func52, Try.ntmps52
  go_wp2
  go_loopw [15] (fun i wr => ∃ j : Nat, j ≤ xs.length ∧ i = .int .i64 (j : Int) ∧ Hid (Below w.heap.size w wr) ∧ Hid (∀ i, i < j → (fun y => inB y.n 1 16777215) (xs.getD i default) = true)) (fun i _ => xs.length - (intOf i).toNat)
  case atStart => exact ⟨0, Nat.zero_le _, rfl, hide (Below.refl _ _), hide (fun i hi => by omega)⟩
  case round =>
    obtain ⟨j, hj, rfl, HBr, HQ⟩ := hrel
    by_cases hlt : j < xs.length
    · skip
      obtain ⟨a', cap', ea, hcap, _, hc⟩ := stamp_at (HR.out.at HBr.out)
      cases ea
      obtain ⟨b, o, rfl, hbb, hcell⟩ := hc (by omega)
      obtain ⟨d0, d1⟩ := hcell j hlt
      clear hcell hc
      obtain ⟨y, hy⟩ : ∃ y, xs.getD j default = y := ⟨_, rfl⟩
      rw [hy] at d0 d1
      have HY := hide hy
      clear hy
      go_wp2_with fail
      have b1 := (Below.refl wr.heap.size wr).alloc (Nat.le_refl _) (.cells #[.int .i64 y.w, .int .i64 y.n] 72)
      replace HBr := hide (HBr.out.trans (b1.mono HBr.out.size))
      clear b1 d0 d1
      generalize wr.alloc (.cells #[.int .i64 y.w, .int .i64 y.n] 72) = W at *
      refine (countsS _ y).mono ?_
      rintro e w1 ⟨rfl, b1⟩
      replace HBr := hide (HBr.out.trans (b1.mono HBr.out.size))
      clear b1
      cases c : inB y.n 1 16777215 with
      | false =>
        have HF : Hid (V = false) := hide (HN.out j hlt (by rw [HY.out]; exact c))
        go_wp2
        go_ret
        exact ⟨by rw [HF.out]; rfl, HBr.out⟩
      | true =>
        have HQ2 : Hid (∀ i, i < j + 1 → (fun y => inB y.n 1 16777215) (xs.getD i default) = true) := hide (fun i hi => by
          rcases Nat.lt_succ_iff_lt_or_eq.1 hi with h | rfl
          · exact HQ.out i h
          · rw [HY.out]; exact c)
        go_wp2
        exact ⟨⟨j + 1, by omega, by go_num, HBr, HQ2⟩, by simp [intOf]; omega⟩
    · obtain rfl : j = xs.length := by omega
      have HF : Hid (V = true) := hide (HYs.out HQ.out)
      go_wp2
      go_ret
      exact ⟨by rw [HF.out]; rfl, HBr.out⟩
set_option maxRecDepth 100000 in
set_option maxHeartbeats 4000000 in
theorem clockOkI (w : World) (xs : List Smp) (v : Value) (h : Reads w w.heap.size (smps xs) v) (hm : xs.length ≤ 1048576) :
    Calls Try.prog 26 #[v] w fun e w' => e = .returned (.bool (clkB xs)) ∧ Below w.heap.size w w' := by
  have HR := hide h
  obtain ⟨a1, c1, e1, _⟩ := h.shape
  subst e1
  clear h
  have HV := hide (clkB_asc xs)
  generalize clkB xs = V at *
  go_enter Try.func26, Try.ntmps26
  go_wp2_with fail
  refine (ascS _ xs _ HR.out hm).mono ?_
  rintro e w1 ⟨rfl, b1⟩
  have HB := hide b1
  clear b1
  cases ca : ascB (xs.map (·.w)) 1 with
  | false =>
    have HF : Hid (V = false) := hide (by rw [HV.out, ca]; rfl)
    go_wp2
    go_ret
    exact ⟨by rw [HF.out]; rfl, HB.out⟩
  | true =>
    have HF : Hid (V = xs.all (fun y => inB y.n 1 16777215)) := hide (by rw [HV.out, ca]; rfl)
    go_wp2_with fail
    refine (eachS _ xs _ (HR.out.at HB.out) hm).mono ?_
    rintro e w2 ⟨rfl, b2⟩
    replace HB := hide (HB.out.trans (b2.mono HB.out.size))
    clear b2
    go_wp2
    go_ret
    exact ⟨by rw [HF.out]; rfl, HB.out⟩
set_option maxRecDepth 100000 in
set_option maxHeartbeats 4000000 in
theorem countI (w : World) (xs : List Smp) (v : Value) (q : Int) (h : Reads w w.heap.size (smps xs) v) (hm : xs.length ≤ 1048576) :
    Calls Try.prog 37 #[v, .int .i64 q] w fun e w' => e = .returned (.int .i64 (cntX xs q)) ∧ Below w.heap.size w w' := by
  have HR := hide h
  obtain ⟨a1, c1, e1, _⟩ := h.shape
  subst e1
  clear h
  have HYq : Hid (∀ j, j < xs.length → (xs.getD j default).w = q → (∀ i, i < j → ¬ (xs.getD i default).w = q) → cntX xs q = (xs.getD j default).n) := hide (fun j h1 h2 h3 => cntX_hit h1 h2 h3)
  have HN : Hid ((∀ i, i < xs.length → ¬ (xs.getD i default).w = q) → cntX xs q = 0) := hide cntX_no
  generalize cntX xs q = V at *
  go_enter Try.func37, Try.ntmps37
  go_wp2
  go_loopw [9] (fun i wr => ∃ j : Nat, j ≤ xs.length ∧ i = .int .i64 (j : Int) ∧ Hid (Below w.heap.size w wr) ∧ Hid (∀ i, i < j → ¬ (xs.getD i default).w = q)) (fun i _ => xs.length - (intOf i).toNat)
  case atStart => exact ⟨0, Nat.zero_le _, rfl, hide (Below.refl _ _), hide (fun i hi => by omega)⟩
  case round =>
    obtain ⟨j, hj, rfl, HBr, HQ⟩ := hrel
    by_cases hlt : j < xs.length
    · skip
      obtain ⟨a', cap', ea, hcap, _, hc⟩ := stamp_at (HR.out.at HBr.out)
      cases ea
      obtain ⟨b, o, rfl, hbb, hcell⟩ := hc (by omega)
      obtain ⟨d0, d1⟩ := hcell j hlt
      clear hcell hc
      obtain ⟨y, hy⟩ : ∃ y, xs.getD j default = y := ⟨_, rfl⟩
      rw [hy] at d0 d1
      have HY := hide hy
      clear hy
      go_upto_region 4 with fail
      clear d0 d1
      have bA := (Below.refl wr.heap.size wr).alloc (Nat.le_refl _) (.cells #[.int .i64 y.w, .int .i64 y.n] 72)
      have EF := hide (heap_alloc_new wr (.cells #[.int .i64 y.w, .int .i64 y.n] 72))
      have HBw := hide bA
      clear bA hbb
      have hw0 := HBr.out.size
      obtain ⟨gf, hgf⟩ : ∃ g, wr.heap.size = g := ⟨_, rfl⟩
      rw [hgf] at EF ⊢
      clear hgf
      generalize wr.alloc (.cells #[.int .i64 y.w, .int .i64 y.n] 72) = W2 at *
      have f0 := (box_of EF.out).1 0 _ rfl
      have f1 := (box_of EF.out).1 1 _ rfl
      by_cases k : y.w = q
      · have k' : (y.w == q) = true := by simpa using k
        have HF : Hid (V = y.n) := hide (by rw [HYq.out j hlt (by rw [HY.out]; exact k) HQ.out, HY.out])
        clear k
        go_wp2
        go_ret
        exact ⟨by rw [HF.out]; rfl, HBr.out.trans (HBw.out.mono hw0)⟩
      · have k' : (y.w == q) = false := by simpa using k
        have HQ2 : Hid (∀ i, i < j + 1 → ¬ (xs.getD i default).w = q) := hide (fun i hi => by
          rcases Nat.lt_succ_iff_lt_or_eq.1 hi with h | rfl
          · exact HQ.out i h
          · rw [HY.out]; exact k)
        clear k
        go_wp2
        exact ⟨⟨j + 1, by omega, by go_num, hide (HBr.out.trans (HBw.out.mono hw0)), HQ2⟩, by simp [intOf]; omega⟩
    · obtain rfl : j = xs.length := by omega
      have HF : Hid (V = 0) := hide (HN.out HQ.out)
      go_wp2
      go_ret
      exact ⟨by rw [HF.out]; rfl, HBr.out⟩
end Go.Proofs.Ytllghgcancennaa
