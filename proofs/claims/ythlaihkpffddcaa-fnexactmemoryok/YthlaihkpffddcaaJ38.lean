/-
  Joined: MemQ, MemY.
-/
import Derived.Test.YthlaihkpffddcaaJ26
import Derived.Test.YthlaihkpffddcaaKMemX
import Derived.Test.YthlaihkpffddcaaKMemK
import Derived.Test.YthlaihkpffddcaaJ30
/-
  One memory in the program: numbers that ascend.
-/
namespace Go.Proofs.Ythlaihkpffddcaa
open Go.RowKit

def ascB : List Int → Int → Bool
  | [], _ => true
  | x :: xs, l => inB x l 1000000 && ascB xs (x + 1)
theorem drop_getD {α : Type} [Inhabited α] {xs : List α} {j : Nat} (h : j < xs.length) : xs.drop j = xs.getD j default :: xs.drop (j + 1) := by
  rw [List.drop_eq_getElem_cons h, List.getD_eq_getElem?_getD, List.getElem?_eq_getElem h, Option.getD_some]
set_option maxRecDepth 100000 in
set_option maxHeartbeats 4000000 in
theorem numberO (w : World) (y : Ob) (fa : Option Addr) (fc : Nat) :
    Calls Try.prog 45 #[.agg #[.int .i64 y.i, .int .i64 y.c, .slice fa y.f.length fc]] w fun e w' => e = .returned (.int .i64 y.i) ∧ Below w.heap.size w w' := by
  go_enter Try.func45, Try.ntmps45
  go_wp2
  go_ret
  exact ⟨rfl, (Below.refl _ _).alloc (Nat.le_refl _) _⟩
set_option maxRecDepth 100000 in
set_option maxHeartbeats 4000000 in
theorem numberL (w : World) (y : Lk) :
    Calls Try.prog 48 #[.agg #[.int .i64 y.i, .int .i64 y.w, .int .i64 y.c]] w fun e w' => e = .returned (.int .i64 y.i) ∧ Below w.heap.size w w' := by
  go_enter Try.func48, Try.ntmps48
  go_wp2
  go_ret
  exact ⟨rfl, (Below.refl _ _).alloc (Nat.le_refl _) _⟩
set_option maxRecDepth 100000 in
set_option maxHeartbeats 8000000 in
theorem ascO (w : World) (xs : List Ob) (u : Value) (h : Reads w w.heap.size (obs xs) u) (hm : xs.length ≤ 1048576) :
    Calls Try.prog 44 #[u, .func (.func 45) #[] #[]] w fun e w' => e = .returned (.bool (ascB (xs.map (·.i)) 1)) ∧ Below w.heap.size w w' := by
  have HR := hide h
  obtain ⟨a1, c1, e1, _⟩ := h.shape
  subst e1
  clear h
  obtain ⟨V, hV⟩ : ∃ V, ascB (xs.map (·.i)) 1 = V := ⟨_, rfl⟩
  have HV0 : Hid (ascB ((xs.drop 0).map (·.i)) 1 = V) := hide (by rw [List.drop_zero]; exact hV)
  rw [hV]
  clear hV
  go_enter Try.func44, Try.ntmps44
  go_wp2
  go_loopw [5, 10] (fun r i wr => ∃ (j : Nat) (L : Int), j ≤ xs.length ∧ i = .int .i64 (j : Int) ∧ r = .int .i64 L ∧ 1 ≤ L ∧ L ≤ 1000001 ∧ Hid (ascB ((xs.drop j).map (·.i)) L = V) ∧ Hid (Below w.heap.size w wr)) (fun _ i _ => xs.length - (intOf i).toNat)
  case atStart => exact ⟨0, 1, Nat.zero_le _, rfl, rfl, by omega, by omega, HV0, hide (Below.refl _ _)⟩
  case round =>
    obtain ⟨j, L, hj, rfl, rfl, hL1, hL2, HA, HBr⟩ := hrel
    by_cases hlt : j < xs.length
    · obtain ⟨a', cap', ea, hcap, _, hc⟩ := object_at (HR.out.at HBr.out)
      cases ea
      obtain ⟨b, o, rfl, hbb, hcell⟩ := hc (by omega)
      obtain ⟨pv1, d0, d1, d2, r1⟩ := hcell j hlt
      have HA2 := hide (by have h := HA.out; rw [drop_getD hlt] at h; exact h)
      clear hcell hc HA
      obtain ⟨y, hy⟩ : ∃ y, xs.getD j default = y := ⟨_, rfl⟩
      rw [hy] at d0 d1 r1 HA2
      clear hy
      obtain ⟨fa, fc, fe, _⟩ := r1.shape
      subst fe
      clear r1
      go_upto_region 5 with fail
      clear d0 d1 d2
      have bA := (Below.refl wr.heap.size wr).alloc (Nat.le_refl _) (.cells #[.int .i64 y.i, .int .i64 y.c, .slice fa y.f.length fc] 51)
      have EF := hide (heap_alloc_new wr (.cells #[.int .i64 y.i, .int .i64 y.c, .slice fa y.f.length fc] 51))
      have HBw := hide bA
      clear bA hbb
      have hw0 := HBr.out.size
      obtain ⟨gf, hgf⟩ : ∃ g, wr.heap.size = g := ⟨_, rfl⟩
      rw [hgf] at EF ⊢
      clear hgf
      generalize wr.alloc (.cells #[.int .i64 y.i, .int .i64 y.c, .slice fa y.f.length fc] 51) = W2 at *
      have f0 := (box_of EF.out).1 0 _ rfl
      have f1 := (box_of EF.out).1 1 _ rfl
      have f2 := (box_of EF.out).1 2 _ rfl
      go_wp2_with fail
      refine (numberO _ y fa fc).mono ?_
      rintro e W3 ⟨rfl, b9⟩
      replace EF := hide ((b9.block _ (Array.getElem?_eq_some_iff.1 EF.out).1).trans EF.out)
      replace HBw := hide (HBw.out.trans (b9.mono HBw.out.size))
      clear b9 f0 f1 f2
      go_wp2_with fail
      refine (inImpl _ _ _ _).mono ?_
      rintro e x2 ⟨rfl, hx2⟩
      rw [hx2]
      clear hx2 x2
      cases ci : inB y.i L 1000000 with
      | false =>
        have HF : Hid (V = false) := hide (by have h := HA2.out; rw [List.map_cons] at h; unfold ascB at h; rw [ci] at h; exact h.symm)
        clear HA2
        go_wp2
        go_ret
        exact ⟨by rw [HF.out]; rfl, HBr.out.trans (HBw.out.mono hw0)⟩
      | true =>
        have hin := inB_yes ci
        have HF : Hid (ascB ((xs.drop (j + 1)).map (·.i)) (y.i + 1) = V) := hide (by have h := HA2.out; rw [List.map_cons] at h; unfold ascB at h; rw [ci] at h; exact h)
        clear HA2 ci
        have f0 := (box_of EF.out).1 0 _ rfl
        have f1 := (box_of EF.out).1 1 _ rfl
        have f2 := (box_of EF.out).1 2 _ rfl
        go_wp2_with fail
        refine (numberO _ y fa fc).mono ?_
        rintro e W4 ⟨rfl, b9⟩
        replace HBw := hide (HBw.out.trans (b9.mono HBw.out.size))
        clear b9 f0 f1 f2
        have hw : IntKind.i64.wrap (y.i + 1) = y.i + 1 := by rw [IntKind.wrap_i64]; omega
        go_wp2
        exact ⟨⟨j + 1, y.i + 1, by omega, by go_num, by rfl, by omega, by omega, HF, hide (HBr.out.trans (HBw.out.mono hw0))⟩, by simp [intOf]; omega⟩
    · have he : j = xs.length := by omega
      have HF : Hid (V = true) := hide (by have h := HA.out; rw [he, List.drop_length] at h; exact h.symm)
      go_wp2
      go_ret
      exact ⟨by rw [HF.out]; rfl, HBr.out⟩
set_option maxRecDepth 100000 in
set_option maxHeartbeats 8000000 in
theorem ascL (w : World) (xs : List Lk) (u : Value) (h : Reads w w.heap.size (lks xs) u) (hm : xs.length ≤ 1048576) :
    Calls Try.prog 47 #[u, .func (.func 48) #[] #[]] w fun e w' => e = .returned (.bool (ascB (xs.map (·.i)) 1)) ∧ Below w.heap.size w w' := by
  have HR := hide h
  obtain ⟨a1, c1, e1, _⟩ := h.shape
  subst e1
  clear h
  obtain ⟨V, hV⟩ : ∃ V, ascB (xs.map (·.i)) 1 = V := ⟨_, rfl⟩
  have HV0 : Hid (ascB ((xs.drop 0).map (·.i)) 1 = V) := hide (by rw [List.drop_zero]; exact hV)
  rw [hV]
  clear hV
  go_enter Try.func47, Try.ntmps47
  go_wp2
  go_loopw [5, 10] (fun r i wr => ∃ (j : Nat) (L : Int), j ≤ xs.length ∧ i = .int .i64 (j : Int) ∧ r = .int .i64 L ∧ 1 ≤ L ∧ L ≤ 1000001 ∧ Hid (ascB ((xs.drop j).map (·.i)) L = V) ∧ Hid (Below w.heap.size w wr)) (fun _ i _ => xs.length - (intOf i).toNat)
  case atStart => exact ⟨0, 1, Nat.zero_le _, rfl, rfl, by omega, by omega, HV0, hide (Below.refl _ _)⟩
  case round =>
    obtain ⟨j, L, hj, rfl, rfl, hL1, hL2, HA, HBr⟩ := hrel
    by_cases hlt : j < xs.length
    · obtain ⟨a', cap', ea, hcap, _, hc⟩ := lock_at (HR.out.at HBr.out)
      cases ea
      obtain ⟨b, o, rfl, hbb, hcell⟩ := hc (by omega)
      obtain ⟨d0, d1, d2⟩ := hcell j hlt
      have HA2 := hide (by have h := HA.out; rw [drop_getD hlt] at h; exact h)
      clear hcell hc HA
      obtain ⟨y, hy⟩ : ∃ y, xs.getD j default = y := ⟨_, rfl⟩
      rw [hy] at d0 d1 d2 HA2
      clear hy
      go_upto_region 5 with fail
      clear d0 d1 d2
      have bA := (Below.refl wr.heap.size wr).alloc (Nat.le_refl _) (.cells #[.int .i64 y.i, .int .i64 y.w, .int .i64 y.c] 74)
      have EF := hide (heap_alloc_new wr (.cells #[.int .i64 y.i, .int .i64 y.w, .int .i64 y.c] 74))
      have HBw := hide bA
      clear bA hbb
      have hw0 := HBr.out.size
      obtain ⟨gf, hgf⟩ : ∃ g, wr.heap.size = g := ⟨_, rfl⟩
      rw [hgf] at EF ⊢
      clear hgf
      generalize wr.alloc (.cells #[.int .i64 y.i, .int .i64 y.w, .int .i64 y.c] 74) = W2 at *
      have f0 := (box_of EF.out).1 0 _ rfl
      have f1 := (box_of EF.out).1 1 _ rfl
      have f2 := (box_of EF.out).1 2 _ rfl
      go_wp2_with fail
      refine (numberL _ y).mono ?_
      rintro e W3 ⟨rfl, b9⟩
      replace EF := hide ((b9.block _ (Array.getElem?_eq_some_iff.1 EF.out).1).trans EF.out)
      replace HBw := hide (HBw.out.trans (b9.mono HBw.out.size))
      clear b9 f0 f1 f2
      go_wp2_with fail
      refine (inImpl _ _ _ _).mono ?_
      rintro e x2 ⟨rfl, hx2⟩
      rw [hx2]
      clear hx2 x2
      cases ci : inB y.i L 1000000 with
      | false =>
        have HF : Hid (V = false) := hide (by have h := HA2.out; rw [List.map_cons] at h; unfold ascB at h; rw [ci] at h; exact h.symm)
        clear HA2
        go_wp2
        go_ret
        exact ⟨by rw [HF.out]; rfl, HBr.out.trans (HBw.out.mono hw0)⟩
      | true =>
        have hin := inB_yes ci
        have HF : Hid (ascB ((xs.drop (j + 1)).map (·.i)) (y.i + 1) = V) := hide (by have h := HA2.out; rw [List.map_cons] at h; unfold ascB at h; rw [ci] at h; exact h)
        clear HA2 ci
        have f0 := (box_of EF.out).1 0 _ rfl
        have f1 := (box_of EF.out).1 1 _ rfl
        have f2 := (box_of EF.out).1 2 _ rfl
        go_wp2_with fail
        refine (numberL _ y).mono ?_
        rintro e W4 ⟨rfl, b9⟩
        replace HBw := hide (HBw.out.trans (b9.mono HBw.out.size))
        clear b9 f0 f1 f2
        have hw : IntKind.i64.wrap (y.i + 1) = y.i + 1 := by rw [IntKind.wrap_i64]; omega
        go_wp2
        exact ⟨⟨j + 1, y.i + 1, by omega, by go_num, by rfl, by omega, by omega, HF, hide (HBr.out.trans (HBw.out.mono hw0))⟩, by simp [intOf]; omega⟩
    · have he : j = xs.length := by omega
      have HF : Hid (V = true) := hide (by have h := HA.out; rw [he, List.drop_length] at h; exact h.symm)
      go_wp2
      go_ret
      exact ⟨by rw [HF.out]; rfl, HBr.out⟩
def cmpX (x y : Int) : Int := if x < y then -1 else if y < x then 1 else 0
set_option maxHeartbeats 1000000 in
theorem isNaNI (w : World) (x : Int) : Calls Try.prog 101 #[.int .i64 x] w fun e w' => e = .returned (.bool false) ∧ w' = w := by
  go_enter Try.func101, Try.ntmps101
  go_wp2
  go_ret
  exact ⟨by simp, rfl⟩
set_option maxRecDepth 100000 in
set_option maxHeartbeats 4000000 in
theorem cmpI (w : World) (x y : Int) : Calls Try.prog 78 #[.int .i64 x, .int .i64 y] w fun e w' => e = .returned (.int .i64 (cmpX x y)) ∧ w' = w := by
  by_cases h1 : x < y
  · rw [show cmpX x y = -1 from if_pos h1]
    go_enter Try.func78, Try.ntmps78
    go_wp2_with fail
    refine (isNaNI _ x).mono ?_
    rintro e x2 ⟨rfl, hx2⟩
    rw [hx2]
    clear hx2 x2
    go_wp2_with fail
    refine (isNaNI _ y).mono ?_
    rintro e x2 ⟨rfl, hx2⟩
    rw [hx2]
    clear hx2 x2
    go_wp2
    go_ret
    exact ⟨rfl, rfl⟩
  · by_cases h2 : y < x
    · rw [show cmpX x y = 1 from (if_neg h1).trans (if_pos h2)]
      go_enter Try.func78, Try.ntmps78
      go_wp2_with fail
      refine (isNaNI _ x).mono ?_
      rintro e x2 ⟨rfl, hx2⟩
      rw [hx2]
      clear hx2 x2
      go_wp2_with fail
      refine (isNaNI _ y).mono ?_
      rintro e x2 ⟨rfl, hx2⟩
      rw [hx2]
      clear hx2 x2
      go_wp2
      go_ret
      exact ⟨rfl, rfl⟩
    · rw [show cmpX x y = 0 from (if_neg h1).trans (if_neg h2)]
      go_enter Try.func78, Try.ntmps78
      go_wp2_with fail
      refine (isNaNI _ x).mono ?_
      rintro e x2 ⟨rfl, hx2⟩
      rw [hx2]
      clear hx2 x2
      go_wp2_with fail
      refine (isNaNI _ y).mono ?_
      rintro e x2 ⟨rfl, hx2⟩
      rw [hx2]
      clear hx2 x2
      go_wp2
      go_ret
      exact ⟨rfl, rfl⟩
set_option maxRecDepth 100000 in
set_option maxHeartbeats 4000000 in
theorem locksRight1I (w : World) (y : Ob) (fa : Option Addr) (fc : Nat) (q : Int) :
    Calls Try.prog 77 #[.agg #[.int .i64 y.i, .int .i64 y.c, .slice fa y.f.length fc], .int .i64 q] w fun e w' => e = .returned (.int .i64 (cmpX y.i q)) ∧ Below w.heap.size w w' := by
  go_enter Try.func77, Try.ntmps77
  go_wp2_with fail
  refine (cmpI _ _ _).mono ?_
  rintro e x2 ⟨rfl, hx2⟩
  rw [hx2]
  clear hx2 x2
  go_wp2
  go_ret
  exact ⟨rfl, (Below.refl _ _).alloc (Nat.le_refl _) _⟩
set_option maxRecDepth 100000 in
set_option maxHeartbeats 8000000 in
theorem bsearchI (w : World) (xs : List Ob) (u : Value) (q : Int) (h : Reads w w.heap.size (obs xs) u) (hm : xs.length ≤ 1048576) (ha : ∀ i j, i < j → j < xs.length → (xs.getD i default).i < (xs.getD j default).i) :
    Calls Try.prog 76 #[u, .int .i64 q, .func (.func 77) #[] #[]] w fun e w' => (∃ p, e = .returned (.tuple #[p, .bool (decide (0 ≤ obAt xs q 0))])) ∧ Below w.heap.size w w' := by
  have HR := hide h
  obtain ⟨a1, c1, e1, _⟩ := h.shape
  subst e1
  clear h
  have HAS := hide ha
  clear ha
  obtain ⟨V, hV⟩ : ∃ V, decide (0 ≤ obAt xs q 0) = V := ⟨_, rfl⟩
  have HV1 : Hid (∀ j, j < xs.length → (xs.getD j default).i = q → V = true) := hide (fun j hj e => by
    rw [← hV]
    refine decide_eq_true ?_
    rw [obAt_hit hj e (fun i hi e2 => by have := HAS.out i j hi hj; omega)]
    omega)
  have HV0 : Hid ((∀ j, j < xs.length → ¬ (xs.getD j default).i = q) → V = false) := hide (fun h => by rw [← hV, obAt_no h]; rfl)
  rw [hV]
  clear hV
  go_enter Try.func76, Try.ntmps76
  go_wp2
  go_loopw [9, 10] (fun a b wr => ∃ i j : Nat, i ≤ j ∧ j ≤ xs.length ∧ a = .int .i64 (i : Int) ∧ b = .int .i64 (j : Int) ∧ Hid (∀ t, t < i → (xs.getD t default).i < q) ∧ Hid (∀ t, j ≤ t → t < xs.length → q ≤ (xs.getD t default).i) ∧ Hid (Below w.heap.size w wr)) (fun a b _ => (intOf b).toNat - (intOf a).toNat)
  case atStart => exact ⟨0, xs.length, Nat.zero_le _, Nat.le_refl _, rfl, rfl, hide (fun t ht => by omega), hide (fun t h1 h2 => by omega), hide (Below.refl _ _)⟩
  case round =>
    obtain ⟨i, j, hij, hjx, rfl, rfl, HI1, HJ1, HBr⟩ := hrel
    by_cases hlt : i < j
    · have hltI : (i : Int) < (j : Int) := by omega
      obtain ⟨h, hh⟩ : ∃ h : Nat, (i + j) / 2 = h := ⟨_, rfl⟩
      have hih : i ≤ h := by omega
      have hhj : h < j := by omega
      have hwa : IntKind.i64.wrap ((i : Int) + (j : Int)) = ((i + j : Nat) : Int) := by rw [IntKind.wrap_i64]; omega
      have hdiv : ((i : Int) + (j : Int)) / 2 = (h : Int) := by omega
      go_upto_region 5 with fail
      try simp only [hdiv]
      have hhx : h < xs.length := by omega
      have hhI : (h : Int) < (xs.length : Int) := by omega
      clear hdiv hwa hh
      obtain ⟨a', cap', ea, hcap, _, hc⟩ := object_at (HR.out.at HBr.out)
      cases ea
      obtain ⟨b, o, rfl, hbb, hcell⟩ := hc (by omega)
      obtain ⟨pv1, d0, d1, d2, r1⟩ := hcell h hhx
      clear hcell hc
      obtain ⟨y, hy⟩ : ∃ y, xs.getD h default = y := ⟨_, rfl⟩
      rw [hy] at d0 d1 r1
      have HY := hide hy
      clear hy
      obtain ⟨fa, fc, fe, _⟩ := r1.shape
      subst fe
      clear r1
      go_wp2_with fail
      refine (locksRight1I _ y fa fc q).mono ?_
      rintro e W3 ⟨rfl, b9⟩
      replace HBr := hide (HBr.out.trans (b9.mono HBr.out.size))
      clear b9 d0 d1 d2
      by_cases hq : y.i < q
      · have hc1 : cmpX y.i q = -1 := if_pos hq
        rw [hc1]
        have HI2 : Hid (∀ t, t < h + 1 → (xs.getD t default).i < q) := hide (fun t ht => by
          rcases Nat.lt_succ_iff_lt_or_eq.1 ht with h1 | rfl
          · have h2 := HAS.out t h h1 hhx
            rw [HY.out] at h2
            omega
          · rw [HY.out]; exact hq)
        clear hq hc1
        go_wp2
        exact ⟨⟨h + 1, j, by omega, hjx, by go_num, rfl, HI2, HJ1, HBr⟩, by simp [intOf]; omega⟩
      · have hc1 : cmpX y.i q = if q < y.i then 1 else 0 := if_neg hq
        have hc2 : ¬ (cmpX y.i q < 0) := by rw [hc1]; split <;> omega
        have HJ2 : Hid (∀ t, h ≤ t → t < xs.length → q ≤ (xs.getD t default).i) := hide (fun t ht htx => by
          rcases Nat.lt_or_eq_of_le ht with h1 | rfl
          · have h2 := HAS.out h t h1 htx
            rw [HY.out] at h2
            omega
          · rw [HY.out]; omega)
        clear hc1 hq
        generalize cmpX y.i q = K at *
        go_wp2
        exact ⟨⟨i, h, by omega, by omega, rfl, rfl, HI1, HJ2, HBr⟩, by simp [intOf]; omega⟩
    · obtain rfl : i = j := by omega
      by_cases hix : i < xs.length
      · have hixI : (i : Int) < (xs.length : Int) := by omega
        obtain ⟨a', cap', ea, hcap, _, hc⟩ := object_at (HR.out.at HBr.out)
        cases ea
        obtain ⟨b, o, rfl, hbb, hcell⟩ := hc (by omega)
        obtain ⟨pv1, d0, d1, d2, r1⟩ := hcell i hix
        clear hcell hc
        obtain ⟨y, hy⟩ : ∃ y, xs.getD i default = y := ⟨_, rfl⟩
        rw [hy] at d0 d1 r1
        have HY := hide hy
        clear hy
        obtain ⟨fa, fc, fe, _⟩ := r1.shape
        subst fe
        clear r1
        have hqy : q ≤ y.i := by have h := HJ1.out i (Nat.le_refl _) hix; rwa [HY.out] at h
        have HE : Hid (V = (cmpX y.i q == 0)) := hide (by
          by_cases e : y.i = q
          · rw [HV1.out i hix (by rw [HY.out]; exact e), e]
            unfold cmpX
            simp
          · rw [HV0.out (fun t ht e2 => by
              rcases Nat.lt_trichotomy t i with h1 | rfl | h1
              · have := HI1.out t h1; omega
              · rw [HY.out] at e2; exact e e2
              · have h2 := HAS.out i t h1 ht
                rw [HY.out] at h2; omega)]
            unfold cmpX
            rw [if_neg (by omega), if_pos (by omega)]
            rfl)
        clear hqy
        go_wp2_with fail
        refine (locksRight1I _ y fa fc q).mono ?_
        rintro e W3 ⟨rfl, b9⟩
        replace HBr := hide (HBr.out.trans (b9.mono HBr.out.size))
        clear b9 d0 d1 d2
        obtain ⟨K, hK⟩ : ∃ K, cmpX y.i q = K := ⟨_, rfl⟩
        rw [hK] at HE
        rw [hK]
        clear hK
        go_wp2
        go_ret2
        exact ⟨⟨_, by rw [HE.out]; rfl⟩, HBr.out⟩
      · have HE : Hid (V = false) := hide (HV0.out (fun t ht e => by have := HI1.out t (by omega); omega))
        go_wp2
        go_ret2
        exact ⟨⟨_, by rw [HE.out]; rfl⟩, HBr.out⟩
end Go.Proofs.Ythlaihkpffddcaa
/-
  One memory in the program: whether it is right.
-/
namespace Go.Proofs.Ythlaihkpffddcaa
open Go.RowKit

theorem obAt_isN {q : Int} : ∀ {xs : List Ob} {n : Nat}, 0 ≤ obAt xs q n → (xs.getD ((obAt xs q n).toNat - n) default).i = q
  | [], n, h => by unfold obAt at h; omega
  | y :: ys, n, h => by
    unfold obAt at h ⊢
    by_cases hy : y.i = q
    · rw [if_pos hy, Int.toNat_natCast, Nat.sub_self, List.getD_cons_zero]
      exact hy
    · rw [if_neg hy] at h ⊢
      have ih := obAt_isN (xs := ys) (n := n + 1) h
      rcases obAt_lt (q := q) (xs := ys) (n := n + 1) with h1 | ⟨h1, h2⟩
      · omega
      · have e : (obAt ys q (n + 1)).toNat - n = ((obAt ys q (n + 1)).toNat - (n + 1)) + 1 := by omega
        rw [e, List.getD_cons_succ]
        exact ih
theorem obAt_is {m : Mm} {q : Int} (h : 0 ≤ atM m q) : (m.o.getD (atM m q).toNat default).i = q := by
  have := obAt_isN (n := 0) h
  rwa [Nat.sub_zero] at this
set_option maxHeartbeats 1000000 in
theorem objNoI (w : World) (n : Int) : Calls Try.prog 79 #[.int .i64 n] w fun e w' => e = .returned (.bool (inB n 1 1000000)) ∧ w' = w := by
  go_enter Try.func79, Try.ntmps79
  go_wp2_with fail
  refine (inImpl _ _ _ _).mono ?_
  rintro e x2 ⟨rfl, hx2⟩
  rw [hx2]
  clear hx2 x2
  go_wp2
  go_ret
  exact ⟨rfl, rfl⟩
def lckRt (m : Mm) (l : Lk) : Bool := decide (0 ≤ atM m l.i) && (inB l.w 1 1000000 && inB l.c 1 1000)
theorem asc_iff {α : Type} [Inhabited α] (f : α → Int) : ∀ (xs : List α) (l : Int), ascB (xs.map f) l = true ↔ (∀ j, j < xs.length → l ≤ f (xs.getD j default) ∧ f (xs.getD j default) ≤ 1000000) ∧ (∀ j, j + 1 < xs.length → f (xs.getD j default) < f (xs.getD (j + 1) default))
  | [], l => ⟨fun _ => ⟨fun j hj => by simp at hj, fun j hj => by simp at hj⟩, fun _ => rfl⟩
  | x :: xs, l => by
    rw [List.map_cons]
    unfold ascB
    rw [Bool.and_eq_true, asc_iff f xs (f x + 1)]
    constructor
    · rintro ⟨h0, h1, h2⟩
      have hin := inB_yes h0
      refine ⟨fun j hj => ?_, fun j hj => ?_⟩
      · cases j with
        | zero => exact hin
        | succ j => rw [List.getD_cons_succ]; have := h1 j (by simpa using hj); omega
      · cases j with
        | zero => rw [List.getD_cons_zero, List.getD_cons_succ]; have := h1 0 (by simpa using hj); omega
        | succ j => rw [List.getD_cons_succ, List.getD_cons_succ]; exact h2 j (by simpa using hj)
    · rintro ⟨h1, h2⟩
      have h0 := h1 0 (by simp)
      rw [List.getD_cons_zero] at h0
      have h3 : ∀ j, j + 1 < xs.length → f (xs.getD j default) < f (xs.getD (j + 1) default) := fun j hj => by
        have := h2 (j + 1) (by simpa using hj)
        rwa [List.getD_cons_succ, List.getD_cons_succ] at this
      refine ⟨inB_mk h0.1 h0.2, fun j hj => ⟨?_, ?_⟩, h3⟩
      · induction j with
        | zero => have := h2 0 (by simpa using hj); rw [List.getD_cons_zero, List.getD_cons_succ] at this; omega
        | succ j ih => have := ih (by omega); have := h3 j hj; omega
      · have := h1 (j + 1) (by simpa using hj); rw [List.getD_cons_succ] at this; exact this.2
theorem asc_lt {α : Type} [Inhabited α] {f : α → Int} {xs : List α} (h : ∀ j, j + 1 < xs.length → f (xs.getD j default) < f (xs.getD (j + 1) default)) : ∀ i j, i < j → j < xs.length → f (xs.getD i default) < f (xs.getD j default) := fun i j hij hj => by
  obtain ⟨d, rfl⟩ : ∃ d, j = i + 1 + d := ⟨j - i - 1, by omega⟩
  clear hij
  induction d with
  | zero => exact h i hj
  | succ d ih => have := ih (by omega); have := h (i + 1 + d) (by omega); rw [show i + 1 + (d + 1) = i + 1 + d + 1 from rfl]; omega
theorem all_getD {α : Type} [Inhabited α] {xs : List α} {p : α → Bool} : xs.all p = true ↔ ∀ j, j < xs.length → p (xs.getD j default) = true := by
  rw [List.all_eq_true]
  constructor
  · exact fun h j hj => h _ (by rw [List.getD_eq_getElem?_getD, List.getElem?_eq_getElem hj]; exact List.getElem_mem hj)
  · intro h y hy
    obtain ⟨i, hi, rfl⟩ := List.mem_iff_getElem.1 hy
    have := h i hi
    rwa [List.getD_eq_getElem?_getD, List.getElem?_eq_getElem hi] at this
theorem range_all {n : Nat} {p : Nat → Bool} : (List.range n).all p = true ↔ ∀ i, i < n → p i = true := by
  rw [List.all_eq_true]
  exact ⟨fun h i hi => h i (List.mem_range.2 hi), fun h i hi => h i (List.mem_range.1 hi)⟩
theorem fits_eq (fs : List Fd) (vs : List Vl) : fitsT fs vs = (decide (vs.length = fs.length) && (vs.all vlB && (List.range vs.length).all (fitV vs fs))) := by
  rw [Bool.eq_iff_iff]
  unfold fitsT
  simp only [Bool.and_eq_true, decide_eq_true_eq, range_all]
  rw [all_getD (xs := vs)]
  constructor
  · rintro ⟨h1, h2⟩
    refine ⟨h1.symm, fun j hj => ?_, fun j hj => ?_⟩
    · have := h2 j (by omega)
      unfold fitT at this
      rw [Bool.and_eq_true] at this
      exact this.1
    · have := h2 j (by omega)
      unfold fitT frv at this
      rw [Bool.and_eq_true] at this
      unfold fitV
      have h9 := this.2
      dsimp only at h9
      revert h9
      generalize (vs.getD j default).r = a
      generalize ((fs.getD j default).t.toList == [73]) = b
      cases a <;> cases b <;> simp
  · rintro ⟨h1, h2, h3⟩
    refine ⟨h1.symm, fun j hj => ?_⟩
    unfold fitT frv
    rw [Bool.and_eq_true]
    refine ⟨h2 j (by omega), ?_⟩
    have h9 := h3 j (by omega)
    unfold fitV at h9
    dsimp only
    revert h9
    generalize (vs.getD j default).r = a
    generalize ((fs.getD j default).t.toList == [73]) = b
    cases a <;> cases b <;> simp
theorem obB_eq (ks : List Kd) (y : Ob) : obB ks y = (inB y.i 1 1000000 && objRt ks y) := by
  unfold obB objRt
  rw [fits_eq]
theorem mmB_eq (ks : List Kd) (m : Mm) : mmB ks m = (ascB (m.o.map (·.i)) 1 && (m.o.all (objRt ks) && (ascB (m.l.map (·.i)) 1 && m.l.all (lckRt m)))) := by
  rw [Bool.eq_iff_iff]
  unfold mmB
  simp only [Bool.and_eq_true, asc_iff, range_all]
  rw [all_getD (xs := m.o), all_getD (xs := m.l)]
  constructor
  · rintro ⟨h1, h2⟩
    have g1 : ∀ j, j < m.o.length → obB ks (m.o.getD j default) = true ∧ (j = 0 ∨ (m.o.getD (j - 1) default).i < (m.o.getD j default).i) := fun j hj => by
      have := h1 j hj
      unfold objAt at this
      simpa only [Bool.and_eq_true, Bool.or_eq_true, decide_eq_true_eq] using this
    have g2 : ∀ j, j < m.l.length → 0 ≤ atM m (m.l.getD j default).i ∧ inB (m.l.getD j default).w 1 1000000 = true ∧ inB (m.l.getD j default).c 1 1000 = true ∧ (j = 0 ∨ (m.l.getD (j - 1) default).i < (m.l.getD j default).i) := fun j hj => by
      have := h2 j hj
      unfold lckAt at this
      simpa only [Bool.and_eq_true, Bool.or_eq_true, decide_eq_true_eq] using this
    have g3 : ∀ j, j < m.o.length → inB (m.o.getD j default).i 1 1000000 = true ∧ objRt ks (m.o.getD j default) = true := fun j hj => by
      have := (g1 j hj).1
      rw [obB_eq] at this
      simpa only [Bool.and_eq_true] using this
    refine ⟨⟨fun j hj => inB_yes (g3 j hj).1, fun j hj => ?_⟩, fun j hj => (g3 j hj).2, ⟨fun j hj => ?_, fun j hj => ?_⟩, fun j hj => ?_⟩
    · have := (g1 (j + 1) hj).2
      rw [Nat.add_sub_cancel] at this
      omega
    · have ha := at_lt (g2 j hj).1
      have hb := (g3 _ ha).1
      have hin := inB_yes hb
      have he := obAt_is (g2 j hj).1
      rw [he] at hin
      exact hin
    · have := (g2 (j + 1) hj).2.2.2
      rw [Nat.add_sub_cancel] at this
      omega
    · unfold lckRt
      simp only [Bool.and_eq_true, decide_eq_true_eq]
      exact ⟨(g2 j hj).1, (g2 j hj).2.1, (g2 j hj).2.2.1⟩
  · rintro ⟨⟨h1, h2⟩, h3, ⟨h4, h5⟩, h6⟩
    refine ⟨fun j hj => ?_, fun j hj => ?_⟩
    · unfold objAt
      rw [obB_eq]
      simp only [Bool.and_eq_true, Bool.or_eq_true, decide_eq_true_eq]
      refine ⟨⟨inB_mk (h1 j hj).1 (h1 j hj).2, h3 j hj⟩, ?_⟩
      cases j with
      | zero => exact .inl rfl
      | succ j => exact .inr (by rw [Nat.add_sub_cancel]; exact h2 j hj)
    · have := h6 j hj
      unfold lckRt at this
      simp only [Bool.and_eq_true, decide_eq_true_eq] at this
      unfold lckAt
      simp only [Bool.and_eq_true, Bool.or_eq_true, decide_eq_true_eq]
      refine ⟨this.1, this.2.1, this.2.2, ?_⟩
      cases j with
      | zero => exact .inl rfl
      | succ j => exact .inr (by rw [Nat.add_sub_cancel]; exact h5 j hj)
set_option maxRecDepth 100000 in
set_option maxHeartbeats 8000000 in
theorem locksRightI (w : World) (m : Mm) (u1 u2 : Value) (h1 : Reads w w.heap.size (obs m.o) u1) (h2 : Reads w w.heap.size (lks m.l) u2) (hg : MmG m) (ha : ∀ i j, i < j → j < m.o.length → (m.o.getD i default).i < (m.o.getD j default).i) :
    Calls Try.prog 49 #[mmV m u1 u2] w fun e w' => e = .returned (.bool (m.l.all (lckRt m))) ∧ Below w.heap.size w w' := by
  have HR := hide h1
  have HL := hide h2
  have HAS := hide ha
  have hm := hg.o.1
  have hml := hg.l.1
  obtain ⟨a1, c1, e1, _⟩ := h1.shape
  obtain ⟨a2, c2, e2, _⟩ := h2.shape
  subst e1 e2
  clear h1 h2 hg ha
  obtain ⟨V, hV⟩ : ∃ V, m.l.all (lckRt m) = V := ⟨_, rfl⟩
  have HV1 : Hid (∀ j, j < m.l.length → lckRt m (m.l.getD j default) = false → V = false) := hide (fun j hj h => by
    rw [← hV]
    cases c : m.l.all (lckRt m) with
    | false => rfl
    | true => have := all_getD.1 c j hj; rw [h] at this; cases this)
  have HV2 : Hid ((∀ j, j < m.l.length → lckRt m (m.l.getD j default) = true) → V = true) := hide (fun h => by rw [← hV]; exact all_getD.2 h)
  rw [hV]
  clear hV
  have bA := ((Below.refl w.heap.size w).alloc (Nat.le_refl _) (.cells #[.slice a1 m.o.length c1, .slice a2 m.l.length c2] 39))
  have G0 := heap_alloc_new w (.cells #[.slice a1 m.o.length c1, .slice a2 m.l.length c2] 39)
  have E0 := hide (G0)
  have HB := hide bA
  replace HR := hide (HR.out.at bA)
  replace HL := hide (HL.out.at bA)
  clear bA G0
  unfold mmV
  go_enter Try.func49, Try.ntmps49
  go_wp2
  generalize (w.alloc (.cells #[.slice a1 m.o.length c1, .slice a2 m.l.length c2] 39)) = W at *
  have hWs := (Array.getElem?_eq_some_iff.1 E0.out).1
  go_loopw [10] (fun i wr => ∃ j : Nat, j ≤ m.l.length ∧ i = .int .i64 (j : Int) ∧ Hid (∀ t, t < j → lckRt m (m.l.getD t default) = true) ∧ Hid (Below W.heap.size W wr)) (fun i _ => m.l.length - (intOf i).toNat)
  case atStart => exact ⟨0, Nat.zero_le _, rfl, hide (fun t ht => by omega), hide (Below.refl _ _)⟩
  case round =>
    obtain ⟨j, hj, rfl, HA, HBr⟩ := hrel
    have E0r := hide ((HBr.out.block _ hWs).trans E0.out)
    by_cases hlt : j < m.l.length
    · obtain ⟨a', cap', ea, hcap, _, hc⟩ := lock_at (HL.out.at HBr.out)
      cases ea
      obtain ⟨b, o, rfl, hbb, hcell⟩ := hc (by omega)
      obtain ⟨d0, d1, d2⟩ := hcell j hlt
      have HNo := hide (HV1.out j hlt)
      have HA2 : Hid (lckRt m (m.l.getD j default) = true → ∀ t, t < j + 1 → lckRt m (m.l.getD t default) = true) := hide (fun h t ht => by
        rcases Nat.lt_succ_iff_lt_or_eq.1 ht with h1 | rfl
        · exact HA.out t h1
        · exact h)
      clear hcell hc
      obtain ⟨y, hy⟩ : ∃ y, m.l.getD j default = y := ⟨_, rfl⟩
      rw [hy] at d0 d1 d2 HNo HA2
      clear hy
      go_upto_region 4 with fail
      clear d0 d1 d2
      have bA := (Below.refl wr.heap.size wr).alloc (Nat.le_refl _) (.cells #[.int .i64 y.i, .int .i64 y.w, .int .i64 y.c] 74)
      have EF := hide (heap_alloc_new wr (.cells #[.int .i64 y.i, .int .i64 y.w, .int .i64 y.c] 74))
      have hw0 := HBr.out.size
      have HBw := hide (HBr.out.trans (bA.mono hw0))
      replace E0r := hide ((bA.block _ (Array.getElem?_eq_some_iff.1 E0r.out).1).trans E0r.out)
      clear bA hbb
      obtain ⟨gf, hgf⟩ : ∃ g, wr.heap.size = g := ⟨_, rfl⟩
      rw [hgf] at EF ⊢
      clear hgf
      generalize wr.alloc (.cells #[.int .i64 y.i, .int .i64 y.w, .int .i64 y.c] 74) = W2 at *
      have f0 := (box_of EF.out).1 0 _ rfl
      have q0 := (box_of E0r.out).1 0 _ rfl
      go_wp2_with fail
      refine (bsearchI _ m.o _ y.i (HR.out.at HBw.out) hm HAS.out).mono ?_
      rintro e W3 ⟨⟨p, rfl⟩, b9⟩
      replace EF := hide ((b9.block _ (Array.getElem?_eq_some_iff.1 EF.out).1).trans EF.out)
      replace HBw := hide (HBw.out.trans (b9.mono HBw.out.size))
      clear b9 f0 q0 E0r
      have f1 := (box_of EF.out).1 1 _ rfl
      have f2 := (box_of EF.out).1 2 _ rfl
      have HLR : Hid (lckRt m y = (decide (0 ≤ obAt m.o y.i 0) && (inB y.w 1 1000000 && inB y.c 1 1000))) := hide rfl
      cases ct : decide (0 ≤ obAt m.o y.i 0) with
      | false =>
        have HF := hide (HNo.out (by rw [HLR.out, ct]; rfl))
        clear HNo HA2 HA HV1 HV2 HLR ct
        go_wp2
        go_ret
        exact ⟨by rw [HF.out]; rfl, HB.out.trans (HBw.out.mono HB.out.size)⟩
      | true =>
        go_wp2_with fail
        refine (objNoI _ _).mono ?_
        rintro e x2 ⟨rfl, hx2⟩
        rw [hx2]
        clear hx2 x2
        cases cw : inB y.w 1 1000000 with
        | false =>
          have HF := hide (HNo.out (by rw [HLR.out, ct, cw]; rfl))
          clear HNo HA2 HA HV1 HV2 HLR ct cw
          go_wp2
          go_ret
          exact ⟨by rw [HF.out]; rfl, HB.out.trans (HBw.out.mono HB.out.size)⟩
        | true =>
          go_wp2_with fail
          refine (inImpl _ _ _ _).mono ?_
          rintro e x2 ⟨rfl, hx2⟩
          rw [hx2]
          clear hx2 x2
          cases cc : inB y.c 1 1000 with
          | false =>
            have HF := hide (HNo.out (by rw [HLR.out, ct, cw, cc]; rfl))
            clear HNo HA2 HA HV1 HV2 HLR ct cw cc
            go_wp2
            go_ret
            exact ⟨by rw [HF.out]; rfl, HB.out.trans (HBw.out.mono HB.out.size)⟩
          | true =>
            have HA3 := hide (HA2.out (by rw [HLR.out, ct, cw, cc]; rfl))
            clear HA2 HNo HA HLR ct cw cc
            go_wp2
            exact ⟨⟨j + 1, by omega, by go_num, HA3, HBw⟩, by simp [intOf]; omega⟩
    · have he : j = m.l.length := by omega
      have HF : Hid (V = true) := hide (HV2.out (fun t ht => HA.out t (by omega)))
      go_wp2
      go_ret
      exact ⟨by rw [HF.out]; rfl, HB.out.trans (HBr.out.mono HB.out.size)⟩
set_option maxRecDepth 100000 in
set_option maxHeartbeats 8000000 in
theorem memoryOkI (w : World) (x : Pg) (u : Value) (m : Mm) (v1 v2 : Value) (h : Reads w w.heap.size (kins x.k) u) (h1 : Reads w w.heap.size (obs m.o) v1) (h2 : Reads w w.heap.size (lks m.l) v2) (hg : kinsG x.k) (hgm : MmG m) :
    Calls Try.prog 13 #[pgV x u, mmV m v1 v2] w fun e w' => e = .returned (.bool (mmB x.k m)) ∧ Below w.heap.size w w' := by
  have HX := hide h
  have HR := hide h1
  have HL := hide h2
  have HG := hide hg
  have HGM := hide hgm
  obtain ⟨a0, c0, e0, _⟩ := h.shape
  obtain ⟨a1, c1, e1, _⟩ := h1.shape
  obtain ⟨a2, c2, e2, _⟩ := h2.shape
  subst e0 e1 e2
  clear h h1 h2 hg hgm
  rw [mmB_eq]
  obtain ⟨V, hV⟩ : ∃ V, (ascB (m.o.map (·.i)) 1 && (m.o.all (objRt x.k) && (ascB (m.l.map (·.i)) 1 && m.l.all (lckRt m)))) = V := ⟨_, rfl⟩
  rw [hV]
  have HV := hide hV.symm
  clear hV
  have bA := (((Below.refl w.heap.size w).alloc (Nat.le_refl _) (.cells #[.slice a0 x.k.length c0] 34)).alloc (by simp) (.cells #[.slice a1 m.o.length c1, .slice a2 m.l.length c2] 39))
  have G0 := heap_alloc_new w (.cells #[.slice a0 x.k.length c0] 34)
  have G1 := heap_alloc_new (w.alloc (.cells #[.slice a0 x.k.length c0] 34)) (.cells #[.slice a1 m.o.length c1, .slice a2 m.l.length c2] 39)
  simp only [World.size_alloc] at G1
  have E0 := hide ((Below.heap_alloc _ (.cells #[.slice a1 m.o.length c1, .slice a2 m.l.length c2] 39) _ (by simp)).trans (G0))
  have E1 := hide (G1)
  have HB := hide bA
  replace HX := hide (HX.out.at bA)
  replace HR := hide (HR.out.at bA)
  replace HL := hide (HL.out.at bA)
  clear bA G0 G1
  unfold pgV mmV
  go_enter Try.func13, Try.ntmps13
  go_wp2_with fail
  generalize ((w.alloc (.cells #[.slice a0 x.k.length c0] 34)).alloc (.cells #[.slice a1 m.o.length c1, .slice a2 m.l.length c2] 39)) = W at *
  refine (ascO _ m.o _ HR.out HGM.out.o.1).mono ?_
  rintro e w1 ⟨rfl, b1⟩
  replace E0 := hide ((b1.block _ (Array.getElem?_eq_some_iff.1 E0.out).1).trans E0.out)
  replace E1 := hide ((b1.block _ (Array.getElem?_eq_some_iff.1 E1.out).1).trans E1.out)
  replace HX := hide (HX.out.at b1)
  replace HR := hide (HR.out.at b1)
  replace HL := hide (HL.out.at b1)
  replace HB := hide (HB.out.trans (b1.mono HB.out.size))
  clear b1
  cases k1 : ascB (m.o.map (·.i)) 1 with
  | false =>
    have HF : Hid (V = false) := hide (by rw [HV.out, k1]; rfl)
    clear HV k1
    go_wp2
    go_ret
    exact ⟨by rw [HF.out]; rfl, HB.out⟩
  | true =>
    have HAS := hide (asc_lt ((asc_iff _ _ _).1 k1).2)
    have q0 := (box_of E0.out).1 0 _ rfl
    have p0 := (box_of E1.out).1 0 _ rfl
    have p1 := (box_of E1.out).1 1 _ rfl
    go_wp2_with fail
    refine (objectsRightI _ x _ m _ _ HX.out HR.out HL.out HG.out HGM.out.o).mono ?_
    rintro e w1 ⟨rfl, b1⟩
    clear q0 p0 p1
    replace E0 := hide ((b1.block _ (Array.getElem?_eq_some_iff.1 E0.out).1).trans E0.out)
    replace E1 := hide ((b1.block _ (Array.getElem?_eq_some_iff.1 E1.out).1).trans E1.out)
    replace HX := hide (HX.out.at b1)
    replace HR := hide (HR.out.at b1)
    replace HL := hide (HL.out.at b1)
    replace HB := hide (HB.out.trans (b1.mono HB.out.size))
    clear b1
    cases k2 : m.o.all (objRt x.k) with
    | false =>
      have HF : Hid (V = false) := hide (by rw [HV.out, k1, k2]; rfl)
      clear HV k1 k2
      go_wp2
      go_ret
      exact ⟨by rw [HF.out]; rfl, HB.out⟩
    | true =>
      have p1 := (box_of E1.out).1 1 _ rfl
      go_wp2_with fail
      refine (ascL _ m.l _ HL.out HGM.out.l.1).mono ?_
      rintro e w1 ⟨rfl, b1⟩
      clear p1
      replace E0 := hide ((b1.block _ (Array.getElem?_eq_some_iff.1 E0.out).1).trans E0.out)
      replace E1 := hide ((b1.block _ (Array.getElem?_eq_some_iff.1 E1.out).1).trans E1.out)
      replace HX := hide (HX.out.at b1)
      replace HR := hide (HR.out.at b1)
      replace HL := hide (HL.out.at b1)
      replace HB := hide (HB.out.trans (b1.mono HB.out.size))
      clear b1
      cases k3 : ascB (m.l.map (·.i)) 1 with
      | false =>
        have HF : Hid (V = false) := hide (by rw [HV.out, k1, k2, k3]; rfl)
        clear HV k1 k2 k3
        go_wp2
        go_ret
        exact ⟨by rw [HF.out]; rfl, HB.out⟩
      | true =>
        have p0 := (box_of E1.out).1 0 _ rfl
        have p1 := (box_of E1.out).1 1 _ rfl
        go_wp2_with fail
        refine (locksRightI _ m _ _ HR.out HL.out HGM.out HAS.out).mono ?_
        rintro e w1 ⟨rfl, b1⟩
        clear p0 p1
        replace E0 := hide ((b1.block _ (Array.getElem?_eq_some_iff.1 E0.out).1).trans E0.out)
        replace E1 := hide ((b1.block _ (Array.getElem?_eq_some_iff.1 E1.out).1).trans E1.out)
        replace HX := hide (HX.out.at b1)
        replace HR := hide (HR.out.at b1)
        replace HL := hide (HL.out.at b1)
        replace HB := hide (HB.out.trans (b1.mono HB.out.size))
        clear b1
        have HF : Hid (V = m.l.all (lckRt m)) := hide (by rw [HV.out, k1, k2, k3]; rfl)
        clear HV k1 k2 k3
        go_wp2
        go_ret
        exact ⟨by rw [HF.out]; rfl, HB.out⟩
end Go.Proofs.Ythlaihkpffddcaa
