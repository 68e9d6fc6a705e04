/-
  Copies at a node in the program: whether a row of copies is right.
-/
import Derived.Test.YtofnpgheppgcaaaKCpZ
import Derived.Test.YtofnpgheppgcaaaJ30
namespace Go.Proofs.Ytofnpgheppgcaaa
open Go.RowKit

def badC (ks : List Kd) (y : Cpy) : Bool := !cpRt ks y
theorem bad_at (ks : List Kd) (xs : List Cpy) : decide (0 ≤ atFst (badC ks) xs) = !(xs.all (cpRt ks)) := by
  unfold atFst
  cases h : xs.findIdx? (badC ks) with
  | none =>
    rw [List.findIdx?_eq_none_iff] at h
    have h2 : xs.all (cpRt ks) = true := by
      rw [List.all_eq_true]
      intro y hy
      have := h y hy
      unfold badC at this
      simpa using this
    rw [h2]
    rfl
  | some i =>
    obtain ⟨hi, h1, _⟩ := List.findIdx?_eq_some_iff_getElem.1 h
    have h2 : xs.all (cpRt ks) = false := by
      rw [List.all_eq_false]
      refine ⟨xs[i], List.getElem_mem hi, ?_⟩
      unfold badC at h1
      simpa using h1
    rw [h2]
    exact decide_eq_true (Int.natCast_nonneg i)
set_option maxRecDepth 100000 in
set_option maxHeartbeats 8000000 in
theorem wrongC (w : World) (x : Pg) (y : Cpy) (v1 v2 : Value) (p : Nat) (a1 : Option Addr) (c1 : Nat) (hp : w.cell? ⟨p, 0, none⟩ = some (.slice a1 x.k.length c1)) (hlt0 : p < w.heap.size) (h : Reads w w.heap.size (kins x.k) (.slice a1 x.k.length c1)) (hg : kinsG x.k) (h1 : Reads w w.heap.size (vls y.f) v1) (h2 : Reads w w.heap.size (vls y.t) v2) :
    Calls Try.prog 43 #[cpyV y v1 v2, .pointer (some ⟨p, 0, none⟩)] w fun e w' => e = .returned (.bool (badC x.k y)) ∧ Below w.heap.size w w' := by
  obtain ⟨fa, fc, e2, _⟩ := h1.shape
  obtain ⟨ta, tc, e3, _⟩ := h2.shape
  subst e2 e3
  have bA := (Below.refl w.heap.size w).alloc (Nat.le_refl _) (.cells #[.int .i64 y.i, .int .i64 y.c, .int .i64 y.n, .bool y.v, .slice fa y.f.length fc, .slice ta y.t.length tc] 40)
  have EF := hide (heap_alloc_new w (.cells #[.int .i64 y.i, .int .i64 y.c, .int .i64 y.n, .bool y.v, .slice fa y.f.length fc, .slice ta y.t.length tc] 40))
  have HB := hide bA
  have HR := hide (h.at bA)
  have P1 := hide (h1.at bA)
  have P2 := hide (h2.at bA)
  have q0 := (bA.cell (p := ⟨p, 0, none⟩) hlt0).trans hp
  clear bA
  unfold cpyV badC
  go_enter Try.func43, Try.ntmps43
  go_upto_region 1 with fail
  generalize w.alloc (.cells #[.int .i64 y.i, .int .i64 y.c, .int .i64 y.n, .bool y.v, .slice fa y.f.length fc, .slice ta y.t.length tc] 40) = W at *
  have f0 := (box_of EF.out).1 0 _ rfl
  have f1 := (box_of EF.out).1 1 _ rfl
  have f2 := (box_of EF.out).1 2 _ rfl
  have f3 := (box_of EF.out).1 3 _ rfl
  have f4 := (box_of EF.out).1 4 _ rfl
  have f5 := (box_of EF.out).1 5 _ rfl
  go_wp2_with fail
  refine (copyRightI _ x _ y _ _ HR.out P1.out P2.out hg).mono ?_
  rintro e W1 ⟨rfl, b9⟩
  replace HB := hide (HB.out.trans (b9.mono HB.out.size))
  clear b9
  go_wp2
  go_ret
  exact ⟨rfl, HB.out⟩
set_option maxRecDepth 100000 in
set_option maxHeartbeats 8000000 in
theorem idxBad (w : World) (x : Pg) (v : Value) (xs : List Cpy) (p : Nat) (a1 : Option Addr) (c1 : Nat) (h1 : Reads w w.heap.size (cpys xs) v) (hm : xs.length ≤ 1048576) (hp : w.cell? ⟨p, 0, none⟩ = some (.slice a1 x.k.length c1)) (hlt0 : p < w.heap.size) (h : Reads w w.heap.size (kins x.k) (.slice a1 x.k.length c1)) (hg : kinsG x.k) :
    Calls Try.prog 69 #[v, .func (.func 43) #[] #[.pointer (some ⟨p, 0, none⟩)]] w fun e w' => e = .returned (.int .i64 (atFst (badC x.k) xs)) ∧ Below w.heap.size w w' := by
  have HX : Hid (∀ wr, Below w.heap.size w wr → _) := hide (fun wr hb => copy_at (h1.at hb))
  have HY : Hid (∀ j, j < xs.length → badC x.k (xs.getD j default) = true → (∀ i, i < j → badC x.k (xs.getD i default) = false) → atFst (badC x.k) xs = (j : Int)) := hide (fun j hj h h0 => atFst_hit hj h h0)
  have HN : Hid ((∀ i, i < xs.length → badC x.k (xs.getD i default) = false) → atFst (badC x.k) xs = -1) := hide (fun h0 => atFst_no h0)
  obtain ⟨a, cap, rfl, _⟩ := copy_at h1
  clear h1
  generalize hn : xs.length = n at *
  generalize atFst (badC x.k) xs = V at *
  go_enter Try.func69, Try.ntmps69
  go_wp2
  go_loopw [8] (fun i wr => ∃ j : Nat, j ≤ n ∧ i = .int .i64 (j : Int) ∧ Hid (∀ i, i < j → badC x.k (xs.getD i default) = false) ∧ Hid (Below w.heap.size w wr)) (fun i _ => n - (intOf i).toNat)
  case atStart => exact ⟨0, Nat.zero_le _, rfl, hide (fun i hi => by omega), hide (Below.refl _ _)⟩
  case round =>
    obtain ⟨j, hj, rfl, HR, HB⟩ := hrel
    by_cases hlt : j < n
    · obtain ⟨a', cap', ea, _, _, hc⟩ := HX.out wr HB.out
      cases ea
      obtain ⟨b, o, rfl, _, hcell⟩ := hc (by omega)
      obtain ⟨pv1, pv2, d0, d1, d2, d3, d4, d5, r1, r2⟩ := hcell j hlt
      clear hcell hc
      obtain ⟨y, hx⟩ : ∃ y, xs.getD j default = y := ⟨_, rfl⟩
      rw [hx] at d0 d1 d2 d3 r1 r2
      obtain ⟨aa1, cc1, ea1, _⟩ := r1.shape
      obtain ⟨aa2, cc2, ea2, _⟩ := r2.shape
      subst ea1 ea2
      have HRw := hide (h.at HB.out)
      have HX9 := hide hx
      clear hx
      go_wp2_with fail
      refine (wrongC _ x y _ _ p a1 c1 ((HB.out.cell (p := ⟨p, 0, none⟩) hlt0).trans hp) (Nat.lt_of_lt_of_le hlt0 HB.out.size) HRw.out hg r1 r2).mono ?_
      rintro e w1 ⟨rfl, b1⟩
      replace HB := hide (HB.out.trans (b1.mono HB.out.size))
      clear b1 r1 r2 HRw
      cases c : badC x.k y with
      | true =>
        have HF : Hid (V = (j : Int)) := hide (HY.out j hlt (by rw [HX9.out]; exact c) HR.out)
        go_wp2
        go_ret
        exact ⟨by rw [HF.out]; rfl, HB.out⟩
      | false =>
        have HR2 : Hid (∀ i, i < j + 1 → badC x.k (xs.getD i default) = false) := hide (fun i hi => by
          rcases Nat.lt_succ_iff_lt_or_eq.1 hi with h | rfl
          · exact HR.out i h
          · rw [HX9.out]; exact c)
        go_wp2
        exact ⟨⟨j + 1, by omega, by go_num, HR2, HB⟩, by simp [intOf]; omega⟩
    · obtain rfl : j = n := by omega
      have HF : Hid (V = -1) := hide (HN.out HR.out)
      go_wp2
      go_ret
      exact ⟨by rw [HF.out]; rfl, HB.out⟩
set_option maxRecDepth 100000 in
set_option maxHeartbeats 8000000 in
theorem containsI (w : World) (x : Pg) (v : Value) (xs : List Cpy) (p : Nat) (a1 : Option Addr) (c1 : Nat) (h1 : Reads w w.heap.size (cpys xs) v) (hm : xs.length ≤ 1048576) (hp : w.cell? ⟨p, 0, none⟩ = some (.slice a1 x.k.length c1)) (hlt0 : p < w.heap.size) (h : Reads w w.heap.size (kins x.k) (.slice a1 x.k.length c1)) (hg : kinsG x.k) :
    Calls Try.prog 47 #[v, .func (.func 43) #[] #[.pointer (some ⟨p, 0, none⟩)]] w fun e w' => e = .returned (.bool (!(xs.all (cpRt x.k)))) ∧ Below w.heap.size w w' := by
  have HV : Hid (decide (0 ≤ atFst (badC x.k) xs) = !(xs.all (cpRt x.k))) := hide (bad_at x.k xs)
  obtain ⟨V, hV⟩ : ∃ V, (!(xs.all (cpRt x.k))) = V := ⟨_, rfl⟩
  rw [hV] at HV ⊢
  clear hV
  go_enter Try.func47, Try.ntmps47
  go_wp2_with fail
  refine (idxBad _ x _ xs p a1 c1 h1 hm hp hlt0 h hg).mono ?_
  rintro e W1 ⟨rfl, b9⟩
  have HB := hide b9
  clear b9
  generalize atFst (badC x.k) xs = K at *
  go_wp2
  go_ret
  exact ⟨by rw [← HV.out]; rfl, HB.out⟩
set_option maxRecDepth 100000 in
set_option maxHeartbeats 8000000 in
theorem copiesOkI (w : World) (x : Pg) (u : Value) (xs : List Cpy) (v : Value) (h : Reads w w.heap.size (kins x.k) u) (h1 : Reads w w.heap.size (cpys xs) v) (hg : kinsG x.k) (hgx : cpysG xs) :
    Calls Try.prog 14 #[pgV x u, v] w fun e w' => e = .returned (.bool (csB x.k xs)) ∧ Below w.heap.size w w' := by
  have hm := hgx.1
  obtain ⟨a1, c1, e1, _⟩ := h.shape
  obtain ⟨a2, c2, e2, _⟩ := h1.shape
  subst e1 e2
  have bA := (Below.refl w.heap.size w).alloc (Nat.le_refl _) (.cells #[.slice a1 x.k.length c1] 31)
  have E0 := hide (heap_alloc_new w (.cells #[.slice a1 x.k.length c1] 31))
  have HB := hide bA
  have HR := hide (h.at bA)
  have P1 := hide (h1.at bA)
  clear bA h h1
  have EX : csB x.k xs = (ascB (xs.map (·.i)) 1 && xs.all (cpRt x.k)) := rfl
  generalize csB x.k xs = V at *
  unfold pgV
  go_enter Try.func14, Try.ntmps14
  go_upto_region 2 with fail
  generalize w.alloc (.cells #[.slice a1 x.k.length c1] 31) = W at *
  have hE := (Array.getElem?_eq_some_iff.1 E0.out).1
  go_wp2_with fail
  refine (ascC _ xs _ P1.out hm).mono ?_
  rintro e W1 ⟨rfl, b9⟩
  replace E0 := hide ((b9.block _ hE).trans E0.out)
  replace HR := hide (HR.out.at b9)
  replace P1 := hide (P1.out.at b9)
  replace HB := hide (HB.out.trans (b9.mono HB.out.size))
  clear b9 hE
  have hE := (Array.getElem?_eq_some_iff.1 E0.out).1
  cases k1 : ascB (xs.map (·.i)) 1 with
  | false =>
    have HF : Hid (V = false) := hide (EX.trans (by rw [k1]; rfl))
    clear EX
    go_wp2
    go_ret
    exact ⟨by rw [HF.out]; rfl, HB.out⟩
  | true =>
    go_wp2_with fail
    refine (containsI _ x _ xs _ a1 c1 P1.out hm ((box_of E0.out).1 0 _ rfl) hE HR.out hg).mono ?_
    rintro e W2 ⟨rfl, b9⟩
    replace HB := hide (HB.out.trans (b9.mono HB.out.size))
    clear b9
    cases k2 : xs.all (cpRt x.k) with
    | false =>
      have HF : Hid (V = false) := hide (EX.trans (by rw [k1, k2]; rfl))
      clear EX
      go_wp2
      go_ret
      exact ⟨by rw [HF.out]; rfl, HB.out⟩
    | true =>
      have HF : Hid (V = true) := hide (EX.trans (by rw [k1, k2]; rfl))
      clear EX
      go_wp2
      go_ret
      exact ⟨by rw [HF.out]; rfl, HB.out⟩
end Go.Proofs.Ytofnpgheppgcaaa
