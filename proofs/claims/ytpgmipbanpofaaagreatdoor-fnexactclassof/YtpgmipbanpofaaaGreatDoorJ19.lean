/-
  Joined: ClsOkI, ClsOkJ, StepB.
-/
import Derived.Test.YtpgmipbanpofaaaGreatDoorJ18
import Derived.Test.YtpgmipbanpofaaaGreatDoorJ6
import Derived.Maps.AppendAt
import Derived.Deep.RegionHeldLaw
import Derived.Deep.Upon
/-
  What ClassOk does, in the program.
-/
namespace Go.Proofs.YtpgmipbanpofaaaGreatDoor
open Go.RowKit

set_option maxRecDepth 100000 in
set_option maxHeartbeats 2000000 in
theorem fieldImpl (w : World) (x : Fd) (h1 : x.n.size ≤ 1048576) (h2 : x.t.size ≤ 1048576) :
    Calls Tryz.prog 72 #[fdV x] w fun e w' => e = .returned (.bool (fdB x)) ∧ Below w.heap.size w w' := by
  have HM : Hid (fdB x = (nameB x.n && nameB x.t)) := hide rfl
  unfold fdV
  go_enter Tryz.func72, Tryz.ntmps72
  go_wp2_with fail
  refine (nameImpl _ _ (len_max h1)).mono ?_
  rintro e w1 ⟨rfl, rfl⟩
  cases c1 : nameB x.n with
  | false =>
    have HF : Hid (fdB x = false) := hide (by rw [HM.out, c1]; rfl)
    go_wp2
    go_ret
    exact ⟨by rw [HF.out]; rfl, (Below.refl _ _).alloc (Nat.le_refl _) _⟩
  | true =>
    have HF : Hid (fdB x = nameB x.t) := hide (by rw [HM.out, c1]; rfl)
    go_wp2_with fail
    refine (typImpl _ _ (len_max h2)).mono ?_
    rintro e w1 ⟨rfl, rfl⟩
    go_wp2
    go_ret
    exact ⟨by rw [HF.out]; rfl, (Below.refl _ _).alloc (Nat.le_refl _) _⟩
theorem kcImpl (w : World) (x : Kc) (h1 : x.a.size ≤ 1048576) (h2 : x.b.size ≤ 1048576) : Calls Tryz.prog 90 #[kcV x] w fun e w' => e = .returned (.bool (kcB x)) ∧ Below w.heap.size w w' := constOkImpl x.k x.n x.a x.b w (len_max h1) (len_max h2)
set_option maxRecDepth 100000 in
set_option maxHeartbeats 4000000 in
theorem eachSt (w : World) (v : Value) (xs : List ByteArray) (h : Reads w w.heap.size (strs xs) v) (hm : xs.length ≤ 1048576) (hg : ∀ y ∈ xs, y.size ≤ 1048576) :
    Calls Tryz.prog 101 #[v, .int .i64 3, .func (.func 93) #[] #[]] w fun e w' => e = .returned (.bool (decide (xs.length ≤ 3) && xs.all nameB)) ∧ Below w.heap.size w w' := by
  have HX : Hid (∀ wr, Below w.heap.size w wr → _) := hide (fun wr hb => str_at (h.at hb))
  have HG := hide (fun j hj => getD_mem hg j hj)
  have HN1 : Hid (∀ j, j < xs.length → nameB (xs.getD j default) = false → (decide (xs.length ≤ 3) && xs.all nameB) = false) := hide (fun j hj h => by rw [all_no hj h]; simp)
  have HY : Hid ((∀ j, j < xs.length → nameB (xs.getD j default) = true) → xs.length ≤ 3 → (decide (xs.length ≤ 3) && xs.all nameB) = true) := hide (fun h h' => by rw [all_yes h, decide_eq_true h']; rfl)
  have HL : Hid (¬ xs.length ≤ 3 → (decide (xs.length ≤ 3) && xs.all nameB) = false) := hide (fun h' => by rw [decide_eq_false h']; rfl)
  obtain ⟨a, cap, rfl, _⟩ := str_at h
  clear h hg
  generalize hn : xs.length = n at *
  generalize (decide (n ≤ 3) && xs.all nameB) = V at *
  by_cases hbig : n ≤ 3
  · have hb' : ¬ (3 : Int) < (n : Int) := by omega
    go_enter Tryz.func101, Tryz.ntmps101
    go_wp2
    go_loopw [15] (fun i wr => ∃ j : Nat, j ≤ n ∧ i = .int .i64 (j : Int) ∧ Hid (∀ i, i < j → nameB (xs.getD i default) = true) ∧ Hid (Below w.heap.size w wr)) (fun i _ => n - (intOf i).toNat)
    case atStart => exact ⟨0, Nat.zero_le _, rfl, hide (fun i hi => by omega), hide (Below.refl _ _)⟩
    case round =>
      obtain ⟨j, hj, rfl, HR, HB⟩ := hrel
      by_cases hlt : j < n
      · obtain ⟨a', cap', ea, _, _, hc⟩ := HX.out wr HB.out
        cases ea
        obtain ⟨b, o, rfl, _, hcell⟩ := hc (by omega)
        obtain e0 := hcell j hlt
        have hgx := hide (HG.out j (by omega))
        clear hcell hc
        obtain ⟨x, hx⟩ : ∃ x, xs.getD j default = x := ⟨_, rfl⟩
        rw [hx] at e0 hgx
        have HX9 := hide hx
        clear hx
        go_wp2_with fail
        refine (typImpl _ _ (len_max hgx.out)).mono ?_
        rintro e w1 ⟨rfl, b1⟩
        subst b1
        cases c : nameB x with
        | false =>
          have HF : Hid (V = false) := hide (HN1.out j hlt (by rw [HX9.out]; exact c))
          go_wp2
          go_ret
          exact ⟨by rw [HF.out]; rfl, HB.out⟩
        | true =>
          have HR2 : Hid (∀ i, i < j + 1 → nameB (xs.getD i default) = true) := hide (fun i hi => by
            rcases Nat.lt_succ_iff_lt_or_eq.1 hi with h | rfl
            · exact HR.out i h
            · rw [HX9.out]; exact c)
          go_wp2
          exact ⟨⟨j + 1, by omega, by go_num, HR2, HB⟩, by simp [intOf]; omega⟩
      · obtain rfl : j = n := by omega
        have HF : Hid (V = true) := hide (HY.out HR.out hbig)
        go_wp2
        go_ret
        exact ⟨by rw [HF.out]; rfl, HB.out⟩
  · have hb' : (3 : Int) < (n : Int) := by omega
    have HF : Hid (V = false) := hide (HL.out hbig)
    go_enter Tryz.func101, Tryz.ntmps101
    go_wp2
    go_ret
    exact ⟨by rw [HF.out]; rfl, Below.refl _ _⟩
set_option maxRecDepth 100000 in
set_option maxHeartbeats 4000000 in
theorem eachKc (w : World) (v : Value) (xs : List Kc) (h : Reads w w.heap.size (pool xs) v) (hm : xs.length ≤ 1048576) (hg : ∀ y ∈ xs, y.a.size ≤ 1048576 ∧ y.b.size ≤ 1048576) :
    Calls Tryz.prog 89 #[v, .int .i64 24, .func (.func 90) #[] #[]] w fun e w' => e = .returned (.bool (decide (xs.length ≤ 24) && xs.all kcB)) ∧ Below w.heap.size w w' := by
  have HX : Hid (∀ wr, Below w.heap.size w wr → _) := hide (fun wr hb => const_at (h.at hb))
  have HG := hide (fun j hj => getD_mem hg j hj)
  have HN1 : Hid (∀ j, j < xs.length → kcB (xs.getD j default) = false → (decide (xs.length ≤ 24) && xs.all kcB) = false) := hide (fun j hj h => by rw [all_no hj h]; simp)
  have HY : Hid ((∀ j, j < xs.length → kcB (xs.getD j default) = true) → xs.length ≤ 24 → (decide (xs.length ≤ 24) && xs.all kcB) = true) := hide (fun h h' => by rw [all_yes h, decide_eq_true h']; rfl)
  have HL : Hid (¬ xs.length ≤ 24 → (decide (xs.length ≤ 24) && xs.all kcB) = false) := hide (fun h' => by rw [decide_eq_false h']; rfl)
  obtain ⟨a, cap, rfl, _⟩ := const_at h
  clear h hg
  generalize hn : xs.length = n at *
  generalize (decide (n ≤ 24) && xs.all kcB) = V at *
  by_cases hbig : n ≤ 24
  · have hb' : ¬ (24 : Int) < (n : Int) := by omega
    go_enter Tryz.func89, Tryz.ntmps89
    go_wp2
    go_loopw [15] (fun i wr => ∃ j : Nat, j ≤ n ∧ i = .int .i64 (j : Int) ∧ Hid (∀ i, i < j → kcB (xs.getD i default) = true) ∧ Hid (Below w.heap.size w wr)) (fun i _ => n - (intOf i).toNat)
    case atStart => exact ⟨0, Nat.zero_le _, rfl, hide (fun i hi => by omega), hide (Below.refl _ _)⟩
    case round =>
      obtain ⟨j, hj, rfl, HR, HB⟩ := hrel
      by_cases hlt : j < n
      · obtain ⟨a', cap', ea, _, _, hc⟩ := HX.out wr HB.out
        cases ea
        obtain ⟨b, o, rfl, _, hcell⟩ := hc (by omega)
        obtain ⟨e0, e1, e2, e3⟩ := hcell j hlt
        have hgx := hide (HG.out j (by omega))
        clear hcell hc
        obtain ⟨x, hx⟩ : ∃ x, xs.getD j default = x := ⟨_, rfl⟩
        rw [hx] at e0 e1 e2 e3 hgx
        have HX9 := hide hx
        clear hx
        go_wp2_with fail
        refine (kcImpl _ x hgx.out.1 hgx.out.2).mono ?_
        rintro e w1 ⟨rfl, b1⟩
        have b2 := (Below.refl wr.heap.size wr).alloc (Nat.le_refl _) (.cells #[.int .i64 x.k, .int .i64 x.n, .string x.a, .string x.b] 42)
        replace HB := hide ((HB.out.trans (b2.mono HB.out.size)).trans (b1.mono (Nat.le_trans HB.out.size b2.size)))
        clear b1 b2
        cases c : kcB x with
        | false =>
          have HF : Hid (V = false) := hide (HN1.out j hlt (by rw [HX9.out]; exact c))
          go_wp2
          go_ret
          exact ⟨by rw [HF.out]; rfl, HB.out⟩
        | true =>
          have HR2 : Hid (∀ i, i < j + 1 → kcB (xs.getD i default) = true) := hide (fun i hi => by
            rcases Nat.lt_succ_iff_lt_or_eq.1 hi with h | rfl
            · exact HR.out i h
            · rw [HX9.out]; exact c)
          go_wp2
          exact ⟨⟨j + 1, by omega, by go_num, HR2, HB⟩, by simp [intOf]; omega⟩
      · obtain rfl : j = n := by omega
        have HF : Hid (V = true) := hide (HY.out HR.out hbig)
        go_wp2
        go_ret
        exact ⟨by rw [HF.out]; rfl, HB.out⟩
  · have hb' : (24 : Int) < (n : Int) := by omega
    have HF : Hid (V = false) := hide (HL.out hbig)
    go_enter Tryz.func89, Tryz.ntmps89
    go_wp2
    go_ret
    exact ⟨by rw [HF.out]; rfl, Below.refl _ _⟩
set_option maxRecDepth 100000 in
set_option maxHeartbeats 4000000 in
theorem eachFd (w : World) (v : Value) (xs : List Fd) (h : Reads w w.heap.size (flds xs) v) (hm : xs.length ≤ 1048576) (hg : ∀ y ∈ xs, y.n.size ≤ 1048576 ∧ y.t.size ≤ 1048576) :
    Calls Tryz.prog 71 #[v, .int .i64 8, .func (.func 72) #[] #[]] w fun e w' => e = .returned (.bool (decide (xs.length ≤ 8) && xs.all fdB)) ∧ Below w.heap.size w w' := by
  have HX : Hid (∀ wr, Below w.heap.size w wr → _) := hide (fun wr hb => field_at (h.at hb))
  have HG := hide (fun j hj => getD_mem hg j hj)
  have HN1 : Hid (∀ j, j < xs.length → fdB (xs.getD j default) = false → (decide (xs.length ≤ 8) && xs.all fdB) = false) := hide (fun j hj h => by rw [all_no hj h]; simp)
  have HY : Hid ((∀ j, j < xs.length → fdB (xs.getD j default) = true) → xs.length ≤ 8 → (decide (xs.length ≤ 8) && xs.all fdB) = true) := hide (fun h h' => by rw [all_yes h, decide_eq_true h']; rfl)
  have HL : Hid (¬ xs.length ≤ 8 → (decide (xs.length ≤ 8) && xs.all fdB) = false) := hide (fun h' => by rw [decide_eq_false h']; rfl)
  obtain ⟨a, cap, rfl, _⟩ := field_at h
  clear h hg
  generalize hn : xs.length = n at *
  generalize (decide (n ≤ 8) && xs.all fdB) = V at *
  by_cases hbig : n ≤ 8
  · have hb' : ¬ (8 : Int) < (n : Int) := by omega
    go_enter Tryz.func71, Tryz.ntmps71
    go_wp2
    go_loopw [15] (fun i wr => ∃ j : Nat, j ≤ n ∧ i = .int .i64 (j : Int) ∧ Hid (∀ i, i < j → fdB (xs.getD i default) = true) ∧ Hid (Below w.heap.size w wr)) (fun i _ => n - (intOf i).toNat)
    case atStart => exact ⟨0, Nat.zero_le _, rfl, hide (fun i hi => by omega), hide (Below.refl _ _)⟩
    case round =>
      obtain ⟨j, hj, rfl, HR, HB⟩ := hrel
      by_cases hlt : j < n
      · obtain ⟨a', cap', ea, _, _, hc⟩ := HX.out wr HB.out
        cases ea
        obtain ⟨b, o, rfl, _, hcell⟩ := hc (by omega)
        obtain ⟨e0, e1⟩ := hcell j hlt
        have hgx := hide (HG.out j (by omega))
        clear hcell hc
        obtain ⟨x, hx⟩ : ∃ x, xs.getD j default = x := ⟨_, rfl⟩
        rw [hx] at e0 e1 hgx
        have HX9 := hide hx
        clear hx
        go_wp2_with fail
        refine (fieldImpl _ x hgx.out.1 hgx.out.2).mono ?_
        rintro e w1 ⟨rfl, b1⟩
        have b2 := (Below.refl wr.heap.size wr).alloc (Nat.le_refl _) (.cells #[.string x.n, .string x.t] 45)
        replace HB := hide ((HB.out.trans (b2.mono HB.out.size)).trans (b1.mono (Nat.le_trans HB.out.size b2.size)))
        clear b1 b2
        cases c : fdB x with
        | false =>
          have HF : Hid (V = false) := hide (HN1.out j hlt (by rw [HX9.out]; exact c))
          go_wp2
          go_ret
          exact ⟨by rw [HF.out]; rfl, HB.out⟩
        | true =>
          have HR2 : Hid (∀ i, i < j + 1 → fdB (xs.getD i default) = true) := hide (fun i hi => by
            rcases Nat.lt_succ_iff_lt_or_eq.1 hi with h | rfl
            · exact HR.out i h
            · rw [HX9.out]; exact c)
          go_wp2
          exact ⟨⟨j + 1, by omega, by go_num, HR2, HB⟩, by simp [intOf]; omega⟩
      · obtain rfl : j = n := by omega
        have HF : Hid (V = true) := hide (HY.out HR.out hbig)
        go_wp2
        go_ret
        exact ⟨by rw [HF.out]; rfl, HB.out⟩
  · have hb' : (8 : Int) < (n : Int) := by omega
    have HF : Hid (V = false) := hide (HL.out hbig)
    go_enter Tryz.func71, Tryz.ntmps71
    go_wp2
    go_ret
    exact ⟨by rw [HF.out]; rfl, Below.refl _ _⟩
set_option maxRecDepth 100000 in
set_option maxHeartbeats 4000000 in
theorem parImpl (w : World) (xs : List ByteArray) (v : Value) (l : Int) (hp : Reads w w.heap.size (strs xs) v) (hl : xs.length ≤ 1048576) (hg : ∀ s ∈ xs, s.size ≤ 1048576) :
    Calls Tryz.prog 94 #[v, .int .i64 l] w fun e w' => e = .returned (.bool ((decide (xs.length ≤ 3) && xs.all nameB) && inB l ((xs.length : Int) + 1) 6)) ∧ Below w.heap.size w w' := by
  have HP := hide hp
  obtain ⟨a1, k1, e1, _⟩ := hp.shape
  subst e1
  clear hp
  have hw : IntKind.i64.wrap ((xs.length : Int) + 1) = (xs.length : Int) + 1 := by rw [IntKind.wrap_i64]; omega
  go_enter Tryz.func94, Tryz.ntmps94
  go_wp2_with fail
  refine (eachSt _ _ xs HP.out hl hg).mono ?_
  rintro e w2 ⟨rfl, b2⟩
  have HB := hide b2
  clear b2
  cases hV : (decide (xs.length ≤ 3) && xs.all nameB) with
  | false =>
    go_wp2
    go_ret
    exact ⟨by rw [hV]; rfl, HB.out⟩
  | true =>
    go_wp2_with fail
    refine (inImpl _ _ _ _).mono ?_
    rintro e w4 ⟨rfl, hw4⟩
    subst hw4
    go_wp2
    go_ret
    exact ⟨by rw [hV, Bool.true_and]; rfl, HB.out⟩
set_option maxRecDepth 100000 in
set_option maxHeartbeats 4000000 in
theorem methImpl (w : World) (x : Me) (pv cv : Value) (hp : Reads w w.heap.size (strs x.ps) pv) (hc : Reads w w.heap.size (byts x.c) cv) (hg : x.n.size ≤ 1048576 ∧ x.r.size ≤ 1048576 ∧ MeG x ∧ (∀ s ∈ x.ps, s.size ≤ 1048576)) :
    Calls Tryz.prog 76 #[meV x pv cv] w fun e w' => e = .returned (.bool (meB x)) ∧ Below w.heap.size w w' := by
  obtain ⟨a1, k1, e1, _⟩ := hp.shape
  obtain ⟨a2, k2, e2, _⟩ := hc.shape
  subst e1 e2
  have bA := (Below.refl w.heap.size w).alloc (Nat.le_refl _) (.cells #[.string x.n, .slice a1 x.ps.length k1, .string x.r, .int .i64 x.l, .slice a2 x.c.length k2] 48)
  have HX := hide (Box.new w #[.string x.n, .slice a1 x.ps.length k1, .string x.r, .int .i64 x.l, .slice a2 x.c.length k2] 48)
  have hgs : Hid (w.heap.size < (w.alloc (.cells #[.string x.n, .slice a1 x.ps.length k1, .string x.r, .int .i64 x.l, .slice a2 x.c.length k2] 48)).heap.size) := hide (by simp)
  have HP := hide (hp.at bA)
  have HB := hide bA
  have HM : Hid (meB x = (nameB x.n && ((decide (x.ps.length ≤ 3) && x.ps.all nameB) && inB x.l ((x.ps.length : Int) + 1) 6) && nameB x.r && inB (x.c.length : Int) 1 90)) := hide (by unfold meB; cases nameB x.n <;> cases (decide (x.ps.length ≤ 3) && x.ps.all nameB) <;> cases nameB x.r <;> cases inB x.l ((x.ps.length : Int) + 1) 6 <;> rfl)
  have hl := hg.2.2.1.1
  have hcl := hg.2.2.1.2.1
  have HS := hide hg
  clear hp hc bA hg
  unfold meV
  go_enter Tryz.func76, Tryz.ntmps76
  go_wp2_with fail
  generalize w.alloc (.cells #[.string x.n, .slice a1 x.ps.length k1, .string x.r, .int .i64 x.l, .slice a2 x.c.length k2] 48) = W at *
  refine (nameImpl _ _ (len_max HS.out.1)).mono ?_
  rintro e w1 ⟨rfl, hw1⟩
  subst hw1
  cases c1 : nameB x.n with
  | false =>
    have HF : Hid (meB x = false) := hide (by rw [HM.out, c1]; rfl)
    go_wp2
    go_ret
    exact ⟨by rw [HF.out]; rfl, HB.out⟩
  | true =>
    rw [c1] at HM
    clear c1
    have q0 := HX.out 0 _ rfl
    have q1 := HX.out 1 _ rfl
    have q2 := HX.out 2 _ rfl
    have q3 := HX.out 3 _ rfl
    have q4 := HX.out 4 _ rfl
    go_wp2_with fail
    clear q0 q1 q2 q3 q4
    refine (parImpl _ x.ps _ _ HP.out hl HS.out.2.2.2).mono ?_
    rintro e w2 ⟨rfl, b2⟩
    replace HX := hide (HX.out.below hgs.out b2)
    replace HB := hide (HB.out.trans (b2.mono HB.out.size))
    clear b2
    obtain ⟨V, hV⟩ : ∃ V, ((decide (x.ps.length ≤ 3) && x.ps.all nameB) && inB x.l ((x.ps.length : Int) + 1) 6) = V := ⟨_, rfl⟩
    rw [hV] at HM ⊢
    clear hV
    cases V with
    | false =>
      have HF : Hid (meB x = false) := hide (by rw [HM.out]; rfl)
      go_wp2
      go_ret
      exact ⟨by rw [HF.out]; rfl, HB.out⟩
    | true =>
      have q0 := HX.out 0 _ rfl
      have q1 := HX.out 1 _ rfl
      have q2 := HX.out 2 _ rfl
      have q3 := HX.out 3 _ rfl
      have q4 := HX.out 4 _ rfl
      go_wp2_with fail
      refine (typImpl _ _ (len_max HS.out.2.1)).mono ?_
      rintro e w3 ⟨rfl, hw3⟩
      subst hw3
      cases c1 : nameB x.r with
      | false =>
        have HF : Hid (meB x = false) := hide (by rw [HM.out, c1]; rfl)
        go_wp2
        go_ret
        exact ⟨by rw [HF.out]; rfl, HB.out⟩
      | true =>
        rw [c1] at HM
        clear c1
        go_wp2_with fail
        refine (inImpl _ _ _ _).mono ?_
        rintro e w5 ⟨rfl, hw5⟩
        subst hw5
        have HF : Hid (meB x = inB (x.c.length : Int) 1 90) := hide (by rw [HM.out]; simp)
        go_wp2
        go_ret
        exact ⟨by rw [HF.out]; rfl, HB.out⟩
set_option maxRecDepth 100000 in
set_option maxHeartbeats 4000000 in
theorem eachMe (w : World) (v : Value) (xs : List Me) (h : Reads w w.heap.size (mets xs) v) (hm : xs.length ≤ 1048576) (hg : ∀ y ∈ xs, y.n.size ≤ 1048576 ∧ y.r.size ≤ 1048576 ∧ MeG y ∧ (∀ s ∈ y.ps, s.size ≤ 1048576)) :
    Calls Tryz.prog 75 #[v, .int .i64 6, .func (.func 76) #[] #[]] w fun e w' => e = .returned (.bool (decide (xs.length ≤ 6) && xs.all meB)) ∧ Below w.heap.size w w' := by
  have HX : Hid (∀ wr, Below w.heap.size w wr → _) := hide (fun wr hb => meth_at (h.at hb))
  have HG := hide (fun j hj => getD_mem hg j hj)
  have HN1 : Hid (∀ j, j < xs.length → meB (xs.getD j default) = false → (decide (xs.length ≤ 6) && xs.all meB) = false) := hide (fun j hj h => by rw [all_no hj h]; simp)
  have HY : Hid ((∀ j, j < xs.length → meB (xs.getD j default) = true) → xs.length ≤ 6 → (decide (xs.length ≤ 6) && xs.all meB) = true) := hide (fun h h' => by rw [all_yes h, decide_eq_true h']; rfl)
  have HL : Hid (¬ xs.length ≤ 6 → (decide (xs.length ≤ 6) && xs.all meB) = false) := hide (fun h' => by rw [decide_eq_false h']; rfl)
  obtain ⟨a, cap, rfl, _⟩ := meth_at h
  clear h hg
  generalize hn : xs.length = n at *
  generalize (decide (n ≤ 6) && xs.all meB) = V at *
  by_cases hbig : n ≤ 6
  · have hb' : ¬ (6 : Int) < (n : Int) := by omega
    go_enter Tryz.func75, Tryz.ntmps75
    go_wp2
    go_loopw [15] (fun i wr => ∃ j : Nat, j ≤ n ∧ i = .int .i64 (j : Int) ∧ Hid (∀ i, i < j → meB (xs.getD i default) = true) ∧ Hid (Below w.heap.size w wr)) (fun i _ => n - (intOf i).toNat)
    case atStart => exact ⟨0, Nat.zero_le _, rfl, hide (fun i hi => by omega), hide (Below.refl _ _)⟩
    case round =>
      obtain ⟨j, hj, rfl, HR, HB⟩ := hrel
      by_cases hlt : j < n
      · obtain ⟨a', cap', ea, _, _, hc⟩ := HX.out wr HB.out
        cases ea
        obtain ⟨b, o, rfl, _, hcell⟩ := hc (by omega)
        obtain ⟨pv, cv, e0, e1, e2, e3, e4, r1, r2⟩ := hcell j hlt
        have hgx := hide (HG.out j (by omega))
        clear hcell hc
        obtain ⟨x, hx⟩ : ∃ x, xs.getD j default = x := ⟨_, rfl⟩
        rw [hx] at e0 e2 e3 r1 r2 hgx
        have HX9 := hide hx
        clear hx
        obtain ⟨aa, cc, ea, _⟩ := r1.shape
        obtain ⟨ab, cd, eb, _⟩ := r2.shape
        subst ea eb
        have R1 := hide (r1.at ((Below.refl wr.heap.size wr).alloc (Nat.le_refl _) (.cells #[.string x.n, .slice aa x.ps.length cc, .string x.r, .int .i64 x.l, .slice ab x.c.length cd] 48)))
        have R2 := hide (r2.at ((Below.refl wr.heap.size wr).alloc (Nat.le_refl _) (.cells #[.string x.n, .slice aa x.ps.length cc, .string x.r, .int .i64 x.l, .slice ab x.c.length cd] 48)))
        clear r1 r2
        go_wp2_with fail
        refine (methImpl _ x _ _ R1.out R2.out hgx.out).mono ?_
        rintro e w1 ⟨rfl, b1⟩
        have b2 := (Below.refl wr.heap.size wr).alloc (Nat.le_refl _) (.cells #[.string x.n, .slice aa x.ps.length cc, .string x.r, .int .i64 x.l, .slice ab x.c.length cd] 48)
        replace HB := hide ((HB.out.trans (b2.mono HB.out.size)).trans (b1.mono (Nat.le_trans HB.out.size b2.size)))
        clear b1 b2
        cases c : meB x with
        | false =>
          have HF : Hid (V = false) := hide (HN1.out j hlt (by rw [HX9.out]; exact c))
          go_wp2
          go_ret
          exact ⟨by rw [HF.out]; rfl, HB.out⟩
        | true =>
          have HR2 : Hid (∀ i, i < j + 1 → meB (xs.getD i default) = true) := hide (fun i hi => by
            rcases Nat.lt_succ_iff_lt_or_eq.1 hi with h | rfl
            · exact HR.out i h
            · rw [HX9.out]; exact c)
          go_wp2
          exact ⟨⟨j + 1, by omega, by go_num, HR2, HB⟩, by simp [intOf]; omega⟩
      · obtain rfl : j = n := by omega
        have HF : Hid (V = true) := hide (HY.out HR.out hbig)
        go_wp2
        go_ret
        exact ⟨by rw [HF.out]; rfl, HB.out⟩
  · have hb' : (6 : Int) < (n : Int) := by omega
    have HF : Hid (V = false) := hide (HL.out hbig)
    go_enter Tryz.func75, Tryz.ntmps75
    go_wp2
    go_ret
    exact ⟨by rw [HF.out]; rfl, Below.refl _ _⟩
set_option maxRecDepth 100000 in
set_option maxHeartbeats 2000000 in
theorem sameKc (w : World) (y x : Kc) : Calls Tryz.prog 92 #[kcV y, kcV x] w fun e w' => e = .returned (.bool (eqK y x)) ∧ Below w.heap.size w w' := by
  unfold kcV
  cases q1 : (y.k == x.k) with
  | false =>
    have HE : Hid (eqK y x = false) := hide (by simp only [eqK, q1]; rfl)
    go_enter Tryz.func92, Tryz.ntmps92
    go_wp2
    go_ret
    exact ⟨by rw [HE.out]; first | rfl | simp, ((Below.refl _ _).alloc (Nat.le_refl _) _).alloc (by simp) _⟩
  | true =>
   cases q2 : (y.n == x.n) with
   | false =>
    have HE : Hid (eqK y x = false) := hide (by simp only [eqK, q1, q2]; rfl)
    go_enter Tryz.func92, Tryz.ntmps92
    go_wp2
    go_ret
    exact ⟨by rw [HE.out]; first | rfl | simp, ((Below.refl _ _).alloc (Nat.le_refl _) _).alloc (by simp) _⟩
   | true =>
    cases q3 : (y.a.toList == x.a.toList) with
    | false =>
     have HE : Hid (eqK y x = false) := hide (by simp only [eqK, q1, q2, q3]; rfl)
     go_enter Tryz.func92, Tryz.ntmps92
     go_wp2
     go_ret
     exact ⟨by rw [HE.out]; first | rfl | simp, ((Below.refl _ _).alloc (Nat.le_refl _) _).alloc (by simp) _⟩
    | true =>
     cases q4 : (y.b.toList == x.b.toList) with
     | false =>
      have HE : Hid (eqK y x = false) := hide (by simp only [eqK, q1, q2, q3, q4]; rfl)
      go_enter Tryz.func92, Tryz.ntmps92
      go_wp2
      go_ret
      exact ⟨by rw [HE.out]; first | rfl | simp, ((Below.refl _ _).alloc (Nat.le_refl _) _).alloc (by simp) _⟩
     | true =>
      have HE : Hid (eqK y x = true) := hide (by simp only [eqK, q1, q2, q3, q4]; rfl)
      go_enter Tryz.func92, Tryz.ntmps92
      go_wp2
      go_ret
      exact ⟨by rw [HE.out]; first | rfl | simp, ((Below.refl _ _).alloc (Nat.le_refl _) _).alloc (by simp) _⟩

set_option maxRecDepth 100000 in
set_option maxHeartbeats 2000000 in
theorem sameFd (w : World) (y x : Fd) : Calls Tryz.prog 74 #[fdV y, fdV x] w fun e w' => e = .returned (.bool (sameF y x)) ∧ Below w.heap.size w w' := by
  have HE : Hid (sameF y x = (y.n.toList == x.n.toList)) := hide rfl
  unfold fdV
  go_enter Tryz.func74, Tryz.ntmps74
  go_wp2
  go_ret
  exact ⟨by rw [HE.out]; rfl, ((Below.refl _ _).alloc (Nat.le_refl _) _).alloc (by simp) _⟩
set_option maxRecDepth 100000 in
set_option maxHeartbeats 2000000 in
theorem sameMe (w : World) (y x : Me) (a1 a2 a3 a4 : Option Addr) (l1 l2 l3 l4 c1 c2 c3 c4 : Nat) : Calls Tryz.prog 78 #[meV y (.slice a1 l1 c1) (.slice a2 l2 c2), meV x (.slice a3 l3 c3) (.slice a4 l4 c4)] w fun e w' => e = .returned (.bool (sameN y x)) ∧ Below w.heap.size w w' := by
  have HE : Hid (sameN y x = (y.n.toList == x.n.toList)) := hide rfl
  unfold meV
  go_enter Tryz.func78, Tryz.ntmps78
  go_wp2
  go_ret
  exact ⟨by rw [HE.out]; rfl, ((Below.refl _ _).alloc (Nat.le_refl _) _).alloc (by simp) _⟩
set_option maxRecDepth 100000 in
set_option maxHeartbeats 4000000 in
theorem twoKc (w : World) (v : Value) (xs : List Kc) (h : Reads w w.heap.size (pool xs) v) (hm : xs.length ≤ 1048576) :
    Calls Tryz.prog 91 #[v, .func (.func 92) #[] #[]] w fun e w' => e = .returned (.bool (noTwo eqK xs)) ∧ Below w.heap.size w w' := by
  have HX : Hid (∀ wr, Below w.heap.size w wr → _) := hide (fun wr hb => const_at (h.at hb))
  have HN2 : Hid (∀ j k, j < xs.length → k < j → eqK (xs.getD k default) (xs.getD j default) = true → noTwo eqK xs = false) := hide (fun j k hj hk h => noTwo_no hj hk h)
  have HY : Hid (RightJ (fun _ => true) eqK xs xs.length → noTwo eqK xs = true) := hide (fun h => h.all.2)
  obtain ⟨a, cap, rfl, hcap, _⟩ := const_at h
  clear h
  generalize hn : xs.length = n at *
  generalize noTwo eqK xs = V at *
  go_enter Tryz.func91, Tryz.ntmps91
  go_wp2
  go_loopw [11] (fun i wr => ∃ j : Nat, j ≤ n ∧ i = .int .i64 (j : Int) ∧ Hid (RightJ (fun _ => true) eqK xs j) ∧ Hid (Below w.heap.size w wr)) (fun i _ => n - (intOf i).toNat)
  case atStart => exact ⟨0, Nat.zero_le _, rfl, hide (RightJ.zero _ _ _), hide (Below.refl _ _)⟩
  case round =>
    obtain ⟨j, hj, rfl, HR, HB⟩ := hrel
    by_cases hlt : j < n
    · obtain ⟨a', cap', ea, _, _, hc⟩ := HX.out wr HB.out
      cases ea
      obtain ⟨b, o, rfl, _, hcell⟩ := hc (by omega)
      obtain ⟨e0, e1, e2, e3⟩ := hcell j hlt
      clear hcell hc
      obtain ⟨x, hx⟩ : ∃ x, xs.getD j default = x := ⟨_, rfl⟩
      rw [hx] at e0 e1 e2 e3
      have HX9 := hide hx
      clear hx
      have G0 := hide (heap_alloc_new wr (.cells #[.int .i64 x.k, .int .i64 x.n, .string x.a, .string x.b] 42))
      have b2 := (Below.refl wr.heap.size wr).alloc (Nat.le_refl _) (.cells #[.int .i64 x.k, .int .i64 x.n, .string x.a, .string x.b] 42)
      replace HB := hide (HB.out.trans (b2.mono HB.out.size))
      clear b2
      have hjc : j ≤ cap := by omega
      go_wp2_with fail
      generalize wr.alloc (.cells #[.int .i64 x.k, .int .i64 x.n, .string x.a, .string x.b] 42) = W at *
      generalize wr.heap.size = g0 at *
      clear e0 e1 e2 e3
      go_loopw [20] (fun i wr => ∃ k : Nat, k ≤ j ∧ i = .int .i64 (k : Int) ∧ Hid (∀ i, i < k → eqK (xs.getD i default) x = false) ∧ Hid (Below w.heap.size w wr) ∧ Hid (wr.heap[g0]? = some (.cells #[.int .i64 x.k, .int .i64 x.n, .string x.a, .string x.b] 42 (0, 0)))) (fun i _ => j - (intOf i).toNat)
      case atStart => exact ⟨0, Nat.zero_le _, rfl, hide (fun i hi => by omega), HB, G0⟩
      case round =>
        clear HB G0
        obtain ⟨k, hk, rfl, HE, HB, G0⟩ := hrel
        by_cases hlk : k < j
        · obtain ⟨a', cap', ea, _, _, hc⟩ := HX.out wr HB.out
          cases ea
          obtain ⟨b', o', eo, _, hcell⟩ := hc (by omega)
          cases eo
          obtain ⟨d0, d1, d2, d3⟩ := hcell k (by omega)
          clear hcell hc
          obtain ⟨y, hy⟩ : ∃ y, xs.getD k default = y := ⟨_, rfl⟩
          rw [hy] at d0 d1 d2 d3
          have HY9 := hide hy
          clear hy
          have hg0 := (Array.getElem?_eq_some_iff.1 G0.out).1
          have hne : g0 ≠ wr.heap.size := by omega
          have b2 := (Below.refl wr.heap.size wr).alloc (Nat.le_refl _) (.cells #[.int .i64 y.k, .int .i64 y.n, .string y.a, .string y.b] 42)
          replace G0 := hide ((b2.block g0 hg0).trans G0.out)
          have g10 := (box_of G0.out).1 0 _ rfl
          have g11 := (box_of G0.out).1 1 _ rfl
          have g12 := (box_of G0.out).1 2 _ rfl
          have g13 := (box_of G0.out).1 3 _ rfl
          have HB3 := hide (HB.out.trans (b2.mono HB.out.size))
          clear b2 HB
          go_wp2_with fail
          refine (sameKc _ y x).mono ?_
          rintro e w1 ⟨rfl, b1⟩
          have HB := hide (HB3.out.trans (b1.mono HB3.out.size))
          replace G0 := hide ((b1.block g0 (Array.getElem?_eq_some_iff.1 G0.out).1).trans G0.out)
          clear b1 HB3 g10 g11 g12 g13 d0 d1 d2 d3
          cases c : eqK y x with
          | true =>
            have HF : Hid (V = false) := hide (HN2.out j k hlt hlk (by rw [HX9.out, HY9.out]; exact c))
            go_wp2
            go_ret
            exact ⟨by rw [HF.out]; rfl, HB.out⟩
          | false =>
            have HE2 : Hid (∀ i, i < k + 1 → eqK (xs.getD i default) x = false) := hide (fun i hi => by
              rcases Nat.lt_succ_iff_lt_or_eq.1 hi with h | rfl
              · exact HE.out i h
              · rw [HY9.out]; exact c)
            clear HE
            go_wp2
            exact ⟨⟨k + 1, by omega, by go_num, HE2, HB, G0⟩, by simp [intOf]; omega⟩
        · obtain rfl : k = j := by omega
          have HR2 := hide (RightJ.step (f := fun _ => true) HR.out rfl (fun i hi => by rw [HX9.out]; exact HE.out i hi))
          clear HR HE
          go_wp2
          exact ⟨⟨k + 1, by omega, by go_num, HR2, HB⟩, by simp [intOf]; omega⟩
    · obtain rfl : j = n := by omega
      have HF := hide (HY.out HR.out)
      go_wp2
      go_ret
      exact ⟨by rw [HF.out]; rfl, HB.out⟩
set_option maxRecDepth 100000 in
set_option maxHeartbeats 4000000 in
theorem twoFd (w : World) (v : Value) (xs : List Fd) (h : Reads w w.heap.size (flds xs) v) (hm : xs.length ≤ 1048576) :
    Calls Tryz.prog 73 #[v, .func (.func 74) #[] #[]] w fun e w' => e = .returned (.bool (noTwo sameF xs)) ∧ Below w.heap.size w w' := by
  have HX : Hid (∀ wr, Below w.heap.size w wr → _) := hide (fun wr hb => field_at (h.at hb))
  have HN2 : Hid (∀ j k, j < xs.length → k < j → sameF (xs.getD k default) (xs.getD j default) = true → noTwo sameF xs = false) := hide (fun j k hj hk h => noTwo_no hj hk h)
  have HY : Hid (RightJ (fun _ => true) sameF xs xs.length → noTwo sameF xs = true) := hide (fun h => h.all.2)
  obtain ⟨a, cap, rfl, hcap, _⟩ := field_at h
  clear h
  generalize hn : xs.length = n at *
  generalize noTwo sameF xs = V at *
  go_enter Tryz.func73, Tryz.ntmps73
  go_wp2
  go_loopw [11] (fun i wr => ∃ j : Nat, j ≤ n ∧ i = .int .i64 (j : Int) ∧ Hid (RightJ (fun _ => true) sameF xs j) ∧ Hid (Below w.heap.size w wr)) (fun i _ => n - (intOf i).toNat)
  case atStart => exact ⟨0, Nat.zero_le _, rfl, hide (RightJ.zero _ _ _), hide (Below.refl _ _)⟩
  case round =>
    obtain ⟨j, hj, rfl, HR, HB⟩ := hrel
    by_cases hlt : j < n
    · obtain ⟨a', cap', ea, _, _, hc⟩ := HX.out wr HB.out
      cases ea
      obtain ⟨b, o, rfl, _, hcell⟩ := hc (by omega)
      obtain ⟨e0, e1⟩ := hcell j hlt
      clear hcell hc
      obtain ⟨x, hx⟩ : ∃ x, xs.getD j default = x := ⟨_, rfl⟩
      rw [hx] at e0 e1
      have HX9 := hide hx
      clear hx
      have G0 := hide (heap_alloc_new wr (.cells #[.string x.n, .string x.t] 45))
      have b2 := (Below.refl wr.heap.size wr).alloc (Nat.le_refl _) (.cells #[.string x.n, .string x.t] 45)
      replace HB := hide (HB.out.trans (b2.mono HB.out.size))
      clear b2
      have hjc : j ≤ cap := by omega
      go_wp2_with fail
      generalize wr.alloc (.cells #[.string x.n, .string x.t] 45) = W at *
      generalize wr.heap.size = g0 at *
      clear e0 e1
      go_loopw [20] (fun i wr => ∃ k : Nat, k ≤ j ∧ i = .int .i64 (k : Int) ∧ Hid (∀ i, i < k → sameF (xs.getD i default) x = false) ∧ Hid (Below w.heap.size w wr) ∧ Hid (wr.heap[g0]? = some (.cells #[.string x.n, .string x.t] 45 (0, 0)))) (fun i _ => j - (intOf i).toNat)
      case atStart => exact ⟨0, Nat.zero_le _, rfl, hide (fun i hi => by omega), HB, G0⟩
      case round =>
        clear HB G0
        obtain ⟨k, hk, rfl, HE, HB, G0⟩ := hrel
        by_cases hlk : k < j
        · obtain ⟨a', cap', ea, _, _, hc⟩ := HX.out wr HB.out
          cases ea
          obtain ⟨b', o', eo, _, hcell⟩ := hc (by omega)
          cases eo
          obtain ⟨d0, d1⟩ := hcell k (by omega)
          clear hcell hc
          obtain ⟨y, hy⟩ : ∃ y, xs.getD k default = y := ⟨_, rfl⟩
          rw [hy] at d0 d1
          have HY9 := hide hy
          clear hy
          have hg0 := (Array.getElem?_eq_some_iff.1 G0.out).1
          have hne : g0 ≠ wr.heap.size := by omega
          have b2 := (Below.refl wr.heap.size wr).alloc (Nat.le_refl _) (.cells #[.string y.n, .string y.t] 45)
          replace G0 := hide ((b2.block g0 hg0).trans G0.out)
          have g10 := (box_of G0.out).1 0 _ rfl
          have g11 := (box_of G0.out).1 1 _ rfl
          have HB3 := hide (HB.out.trans (b2.mono HB.out.size))
          clear b2 HB
          go_wp2_with fail
          refine (sameFd _ y x).mono ?_
          rintro e w1 ⟨rfl, b1⟩
          have HB := hide (HB3.out.trans (b1.mono HB3.out.size))
          replace G0 := hide ((b1.block g0 (Array.getElem?_eq_some_iff.1 G0.out).1).trans G0.out)
          clear b1 HB3 g10 g11 d0 d1
          cases c : sameF y x with
          | true =>
            have HF : Hid (V = false) := hide (HN2.out j k hlt hlk (by rw [HX9.out, HY9.out]; exact c))
            go_wp2
            go_ret
            exact ⟨by rw [HF.out]; rfl, HB.out⟩
          | false =>
            have HE2 : Hid (∀ i, i < k + 1 → sameF (xs.getD i default) x = false) := hide (fun i hi => by
              rcases Nat.lt_succ_iff_lt_or_eq.1 hi with h | rfl
              · exact HE.out i h
              · rw [HY9.out]; exact c)
            clear HE
            go_wp2
            exact ⟨⟨k + 1, by omega, by go_num, HE2, HB, G0⟩, by simp [intOf]; omega⟩
        · obtain rfl : k = j := by omega
          have HR2 := hide (RightJ.step (f := fun _ => true) HR.out rfl (fun i hi => by rw [HX9.out]; exact HE.out i hi))
          clear HR HE
          go_wp2
          exact ⟨⟨k + 1, by omega, by go_num, HR2, HB⟩, by simp [intOf]; omega⟩
    · obtain rfl : j = n := by omega
      have HF := hide (HY.out HR.out)
      go_wp2
      go_ret
      exact ⟨by rw [HF.out]; rfl, HB.out⟩
set_option maxRecDepth 100000 in
set_option maxHeartbeats 4000000 in
theorem twoMe (w : World) (v : Value) (xs : List Me) (h : Reads w w.heap.size (mets xs) v) (hm : xs.length ≤ 1048576) :
    Calls Tryz.prog 77 #[v, .func (.func 78) #[] #[]] w fun e w' => e = .returned (.bool (noTwo sameN xs)) ∧ Below w.heap.size w w' := by
  have HX : Hid (∀ wr, Below w.heap.size w wr → _) := hide (fun wr hb => meth_at (h.at hb))
  have HN2 : Hid (∀ j k, j < xs.length → k < j → sameN (xs.getD k default) (xs.getD j default) = true → noTwo sameN xs = false) := hide (fun j k hj hk h => noTwo_no hj hk h)
  have HY : Hid (RightJ (fun _ => true) sameN xs xs.length → noTwo sameN xs = true) := hide (fun h => h.all.2)
  obtain ⟨a, cap, rfl, hcap, _⟩ := meth_at h
  clear h
  generalize hn : xs.length = n at *
  generalize noTwo sameN xs = V at *
  go_enter Tryz.func77, Tryz.ntmps77
  go_wp2
  go_loopw [11] (fun i wr => ∃ j : Nat, j ≤ n ∧ i = .int .i64 (j : Int) ∧ Hid (RightJ (fun _ => true) sameN xs j) ∧ Hid (Below w.heap.size w wr)) (fun i _ => n - (intOf i).toNat)
  case atStart => exact ⟨0, Nat.zero_le _, rfl, hide (RightJ.zero _ _ _), hide (Below.refl _ _)⟩
  case round =>
    obtain ⟨j, hj, rfl, HR, HB⟩ := hrel
    by_cases hlt : j < n
    · obtain ⟨a', cap', ea, _, _, hc⟩ := HX.out wr HB.out
      cases ea
      obtain ⟨b, o, rfl, _, hcell⟩ := hc (by omega)
      obtain ⟨pv, cv, e0, e1, e2, e3, e4, r1, r2⟩ := hcell j hlt
      clear hcell hc
      obtain ⟨x, hx⟩ : ∃ x, xs.getD j default = x := ⟨_, rfl⟩
      rw [hx] at e0 e2 e3 r1 r2
      have HX9 := hide hx
      clear hx
      obtain ⟨aa, cc, ea, _⟩ := r1.shape
      obtain ⟨ab, cd, eb, _⟩ := r2.shape
      subst ea eb
      clear r1 r2
      have G0 := hide (heap_alloc_new wr (.cells #[.string x.n, .slice aa x.ps.length cc, .string x.r, .int .i64 x.l, .slice ab x.c.length cd] 48))
      have b2 := (Below.refl wr.heap.size wr).alloc (Nat.le_refl _) (.cells #[.string x.n, .slice aa x.ps.length cc, .string x.r, .int .i64 x.l, .slice ab x.c.length cd] 48)
      replace HB := hide (HB.out.trans (b2.mono HB.out.size))
      clear b2
      have hjc : j ≤ cap := by omega
      go_wp2_with fail
      generalize wr.alloc (.cells #[.string x.n, .slice aa x.ps.length cc, .string x.r, .int .i64 x.l, .slice ab x.c.length cd] 48) = W at *
      generalize wr.heap.size = g0 at *
      clear e0 e1 e2 e3 e4
      go_loopw [20] (fun i wr => ∃ k : Nat, k ≤ j ∧ i = .int .i64 (k : Int) ∧ Hid (∀ i, i < k → sameN (xs.getD i default) x = false) ∧ Hid (Below w.heap.size w wr) ∧ Hid (wr.heap[g0]? = some (.cells #[.string x.n, .slice aa x.ps.length cc, .string x.r, .int .i64 x.l, .slice ab x.c.length cd] 48 (0, 0)))) (fun i _ => j - (intOf i).toNat)
      case atStart => exact ⟨0, Nat.zero_le _, rfl, hide (fun i hi => by omega), HB, G0⟩
      case round =>
        clear HB G0
        obtain ⟨k, hk, rfl, HE, HB, G0⟩ := hrel
        by_cases hlk : k < j
        · obtain ⟨a', cap', ea, _, _, hc⟩ := HX.out wr HB.out
          cases ea
          obtain ⟨b', o', eo, _, hcell⟩ := hc (by omega)
          cases eo
          obtain ⟨pv2, cv2, d0, d1, d2, d3, d4, s1, s2⟩ := hcell k (by omega)
          clear hcell hc
          obtain ⟨y, hy⟩ : ∃ y, xs.getD k default = y := ⟨_, rfl⟩
          rw [hy] at d0 d2 d3 s1 s2
          have HY9 := hide hy
          clear hy
          obtain ⟨ba, bc, ea, _⟩ := s1.shape
          obtain ⟨bb, bd, eb, _⟩ := s2.shape
          subst ea eb
          clear s1 s2
          have hg0 := (Array.getElem?_eq_some_iff.1 G0.out).1
          have hne : g0 ≠ wr.heap.size := by omega
          have b2 := (Below.refl wr.heap.size wr).alloc (Nat.le_refl _) (.cells #[.string y.n, .slice ba y.ps.length bc, .string y.r, .int .i64 y.l, .slice bb y.c.length bd] 48)
          replace G0 := hide ((b2.block g0 hg0).trans G0.out)
          have g10 := (box_of G0.out).1 0 _ rfl
          have g11 := (box_of G0.out).1 1 _ rfl
          have g12 := (box_of G0.out).1 2 _ rfl
          have g13 := (box_of G0.out).1 3 _ rfl
          have g14 := (box_of G0.out).1 4 _ rfl
          have HB3 := hide (HB.out.trans (b2.mono HB.out.size))
          clear b2 HB
          go_wp2_with fail
          refine (sameMe _ y x _ _ _ _ _ _ _ _ _ _ _ _).mono ?_
          rintro e w1 ⟨rfl, b1⟩
          have HB := hide (HB3.out.trans (b1.mono HB3.out.size))
          replace G0 := hide ((b1.block g0 (Array.getElem?_eq_some_iff.1 G0.out).1).trans G0.out)
          clear b1 HB3 g10 g11 g12 g13 g14 d0 d1 d2 d3 d4
          cases c : sameN y x with
          | true =>
            have HF : Hid (V = false) := hide (HN2.out j k hlt hlk (by rw [HX9.out, HY9.out]; exact c))
            go_wp2
            go_ret
            exact ⟨by rw [HF.out]; rfl, HB.out⟩
          | false =>
            have HE2 : Hid (∀ i, i < k + 1 → sameN (xs.getD i default) x = false) := hide (fun i hi => by
              rcases Nat.lt_succ_iff_lt_or_eq.1 hi with h | rfl
              · exact HE.out i h
              · rw [HY9.out]; exact c)
            clear HE
            go_wp2
            exact ⟨⟨k + 1, by omega, by go_num, HE2, HB, G0⟩, by simp [intOf]; omega⟩
        · obtain rfl : k = j := by omega
          have HR2 := hide (RightJ.step (f := fun _ => true) HR.out rfl (fun i hi => by rw [HX9.out]; exact HE.out i hi))
          clear HR HE
          go_wp2
          exact ⟨⟨k + 1, by omega, by go_num, HR2, HB⟩, by simp [intOf]; omega⟩
    · obtain rfl : j = n := by omega
      have HF := hide (HY.out HR.out)
      go_wp2
      go_ret
      exact ⟨by rw [HF.out]; rfl, HB.out⟩
end Go.Proofs.YtpgmipbanpofaaaGreatDoor
/-
  What ClassOk does, in the program: its four parts, and all of it.
-/
namespace Go.Proofs.YtpgmipbanpofaaaGreatDoor
open Go.RowKit

set_option maxRecDepth 100000 in
set_option maxHeartbeats 2000000 in
theorem namesImpl (w : World) (x : Cl) (a1 a2 a3 : Option Addr) (l1 l2 l3 k1 k2 k3 : Nat) (hn : x.n.size ≤ 1048576) (hs : x.s.size ≤ 1048576) :
    Calls Tryz.prog 42 #[clV x (.slice a1 l1 k1) (.slice a2 l2 k2) (.slice a3 l3 k3)] w fun e w' => e = .returned (.bool (namB x)) ∧ Below w.heap.size w w' := by
  have HM : Hid (namB x = (clsB x.n && (x.s.toList.isEmpty || clsB x.s))) := hide rfl
  unfold clV
  go_enter Tryz.func42, Tryz.ntmps42
  go_wp2_with fail
  refine (clsImpl _ _ (len_max hn)).mono ?_
  rintro e w1 ⟨rfl, rfl⟩
  cases c1 : clsB x.n with
  | false =>
    have HF : Hid (namB x = false) := hide (by rw [HM.out, c1]; rfl)
    go_wp2
    go_ret
    exact ⟨by rw [HF.out]; rfl, (Below.refl _ _).alloc (Nat.le_refl _) _⟩
  | true =>
    rw [c1] at HM
    clear c1
    cases c2 : x.s.toList.isEmpty with
    | true =>
      have HF : Hid (namB x = true) := hide (by rw [HM.out, c2]; rfl)
      have c2' : (x.s.toList == []) = true := by simpa using c2
      go_wp2
      go_ret
      exact ⟨by rw [HF.out]; rfl, (Below.refl _ _).alloc (Nat.le_refl _) _⟩
    | false =>
      have HF : Hid (namB x = clsB x.s) := hide (by rw [HM.out, c2]; rfl)
      have c2' : (x.s.toList == []) = false := by simpa using c2
      go_wp2_with fail
      refine (clsImpl _ _ (len_max hs)).mono ?_
      rintro e w1 ⟨rfl, rfl⟩
      go_wp2
      go_ret
      exact ⟨by rw [HF.out]; rfl, (Below.refl _ _).alloc (Nat.le_refl _) _⟩
set_option maxRecDepth 100000 in
set_option maxHeartbeats 2000000 in
theorem poolOkI (w : World) (xs : List Kc) (v : Value) (h : Reads w w.heap.size (pool xs) v) (hm : xs.length ≤ 1048576) (hg : ∀ y ∈ xs, y.a.size ≤ 1048576 ∧ y.b.size ≤ 1048576) :
    Calls Tryz.prog 70 #[v] w fun e w' => e = .returned (.bool (poolB xs)) ∧ Below w.heap.size w w' := by
  have HM : Hid (poolB xs = ((decide (xs.length ≤ 24) && xs.all kcB) && noTwo eqK xs)) := hide rfl
  have HP := hide h
  obtain ⟨a, k, e, _⟩ := h.shape
  subst e
  clear h
  go_enter Tryz.func70, Tryz.ntmps70
  go_wp2_with fail
  refine (eachKc _ _ xs HP.out hm hg).mono ?_
  rintro e w2 ⟨rfl, b2⟩
  have HB := hide b2
  replace HP := hide (HP.out.at b2)
  clear b2
  obtain ⟨V, hV⟩ : ∃ V, (decide (xs.length ≤ 24) && xs.all kcB) = V := ⟨_, rfl⟩
  rw [hV] at HM ⊢
  clear hV
  cases V with
  | false =>
    have HF : Hid (poolB xs = false) := hide (by rw [HM.out]; rfl)
    go_wp2
    go_ret
    exact ⟨by rw [HF.out]; rfl, HB.out⟩
  | true =>
    have HF : Hid (poolB xs = noTwo eqK xs) := hide (by rw [HM.out]; rfl)
    go_wp2_with fail
    refine (twoKc _ _ xs HP.out hm).mono ?_
    rintro e w3 ⟨rfl, b3⟩
    replace HB := hide (HB.out.trans (b3.mono HB.out.size))
    clear b3
    go_wp2
    go_ret
    exact ⟨by rw [HF.out]; rfl, HB.out⟩
set_option maxRecDepth 100000 in
set_option maxHeartbeats 2000000 in
theorem poolImpl (w : World) (x : Cl) (a3 a4 : Option Addr) (l3 k3 l4 k4 : Nat) (v : Value) (h : Reads w w.heap.size (pool x.p) v) (hg : ClG x) :
    Calls Tryz.prog 43 #[clV x v (.slice a3 l3 k3) (.slice a4 l4 k4)] w fun e w' => e = .returned (.bool (poolB x.p)) ∧ Below w.heap.size w w' := by
  obtain ⟨a, k, e, _⟩ := h.shape
  subst e
  have bA := (Below.refl w.heap.size w).alloc (Nat.le_refl _) (.cells #[.string x.n, .string x.s, .slice a x.p.length k, .slice a3 l3 k3, .slice a4 l4 k4] 27)
  have HP := hide (h.at bA)
  have HB := hide bA
  clear h bA
  unfold clV
  go_enter Tryz.func43, Tryz.ntmps43
  go_wp2_with fail
  refine (poolOkI _ x.p _ HP.out hg.p hg.ps).mono ?_
  rintro e w2 ⟨rfl, b2⟩
  replace HB := hide (HB.out.trans (b2.mono HB.out.size))
  clear b2
  go_wp2
  go_ret
  exact ⟨rfl, HB.out⟩
set_option maxRecDepth 100000 in
set_option maxHeartbeats 2000000 in
theorem fldsImpl (w : World) (x : Cl) (a2 a4 : Option Addr) (l2 k2 l4 k4 : Nat) (v : Value) (h : Reads w w.heap.size (flds x.f) v) (hg : ClG x) :
    Calls Tryz.prog 44 #[clV x (.slice a2 l2 k2) v (.slice a4 l4 k4)] w fun e w' => e = .returned (.bool (fldsB x.f)) ∧ Below w.heap.size w w' := by
  have HM : Hid (fldsB x.f = ((decide (x.f.length ≤ 8) && x.f.all fdB) && noTwo sameF x.f)) := hide rfl
  obtain ⟨a, k, e, _⟩ := h.shape
  subst e
  have bA := (Below.refl w.heap.size w).alloc (Nat.le_refl _) (.cells #[.string x.n, .string x.s, .slice a2 l2 k2, .slice a x.f.length k, .slice a4 l4 k4] 27)
  have HX := hide (Box.new w #[.string x.n, .string x.s, .slice a2 l2 k2, .slice a x.f.length k, .slice a4 l4 k4] 27)
  have hgs : Hid (w.heap.size < (w.alloc (.cells #[.string x.n, .string x.s, .slice a2 l2 k2, .slice a x.f.length k, .slice a4 l4 k4] 27)).heap.size) := hide (by simp)
  have HP := hide (h.at bA)
  have HB := hide bA
  clear h bA
  unfold clV
  go_enter Tryz.func44, Tryz.ntmps44
  go_wp2_with fail
  generalize w.alloc (.cells #[.string x.n, .string x.s, .slice a2 l2 k2, .slice a x.f.length k, .slice a4 l4 k4] 27) = W at *
  refine (eachFd _ _ x.f HP.out hg.f hg.fs).mono ?_
  rintro e w2 ⟨rfl, b2⟩
  replace HX := hide (HX.out.below hgs.out b2)
  replace HB := hide (HB.out.trans (b2.mono HB.out.size))
  replace HP := hide (HP.out.at b2)
  clear b2
  obtain ⟨V, hV⟩ : ∃ V, (decide (x.f.length ≤ 8) && x.f.all fdB) = V := ⟨_, rfl⟩
  rw [hV] at HM ⊢
  clear hV
  cases V with
  | false =>
    have HF : Hid (fldsB x.f = false) := hide (by rw [HM.out]; rfl)
    go_wp2
    go_ret
    exact ⟨by rw [HF.out]; rfl, HB.out⟩
  | true =>
    have HF : Hid (fldsB x.f = noTwo sameF x.f) := hide (by rw [HM.out]; rfl)
    have q := HX.out 3 _ rfl
    go_wp2_with fail
    refine (twoFd _ _ x.f HP.out hg.f).mono ?_
    rintro e w3 ⟨rfl, b3⟩
    replace HB := hide (HB.out.trans (b3.mono HB.out.size))
    clear b3
    go_wp2
    go_ret
    exact ⟨by rw [HF.out]; rfl, HB.out⟩
set_option maxRecDepth 100000 in
set_option maxHeartbeats 2000000 in
theorem metsImpl (w : World) (x : Cl) (a2 a3 : Option Addr) (l2 k2 l3 k3 : Nat) (v : Value) (h : Reads w w.heap.size (mets x.m) v) (hg : ClG x) :
    Calls Tryz.prog 45 #[clV x (.slice a2 l2 k2) (.slice a3 l3 k3) v] w fun e w' => e = .returned (.bool (metsB x.m)) ∧ Below w.heap.size w w' := by
  have HM : Hid (metsB x.m = ((decide (x.m.length ≤ 6) && x.m.all meB) && noTwo sameN x.m)) := hide rfl
  obtain ⟨a, k, e, _⟩ := h.shape
  subst e
  have bA := (Below.refl w.heap.size w).alloc (Nat.le_refl _) (.cells #[.string x.n, .string x.s, .slice a2 l2 k2, .slice a3 l3 k3, .slice a x.m.length k] 27)
  have HX := hide (Box.new w #[.string x.n, .string x.s, .slice a2 l2 k2, .slice a3 l3 k3, .slice a x.m.length k] 27)
  have hgs : Hid (w.heap.size < (w.alloc (.cells #[.string x.n, .string x.s, .slice a2 l2 k2, .slice a3 l3 k3, .slice a x.m.length k] 27)).heap.size) := hide (by simp)
  have HP := hide (h.at bA)
  have HB := hide bA
  clear h bA
  unfold clV
  go_enter Tryz.func45, Tryz.ntmps45
  go_wp2_with fail
  generalize w.alloc (.cells #[.string x.n, .string x.s, .slice a2 l2 k2, .slice a3 l3 k3, .slice a x.m.length k] 27) = W at *
  refine (eachMe _ _ x.m HP.out hg.m (fun y hy => ⟨(hg.ms y hy).1, (hg.ms y hy).2.1, (hg.ms y hy).2.2.1, (hg.ms y hy).2.2.2.1⟩)).mono ?_
  rintro e w2 ⟨rfl, b2⟩
  replace HX := hide (HX.out.below hgs.out b2)
  replace HB := hide (HB.out.trans (b2.mono HB.out.size))
  replace HP := hide (HP.out.at b2)
  clear b2
  obtain ⟨V, hV⟩ : ∃ V, (decide (x.m.length ≤ 6) && x.m.all meB) = V := ⟨_, rfl⟩
  rw [hV] at HM ⊢
  clear hV
  cases V with
  | false =>
    have HF : Hid (metsB x.m = false) := hide (by rw [HM.out]; rfl)
    go_wp2
    go_ret
    exact ⟨by rw [HF.out]; rfl, HB.out⟩
  | true =>
    have HF : Hid (metsB x.m = noTwo sameN x.m) := hide (by rw [HM.out]; rfl)
    have q := HX.out 4 _ rfl
    go_wp2_with fail
    refine (twoMe _ _ x.m HP.out hg.m).mono ?_
    rintro e w3 ⟨rfl, b3⟩
    replace HB := hide (HB.out.trans (b3.mono HB.out.size))
    clear b3
    go_wp2
    go_ret
    exact ⟨by rw [HF.out]; rfl, HB.out⟩
set_option maxRecDepth 100000 in
set_option maxHeartbeats 4000000 in
theorem clImpl (w : World) (x : Cl) (pv fv mv : Value) (hp : Reads w w.heap.size (pool x.p) pv) (hf : Reads w w.heap.size (flds x.f) fv) (hme : Reads w w.heap.size (mets x.m) mv) (hg : ClG x) :
    Calls Tryz.prog 19 #[clV x pv fv mv] w fun e w' => e = .returned (.bool (clB x)) ∧ Below w.heap.size w w' := by
  obtain ⟨a1, k1, e1, _⟩ := hp.shape
  obtain ⟨a2, k2, e2, _⟩ := hf.shape
  obtain ⟨a3, k3, e3, _⟩ := hme.shape
  subst e1 e2 e3
  have bA := (Below.refl w.heap.size w).alloc (Nat.le_refl _) (.cells #[.string x.n, .string x.s, .slice a1 x.p.length k1, .slice a2 x.f.length k2, .slice a3 x.m.length k3] 27)
  have HX := hide (Box.new w #[.string x.n, .string x.s, .slice a1 x.p.length k1, .slice a2 x.f.length k2, .slice a3 x.m.length k3] 27)
  have hgs : Hid (w.heap.size < (w.alloc (.cells #[.string x.n, .string x.s, .slice a1 x.p.length k1, .slice a2 x.f.length k2, .slice a3 x.m.length k3] 27)).heap.size) := hide (by simp)
  have HP := hide (hp.at bA)
  have HFL := hide (hf.at bA)
  have HME := hide (hme.at bA)
  have HB := hide bA
  have HM : Hid (clB x = (namB x && poolB x.p && fldsB x.f && metsB x.m)) := hide rfl
  clear hp hf hme bA
  unfold clV
  go_enter Tryz.func19, Tryz.ntmps19
  go_wp2_with fail
  generalize w.alloc (.cells #[.string x.n, .string x.s, .slice a1 x.p.length k1, .slice a2 x.f.length k2, .slice a3 x.m.length k3] 27) = W at *
  refine (namesImpl _ x _ _ _ _ _ _ _ _ _ hg.n hg.s).mono ?_
  rintro e w1 ⟨rfl, b1⟩
  replace HX := hide (HX.out.below hgs.out b1)
  replace hgs := hide (Nat.lt_of_lt_of_le hgs.out b1.size)
  replace HB := hide (HB.out.trans (b1.mono HB.out.size))
  replace HP := hide (HP.out.at b1)
  replace HFL := hide (HFL.out.at b1)
  replace HME := hide (HME.out.at b1)
  clear b1
  cases c1 : namB x with
  | false =>
    have HF : Hid (clB x = false) := hide (by rw [HM.out, c1]; rfl)
    go_wp2
    go_ret
    exact ⟨by rw [HF.out]; rfl, HB.out⟩
  | true =>
    rw [c1] at HM
    clear c1
    have q0 := HX.out 0 _ rfl
    have q1 := HX.out 1 _ rfl
    have q2 := HX.out 2 _ rfl
    have q3 := HX.out 3 _ rfl
    have q4 := HX.out 4 _ rfl
    go_wp2_with fail
    clear q0 q1 q2 q3 q4
    refine (poolImpl _ x _ _ _ _ _ _ _ HP.out hg).mono ?_
    rintro e w1 ⟨rfl, b1⟩
    replace HX := hide (HX.out.below hgs.out b1)
    replace hgs := hide (Nat.lt_of_lt_of_le hgs.out b1.size)
    replace HB := hide (HB.out.trans (b1.mono HB.out.size))
    replace HFL := hide (HFL.out.at b1)
    replace HME := hide (HME.out.at b1)
    clear b1
    cases c1 : poolB x.p with
    | false =>
      have HF : Hid (clB x = false) := hide (by rw [HM.out, c1]; rfl)
      go_wp2
      go_ret
      exact ⟨by rw [HF.out]; rfl, HB.out⟩
    | true =>
      rw [c1] at HM
      clear c1
      have q0 := HX.out 0 _ rfl
      have q1 := HX.out 1 _ rfl
      have q2 := HX.out 2 _ rfl
      have q3 := HX.out 3 _ rfl
      have q4 := HX.out 4 _ rfl
      go_wp2_with fail
      clear q0 q1 q2 q3 q4
      refine (fldsImpl _ x _ _ _ _ _ _ _ HFL.out hg).mono ?_
      rintro e w1 ⟨rfl, b1⟩
      replace HX := hide (HX.out.below hgs.out b1)
      replace hgs := hide (Nat.lt_of_lt_of_le hgs.out b1.size)
      replace HB := hide (HB.out.trans (b1.mono HB.out.size))
      replace HME := hide (HME.out.at b1)
      clear b1
      cases c1 : fldsB x.f with
      | false =>
        have HF : Hid (clB x = false) := hide (by rw [HM.out, c1]; rfl)
        go_wp2
        go_ret
        exact ⟨by rw [HF.out]; rfl, HB.out⟩
      | true =>
        rw [c1] at HM
        clear c1
        have q0 := HX.out 0 _ rfl
        have q1 := HX.out 1 _ rfl
        have q2 := HX.out 2 _ rfl
        have q3 := HX.out 3 _ rfl
        have q4 := HX.out 4 _ rfl
        go_wp2_with fail
        clear q0 q1 q2 q3 q4
        refine (metsImpl _ x _ _ _ _ _ _ _ HME.out hg).mono ?_
        rintro e w1 ⟨rfl, b1⟩
        replace HB := hide (HB.out.trans (b1.mono HB.out.size))
        clear b1
        have HF : Hid (clB x = metsB x.m) := hide (by rw [HM.out]; rfl)
        go_wp2
        go_ret
        exact ⟨by rw [HF.out]; rfl, HB.out⟩
end Go.Proofs.YtpgmipbanpofaaaGreatDoor
/-
  At a step of a region that draws its order: a call, and one row of bytes of one's own put behind another.
-/
namespace Go.Proofs.YtpgmipbanpofaaaGreatDoor
open Go.RowKit

theorem step_callB {P : Program} {ops : Array Oper} {o : Oper} {a : Act} {w : World} {K : Act → World → Prop} {Q : Exit → Act → World → Prop} {E : Prop} {R : Ending → World → Prop} (d : Option Tmp) (hd : o.dst = d) (hgd : o.guard = none)
    (f : FuncId) (xs : Array Operand) (ts : Array TypeId) (_ho : o.op = .call { callee := .value (.func f), args := xs, argTypes := ts }) (args : Array Value) (hrun : (execOp a.eval o).run P w = .ok (.enter f args) w) (hc : Calls P f args w R) (h : ∀ e w', R e w' → ∃ v, e = .returned v ∧ K (a.put d v) w') :
    if Region.wanted o (yielded ops a.tmps) = true then Oper.wp P o a w K Q else E := by
  subst hd
  have hw : Region.wanted o (yielded ops a.tmps) = true := by simp [Region.wanted, hgd]
  rw [if_pos hw]
  unfold Oper.wp
  rw [hrun, Oper.upon_enter]
  refine hc.mono fun e w' hh => ?_
  obtain ⟨v, rfl, hk⟩ := h e w' hh
  exact hk

/-- 'append(v, u...)', both rows of one's own, u not empty. -/
theorem run_app_B {w : World} (ty : TypeId) (base b2 : Nat) (v u : Value) (xs zs : List Int) (hown : Own w base v xs) (hu : Own w b2 u zs) (hz : Byt zs) (hp : 0 < zs.length) (hl : zs.length ≤ 1048576) (hsm : xs.length ≤ 2000000) (hbase : base ≤ w.heap.size) :
    ∃ v' w', (Builtin.append_ #[22, 22] ty #[v, u]).run Tryz.prog w = .ok v' w' ∧ Own w' base v' (xs ++ zs) ∧ w.grownBy w' v.ownBlock := by
  obtain ⟨i0, hi0, hz0, hz1, hz2⟩ := info_parts Tryz.info5
  obtain ⟨a, c, rfl, hin, _⟩ := in_any hu hl hz (Nat.le_refl _)
  cases a with
  | none =>
    obtain ⟨h0, h1⟩ := hin.none_len
    subst h1
    simp at hp
  | some ad =>
    obtain ⟨v', w', hr, ho', hg', _, _⟩ := run_append_own_at (P := Tryz.prog) w base 22 ty 5 i0 (.int .u8 0) 1 1 Tryz.underlying22 hi0 hz0 hz1 hz2 rfl (by decide) v xs.length (xs.map (Value.int .u8)) hown ad zs.length c (zs.map (Value.int .u8)) (by simp) (cells_in hin) (byt_cells _) (by unfold maxLen; omega) (by omega) hbase
    exact ⟨v', w', hr, own_more ho', hg'⟩

theorem step_appB {w : World} {ops : Array Oper} {o : Oper} {act : Act} {K : Act → World → Prop} {Q : Exit → Act → World → Prop} {E : Prop} (d : Option Tmp) (hd : o.dst = d) (hgd : o.guard = none) (s x : Operand)
    (ho : o.op = .call { callee := .builtin .append, args := #[s, x], argTypes := #[22, 22] }) (base b2 : Nat) (v u : Value) (xs zs : List Int) (hs : act.eval s = v) (hx : act.eval x = u) (hown : Own w base v xs) (hu : Own w b2 u zs) (hz : Byt zs) (hp : 0 < zs.length) (hl : zs.length ≤ 1048576) (hsm : xs.length ≤ 2000000) (hbase : base ≤ w.heap.size)
    (h : ∀ v' w', Own w' base v' (xs ++ zs) → w.grownBy w' v.ownBlock → K (act.put d v') w') :
    if Region.wanted o (yielded ops act.tmps) = true then Oper.wp Tryz.prog o act w K Q else E := by
  subst hd
  have hw : Region.wanted o (yielded ops act.tmps) = true := by simp [Region.wanted, hgd]
  rw [if_pos hw]
  obtain ⟨v', w', hr, h1, h2⟩ := run_app_B o.type base b2 v u xs zs hown hu hz hp hl hsm hbase
  unfold Oper.wp execOp
  simp only [ho, resolve, invoke, builtin, Sem.run_bind, Sem.run_pure, Result.andThen_ok, List.map_toArray, List.map_cons, List.map_nil, hs, hx, hr]
  exact h v' w' h1 h2
end Go.Proofs.YtpgmipbanpofaaaGreatDoor
