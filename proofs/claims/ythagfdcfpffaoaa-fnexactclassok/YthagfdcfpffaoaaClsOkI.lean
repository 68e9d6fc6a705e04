/-
  What ClassOk does, in the program.
-/
import Derived.Test.YthagfdcfpffaoaaClsOkS
namespace Go.Proofs.Ythagfdcfpffaoaa
open Go.RowKit

set_option maxRecDepth 100000 in
set_option maxHeartbeats 2000000 in
theorem fieldImpl (w : World) (x : Fd) (h1 : x.n.size ≤ 1048576) (h2 : x.t.size ≤ 1048576) :
    Calls Try.prog 58 #[fdV x] w fun e w' => e = .returned (.bool (fdB x)) ∧ Below w.heap.size w w' := by
  have HM : Hid (fdB x = (nameB x.n && nameB x.t)) := hide rfl
  unfold fdV
  go_enter Try.func58, Try.ntmps58
  go_wp2_with fail
  refine (nameImpl _ _ (len_max h1)).mono ?_
  rintro e w1 ⟨rfl, rfl⟩
  cases c1 : nameB x.n with
  | false =>
    have HF : Hid (fdB x = false) := hide (by rw [HM.out, c1]; rfl)
    go_wp2
    go_ret
    exact ⟨by rw [HF.out]; rfl, (Below.refl _ _).alloc (Nat.le_refl _) _⟩
  | true =>
    have HF : Hid (fdB x = nameB x.t) := hide (by rw [HM.out, c1]; rfl)
    go_wp2_with fail
    refine (typImpl _ _ (len_max h2)).mono ?_
    rintro e w1 ⟨rfl, rfl⟩
    go_wp2
    go_ret
    exact ⟨by rw [HF.out]; rfl, (Below.refl _ _).alloc (Nat.le_refl _) _⟩
theorem kcImpl (w : World) (x : Kc) (h1 : x.a.size ≤ 1048576) (h2 : x.b.size ≤ 1048576) : Calls Try.prog 70 #[kcV x] w fun e w' => e = .returned (.bool (kcB x)) ∧ Below w.heap.size w w' := constOkImpl x.k x.n x.a x.b w (len_max h1) (len_max h2)
set_option maxRecDepth 100000 in
set_option maxHeartbeats 4000000 in
theorem eachSt (w : World) (v : Value) (xs : List ByteArray) (h : Reads w w.heap.size (strs xs) v) (hm : xs.length ≤ 1048576) (hg : ∀ y ∈ xs, y.size ≤ 1048576) :
    Calls Try.prog 94 #[v, .int .i64 3, .func (.func 85) #[] #[]] w fun e w' => e = .returned (.bool (decide (xs.length ≤ 3) && xs.all nameB)) ∧ Below w.heap.size w w' := by
  have HX : Hid (∀ wr, Below w.heap.size w wr → _) := hide (fun wr hb => str_at (h.at hb))
  have HG := hide (fun j hj => getD_mem hg j hj)
  have HN1 : Hid (∀ j, j < xs.length → nameB (xs.getD j default) = false → (decide (xs.length ≤ 3) && xs.all nameB) = false) := hide (fun j hj h => by rw [all_no hj h]; simp)
  have HY : Hid ((∀ j, j < xs.length → nameB (xs.getD j default) = true) → xs.length ≤ 3 → (decide (xs.length ≤ 3) && xs.all nameB) = true) := hide (fun h h' => by rw [all_yes h, decide_eq_true h']; rfl)
  have HL : Hid (¬ xs.length ≤ 3 → (decide (xs.length ≤ 3) && xs.all nameB) = false) := hide (fun h' => by rw [decide_eq_false h']; rfl)
  obtain ⟨a, cap, rfl, _⟩ := str_at h
  clear h hg
  generalize hn : xs.length = n at *
  generalize (decide (n ≤ 3) && xs.all nameB) = V at *
  by_cases hbig : n ≤ 3
  · have hb' : ¬ (3 : Int) < (n : Int) := by omega
    go_enter Try.func94, Try.ntmps94
    go_wp2
    go_loopw [15] (fun i wr => ∃ j : Nat, j ≤ n ∧ i = .int .i64 (j : Int) ∧ Hid (∀ i, i < j → nameB (xs.getD i default) = true) ∧ Hid (Below w.heap.size w wr)) (fun i _ => n - (intOf i).toNat)
    case atStart => exact ⟨0, Nat.zero_le _, rfl, hide (fun i hi => by omega), hide (Below.refl _ _)⟩
    case round =>
      obtain ⟨j, hj, rfl, HR, HB⟩ := hrel
      by_cases hlt : j < n
      · obtain ⟨a', cap', ea, _, _, hc⟩ := HX.out wr HB.out
        cases ea
        obtain ⟨b, o, rfl, _, hcell⟩ := hc (by omega)
        obtain e0 := hcell j hlt
        have hgx := hide (HG.out j (by omega))
        clear hcell hc
        obtain ⟨x, hx⟩ : ∃ x, xs.getD j default = x := ⟨_, rfl⟩
        rw [hx] at e0 hgx
        have HX9 := hide hx
        clear hx
        go_wp2_with fail
        refine (typImpl _ _ (len_max hgx.out)).mono ?_
        rintro e w1 ⟨rfl, b1⟩
        subst b1
        cases c : nameB x with
        | false =>
          have HF : Hid (V = false) := hide (HN1.out j hlt (by rw [HX9.out]; exact c))
          go_wp2
          go_ret
          exact ⟨by rw [HF.out]; rfl, HB.out⟩
        | true =>
          have HR2 : Hid (∀ i, i < j + 1 → nameB (xs.getD i default) = true) := hide (fun i hi => by
            rcases Nat.lt_succ_iff_lt_or_eq.1 hi with h | rfl
            · exact HR.out i h
            · rw [HX9.out]; exact c)
          go_wp2
          exact ⟨⟨j + 1, by omega, by go_num, HR2, HB⟩, by simp [intOf]; omega⟩
      · obtain rfl : j = n := by omega
        have HF : Hid (V = true) := hide (HY.out HR.out hbig)
        go_wp2
        go_ret
        exact ⟨by rw [HF.out]; rfl, HB.out⟩
  · have hb' : (3 : Int) < (n : Int) := by omega
    have HF : Hid (V = false) := hide (HL.out hbig)
    go_enter Try.func94, Try.ntmps94
    go_wp2
    go_ret
    exact ⟨by rw [HF.out]; rfl, Below.refl _ _⟩
set_option maxRecDepth 100000 in
set_option maxHeartbeats 4000000 in
theorem eachKc (w : World) (v : Value) (xs : List Kc) (h : Reads w w.heap.size (pool xs) v) (hm : xs.length ≤ 1048576) (hg : ∀ y ∈ xs, y.a.size ≤ 1048576 ∧ y.b.size ≤ 1048576) :
    Calls Try.prog 82 #[v, .int .i64 24, .func (.func 70) #[] #[]] w fun e w' => e = .returned (.bool (decide (xs.length ≤ 24) && xs.all kcB)) ∧ Below w.heap.size w w' := by
  have HX : Hid (∀ wr, Below w.heap.size w wr → _) := hide (fun wr hb => const_at (h.at hb))
  have HG := hide (fun j hj => getD_mem hg j hj)
  have HN1 : Hid (∀ j, j < xs.length → kcB (xs.getD j default) = false → (decide (xs.length ≤ 24) && xs.all kcB) = false) := hide (fun j hj h => by rw [all_no hj h]; simp)
  have HY : Hid ((∀ j, j < xs.length → kcB (xs.getD j default) = true) → xs.length ≤ 24 → (decide (xs.length ≤ 24) && xs.all kcB) = true) := hide (fun h h' => by rw [all_yes h, decide_eq_true h']; rfl)
  have HL : Hid (¬ xs.length ≤ 24 → (decide (xs.length ≤ 24) && xs.all kcB) = false) := hide (fun h' => by rw [decide_eq_false h']; rfl)
  obtain ⟨a, cap, rfl, _⟩ := const_at h
  clear h hg
  generalize hn : xs.length = n at *
  generalize (decide (n ≤ 24) && xs.all kcB) = V at *
  by_cases hbig : n ≤ 24
  · have hb' : ¬ (24 : Int) < (n : Int) := by omega
    go_enter Try.func82, Try.ntmps82
    go_wp2
    go_loopw [15] (fun i wr => ∃ j : Nat, j ≤ n ∧ i = .int .i64 (j : Int) ∧ Hid (∀ i, i < j → kcB (xs.getD i default) = true) ∧ Hid (Below w.heap.size w wr)) (fun i _ => n - (intOf i).toNat)
    case atStart => exact ⟨0, Nat.zero_le _, rfl, hide (fun i hi => by omega), hide (Below.refl _ _)⟩
    case round =>
      obtain ⟨j, hj, rfl, HR, HB⟩ := hrel
      by_cases hlt : j < n
      · obtain ⟨a', cap', ea, _, _, hc⟩ := HX.out wr HB.out
        cases ea
        obtain ⟨b, o, rfl, _, hcell⟩ := hc (by omega)
        obtain ⟨e0, e1, e2, e3⟩ := hcell j hlt
        have hgx := hide (HG.out j (by omega))
        clear hcell hc
        obtain ⟨x, hx⟩ : ∃ x, xs.getD j default = x := ⟨_, rfl⟩
        rw [hx] at e0 e1 e2 e3 hgx
        have HX9 := hide hx
        clear hx
        go_wp2_with fail
        refine (kcImpl _ x hgx.out.1 hgx.out.2).mono ?_
        rintro e w1 ⟨rfl, b1⟩
        have b2 := (Below.refl wr.heap.size wr).alloc (Nat.le_refl _) (.cells #[.int .i64 x.k, .int .i64 x.n, .string x.a, .string x.b] 63)
        replace HB := hide ((HB.out.trans (b2.mono HB.out.size)).trans (b1.mono (Nat.le_trans HB.out.size b2.size)))
        clear b1 b2
        cases c : kcB x with
        | false =>
          have HF : Hid (V = false) := hide (HN1.out j hlt (by rw [HX9.out]; exact c))
          go_wp2
          go_ret
          exact ⟨by rw [HF.out]; rfl, HB.out⟩
        | true =>
          have HR2 : Hid (∀ i, i < j + 1 → kcB (xs.getD i default) = true) := hide (fun i hi => by
            rcases Nat.lt_succ_iff_lt_or_eq.1 hi with h | rfl
            · exact HR.out i h
            · rw [HX9.out]; exact c)
          go_wp2
          exact ⟨⟨j + 1, by omega, by go_num, HR2, HB⟩, by simp [intOf]; omega⟩
      · obtain rfl : j = n := by omega
        have HF : Hid (V = true) := hide (HY.out HR.out hbig)
        go_wp2
        go_ret
        exact ⟨by rw [HF.out]; rfl, HB.out⟩
  · have hb' : (24 : Int) < (n : Int) := by omega
    have HF : Hid (V = false) := hide (HL.out hbig)
    go_enter Try.func82, Try.ntmps82
    go_wp2
    go_ret
    exact ⟨by rw [HF.out]; rfl, Below.refl _ _⟩
set_option maxRecDepth 100000 in
set_option maxHeartbeats 4000000 in
theorem eachFd (w : World) (v : Value) (xs : List Fd) (h : Reads w w.heap.size (flds xs) v) (hm : xs.length ≤ 1048576) (hg : ∀ y ∈ xs, y.n.size ≤ 1048576 ∧ y.t.size ≤ 1048576) :
    Calls Try.prog 57 #[v, .int .i64 8, .func (.func 58) #[] #[]] w fun e w' => e = .returned (.bool (decide (xs.length ≤ 8) && xs.all fdB)) ∧ Below w.heap.size w w' := by
  have HX : Hid (∀ wr, Below w.heap.size w wr → _) := hide (fun wr hb => field_at (h.at hb))
  have HG := hide (fun j hj => getD_mem hg j hj)
  have HN1 : Hid (∀ j, j < xs.length → fdB (xs.getD j default) = false → (decide (xs.length ≤ 8) && xs.all fdB) = false) := hide (fun j hj h => by rw [all_no hj h]; simp)
  have HY : Hid ((∀ j, j < xs.length → fdB (xs.getD j default) = true) → xs.length ≤ 8 → (decide (xs.length ≤ 8) && xs.all fdB) = true) := hide (fun h h' => by rw [all_yes h, decide_eq_true h']; rfl)
  have HL : Hid (¬ xs.length ≤ 8 → (decide (xs.length ≤ 8) && xs.all fdB) = false) := hide (fun h' => by rw [decide_eq_false h']; rfl)
  obtain ⟨a, cap, rfl, _⟩ := field_at h
  clear h hg
  generalize hn : xs.length = n at *
  generalize (decide (n ≤ 8) && xs.all fdB) = V at *
  by_cases hbig : n ≤ 8
  · have hb' : ¬ (8 : Int) < (n : Int) := by omega
    go_enter Try.func57, Try.ntmps57
    go_wp2
    go_loopw [15] (fun i wr => ∃ j : Nat, j ≤ n ∧ i = .int .i64 (j : Int) ∧ Hid (∀ i, i < j → fdB (xs.getD i default) = true) ∧ Hid (Below w.heap.size w wr)) (fun i _ => n - (intOf i).toNat)
    case atStart => exact ⟨0, Nat.zero_le _, rfl, hide (fun i hi => by omega), hide (Below.refl _ _)⟩
    case round =>
      obtain ⟨j, hj, rfl, HR, HB⟩ := hrel
      by_cases hlt : j < n
      · obtain ⟨a', cap', ea, _, _, hc⟩ := HX.out wr HB.out
        cases ea
        obtain ⟨b, o, rfl, _, hcell⟩ := hc (by omega)
        obtain ⟨e0, e1⟩ := hcell j hlt
        have hgx := hide (HG.out j (by omega))
        clear hcell hc
        obtain ⟨x, hx⟩ : ∃ x, xs.getD j default = x := ⟨_, rfl⟩
        rw [hx] at e0 e1 hgx
        have HX9 := hide hx
        clear hx
        go_wp2_with fail
        refine (fieldImpl _ x hgx.out.1 hgx.out.2).mono ?_
        rintro e w1 ⟨rfl, b1⟩
        have b2 := (Below.refl wr.heap.size wr).alloc (Nat.le_refl _) (.cells #[.string x.n, .string x.t] 65)
        replace HB := hide ((HB.out.trans (b2.mono HB.out.size)).trans (b1.mono (Nat.le_trans HB.out.size b2.size)))
        clear b1 b2
        cases c : fdB x with
        | false =>
          have HF : Hid (V = false) := hide (HN1.out j hlt (by rw [HX9.out]; exact c))
          go_wp2
          go_ret
          exact ⟨by rw [HF.out]; rfl, HB.out⟩
        | true =>
          have HR2 : Hid (∀ i, i < j + 1 → fdB (xs.getD i default) = true) := hide (fun i hi => by
            rcases Nat.lt_succ_iff_lt_or_eq.1 hi with h | rfl
            · exact HR.out i h
            · rw [HX9.out]; exact c)
          go_wp2
          exact ⟨⟨j + 1, by omega, by go_num, HR2, HB⟩, by simp [intOf]; omega⟩
      · obtain rfl : j = n := by omega
        have HF : Hid (V = true) := hide (HY.out HR.out hbig)
        go_wp2
        go_ret
        exact ⟨by rw [HF.out]; rfl, HB.out⟩
  · have hb' : (8 : Int) < (n : Int) := by omega
    have HF : Hid (V = false) := hide (HL.out hbig)
    go_enter Try.func57, Try.ntmps57
    go_wp2
    go_ret
    exact ⟨by rw [HF.out]; rfl, Below.refl _ _⟩
set_option maxRecDepth 100000 in
set_option maxHeartbeats 4000000 in
theorem parImpl (w : World) (xs : List ByteArray) (v : Value) (l : Int) (hp : Reads w w.heap.size (strs xs) v) (hl : xs.length ≤ 1048576) (hg : ∀ s ∈ xs, s.size ≤ 1048576) :
    Calls Try.prog 86 #[v, .int .i64 l] w fun e w' => e = .returned (.bool ((decide (xs.length ≤ 3) && xs.all nameB) && inB l ((xs.length : Int) + 1) 6)) ∧ Below w.heap.size w w' := by
  have HP := hide hp
  obtain ⟨a1, k1, e1, _⟩ := hp.shape
  subst e1
  clear hp
  have hw : IntKind.i64.wrap ((xs.length : Int) + 1) = (xs.length : Int) + 1 := by rw [IntKind.wrap_i64]; omega
  go_enter Try.func86, Try.ntmps86
  go_wp2_with fail
  refine (eachSt _ _ xs HP.out hl hg).mono ?_
  rintro e w2 ⟨rfl, b2⟩
  have HB := hide b2
  clear b2
  cases hV : (decide (xs.length ≤ 3) && xs.all nameB) with
  | false =>
    go_wp2
    go_ret
    exact ⟨by rw [hV]; rfl, HB.out⟩
  | true =>
    go_wp2_with fail
    refine (inImpl _ _ _ _).mono ?_
    rintro e w4 ⟨rfl, hw4⟩
    subst hw4
    go_wp2
    go_ret
    exact ⟨by rw [hV, Bool.true_and]; rfl, HB.out⟩
set_option maxRecDepth 100000 in
set_option maxHeartbeats 4000000 in
theorem methImpl (w : World) (x : Me) (pv cv : Value) (hp : Reads w w.heap.size (strs x.ps) pv) (hc : Reads w w.heap.size (byts x.c) cv) (hg : x.n.size ≤ 1048576 ∧ x.r.size ≤ 1048576 ∧ MeG x ∧ (∀ s ∈ x.ps, s.size ≤ 1048576)) :
    Calls Try.prog 62 #[meV x pv cv] w fun e w' => e = .returned (.bool (meB x)) ∧ Below w.heap.size w w' := by
  obtain ⟨a1, k1, e1, _⟩ := hp.shape
  obtain ⟨a2, k2, e2, _⟩ := hc.shape
  subst e1 e2
  have bA := (Below.refl w.heap.size w).alloc (Nat.le_refl _) (.cells #[.string x.n, .slice a1 x.ps.length k1, .string x.r, .int .i64 x.l, .slice a2 x.c.length k2] 48)
  have HX := hide (Box.new w #[.string x.n, .slice a1 x.ps.length k1, .string x.r, .int .i64 x.l, .slice a2 x.c.length k2] 48)
  have hgs : Hid (w.heap.size < (w.alloc (.cells #[.string x.n, .slice a1 x.ps.length k1, .string x.r, .int .i64 x.l, .slice a2 x.c.length k2] 48)).heap.size) := hide (by simp)
  have HP := hide (hp.at bA)
  have HB := hide bA
  have HM : Hid (meB x = (nameB x.n && ((decide (x.ps.length ≤ 3) && x.ps.all nameB) && inB x.l ((x.ps.length : Int) + 1) 6) && nameB x.r && inB (x.c.length : Int) 1 90)) := hide (by unfold meB; cases nameB x.n <;> cases (decide (x.ps.length ≤ 3) && x.ps.all nameB) <;> cases nameB x.r <;> cases inB x.l ((x.ps.length : Int) + 1) 6 <;> rfl)
  have hl := hg.2.2.1.1
  have hcl := hg.2.2.1.2.1
  have HS := hide hg
  clear hp hc bA hg
  unfold meV
  go_enter Try.func62, Try.ntmps62
  go_wp2_with fail
  generalize w.alloc (.cells #[.string x.n, .slice a1 x.ps.length k1, .string x.r, .int .i64 x.l, .slice a2 x.c.length k2] 48) = W at *
  refine (nameImpl _ _ (len_max HS.out.1)).mono ?_
  rintro e w1 ⟨rfl, hw1⟩
  subst hw1
  cases c1 : nameB x.n with
  | false =>
    have HF : Hid (meB x = false) := hide (by rw [HM.out, c1]; rfl)
    go_wp2
    go_ret
    exact ⟨by rw [HF.out]; rfl, HB.out⟩
  | true =>
    rw [c1] at HM
    clear c1
    have q0 := HX.out 0 _ rfl
    have q1 := HX.out 1 _ rfl
    have q2 := HX.out 2 _ rfl
    have q3 := HX.out 3 _ rfl
    have q4 := HX.out 4 _ rfl
    go_wp2_with fail
    clear q0 q1 q2 q3 q4
    refine (parImpl _ x.ps _ _ HP.out hl HS.out.2.2.2).mono ?_
    rintro e w2 ⟨rfl, b2⟩
    replace HX := hide (HX.out.below hgs.out b2)
    replace HB := hide (HB.out.trans (b2.mono HB.out.size))
    clear b2
    obtain ⟨V, hV⟩ : ∃ V, ((decide (x.ps.length ≤ 3) && x.ps.all nameB) && inB x.l ((x.ps.length : Int) + 1) 6) = V := ⟨_, rfl⟩
    rw [hV] at HM ⊢
    clear hV
    cases V with
    | false =>
      have HF : Hid (meB x = false) := hide (by rw [HM.out]; rfl)
      go_wp2
      go_ret
      exact ⟨by rw [HF.out]; rfl, HB.out⟩
    | true =>
      have q0 := HX.out 0 _ rfl
      have q1 := HX.out 1 _ rfl
      have q2 := HX.out 2 _ rfl
      have q3 := HX.out 3 _ rfl
      have q4 := HX.out 4 _ rfl
      go_wp2_with fail
      refine (typImpl _ _ (len_max HS.out.2.1)).mono ?_
      rintro e w3 ⟨rfl, hw3⟩
      subst hw3
      cases c1 : nameB x.r with
      | false =>
        have HF : Hid (meB x = false) := hide (by rw [HM.out, c1]; rfl)
        go_wp2
        go_ret
        exact ⟨by rw [HF.out]; rfl, HB.out⟩
      | true =>
        rw [c1] at HM
        clear c1
        go_wp2_with fail
        refine (inImpl _ _ _ _).mono ?_
        rintro e w5 ⟨rfl, hw5⟩
        subst hw5
        have HF : Hid (meB x = inB (x.c.length : Int) 1 90) := hide (by rw [HM.out]; simp)
        go_wp2
        go_ret
        exact ⟨by rw [HF.out]; rfl, HB.out⟩
set_option maxRecDepth 100000 in
set_option maxHeartbeats 4000000 in
theorem eachMe (w : World) (v : Value) (xs : List Me) (h : Reads w w.heap.size (mets xs) v) (hm : xs.length ≤ 1048576) (hg : ∀ y ∈ xs, y.n.size ≤ 1048576 ∧ y.r.size ≤ 1048576 ∧ MeG y ∧ (∀ s ∈ y.ps, s.size ≤ 1048576)) :
    Calls Try.prog 61 #[v, .int .i64 6, .func (.func 62) #[] #[]] w fun e w' => e = .returned (.bool (decide (xs.length ≤ 6) && xs.all meB)) ∧ Below w.heap.size w w' := by
  have HX : Hid (∀ wr, Below w.heap.size w wr → _) := hide (fun wr hb => meth_at (h.at hb))
  have HG := hide (fun j hj => getD_mem hg j hj)
  have HN1 : Hid (∀ j, j < xs.length → meB (xs.getD j default) = false → (decide (xs.length ≤ 6) && xs.all meB) = false) := hide (fun j hj h => by rw [all_no hj h]; simp)
  have HY : Hid ((∀ j, j < xs.length → meB (xs.getD j default) = true) → xs.length ≤ 6 → (decide (xs.length ≤ 6) && xs.all meB) = true) := hide (fun h h' => by rw [all_yes h, decide_eq_true h']; rfl)
  have HL : Hid (¬ xs.length ≤ 6 → (decide (xs.length ≤ 6) && xs.all meB) = false) := hide (fun h' => by rw [decide_eq_false h']; rfl)
  obtain ⟨a, cap, rfl, _⟩ := meth_at h
  clear h hg
  generalize hn : xs.length = n at *
  generalize (decide (n ≤ 6) && xs.all meB) = V at *
  by_cases hbig : n ≤ 6
  · have hb' : ¬ (6 : Int) < (n : Int) := by omega
    go_enter Try.func61, Try.ntmps61
    go_wp2
    go_loopw [15] (fun i wr => ∃ j : Nat, j ≤ n ∧ i = .int .i64 (j : Int) ∧ Hid (∀ i, i < j → meB (xs.getD i default) = true) ∧ Hid (Below w.heap.size w wr)) (fun i _ => n - (intOf i).toNat)
    case atStart => exact ⟨0, Nat.zero_le _, rfl, hide (fun i hi => by omega), hide (Below.refl _ _)⟩
    case round =>
      obtain ⟨j, hj, rfl, HR, HB⟩ := hrel
      by_cases hlt : j < n
      · obtain ⟨a', cap', ea, _, _, hc⟩ := HX.out wr HB.out
        cases ea
        obtain ⟨b, o, rfl, _, hcell⟩ := hc (by omega)
        obtain ⟨pv, cv, e0, e1, e2, e3, e4, r1, r2⟩ := hcell j hlt
        have hgx := hide (HG.out j (by omega))
        clear hcell hc
        obtain ⟨x, hx⟩ : ∃ x, xs.getD j default = x := ⟨_, rfl⟩
        rw [hx] at e0 e2 e3 r1 r2 hgx
        have HX9 := hide hx
        clear hx
        obtain ⟨aa, cc, ea, _⟩ := r1.shape
        obtain ⟨ab, cd, eb, _⟩ := r2.shape
        subst ea eb
        have R1 := hide (r1.at ((Below.refl wr.heap.size wr).alloc (Nat.le_refl _) (.cells #[.string x.n, .slice aa x.ps.length cc, .string x.r, .int .i64 x.l, .slice ab x.c.length cd] 48)))
        have R2 := hide (r2.at ((Below.refl wr.heap.size wr).alloc (Nat.le_refl _) (.cells #[.string x.n, .slice aa x.ps.length cc, .string x.r, .int .i64 x.l, .slice ab x.c.length cd] 48)))
        clear r1 r2
        go_wp2_with fail
        refine (methImpl _ x _ _ R1.out R2.out hgx.out).mono ?_
        rintro e w1 ⟨rfl, b1⟩
        have b2 := (Below.refl wr.heap.size wr).alloc (Nat.le_refl _) (.cells #[.string x.n, .slice aa x.ps.length cc, .string x.r, .int .i64 x.l, .slice ab x.c.length cd] 48)
        replace HB := hide ((HB.out.trans (b2.mono HB.out.size)).trans (b1.mono (Nat.le_trans HB.out.size b2.size)))
        clear b1 b2
        cases c : meB x with
        | false =>
          have HF : Hid (V = false) := hide (HN1.out j hlt (by rw [HX9.out]; exact c))
          go_wp2
          go_ret
          exact ⟨by rw [HF.out]; rfl, HB.out⟩
        | true =>
          have HR2 : Hid (∀ i, i < j + 1 → meB (xs.getD i default) = true) := hide (fun i hi => by
            rcases Nat.lt_succ_iff_lt_or_eq.1 hi with h | rfl
            · exact HR.out i h
            · rw [HX9.out]; exact c)
          go_wp2
          exact ⟨⟨j + 1, by omega, by go_num, HR2, HB⟩, by simp [intOf]; omega⟩
      · obtain rfl : j = n := by omega
        have HF : Hid (V = true) := hide (HY.out HR.out hbig)
        go_wp2
        go_ret
        exact ⟨by rw [HF.out]; rfl, HB.out⟩
  · have hb' : (6 : Int) < (n : Int) := by omega
    have HF : Hid (V = false) := hide (HL.out hbig)
    go_enter Try.func61, Try.ntmps61
    go_wp2
    go_ret
    exact ⟨by rw [HF.out]; rfl, Below.refl _ _⟩
set_option maxRecDepth 100000 in
set_option maxHeartbeats 2000000 in
theorem sameKc (w : World) (y x : Kc) : Calls Try.prog 84 #[kcV y, kcV x] w fun e w' => e = .returned (.bool (eqK y x)) ∧ Below w.heap.size w w' := by
  unfold kcV
  cases q1 : (y.k == x.k) with
  | false =>
    have HE : Hid (eqK y x = false) := hide (by simp only [eqK, q1]; rfl)
    go_enter Try.func84, Try.ntmps84
    go_wp2
    go_ret
    exact ⟨by rw [HE.out]; first | rfl | simp, ((Below.refl _ _).alloc (Nat.le_refl _) _).alloc (by simp) _⟩
  | true =>
   cases q2 : (y.n == x.n) with
   | false =>
    have HE : Hid (eqK y x = false) := hide (by simp only [eqK, q1, q2]; rfl)
    go_enter Try.func84, Try.ntmps84
    go_wp2
    go_ret
    exact ⟨by rw [HE.out]; first | rfl | simp, ((Below.refl _ _).alloc (Nat.le_refl _) _).alloc (by simp) _⟩
   | true =>
    cases q3 : (y.a.toList == x.a.toList) with
    | false =>
     have HE : Hid (eqK y x = false) := hide (by simp only [eqK, q1, q2, q3]; rfl)
     go_enter Try.func84, Try.ntmps84
     go_wp2
     go_ret
     exact ⟨by rw [HE.out]; first | rfl | simp, ((Below.refl _ _).alloc (Nat.le_refl _) _).alloc (by simp) _⟩
    | true =>
     cases q4 : (y.b.toList == x.b.toList) with
     | false =>
      have HE : Hid (eqK y x = false) := hide (by simp only [eqK, q1, q2, q3, q4]; rfl)
      go_enter Try.func84, Try.ntmps84
      go_wp2
      go_ret
      exact ⟨by rw [HE.out]; first | rfl | simp, ((Below.refl _ _).alloc (Nat.le_refl _) _).alloc (by simp) _⟩
     | true =>
      have HE : Hid (eqK y x = true) := hide (by simp only [eqK, q1, q2, q3, q4]; rfl)
      go_enter Try.func84, Try.ntmps84
      go_wp2
      go_ret
      exact ⟨by rw [HE.out]; first | rfl | simp, ((Below.refl _ _).alloc (Nat.le_refl _) _).alloc (by simp) _⟩

set_option maxRecDepth 100000 in
set_option maxHeartbeats 2000000 in
theorem sameFd (w : World) (y x : Fd) : Calls Try.prog 60 #[fdV y, fdV x] w fun e w' => e = .returned (.bool (sameF y x)) ∧ Below w.heap.size w w' := by
  have HE : Hid (sameF y x = (y.n.toList == x.n.toList)) := hide rfl
  unfold fdV
  go_enter Try.func60, Try.ntmps60
  go_wp2
  go_ret
  exact ⟨by rw [HE.out]; rfl, ((Below.refl _ _).alloc (Nat.le_refl _) _).alloc (by simp) _⟩
set_option maxRecDepth 100000 in
set_option maxHeartbeats 2000000 in
theorem sameMe (w : World) (y x : Me) (a1 a2 a3 a4 : Option Addr) (l1 l2 l3 l4 c1 c2 c3 c4 : Nat) : Calls Try.prog 64 #[meV y (.slice a1 l1 c1) (.slice a2 l2 c2), meV x (.slice a3 l3 c3) (.slice a4 l4 c4)] w fun e w' => e = .returned (.bool (sameN y x)) ∧ Below w.heap.size w w' := by
  have HE : Hid (sameN y x = (y.n.toList == x.n.toList)) := hide rfl
  unfold meV
  go_enter Try.func64, Try.ntmps64
  go_wp2
  go_ret
  exact ⟨by rw [HE.out]; rfl, ((Below.refl _ _).alloc (Nat.le_refl _) _).alloc (by simp) _⟩
set_option maxRecDepth 100000 in
set_option maxHeartbeats 4000000 in
theorem twoKc (w : World) (v : Value) (xs : List Kc) (h : Reads w w.heap.size (pool xs) v) (hm : xs.length ≤ 1048576) :
    Calls Try.prog 83 #[v, .func (.func 84) #[] #[]] w fun e w' => e = .returned (.bool (noTwo eqK xs)) ∧ Below w.heap.size w w' := by
  have HX : Hid (∀ wr, Below w.heap.size w wr → _) := hide (fun wr hb => const_at (h.at hb))
  have HN2 : Hid (∀ j k, j < xs.length → k < j → eqK (xs.getD k default) (xs.getD j default) = true → noTwo eqK xs = false) := hide (fun j k hj hk h => noTwo_no hj hk h)
  have HY : Hid (RightJ (fun _ => true) eqK xs xs.length → noTwo eqK xs = true) := hide (fun h => h.all.2)
  obtain ⟨a, cap, rfl, hcap, _⟩ := const_at h
  clear h
  generalize hn : xs.length = n at *
  generalize noTwo eqK xs = V at *
  go_enter Try.func83, Try.ntmps83
  go_wp2
  go_loopw [11] (fun i wr => ∃ j : Nat, j ≤ n ∧ i = .int .i64 (j : Int) ∧ Hid (RightJ (fun _ => true) eqK xs j) ∧ Hid (Below w.heap.size w wr)) (fun i _ => n - (intOf i).toNat)
  case atStart => exact ⟨0, Nat.zero_le _, rfl, hide (RightJ.zero _ _ _), hide (Below.refl _ _)⟩
  case round =>
    obtain ⟨j, hj, rfl, HR, HB⟩ := hrel
    by_cases hlt : j < n
    · obtain ⟨a', cap', ea, _, _, hc⟩ := HX.out wr HB.out
      cases ea
      obtain ⟨b, o, rfl, _, hcell⟩ := hc (by omega)
      obtain ⟨e0, e1, e2, e3⟩ := hcell j hlt
      clear hcell hc
      obtain ⟨x, hx⟩ : ∃ x, xs.getD j default = x := ⟨_, rfl⟩
      rw [hx] at e0 e1 e2 e3
      have HX9 := hide hx
      clear hx
      have G0 := hide (heap_alloc_new wr (.cells #[.int .i64 x.k, .int .i64 x.n, .string x.a, .string x.b] 63))
      have b2 := (Below.refl wr.heap.size wr).alloc (Nat.le_refl _) (.cells #[.int .i64 x.k, .int .i64 x.n, .string x.a, .string x.b] 63)
      replace HB := hide (HB.out.trans (b2.mono HB.out.size))
      clear b2
      have hjc : j ≤ cap := by omega
      go_wp2_with fail
      generalize wr.alloc (.cells #[.int .i64 x.k, .int .i64 x.n, .string x.a, .string x.b] 63) = W at *
      generalize wr.heap.size = g0 at *
      clear e0 e1 e2 e3
      go_loopw [20] (fun i wr => ∃ k : Nat, k ≤ j ∧ i = .int .i64 (k : Int) ∧ Hid (∀ i, i < k → eqK (xs.getD i default) x = false) ∧ Hid (Below w.heap.size w wr) ∧ Hid (wr.heap[g0]? = some (.cells #[.int .i64 x.k, .int .i64 x.n, .string x.a, .string x.b] 63 (0, 0)))) (fun i _ => j - (intOf i).toNat)
      case atStart => exact ⟨0, Nat.zero_le _, rfl, hide (fun i hi => by omega), HB, G0⟩
      case round =>
        clear HB G0
        obtain ⟨k, hk, rfl, HE, HB, G0⟩ := hrel
        by_cases hlk : k < j
        · obtain ⟨a', cap', ea, _, _, hc⟩ := HX.out wr HB.out
          cases ea
          obtain ⟨b', o', eo, _, hcell⟩ := hc (by omega)
          cases eo
          obtain ⟨d0, d1, d2, d3⟩ := hcell k (by omega)
          clear hcell hc
          obtain ⟨y, hy⟩ : ∃ y, xs.getD k default = y := ⟨_, rfl⟩
          rw [hy] at d0 d1 d2 d3
          have HY9 := hide hy
          clear hy
          have hg0 := (Array.getElem?_eq_some_iff.1 G0.out).1
          have hne : g0 ≠ wr.heap.size := by omega
          have b2 := (Below.refl wr.heap.size wr).alloc (Nat.le_refl _) (.cells #[.int .i64 y.k, .int .i64 y.n, .string y.a, .string y.b] 63)
          replace G0 := hide ((b2.block g0 hg0).trans G0.out)
          have g10 := (box_of G0.out).1 0 _ rfl
          have g11 := (box_of G0.out).1 1 _ rfl
          have g12 := (box_of G0.out).1 2 _ rfl
          have g13 := (box_of G0.out).1 3 _ rfl
          have HB3 := hide (HB.out.trans (b2.mono HB.out.size))
          clear b2 HB
          go_wp2_with fail
          refine (sameKc _ y x).mono ?_
          rintro e w1 ⟨rfl, b1⟩
          have HB := hide (HB3.out.trans (b1.mono HB3.out.size))
          replace G0 := hide ((b1.block g0 (Array.getElem?_eq_some_iff.1 G0.out).1).trans G0.out)
          clear b1 HB3 g10 g11 g12 g13 d0 d1 d2 d3
          cases c : eqK y x with
          | true =>
            have HF : Hid (V = false) := hide (HN2.out j k hlt hlk (by rw [HX9.out, HY9.out]; exact c))
            go_wp2
            go_ret
            exact ⟨by rw [HF.out]; rfl, HB.out⟩
          | false =>
            have HE2 : Hid (∀ i, i < k + 1 → eqK (xs.getD i default) x = false) := hide (fun i hi => by
              rcases Nat.lt_succ_iff_lt_or_eq.1 hi with h | rfl
              · exact HE.out i h
              · rw [HY9.out]; exact c)
            clear HE
            go_wp2
            exact ⟨⟨k + 1, by omega, by go_num, HE2, HB, G0⟩, by simp [intOf]; omega⟩
        · obtain rfl : k = j := by omega
          have HR2 := hide (RightJ.step (f := fun _ => true) HR.out rfl (fun i hi => by rw [HX9.out]; exact HE.out i hi))
          clear HR HE
          go_wp2
          exact ⟨⟨k + 1, by omega, by go_num, HR2, HB⟩, by simp [intOf]; omega⟩
    · obtain rfl : j = n := by omega
      have HF := hide (HY.out HR.out)
      go_wp2
      go_ret
      exact ⟨by rw [HF.out]; rfl, HB.out⟩
set_option maxRecDepth 100000 in
set_option maxHeartbeats 4000000 in
theorem twoFd (w : World) (v : Value) (xs : List Fd) (h : Reads w w.heap.size (flds xs) v) (hm : xs.length ≤ 1048576) :
    Calls Try.prog 59 #[v, .func (.func 60) #[] #[]] w fun e w' => e = .returned (.bool (noTwo sameF xs)) ∧ Below w.heap.size w w' := by
  have HX : Hid (∀ wr, Below w.heap.size w wr → _) := hide (fun wr hb => field_at (h.at hb))
  have HN2 : Hid (∀ j k, j < xs.length → k < j → sameF (xs.getD k default) (xs.getD j default) = true → noTwo sameF xs = false) := hide (fun j k hj hk h => noTwo_no hj hk h)
  have HY : Hid (RightJ (fun _ => true) sameF xs xs.length → noTwo sameF xs = true) := hide (fun h => h.all.2)
  obtain ⟨a, cap, rfl, hcap, _⟩ := field_at h
  clear h
  generalize hn : xs.length = n at *
  generalize noTwo sameF xs = V at *
  go_enter Try.func59, Try.ntmps59
  go_wp2
  go_loopw [11] (fun i wr => ∃ j : Nat, j ≤ n ∧ i = .int .i64 (j : Int) ∧ Hid (RightJ (fun _ => true) sameF xs j) ∧ Hid (Below w.heap.size w wr)) (fun i _ => n - (intOf i).toNat)
  case atStart => exact ⟨0, Nat.zero_le _, rfl, hide (RightJ.zero _ _ _), hide (Below.refl _ _)⟩
  case round =>
    obtain ⟨j, hj, rfl, HR, HB⟩ := hrel
    by_cases hlt : j < n
    · obtain ⟨a', cap', ea, _, _, hc⟩ := HX.out wr HB.out
      cases ea
      obtain ⟨b, o, rfl, _, hcell⟩ := hc (by omega)
      obtain ⟨e0, e1⟩ := hcell j hlt
      clear hcell hc
      obtain ⟨x, hx⟩ : ∃ x, xs.getD j default = x := ⟨_, rfl⟩
      rw [hx] at e0 e1
      have HX9 := hide hx
      clear hx
      have G0 := hide (heap_alloc_new wr (.cells #[.string x.n, .string x.t] 65))
      have b2 := (Below.refl wr.heap.size wr).alloc (Nat.le_refl _) (.cells #[.string x.n, .string x.t] 65)
      replace HB := hide (HB.out.trans (b2.mono HB.out.size))
      clear b2
      have hjc : j ≤ cap := by omega
      go_wp2_with fail
      generalize wr.alloc (.cells #[.string x.n, .string x.t] 65) = W at *
      generalize wr.heap.size = g0 at *
      clear e0 e1
      go_loopw [20] (fun i wr => ∃ k : Nat, k ≤ j ∧ i = .int .i64 (k : Int) ∧ Hid (∀ i, i < k → sameF (xs.getD i default) x = false) ∧ Hid (Below w.heap.size w wr) ∧ Hid (wr.heap[g0]? = some (.cells #[.string x.n, .string x.t] 65 (0, 0)))) (fun i _ => j - (intOf i).toNat)
      case atStart => exact ⟨0, Nat.zero_le _, rfl, hide (fun i hi => by omega), HB, G0⟩
      case round =>
        clear HB G0
        obtain ⟨k, hk, rfl, HE, HB, G0⟩ := hrel
        by_cases hlk : k < j
        · obtain ⟨a', cap', ea, _, _, hc⟩ := HX.out wr HB.out
          cases ea
          obtain ⟨b', o', eo, _, hcell⟩ := hc (by omega)
          cases eo
          obtain ⟨d0, d1⟩ := hcell k (by omega)
          clear hcell hc
          obtain ⟨y, hy⟩ : ∃ y, xs.getD k default = y := ⟨_, rfl⟩
          rw [hy] at d0 d1
          have HY9 := hide hy
          clear hy
          have hg0 := (Array.getElem?_eq_some_iff.1 G0.out).1
          have hne : g0 ≠ wr.heap.size := by omega
          have b2 := (Below.refl wr.heap.size wr).alloc (Nat.le_refl _) (.cells #[.string y.n, .string y.t] 65)
          replace G0 := hide ((b2.block g0 hg0).trans G0.out)
          have g10 := (box_of G0.out).1 0 _ rfl
          have g11 := (box_of G0.out).1 1 _ rfl
          have HB3 := hide (HB.out.trans (b2.mono HB.out.size))
          clear b2 HB
          go_wp2_with fail
          refine (sameFd _ y x).mono ?_
          rintro e w1 ⟨rfl, b1⟩
          have HB := hide (HB3.out.trans (b1.mono HB3.out.size))
          replace G0 := hide ((b1.block g0 (Array.getElem?_eq_some_iff.1 G0.out).1).trans G0.out)
          clear b1 HB3 g10 g11 d0 d1
          cases c : sameF y x with
          | true =>
            have HF : Hid (V = false) := hide (HN2.out j k hlt hlk (by rw [HX9.out, HY9.out]; exact c))
            go_wp2
            go_ret
            exact ⟨by rw [HF.out]; rfl, HB.out⟩
          | false =>
            have HE2 : Hid (∀ i, i < k + 1 → sameF (xs.getD i default) x = false) := hide (fun i hi => by
              rcases Nat.lt_succ_iff_lt_or_eq.1 hi with h | rfl
              · exact HE.out i h
              · rw [HY9.out]; exact c)
            clear HE
            go_wp2
            exact ⟨⟨k + 1, by omega, by go_num, HE2, HB, G0⟩, by simp [intOf]; omega⟩
        · obtain rfl : k = j := by omega
          have HR2 := hide (RightJ.step (f := fun _ => true) HR.out rfl (fun i hi => by rw [HX9.out]; exact HE.out i hi))
          clear HR HE
          go_wp2
          exact ⟨⟨k + 1, by omega, by go_num, HR2, HB⟩, by simp [intOf]; omega⟩
    · obtain rfl : j = n := by omega
      have HF := hide (HY.out HR.out)
      go_wp2
      go_ret
      exact ⟨by rw [HF.out]; rfl, HB.out⟩
set_option maxRecDepth 100000 in
set_option maxHeartbeats 4000000 in
theorem twoMe (w : World) (v : Value) (xs : List Me) (h : Reads w w.heap.size (mets xs) v) (hm : xs.length ≤ 1048576) :
    Calls Try.prog 63 #[v, .func (.func 64) #[] #[]] w fun e w' => e = .returned (.bool (noTwo sameN xs)) ∧ Below w.heap.size w w' := by
  have HX : Hid (∀ wr, Below w.heap.size w wr → _) := hide (fun wr hb => meth_at (h.at hb))
  have HN2 : Hid (∀ j k, j < xs.length → k < j → sameN (xs.getD k default) (xs.getD j default) = true → noTwo sameN xs = false) := hide (fun j k hj hk h => noTwo_no hj hk h)
  have HY : Hid (RightJ (fun _ => true) sameN xs xs.length → noTwo sameN xs = true) := hide (fun h => h.all.2)
  obtain ⟨a, cap, rfl, hcap, _⟩ := meth_at h
  clear h
  generalize hn : xs.length = n at *
  generalize noTwo sameN xs = V at *
  go_enter Try.func63, Try.ntmps63
  go_wp2
  go_loopw [11] (fun i wr => ∃ j : Nat, j ≤ n ∧ i = .int .i64 (j : Int) ∧ Hid (RightJ (fun _ => true) sameN xs j) ∧ Hid (Below w.heap.size w wr)) (fun i _ => n - (intOf i).toNat)
  case atStart => exact ⟨0, Nat.zero_le _, rfl, hide (RightJ.zero _ _ _), hide (Below.refl _ _)⟩
  case round =>
    obtain ⟨j, hj, rfl, HR, HB⟩ := hrel
    by_cases hlt : j < n
    · obtain ⟨a', cap', ea, _, _, hc⟩ := HX.out wr HB.out
      cases ea
      obtain ⟨b, o, rfl, _, hcell⟩ := hc (by omega)
      obtain ⟨pv, cv, e0, e1, e2, e3, e4, r1, r2⟩ := hcell j hlt
      clear hcell hc
      obtain ⟨x, hx⟩ : ∃ x, xs.getD j default = x := ⟨_, rfl⟩
      rw [hx] at e0 e2 e3 r1 r2
      have HX9 := hide hx
      clear hx
      obtain ⟨aa, cc, ea, _⟩ := r1.shape
      obtain ⟨ab, cd, eb, _⟩ := r2.shape
      subst ea eb
      clear r1 r2
      have G0 := hide (heap_alloc_new wr (.cells #[.string x.n, .slice aa x.ps.length cc, .string x.r, .int .i64 x.l, .slice ab x.c.length cd] 48))
      have b2 := (Below.refl wr.heap.size wr).alloc (Nat.le_refl _) (.cells #[.string x.n, .slice aa x.ps.length cc, .string x.r, .int .i64 x.l, .slice ab x.c.length cd] 48)
      replace HB := hide (HB.out.trans (b2.mono HB.out.size))
      clear b2
      have hjc : j ≤ cap := by omega
      go_wp2_with fail
      generalize wr.alloc (.cells #[.string x.n, .slice aa x.ps.length cc, .string x.r, .int .i64 x.l, .slice ab x.c.length cd] 48) = W at *
      generalize wr.heap.size = g0 at *
      clear e0 e1 e2 e3 e4
      go_loopw [20] (fun i wr => ∃ k : Nat, k ≤ j ∧ i = .int .i64 (k : Int) ∧ Hid (∀ i, i < k → sameN (xs.getD i default) x = false) ∧ Hid (Below w.heap.size w wr) ∧ Hid (wr.heap[g0]? = some (.cells #[.string x.n, .slice aa x.ps.length cc, .string x.r, .int .i64 x.l, .slice ab x.c.length cd] 48 (0, 0)))) (fun i _ => j - (intOf i).toNat)
      case atStart => exact ⟨0, Nat.zero_le _, rfl, hide (fun i hi => by omega), HB, G0⟩
      case round =>
        clear HB G0
        obtain ⟨k, hk, rfl, HE, HB, G0⟩ := hrel
        by_cases hlk : k < j
        · obtain ⟨a', cap', ea, _, _, hc⟩ := HX.out wr HB.out
          cases ea
          obtain ⟨b', o', eo, _, hcell⟩ := hc (by omega)
          cases eo
          obtain ⟨pv2, cv2, d0, d1, d2, d3, d4, s1, s2⟩ := hcell k (by omega)
          clear hcell hc
          obtain ⟨y, hy⟩ : ∃ y, xs.getD k default = y := ⟨_, rfl⟩
          rw [hy] at d0 d2 d3 s1 s2
          have HY9 := hide hy
          clear hy
          obtain ⟨ba, bc, ea, _⟩ := s1.shape
          obtain ⟨bb, bd, eb, _⟩ := s2.shape
          subst ea eb
          clear s1 s2
          have hg0 := (Array.getElem?_eq_some_iff.1 G0.out).1
          have hne : g0 ≠ wr.heap.size := by omega
          have b2 := (Below.refl wr.heap.size wr).alloc (Nat.le_refl _) (.cells #[.string y.n, .slice ba y.ps.length bc, .string y.r, .int .i64 y.l, .slice bb y.c.length bd] 48)
          replace G0 := hide ((b2.block g0 hg0).trans G0.out)
          have g10 := (box_of G0.out).1 0 _ rfl
          have g11 := (box_of G0.out).1 1 _ rfl
          have g12 := (box_of G0.out).1 2 _ rfl
          have g13 := (box_of G0.out).1 3 _ rfl
          have g14 := (box_of G0.out).1 4 _ rfl
          have HB3 := hide (HB.out.trans (b2.mono HB.out.size))
          clear b2 HB
          go_wp2_with fail
          refine (sameMe _ y x _ _ _ _ _ _ _ _ _ _ _ _).mono ?_
          rintro e w1 ⟨rfl, b1⟩
          have HB := hide (HB3.out.trans (b1.mono HB3.out.size))
          replace G0 := hide ((b1.block g0 (Array.getElem?_eq_some_iff.1 G0.out).1).trans G0.out)
          clear b1 HB3 g10 g11 g12 g13 g14 d0 d1 d2 d3 d4
          cases c : sameN y x with
          | true =>
            have HF : Hid (V = false) := hide (HN2.out j k hlt hlk (by rw [HX9.out, HY9.out]; exact c))
            go_wp2
            go_ret
            exact ⟨by rw [HF.out]; rfl, HB.out⟩
          | false =>
            have HE2 : Hid (∀ i, i < k + 1 → sameN (xs.getD i default) x = false) := hide (fun i hi => by
              rcases Nat.lt_succ_iff_lt_or_eq.1 hi with h | rfl
              · exact HE.out i h
              · rw [HY9.out]; exact c)
            clear HE
            go_wp2
            exact ⟨⟨k + 1, by omega, by go_num, HE2, HB, G0⟩, by simp [intOf]; omega⟩
        · obtain rfl : k = j := by omega
          have HR2 := hide (RightJ.step (f := fun _ => true) HR.out rfl (fun i hi => by rw [HX9.out]; exact HE.out i hi))
          clear HR HE
          go_wp2
          exact ⟨⟨k + 1, by omega, by go_num, HR2, HB⟩, by simp [intOf]; omega⟩
    · obtain rfl : j = n := by omega
      have HF := hide (HY.out HR.out)
      go_wp2
      go_ret
      exact ⟨by rw [HF.out]; rfl, HB.out⟩
end Go.Proofs.Ythagfdcfpffaoaa
