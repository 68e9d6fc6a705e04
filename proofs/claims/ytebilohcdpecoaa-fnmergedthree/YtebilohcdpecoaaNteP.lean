/-
  Notes in the program: NoteOf, MergeNotes, AddNote, Covers.
-/
import Derived.Test.YtebilohcdpecoaaNteI
import Derived.Test.YtebilohcdpecoaaNteK
import Derived.Test.YtebilohcdpecoaaNteQ
import Derived.Test.YtebilohcdpecoaaCopyG
import Derived.BigQuiet
namespace Go.Proofs.Ytebilohcdpecoaa
open Go.RowKit

set_option maxRecDepth 100000 in
set_option maxHeartbeats 4000000 in
theorem noteOfI (w : World) (xs : List Nte) (v : Value) (q : Int) (h : Reads w w.heap.size (ntes xs) v) (hm : xs.length ≤ 1048576) :
    Calls Try.prog 12 #[v, .int .i64 q] w fun e w' => e = .returned (.int .i64 (nvX xs q)) ∧ Below w.heap.size w w' := by
  have HR := hide h
  obtain ⟨a1, c1, e1, _⟩ := h.shape
  subst e1
  clear h
  have HYq : Hid (∀ j, j < xs.length → (xs.getD j default).w = q → (∀ i, i < j → ¬ (xs.getD i default).w = q) → nvX xs q = (xs.getD j default).n) := hide (fun j h1 h2 h3 => nvX_hit h1 h2 h3)
  have HN : Hid ((∀ i, i < xs.length → ¬ (xs.getD i default).w = q) → nvX xs q = 0) := hide nvX_no
  generalize nvX xs q = V at *
  go_enter Try.func12, Try.ntmps12
  go_wp2
  go_loopw [9] (fun i wr => ∃ j : Nat, j ≤ xs.length ∧ i = .int .i64 (j : Int) ∧ Hid (Below w.heap.size w wr) ∧ Hid (∀ i, i < j → ¬ (xs.getD i default).w = q)) (fun i _ => xs.length - (intOf i).toNat)
  case atStart => exact ⟨0, Nat.zero_le _, rfl, hide (Below.refl _ _), hide (fun i hi => by omega)⟩
  case round =>
    obtain ⟨j, hj, rfl, HBr, HQ⟩ := hrel
    by_cases hlt : j < xs.length
    · skip
      obtain ⟨a', cap', ea, hcap, _, hc⟩ := nte_at (HR.out.at HBr.out)
      cases ea
      obtain ⟨b, o, rfl, hbb, hcell⟩ := hc (by omega)
      obtain ⟨d0, d1⟩ := hcell j hlt
      clear hcell hc
      obtain ⟨y, hy⟩ : ∃ y, xs.getD j default = y := ⟨_, rfl⟩
      rw [hy] at d0 d1
      have HY := hide hy
      clear hy
      go_upto_region 4 with fail
      clear d0 d1
      have bA := (Below.refl wr.heap.size wr).alloc (Nat.le_refl _) (.cells #[.int .i64 y.w, .int .i64 y.n] 43)
      have EF := hide (heap_alloc_new wr (.cells #[.int .i64 y.w, .int .i64 y.n] 43))
      have HBw := hide bA
      clear bA hbb
      have hw0 := HBr.out.size
      obtain ⟨gf, hgf⟩ : ∃ g, wr.heap.size = g := ⟨_, rfl⟩
      rw [hgf] at EF ⊢
      clear hgf
      generalize wr.alloc (.cells #[.int .i64 y.w, .int .i64 y.n] 43) = W2 at *
      have f0 := (box_of EF.out).1 0 _ rfl
      have f1 := (box_of EF.out).1 1 _ rfl
      by_cases k : y.w = q
      · have k' : (y.w == q) = true := by simpa using k
        have HF : Hid (V = y.n) := hide (by rw [HYq.out j hlt (by rw [HY.out]; exact k) HQ.out, HY.out])
        clear k
        go_wp2
        go_ret
        exact ⟨by rw [HF.out]; rfl, HBr.out.trans (HBw.out.mono hw0)⟩
      · have k' : (y.w == q) = false := by simpa using k
        have HQ2 : Hid (∀ i, i < j + 1 → ¬ (xs.getD i default).w = q) := hide (fun i hi => by
          rcases Nat.lt_succ_iff_lt_or_eq.1 hi with h | rfl
          · exact HQ.out i h
          · rw [HY.out]; exact k)
        clear k
        go_wp2
        exact ⟨⟨j + 1, by omega, by go_num, hide (HBr.out.trans (HBw.out.mono hw0)), HQ2⟩, by simp [intOf]; omega⟩
    · obtain rfl : j = xs.length := by omega
      have HF : Hid (V = 0) := hide (HN.out HQ.out)
      go_wp2
      go_ret
      exact ⟨by rw [HF.out]; rfl, HBr.out⟩
set_option maxRecDepth 100000 in
set_option maxHeartbeats 4000000 in
theorem copyNt (w : World) (v : Value) (xs : List Nte) (h : Reads w w.heap.size (ntes xs) v) (hm : xs.length ≤ 2000000) :
    Calls Try.prog 33 #[v] w fun e w' => rowP w w' (ntes xs) e := by
  have HF1 := hide (flat_nteI xs)
  obtain ⟨i0, hi, hz0, hz1, hz2⟩ := info_parts Try.infoNte
  have HSZ : Hid ((Try.prog.info? 43).map (·.size) = some 2) := hide (by rw [hi]; simp [hz1])
  unfold ntes Reads at h
  obtain ⟨us, hrd, hds⟩ := h
  have HDS := hide hds
  have H1 := hide (one_flat HF1.out hds)
  have HR := hide hrd
  obtain ⟨hfl, a, cap, rfl, _⟩ := hrd
  clear hds
  by_cases h0 : xs.length = 0
  · have hnil := List.eq_nil_of_length_eq_zero h0
    subst hnil
    go_enter Try.func33, Try.ntmps33
    go_wp2
    go_ret
    exact ⟨_, rfl, ownD_nil _ _ _ _ _, Below.refl _ _⟩
  · obtain ⟨ad, rfl, hsrc⟩ := rd_src HR.out (by omega)
    have HSR := hide hsrc
    have HFL := hide hfl
    have hne : ¬ ((xs.length : Int) = 0) := by omega
    clear hsrc hfl HR
    obtain ⟨n, hn⟩ : ∃ n, xs.length = n := ⟨_, rfl⟩
    have HNN := hide hn
    rw [hn] at hm h0 hne HFL ⊢
    clear hn
    go_enter Try.func33, Try.ntmps33
    go_wp2_with (first
      | (at_make; refine wpList_make_full _ rfl _ _ 25 rfl w.heap.size 43 i0 (.agg #[.int .i64 0, .int .i64 0]) 2 Try.underlying25 hi hz0 hz1 _ _ _ _ n rfl rfl rfl rfl (by rw [hz2]; omega) (by unfold maxLen; omega) (Nat.le_refl _) ?_; intro w1 ho1 hg1; have HO1 := hide ho1; have HG1 := hide hg1; have HSR1 : Hid (∀ (j : Nat) (u : Value), us[j]? = some u → w1.cell? (ad.add j) = some u) := hide (fun j u hu => (((Below.refl w.heap.size w).grown HG1.out (Nat.le_refl _) (fun k hk => by cases hk)).cell (World.block_lt_of_cell? w _ (HSR.out j u hu))).trans (HSR.out j u hu)); clear ho1 hg1)
      | (refine wpList_copy_rows rfl _ _ 25 25 rfl 43 Try.underlying25 2 HSZ.out w.heap.size w.heap.size n n _ rfl HO1.out ad n cap rfl (Nat.le_refl _) us HFL.out HSR1.out H1.out ?_; intro w2 ho2 hg2; have HO2 := hide ho2; have HG2 := hide hg2; clear ho2 hg2))
    have HF : Hid (w2.ownsRow w.heap.size 43 2 (.slice (some ⟨w.heap.size, 0, none⟩) n n) n us) := hide (by
      have h2 := HO2.out
      rwa [List.drop_eq_nil_of_le (by rw [HO1.out.1, HFL.out]; exact Nat.le_refl _), List.append_nil] at h2)
    have HB : Hid (Below w.heap.size w w2) := hide (((Below.refl w.heap.size w).grown HG1.out (Nat.le_refl _) (fun k hk => by cases hk)).grown HG2.out ((Below.refl w.heap.size w).grown HG1.out (Nat.le_refl _) (fun k hk => by cases hk)).size (fun k hk => by cases hk; exact Nat.le_refl _))
    clear HO1 HO2 HG1 HG2
    go_ret
    refine ⟨_, rfl, ⟨[w.heap.size], ?_, by simp, fun q hq => ?_⟩, HB.out⟩
    · unfold ntes Owns
      rw [HNN.out]
      exact ⟨us, [], HF.out, ownsL_flat (fun d hd => by obtain ⟨u, hu, _⟩ := HF1.out d hd; exact ⟨u, hu⟩) (ReadsL.low HDS.out HB.out (Nat.le_refl _)), rfl⟩
    · have hq' : q = w.heap.size := by simpa using hq
      subst hq'
      exact (World.ownsRow.lt HF.out _ rfl).2
theorem blw_drewN {B : Nat} {a w : World} (h : Below B a w) (n : Nat) : Below B a (w.drewN n) := h.trans ⟨rfl, rfl, rfl, Nat.le_refl _, fun _ _ => rfl⟩
theorem nte_ext {x y : Nte} (h1 : x.w = y.w) (h2 : x.n = y.n) : x = y := by
  cases x; cases y; cases h1; cases h2; rfl
theorem ntk_lenI {xs : List Nte} (h : ntkB xs = true) : xs.length ≤ 130 := by
  unfold ntkB at h
  rw [Bool.and_eq_true] at h
  exact of_decide_eq_true h.2
set_option maxRecDepth 100000 in
set_option maxHeartbeats 8000000 in
theorem equalN (w : World) (xs ys : List Nte) (u v : Value) (h1 : Reads w w.heap.size (ntes xs) u) (h2 : Reads w w.heap.size (ntes ys) v) (hx : xs.length ≤ 2000000) :
    Calls Try.prog 35 #[u, v] w fun e w' => ∃ r : Bool, e = .returned (.bool r) ∧ (r = true ↔ xs = ys) ∧ Below w.heap.size w w' := by
  have HR := hide h1
  have HS := hide h2
  obtain ⟨a1, c1, e1, _⟩ := h1.shape
  obtain ⟨a2, c2, e2, _⟩ := h2.shape
  subst e1 e2
  clear h1 h2
  go_enter Try.func35, Try.ntmps35
  by_cases hne : xs.length = ys.length
  · go_wp2
    go_loopw [13] (fun i wr => ∃ j : Nat, j ≤ xs.length ∧ i = .int .i64 (j : Int) ∧ Hid (∀ k, k < j → xs.getD k default = ys.getD k default) ∧ Hid (Below w.heap.size w wr)) (fun i _ => xs.length - (intOf i).toNat)
    case atStart => exact ⟨0, Nat.zero_le _, rfl, hide (fun k hk => absurd hk (Nat.not_lt_zero k)), hide (Below.refl _ _)⟩
    case round =>
      obtain ⟨j, hj, rfl, HA, HBr⟩ := hrel
      by_cases hlt : j < xs.length
      · obtain ⟨a', cap', ea, hcap, _, hc⟩ := nte_at (HR.out.at HBr.out)
        cases ea
        obtain ⟨b1, o1, rfl, hb1, hcell⟩ := hc (by omega)
        obtain ⟨d0, d1⟩ := hcell j hlt
        clear hcell hc
        obtain ⟨a', cap', ea, hcap', _, hc⟩ := nte_at (HS.out.at HBr.out)
        cases ea
        obtain ⟨b2, o2, rfl, hb2, hcell⟩ := hc (by omega)
        obtain ⟨d2, d3⟩ := hcell j (by omega)
        clear hcell hc
        have hlt2 : j < ys.length := by omega
        obtain ⟨y, hy⟩ : ∃ y, xs.getD j default = y := ⟨_, rfl⟩
        obtain ⟨z, hz⟩ : ∃ z, ys.getD j default = z := ⟨_, rfl⟩
        rw [hy] at d0 d1
        rw [hz] at d2 d3
        have HY := hide hy
        have HZ := hide hz
        clear hy hz
        have HN : Hid (y ≠ z → ¬ xs = ys) := hide (fun h e => h (by rw [← HY.out, ← HZ.out, e]))
        by_cases hw : y.w = z.w
        · by_cases hn : y.n = z.n
          · have hyz := nte_ext hw hn
            have HA2 : Hid (∀ k, k < j + 1 → xs.getD k default = ys.getD k default) := hide (fun k hk => by
              by_cases hkj : k = j
              · rw [hkj, HY.out, HZ.out, hyz]
              · exact HA.out k (by omega))
            clear HA HN
            have n1 : (y.w == z.w) = true := by simp [hw]
            have n2 : (y.n == z.n) = true := by simp [hn]
            go_wp2
            go_quiet (fail)
            go_wp2
            exact ⟨⟨j + 1, by omega, by go_num, HA2, hide (blw_drewN HBr.out _)⟩, by simp [intOf]; omega⟩
          · have HF : Hid (¬ xs = ys) := hide (HN.out (fun e => hn (by rw [e])))
            clear HA HN
            have n1 : (y.w == z.w) = true := by simp [hw]
            have n2 : (y.n == z.n) = false := by simp [hn]
            go_wp2
            go_quiet (fail)
            go_wp2
            go_ret
            exact ⟨_, rfl, by simp [HF.out], blw_drewN HBr.out _⟩
        · have HF : Hid (¬ xs = ys) := hide (HN.out (fun e => hw (by rw [e])))
          clear HA HN
          have n1 : (y.w == z.w) = false := by simp [hw]
          go_wp2
          go_quiet (fail)
          go_wp2
          go_ret
          exact ⟨_, rfl, by simp [HF.out], blw_drewN HBr.out _⟩
      · have he : j = xs.length := by omega
        have HF : Hid (xs = ys) := hide (by
          refine List.ext_getElem hne (fun k hk hk2 => ?_)
          have := HA.out k (by omega)
          rwa [List.getD_eq_getElem?_getD, List.getD_eq_getElem?_getD, List.getElem?_eq_getElem hk, List.getElem?_eq_getElem hk2] at this)
        go_wp2
        go_ret
        exact ⟨_, rfl, by simp [HF.out], HBr.out⟩
  · have HF : Hid (¬ xs = ys) := hide (fun e => hne (by rw [e]))
    have hn : ¬ ((xs.length : Int) = ys.length) := by omega
    go_wp2
    go_ret
    exact ⟨_, rfl, by simp [HF.out], Below.refl _ _⟩
set_option maxRecDepth 100000 in
set_option maxHeartbeats 4000000 in
theorem mergeNotesI (w : World) (a b : List Nte) (v1 v2 : Value) (h1 : Reads w w.heap.size (ntes a) v1) (h2 : Reads w w.heap.size (ntes b) v2) (hlab : a.length + b.length ≤ 2000000) :
    Calls Try.prog 34 #[v1, v2] w fun e w' => rowP w w' (ntes (joinN a b)) e := by
  go_enter Try.func34, Try.ntmps34
  go_wp2_with fail
  refine (mergeN _ a b _ _ h1 h2 hlab).mono ?_
  rintro e w1 ⟨r, rfl, o9, b1⟩
  go_wp2
  go_ret
  exact ⟨_, rfl, o9, b1⟩
set_option maxRecDepth 100000 in
set_option maxHeartbeats 8000000 in
theorem mergeI (w : World) (a b : List Nte) (v1 v2 : Value) (h1 : Reads w w.heap.size (ntes a) v1) (h2 : Reads w w.heap.size (ntes b) v2) (hlab : a.length + b.length ≤ 1048577) (hla : a.length ≤ 1048576) (hlb : b.length ≤ 1048576) :
    Calls Try.prog 19 #[v1, v2] w fun e w' => rowP w w' (ntes (mergeX a b)) e := by
  have A1 := hide h1
  have B1 := hide h2
  obtain ⟨a1, c1, e1, _⟩ := h1.shape
  obtain ⟨a2, c2, e2, _⟩ := h2.shape
  subst e1 e2
  clear h1 h2
  have HV1 : Hid (¬ (ntkB a = true ∧ ntkB b = true ∧ ntkB (joinN a b) = true) → mergeX a b = a) := hide (fun h => by unfold mergeX; rw [if_neg h])
  have HV2 : Hid (ntkB a = true → ntkB b = true → ntkB (joinN a b) = true → mergeX a b = joinN a b) := hide (fun h h' h'' => by unfold mergeX; rw [if_pos ⟨h, h', h''⟩])
  generalize mergeX a b = V at *
  have HJL := hide (joinN_len a b)
  go_enter Try.func19, Try.ntmps19
  go_wp2_with fail
  refine (notesOkI _ a _ A1.out hla).mono ?_
  rintro e w1 ⟨rfl, b1⟩
  have HB := hide b1
  clear b1
  cases ca : ntkB a with
  | false =>
    have HF : Hid (V = a) := hide (HV1.out (fun h => by rw [ca] at h; cases h.1))
    go_wp2_with fail
    refine (copyNt _ _ a (A1.out.at HB.out) (by omega)).mono ?_
    rintro e w9 ⟨r, rfl, o9, b9⟩
    have HO := hide (o9.mono HB.out.size)
    replace HB := hide (HB.out.trans (b9.mono HB.out.size))
    clear o9 b9
    go_wp2
    go_ret
    rw [HF.out]
    exact ⟨_, rfl, HO.out, HB.out⟩
  | true =>
    go_wp2_with fail
    refine (notesOkI _ b _ (B1.out.at HB.out) hlb).mono ?_
    rintro e w2 ⟨rfl, b1⟩
    replace HB := hide (HB.out.trans (b1.mono HB.out.size))
    clear b1
    cases cb : ntkB b with
    | false =>
      have HF : Hid (V = a) := hide (HV1.out (fun h => by rw [cb] at h; cases h.2.1))
      go_wp2_with fail
      refine (copyNt _ _ a (A1.out.at HB.out) (by omega)).mono ?_
      rintro e w9 ⟨r, rfl, o9, b9⟩
      have HO := hide (o9.mono HB.out.size)
      replace HB := hide (HB.out.trans (b9.mono HB.out.size))
      clear o9 b9
      go_wp2
      go_ret
      rw [HF.out]
      exact ⟨_, rfl, HO.out, HB.out⟩
    | true =>
      go_wp2_with fail
      refine (mergeNotesI _ a b _ _ (A1.out.at HB.out) (B1.out.at HB.out) (by omega)).mono ?_
      rintro e w3 ⟨r, rfl, o9, b1⟩
      have HJ := hide (o9.mono HB.out.size)
      have hjl := HJL.out
      replace HB := hide (HB.out.trans (b1.mono HB.out.size))
      clear b1
      clear o9
      obtain ⟨ja, jc, je⟩ := HJ.out.shape
      subst je
      go_wp2_with fail
      refine (notesOkI _ (joinN a b) _ (HJ.out.rd (Nat.le_refl _)) (by have q1 := ntk_lenI ca; have q2 := ntk_lenI cb; omega)).mono ?_
      rintro e w4 ⟨rfl, b1⟩
      replace HJ := hide ((HJ.out.below b1).up b1.size)
      replace HB := hide (HB.out.trans (b1.mono HB.out.size))
      clear b1
      cases cj : ntkB (joinN a b) with
      | false =>
        have HF : Hid (V = a) := hide (HV1.out (fun h => by rw [cj] at h; cases h.2.2))
        go_wp2_with fail
        refine (copyNt _ _ a (A1.out.at HB.out) (by omega)).mono ?_
        rintro e w9 ⟨r, rfl, o9, b9⟩
        have HO := hide (o9.mono HB.out.size)
        replace HB := hide (HB.out.trans (b9.mono HB.out.size))
        clear o9 b9
        go_wp2
        go_ret
        rw [HF.out]
        exact ⟨_, rfl, HO.out, HB.out⟩
      | true =>
        have HF : Hid (V = joinN a b) := hide (HV2.out ca cb cj)
        go_wp2
        go_ret
        rw [HF.out]
        exact ⟨_, rfl, HJ.out, HB.out⟩
set_option maxRecDepth 100000 in
set_option maxHeartbeats 4000000 in
theorem addNoteI (w : World) (a : List Nte) (v1 : Value) (q n : Int) (h1 : Reads w w.heap.size (ntes a) v1) (hla : a.length ≤ 1048576) :
    Calls Try.prog 15 #[v1, .int .i64 q, .int .i64 n] w fun e w' => rowP w w' (ntes (mergeX a [⟨q, n⟩])) e := by
  have A1 := hide h1
  obtain ⟨a1, c1, e1, _⟩ := h1.shape
  subst e1
  clear h1
  have HZ := hide (OwnDL.snoc (ownDL_nil w w.heap.size w.heap.size) (Nat.le_refl _) 43 2 1 #[.int .i64 q, .int .i64 n] (by decide) rfl)
  have bX := (Below.refl w.heap.size w).alloc (Nat.le_refl _) (.cells #[.int .i64 q, .int .i64 n] 43)
  have HB := hide bX
  have HRX := hide (A1.out.at bX)
  have hs1 := bX.size
  clear bX
  go_enter Try.func15, Try.ntmps15
  go_wp2_with fail
  have HQX : Hid (Reads (w.alloc (.cells #[.int .i64 q, .int .i64 n] 43)) (w.alloc (.cells #[.int .i64 q, .int .i64 n] 43)).heap.size (ntes [⟨q, n⟩]) (.slice (some ⟨w.heap.size, 0, none⟩) 1 1)) := hide ((OwnDL.mid (c1 := []) (v1 := []) HZ.out rfl).rd (Nat.le_refl _))
  refine (mergeI _ a [⟨q, n⟩] _ _ HRX.out HQX.out (by simp; omega) hla (by simp)).mono ?_
  rintro e w3 ⟨r, rfl, o9, b9⟩
  have HO := hide (o9.mono hs1)
  replace HB := hide (HB.out.trans (b9.mono hs1))
  clear b9 o9
  go_wp2
  go_ret
  exact ⟨_, rfl, HO.out, HB.out⟩
set_option maxRecDepth 100000 in
set_option maxHeartbeats 8000000 in
theorem coversI (w : World) (a b : List Nte) (v1 v2 : Value) (h1 : Reads w w.heap.size (ntes a) v1) (h2 : Reads w w.heap.size (ntes b) v2) (hla : a.length ≤ 1048576) (hlb : b.length ≤ 1048576) :
    Calls Try.prog 21 #[v1, v2] w fun e w' => e = .returned (.bool (covB a b)) ∧ Below w.heap.size w w' := by
  have A1 := hide h1
  have B1 := hide h2
  obtain ⟨a1, c1, e1, _⟩ := h1.shape
  obtain ⟨a2, c2, e2, _⟩ := h2.shape
  subst e1 e2
  clear h1 h2
  have HV1 : Hid (ntkB a = false → covB a b = false) := hide (fun h => by unfold covB; rw [h, Bool.false_and, Bool.and_false])
  have HV2 : Hid (ntkB b = false → covB a b = false) := hide (fun h => by unfold covB; rw [h, Bool.and_false, Bool.and_false])
  have HV3 : Hid (ntkB a = true → ntkB b = true → ∀ r : Bool, (r = true ↔ joinN a b = a) → covB a b = r) := hide (fun h h' r hr => by rw [Bool.eq_iff_iff, cov_eq h h', hr])
  generalize covB a b = V at *
  go_enter Try.func21, Try.ntmps21
  go_wp2_with fail
  refine (notesOkI _ a _ A1.out hla).mono ?_
  rintro e w1 ⟨rfl, b1⟩
  have HB := hide b1
  clear b1
  cases ca : ntkB a with
  | false =>
    have HF := hide (HV1.out ca)
    go_wp2
    go_ret
    exact ⟨by rw [HF.out]; rfl, HB.out⟩
  | true =>
    go_wp2_with fail
    refine (notesOkI _ b _ (B1.out.at HB.out) hlb).mono ?_
    rintro e w2 ⟨rfl, b1⟩
    replace HB := hide (HB.out.trans (b1.mono HB.out.size))
    clear b1
    cases cb : ntkB b with
    | false =>
      have HF := hide (HV2.out cb)
      go_wp2
      go_ret
      exact ⟨by rw [HF.out]; rfl, HB.out⟩
    | true =>
      have HF := hide (HV3.out ca cb)
      have hla2 := ntk_lenI ca
      have hlb2 := ntk_lenI cb
      clear HV1 HV2 HV3
      go_wp2_with fail
      refine (mergeNotesI _ a b _ _ (A1.out.at HB.out) (B1.out.at HB.out) (by omega)).mono ?_
      rintro e w3 ⟨r, rfl, o9, b1⟩
      have HO := hide (o9.mono HB.out.size)
      replace HB := hide (HB.out.trans (b1.mono HB.out.size))
      clear b1
      clear o9
      obtain ⟨a3, c3, e3⟩ := (HO.out).shape
      subst e3
      go_wp2_with fail
      refine (equalN _ (joinN a b) a _ _ (HO.out.rd (Nat.le_refl _)) (A1.out.at HB.out) (by have := joinN_len a b; omega)).mono ?_
      rintro e w4 ⟨r, rfl, hr, b4⟩
      have HR := hide (HF.out r hr)
      have HB4 := hide (HB.out.trans (b4.mono HB.out.size))
      clear b4 hr HF
      go_wp2
      go_ret
      exact ⟨by rw [HR.out]; rfl, HB4.out⟩
end Go.Proofs.Ytebilohcdpecoaa
