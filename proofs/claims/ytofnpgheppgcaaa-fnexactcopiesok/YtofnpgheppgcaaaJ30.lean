/-
  Joined: CopyG, CpI.
-/
import Derived.Test.YtofnpgheppgcaaaJ3
import Derived.Laws.CopyRow
import Derived.Laws.IdiomCopy
import Derived.Laws.CopyOwn
import Derived.Test.YtofnpgheppgcaaaKCpS
import Derived.Test.YtofnpgheppgcaaaJ21
import Derived.Test.YtofnpgheppgcaaaJ20
import Derived.Test.YtofnpgheppgcaaaJ28
import Derived.Deep.RegionHeld
/-
  'copy' on rows of elements of several cells.
-/
namespace Go.Proofs.Ytofnpgheppgcaaa
open Go.RowKit

theorem run_copy_rowN {P : Program} (w : World) (dT sT ty elem : TypeId) (g dLen dCap : Nat) (a : Addr) (sLen sCap sz : Nat) (cur : Array Value) (t : TypeId) (cs : List Value)
    (hu : P.underlying dT = some (.slice elem)) (hs : (P.info? elem).map (·.size) = some sz)
    (hg : w.heap[g]? = some (.cells cur t (0, 0))) (hm : Nat.min sLen dLen = sLen) (hn : cs.length = sLen * sz)
    (hsrc : ∀ j v, cs[j]? = some v → w.cell? (a.add j) = some v) (hfit : cs.length ≤ cur.size) (h1 : ∀ v ∈ cs, v.oneCell' = true) :
    (Builtin.copy_ #[dT, sT] ty #[.slice (some ⟨g, 0, none⟩) dLen dCap, .slice (some a) sLen sCap]).run P w =
      .ok (goInt sLen) (w.setRow g (cur.toList.take 0 ++ cs ++ cur.toList.drop (0 + cs.length)).toArray) := by
  have hl := run_loadCells_list (P := P) w a cs hsrc
  have hst := run_storeCells_at P g 0 t cs 0 cur w hg (by simpa using hfit) h1
  cases hq : P.info? elem with
  | none => simp [hq] at hs
  | some i =>
    have hi : i.size = sz := by simpa [hq] using hs
    have hmm : min sLen dLen = sLen := hm
    rw [hn] at hl
    simp [Builtin.copy_, run_underlying hu, Builtin.lenOf, Builtin.firstCells, sizeOf, typeInfo, hq, hi, hmm, hl, hst]

theorem own_copied {w : World} {base e sz g n c : Nat} {xs cs : List Value} {cur : Array Value} (h : w.ownsRow base e sz (.slice (some ⟨g, 0, none⟩) n c) n xs) (hg : w.heap[g]? = some (.cells cur e (0, 0))) (hl : cs.length ≤ n * sz) :
    (w.setRow g (cur.toList.take 0 ++ cs ++ cur.toList.drop (0 + cs.length)).toArray).ownsRow base e sz (.slice (some ⟨g, 0, none⟩) n c) n (cs ++ xs.drop cs.length) := by
  obtain ⟨hx, hr⟩ := h
  rcases hr with ⟨e0, _⟩ | ⟨g', cap, cur', e0, hb, hgg, h2, h3, h4, h5⟩
  · cases e0
  · cases e0
    rw [hg] at hgg
    cases hgg
    refine ⟨by rw [List.length_append, List.length_drop, hx]; omega, .inr ⟨g, c, _, rfl, hb, setRow_heap w g _ _ e _ hg, h2, h3, ?_, ?_⟩⟩
    · have hcs : cs.length ≤ c * sz := Nat.le_trans hl (Nat.mul_le_mul_right _ h2)
      simp
      omega
    · simp only [List.take_zero, List.nil_append, Nat.zero_add]
      rw [List.take_append, List.take_of_length_le hl, ← h5, List.drop_take]

theorem grown_setRow {w : World} {g : Nat} (cs : Array Value) : w.grownBy (w.setRow g cs) (some g) :=
  ⟨rfl, rfl, rfl, by simp [World.setRow], fun k _ hk => setRow_other w g k cs (fun e => hk (by rw [e]))⟩

/-- 'copy(dst, src)', dst a row of one's own, src no longer than it. -/
theorem wpList_copy_rows {P : Program} {w : World} {ops : Array Oper} {rest : List Oper} {o : Oper} {act : Act} {Q : Exit → Act → World → Prop} (hgd : o.guard = none) (d s : Operand) (dT sT : TypeId)
    (ho : o.op = .call { callee := .builtin .copy, args := #[d, s], argTypes := #[dT, sT] }) (elem : TypeId) (hu : P.underlying dT = some (.slice elem)) (sz : Nat) (hsz : (P.info? elem).map (·.size) = some sz)
    (base g n c : Nat) (xs : List Value) (hd : act.eval d = .slice (some ⟨g, 0, none⟩) n c) (hown : w.ownsRow base elem sz (.slice (some ⟨g, 0, none⟩) n c) n xs)
    (ad : Addr) (m sCap : Nat) (hs : act.eval s = .slice (some ad) m sCap) (hmn : m ≤ n) (cs : List Value) (hn : cs.length = m * sz) (hsrc : ∀ j v, cs[j]? = some v → w.cell? (ad.add j) = some v) (h1 : ∀ v ∈ cs, v.oneCell' = true)
    (h : ∀ w', w'.ownsRow base elem sz (.slice (some ⟨g, 0, none⟩) n c) n (cs ++ xs.drop cs.length) → w.grownBy w' (some g) → wpList P ops Q rest (act.put o.dst (goInt m)) w') :
    wpList P ops Q (o :: rest) act w := by
  have hle : cs.length ≤ n * sz := by rw [hn]; exact Nat.mul_le_mul_right _ hmn
  obtain ⟨cur, hg, hcz⟩ : ∃ cur, w.heap[g]? = some (.cells cur elem (0, 0)) ∧ n * sz ≤ cur.size := by
    rcases hown.2 with ⟨e0, _⟩ | ⟨g', cap, cur, e0, hb, hgg, h2, h3, h4, h5⟩
    · cases e0
    · cases e0
      exact ⟨cur, hgg, by rw [h4]; exact Nat.mul_le_mul_right _ h2⟩
  refine wpList_plain hgd fun K hK => ?_
  have hrun := run_copy_rowN (P := P) w dT sT o.type elem g n c ad m sCap sz cur elem cs hu hsz hg (Nat.min_eq_left hmn) hn hsrc (Nat.le_trans hle hcz) h1
  unfold Oper.wp
  simp only [execOp, ho, resolve, invoke, builtin, Sem.run_bind, Sem.run_pure, Result.andThen_ok, List.map_toArray, List.map_cons, List.map_nil, hd, hs, hrun]
  exact hK _ _ (h _ (own_copied hown hg hle) (grown_setRow _))

/-- Nothing goes over where src has no element. -/
theorem wpList_copy_zero {P : Program} {w : World} {ops : Array Oper} {rest : List Oper} {o : Oper} {act : Act} {Q : Exit → Act → World → Prop} (hgd : o.guard = none) (d s : Operand) (dT sT : TypeId)
    (ho : o.op = .call { callee := .builtin .copy, args := #[d, s], argTypes := #[dT, sT] }) (elem : TypeId) (hu : P.underlying dT = some (.slice elem)) (hsz : ((P.info? elem).map (·.size)).isSome = true)
    (x : Addr) (n c : Nat) (hd : act.eval d = .slice (some x) n c) (sp : Option Addr) (sCap : Nat) (hs : act.eval s = .slice sp 0 sCap)
    (h : wpList P ops Q rest (act.put o.dst (goInt 0)) w) :
    wpList P ops Q (o :: rest) act w := by
  refine wpList_plain hgd fun K hK => ?_
  have hrun : (Builtin.copy_ #[dT, sT] o.type #[.slice (some x) n c, .slice sp 0 sCap]).run P w = .ok (goInt 0) w := by
    cases hq : P.info? elem with
    | none => simp [hq] at hsz
    | some i =>
      have hl : ∀ (x : Addr), (loadCells x 0).run P w = .ok #[] w := fun x => by simpa using run_loadCells_list (P := P) w x [] (by simp)
      cases sp <;> simp [Builtin.copy_, run_underlying hu, Builtin.lenOf, Builtin.firstCells, sizeOf, typeInfo, hq, storeCells, hl]
  unfold Oper.wp
  simp only [execOp, ho, resolve, invoke, builtin, Sem.run_bind, Sem.run_pure, Result.andThen_ok, List.map_toArray, List.map_cons, List.map_nil, hd, hs, hrun]
  exact hK _ _ h

theorem rd_src {w : World} {B sz n c : Nat} {a : Option Addr} {cs : List Value} (h : Rd w B sz (.slice a n c) n cs) (hp : 0 < n) : ∃ ad, a = some ad ∧ ∀ j v, cs[j]? = some v → w.cell? (ad.add j) = some v := by
  obtain ⟨h0, a', cap, e, _, _, hx⟩ := h
  cases e
  obtain ⟨b, o, rfl, _, hc⟩ := hx hp
  refine ⟨_, rfl, fun j v hv => ?_⟩
  have hj : j < n * sz := by rw [← h0]; exact (List.getElem?_eq_some_iff.1 hv).1
  rw [Addr.add_lit, hc j hj]; exact hv

end Go.Proofs.Ytofnpgheppgcaaa
/-
  Copies at a node in the program: where one stands, copies of copies.
-/
namespace Go.Proofs.Ytofnpgheppgcaaa
open Go.RowKit

set_option maxRecDepth 100000 in
set_option maxHeartbeats 8000000 in
theorem plcC (w : World) (x : Cpy) (u1 u2 : Value) (p : Nat) (q : Int) (hp : w.cell? ⟨p, 0, none⟩ = some (.int .i64 q)) (hlt : p < w.heap.size) :
    Calls Try.prog 71 #[cpyV x u1 u2, .pointer (some ⟨p, 0, none⟩)] w fun e w' => e = .returned (.bool (isC q x)) ∧ Below w.heap.size w w' := by
  unfold cpyV isC
  go_enter Try.func71, Try.ntmps71
  go_wp2
  go_ret
  exact ⟨rfl, (Below.refl _ _).alloc (Nat.le_refl _) _⟩
set_option maxRecDepth 100000 in
set_option maxHeartbeats 8000000 in
theorem idxCp (w : World) (v : Value) (xs : List Cpy) (p : Nat) (q : Int) (h : Reads w w.heap.size (cpys xs) v) (hm : xs.length ≤ 1048576) (hp : w.cell? ⟨p, 0, none⟩ = some (.int .i64 q)) (hlt0 : p < w.heap.size) :
    Calls Try.prog 69 #[v, .func (.func 71) #[] #[.pointer (some ⟨p, 0, none⟩)]] w fun e w' => e = .returned (.int .i64 (atC xs q)) ∧ Below w.heap.size w w' := by
  have HX : Hid (∀ wr, Below w.heap.size w wr → _) := hide (fun wr hb => copy_at (h.at hb))
  have HY : Hid (∀ j, j < xs.length → isC q (xs.getD j default) = true → (∀ i, i < j → isC q (xs.getD i default) = false) → atC xs q = (j : Int)) := hide (fun j hj h h0 => atFst_hit hj h h0)
  have HN : Hid ((∀ i, i < xs.length → isC q (xs.getD i default) = false) → atC xs q = -1) := hide (fun h0 => atFst_no h0)
  obtain ⟨a, cap, rfl, _⟩ := copy_at h
  clear h
  generalize hn : xs.length = n at *
  generalize atC xs q = V at *
  go_enter Try.func69, Try.ntmps69
  go_wp2
  go_loopw [8] (fun i wr => ∃ j : Nat, j ≤ n ∧ i = .int .i64 (j : Int) ∧ Hid (∀ i, i < j → isC q (xs.getD i default) = false) ∧ Hid (Below w.heap.size w wr)) (fun i _ => n - (intOf i).toNat)
  case atStart => exact ⟨0, Nat.zero_le _, rfl, hide (fun i hi => by omega), hide (Below.refl _ _)⟩
  case round =>
    obtain ⟨j, hj, rfl, HR, HB⟩ := hrel
    by_cases hlt : j < n
    · obtain ⟨a', cap', ea, _, _, hc⟩ := HX.out wr HB.out
      cases ea
      obtain ⟨b, o, rfl, _, hcell⟩ := hc (by omega)
      obtain ⟨pv1, pv2, d0, d1, d2, d3, d4, d5, r1, r2⟩ := hcell j hlt
      clear hcell hc
      obtain ⟨x, hx⟩ : ∃ x, xs.getD j default = x := ⟨_, rfl⟩
      rw [hx] at d0 d1 d2 d3 r1 r2
      obtain ⟨aa1, cc1, ea1, _⟩ := r1.shape
      obtain ⟨aa2, cc2, ea2, _⟩ := r2.shape
      subst ea1 ea2
      clear r1 r2
      have HX9 := hide hx
      clear hx
      go_wp2_with fail
      refine (plcC _ x _ _ p q ((HB.out.cell (p := ⟨p, 0, none⟩) hlt0).trans hp) (Nat.lt_of_lt_of_le hlt0 HB.out.size)).mono ?_
      rintro e w1 ⟨rfl, b1⟩
      replace HB := hide (HB.out.trans (b1.mono HB.out.size))
      clear b1
      cases c : isC q x with
      | true =>
        have HF : Hid (V = (j : Int)) := hide (HY.out j hlt (by rw [HX9.out]; exact c) HR.out)
        go_wp2
        go_ret
        exact ⟨by rw [HF.out]; rfl, HB.out⟩
      | false =>
        have HR2 : Hid (∀ i, i < j + 1 → isC q (xs.getD i default) = false) := hide (fun i hi => by
          rcases Nat.lt_succ_iff_lt_or_eq.1 hi with h | rfl
          · exact HR.out i h
          · rw [HX9.out]; exact c)
        go_wp2
        exact ⟨⟨j + 1, by omega, by go_num, HR2, HB⟩, by simp [intOf]; omega⟩
    · obtain rfl : j = n := by omega
      have HF : Hid (V = -1) := hide (HN.out HR.out)
      go_wp2
      go_ret
      exact ⟨by rw [HF.out]; rfl, HB.out⟩
set_option maxRecDepth 100000 in
set_option maxHeartbeats 8000000 in
theorem placeCI (w : World) (xs : List Cpy) (v : Value) (q : Int) (h : Reads w w.heap.size (cpys xs) v) (hm : xs.length ≤ 1048576) :
    Calls Try.prog 51 #[v, .int .i64 q] w fun e w' => e = .returned (.int .i64 (atC xs q)) ∧ Below w.heap.size w w' := by
  obtain ⟨a1, c1, e1, _⟩ := h.shape
  subst e1
  have bA := (Below.refl w.heap.size w).alloc (Nat.le_refl _) (.cells #[.int .i64 q] 3)
  have HR := hide (h.at bA)
  have HB := hide bA
  have HC := hide ((box_of (heap_alloc_new w (.cells #[.int .i64 q] 3))).1 0 _ rfl)
  have HS : Hid (w.heap.size < (w.alloc (.cells #[.int .i64 q] 3)).heap.size) := hide (by simp)
  clear h bA
  go_enter Try.func51, Try.ntmps51
  go_wp2_with fail
  refine (idxCp _ _ xs _ q HR.out hm HC.out HS.out).mono ?_
  rintro e w1 ⟨rfl, b1⟩
  replace HB := hide (HB.out.trans (b1.mono HB.out.size))
  clear b1
  go_wp2
  go_ret
  exact ⟨rfl, HB.out⟩
set_option maxRecDepth 100000 in
set_option maxHeartbeats 4000000 in
theorem copyListVo (w : World) (v : Value) (xs : List Vl) (h : Reads w w.heap.size (vls xs) v) (hm : xs.length ≤ 2000000) :
    Calls Try.prog 72 #[v] w fun e w' => rowP w w' (vls xs) e := by
  have HF1 := hide (flat_vl xs)
  obtain ⟨i0, hi, hz0, hz1, hz2⟩ := info_parts Try.infoVl
  have HSZ : Hid ((Try.prog.info? 48).map (·.size) = some 2) := hide (by rw [hi]; simp [hz1])
  unfold vls Reads at h
  obtain ⟨us, hrd, hds⟩ := h
  have HDS := hide hds
  have H1 := hide (one_flat HF1.out hds)
  have HR := hide hrd
  obtain ⟨hfl, a, cap, rfl, _⟩ := hrd
  clear hds
  by_cases h0 : xs.length = 0
  · have hnil := List.eq_nil_of_length_eq_zero h0
    subst hnil
    go_enter Try.func72, Try.ntmps72
    go_wp2
    go_ret
    exact ⟨_, rfl, ownD_nil _ _ _ _ _, Below.refl _ _⟩
  · obtain ⟨ad, rfl, hsrc⟩ := rd_src HR.out (by omega)
    have HSR := hide hsrc
    have HFL := hide hfl
    have hne : ¬ ((xs.length : Int) = 0) := by omega
    clear hsrc hfl HR
    obtain ⟨n, hn⟩ : ∃ n, xs.length = n := ⟨_, rfl⟩
    have HNN := hide hn
    rw [hn] at hm h0 hne HFL ⊢
    clear hn
    go_enter Try.func72, Try.ntmps72
    go_wp2_with (first
      | (at_make; refine wpList_make_full _ rfl _ _ 38 rfl w.heap.size 48 i0 (.agg #[.bool false, .int .i64 0]) 2 Try.underlying38 hi hz0 hz1 _ _ _ _ n rfl rfl rfl rfl (by rw [hz2]; omega) (by unfold maxLen; omega) (Nat.le_refl _) ?_; intro w1 ho1 hg1; have HO1 := hide ho1; have HG1 := hide hg1; have HSR1 : Hid (∀ (j : Nat) (u : Value), us[j]? = some u → w1.cell? (ad.add j) = some u) := hide (fun j u hu => (((Below.refl w.heap.size w).grown HG1.out (Nat.le_refl _) (fun k hk => by cases hk)).cell (World.block_lt_of_cell? w _ (HSR.out j u hu))).trans (HSR.out j u hu)); clear ho1 hg1)
      | (refine wpList_copy_rows rfl _ _ 38 38 rfl 48 Try.underlying38 2 HSZ.out w.heap.size w.heap.size n n _ rfl HO1.out ad n cap rfl (Nat.le_refl _) us HFL.out HSR1.out H1.out ?_; intro w2 ho2 hg2; have HO2 := hide ho2; have HG2 := hide hg2; clear ho2 hg2))
    have HF : Hid (w2.ownsRow w.heap.size 48 2 (.slice (some ⟨w.heap.size, 0, none⟩) n n) n us) := hide (by
      have h2 := HO2.out
      rwa [List.drop_eq_nil_of_le (by rw [HO1.out.1, HFL.out]; exact Nat.le_refl _), List.append_nil] at h2)
    have HB : Hid (Below w.heap.size w w2) := hide (((Below.refl w.heap.size w).grown HG1.out (Nat.le_refl _) (fun k hk => by cases hk)).grown HG2.out ((Below.refl w.heap.size w).grown HG1.out (Nat.le_refl _) (fun k hk => by cases hk)).size (fun k hk => by cases hk; exact Nat.le_refl _))
    clear HO1 HO2 HG1 HG2
    go_ret
    refine ⟨_, rfl, ⟨[w.heap.size], ?_, by simp, fun q hq => ?_⟩, HB.out⟩
    · unfold vls Owns
      rw [HNN.out]
      exact ⟨us, [], HF.out, ownsL_flat (fun d hd => by obtain ⟨u, hu, _⟩ := HF1.out d hd; exact ⟨u, hu⟩) (ReadsL.low HDS.out HB.out (Nat.le_refl _)), rfl⟩
    · have hq' : q = w.heap.size := by simpa using hq
      subst hq'
      exact (World.ownsRow.lt HF.out _ rfl).2
end Go.Proofs.Ytofnpgheppgcaaa
