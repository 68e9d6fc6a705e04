/-
  'copy' on rows of elements of several cells; lists copied by the program.
-/
import Derived.Test.YtoaenoakdbieaaaSndW
import Derived.Laws.CopyRow
import Derived.Laws.IdiomCopy
namespace Go.Proofs.Ytoaenoakdbieaaa
open Go.RowKit

theorem run_copy_rowN {P : Program} (w : World) (dT sT ty elem : TypeId) (g dLen dCap : Nat) (a : Addr) (sLen sCap sz : Nat) (cur : Array Value) (t : TypeId) (cs : List Value)
    (hu : P.underlying dT = some (.slice elem)) (hs : (P.info? elem).map (·.size) = some sz)
    (hg : w.heap[g]? = some (.cells cur t (0, 0))) (hm : Nat.min sLen dLen = sLen) (hn : cs.length = sLen * sz)
    (hsrc : ∀ j v, cs[j]? = some v → w.cell? (a.add j) = some v) (hfit : cs.length ≤ cur.size) (h1 : ∀ v ∈ cs, v.oneCell' = true) :
    (Builtin.copy_ #[dT, sT] ty #[.slice (some ⟨g, 0, none⟩) dLen dCap, .slice (some a) sLen sCap]).run P w =
      .ok (goInt sLen) (w.setRow g (cur.toList.take 0 ++ cs ++ cur.toList.drop (0 + cs.length)).toArray) := by
  have hl := run_loadCells_list (P := P) w a cs hsrc
  have hst := run_storeCells_at P g 0 t cs 0 cur w hg (by simpa using hfit) h1
  cases hq : P.info? elem with
  | none => simp [hq] at hs
  | some i =>
    have hi : i.size = sz := by simpa [hq] using hs
    have hmm : min sLen dLen = sLen := hm
    rw [hn] at hl
    simp [Builtin.copy_, run_underlying hu, Builtin.lenOf, Builtin.firstCells, sizeOf, typeInfo, hq, hi, hmm, hl, hst]

theorem own_copied {w : World} {base e sz g n c : Nat} {xs cs : List Value} {cur : Array Value} (h : w.ownsRow base e sz (.slice (some ⟨g, 0, none⟩) n c) n xs) (hg : w.heap[g]? = some (.cells cur e (0, 0))) (hl : cs.length ≤ n * sz) :
    (w.setRow g (cur.toList.take 0 ++ cs ++ cur.toList.drop (0 + cs.length)).toArray).ownsRow base e sz (.slice (some ⟨g, 0, none⟩) n c) n (cs ++ xs.drop cs.length) := by
  obtain ⟨hx, hr⟩ := h
  rcases hr with ⟨e0, _⟩ | ⟨g', cap, cur', e0, hb, hgg, h2, h3, h4, h5⟩
  · cases e0
  · cases e0
    rw [hg] at hgg
    cases hgg
    refine ⟨by rw [List.length_append, List.length_drop, hx]; omega, .inr ⟨g, c, _, rfl, hb, setRow_heap w g _ _ e _ hg, h2, h3, ?_, ?_⟩⟩
    · have hcs : cs.length ≤ c * sz := Nat.le_trans hl (Nat.mul_le_mul_right _ h2)
      simp
      omega
    · simp only [List.take_zero, List.nil_append, Nat.zero_add]
      rw [List.take_append, List.take_of_length_le hl, ← h5, List.drop_take]

theorem grown_setRow {w : World} {g : Nat} (cs : Array Value) : w.grownBy (w.setRow g cs) (some g) :=
  ⟨rfl, rfl, rfl, by simp [World.setRow], fun k _ hk => setRow_other w g k cs (fun e => hk (by rw [e]))⟩

/-- 'copy(dst, src)', dst a row of one's own, src no longer than it. -/
theorem wpList_copy_rows {P : Program} {w : World} {ops : Array Oper} {rest : List Oper} {o : Oper} {act : Act} {Q : Exit → Act → World → Prop} (hgd : o.guard = none) (d s : Operand) (dT sT : TypeId)
    (ho : o.op = .call { callee := .builtin .copy, args := #[d, s], argTypes := #[dT, sT] }) (elem : TypeId) (hu : P.underlying dT = some (.slice elem)) (sz : Nat) (hsz : (P.info? elem).map (·.size) = some sz)
    (base g n c : Nat) (xs : List Value) (hd : act.eval d = .slice (some ⟨g, 0, none⟩) n c) (hown : w.ownsRow base elem sz (.slice (some ⟨g, 0, none⟩) n c) n xs)
    (ad : Addr) (m sCap : Nat) (hs : act.eval s = .slice (some ad) m sCap) (hmn : m ≤ n) (cs : List Value) (hn : cs.length = m * sz) (hsrc : ∀ j v, cs[j]? = some v → w.cell? (ad.add j) = some v) (h1 : ∀ v ∈ cs, v.oneCell' = true)
    (h : ∀ w', w'.ownsRow base elem sz (.slice (some ⟨g, 0, none⟩) n c) n (cs ++ xs.drop cs.length) → w.grownBy w' (some g) → wpList P ops Q rest (act.put o.dst (goInt m)) w') :
    wpList P ops Q (o :: rest) act w := by
  have hle : cs.length ≤ n * sz := by rw [hn]; exact Nat.mul_le_mul_right _ hmn
  obtain ⟨cur, hg, hcz⟩ : ∃ cur, w.heap[g]? = some (.cells cur elem (0, 0)) ∧ n * sz ≤ cur.size := by
    rcases hown.2 with ⟨e0, _⟩ | ⟨g', cap, cur, e0, hb, hgg, h2, h3, h4, h5⟩
    · cases e0
    · cases e0
      exact ⟨cur, hgg, by rw [h4]; exact Nat.mul_le_mul_right _ h2⟩
  refine wpList_plain hgd fun K hK => ?_
  have hrun := run_copy_rowN (P := P) w dT sT o.type elem g n c ad m sCap sz cur elem cs hu hsz hg (Nat.min_eq_left hmn) hn hsrc (Nat.le_trans hle hcz) h1
  unfold Oper.wp
  simp only [execOp, ho, resolve, invoke, builtin, Sem.run_bind, Sem.run_pure, Result.andThen_ok, List.map_toArray, List.map_cons, List.map_nil, hd, hs, hrun]
  exact hK _ _ (h _ (own_copied hown hg hle) (grown_setRow _))

/-- Nothing goes over where src has no element. -/
theorem wpList_copy_zero {P : Program} {w : World} {ops : Array Oper} {rest : List Oper} {o : Oper} {act : Act} {Q : Exit → Act → World → Prop} (hgd : o.guard = none) (d s : Operand) (dT sT : TypeId)
    (ho : o.op = .call { callee := .builtin .copy, args := #[d, s], argTypes := #[dT, sT] }) (elem : TypeId) (hu : P.underlying dT = some (.slice elem)) (hsz : ((P.info? elem).map (·.size)).isSome = true)
    (x : Addr) (n c : Nat) (hd : act.eval d = .slice (some x) n c) (sp : Option Addr) (sCap : Nat) (hs : act.eval s = .slice sp 0 sCap)
    (h : wpList P ops Q rest (act.put o.dst (goInt 0)) w) :
    wpList P ops Q (o :: rest) act w := by
  refine wpList_plain hgd fun K hK => ?_
  have hrun : (Builtin.copy_ #[dT, sT] o.type #[.slice (some x) n c, .slice sp 0 sCap]).run P w = .ok (goInt 0) w := by
    cases hq : P.info? elem with
    | none => simp [hq] at hsz
    | some i =>
      have hl : ∀ (x : Addr), (loadCells x 0).run P w = .ok #[] w := fun x => by simpa using run_loadCells_list (P := P) w x [] (by simp)
      cases sp <;> simp [Builtin.copy_, run_underlying hu, Builtin.lenOf, Builtin.firstCells, sizeOf, typeInfo, hq, storeCells, hl]
  unfold Oper.wp
  simp only [execOp, ho, resolve, invoke, builtin, Sem.run_bind, Sem.run_pure, Result.andThen_ok, List.map_toArray, List.map_cons, List.map_nil, hd, hs, hrun]
  exact hK _ _ h

theorem rd_src {w : World} {B sz n c : Nat} {a : Option Addr} {cs : List Value} (h : Rd w B sz (.slice a n c) n cs) (hp : 0 < n) : ∃ ad, a = some ad ∧ ∀ j v, cs[j]? = some v → w.cell? (ad.add j) = some v := by
  obtain ⟨h0, a', cap, e, _, _, hx⟩ := h
  cases e
  obtain ⟨b, o, rfl, _, hc⟩ := hx hp
  refine ⟨_, rfl, fun j v hv => ?_⟩
  have hj : j < n * sz := by rw [← h0]; exact (List.getElem?_eq_some_iff.1 hv).1
  rw [Addr.add_lit, hc j hj]; exact hv

set_option maxRecDepth 100000 in
set_option maxHeartbeats 2000000 in
theorem copyListCell (w : World) (v : Value) (xs : List (Int × Bool × Int)) (h : Rd w w.heap.size 3 v xs.length (xs.flatMap cellC)) (hm : xs.length ≤ 2000000) (h1 : ∀ u ∈ xs.flatMap cellC, u.oneCell' = true) :
    Calls Try.prog 105 #[v] w fun e w' => ∃ v', e = .returned v' ∧ w'.ownsRow w.heap.size 130 3 v' xs.length (xs.flatMap cellC) ∧ Below w.heap.size w w' := by
  have HR := hide h
  have H1 := hide h1
  obtain ⟨hfl, a, cap, rfl, _⟩ := h
  obtain ⟨i0, hi, hz0, hz1, hz2⟩ := info_parts Try.infoCell
  have HSZ : Hid ((Try.prog.info? 130).map (·.size) = some 3) := hide (by rw [hi]; simp [hz1])
  clear h1
  by_cases h0 : xs.length = 0
  · have hnil := List.eq_nil_of_length_eq_zero h0
    subst hnil
    go_enter Try.func105, Try.ntmps105
    go_wp2
    go_ret
    exact ⟨_, rfl, World.ownsRow_nil _ _ _ _, Below.refl _ _⟩
  · obtain ⟨ad, rfl, hsrc⟩ := rd_src HR.out (by omega)
    have HSR := hide hsrc
    have HFL := hide hfl
    obtain ⟨CS, hCS⟩ : ∃ CS, xs.flatMap cellC = CS := ⟨_, rfl⟩
    rw [hCS] at HSR H1 HFL
    have hne : ¬ ((xs.length : Int) = 0) := by omega
    clear hsrc hfl HR
    generalize xs.length = n at *
    go_enter Try.func105, Try.ntmps105
    go_wp2_with (first
      | (at_make; refine wpList_make_full _ rfl _ _ 62 rfl w.heap.size 130 i0 (.agg #[.int .i64 0, .bool false, .int .i64 0]) 3 Try.underlying62 hi hz0 hz1 _ _ _ _ n rfl rfl rfl rfl (by rw [hz2]; omega) (by unfold maxLen; omega) (Nat.le_refl _) ?_; intro w1 ho1 hg1; have HO1 := hide ho1; have HG1 := hide hg1; have HSR1 : Hid (∀ (j : Nat) (u : Value), CS[j]? = some u → w1.cell? (ad.add j) = some u) := hide (fun j u hu => (((Below.refl w.heap.size w).grown HG1.out (Nat.le_refl _) (fun k hk => by cases hk)).cell (World.block_lt_of_cell? w _ (HSR.out j u hu))).trans (HSR.out j u hu)); clear ho1 hg1)
      | (refine wpList_copy_rows rfl _ _ 62 62 rfl 130 Try.underlying62 3 HSZ.out w.heap.size w.heap.size n n _ rfl HO1.out ad n cap rfl (Nat.le_refl _) CS HFL.out HSR1.out H1.out ?_; intro w2 ho2 hg2; have HO2 := hide ho2; have HG2 := hide hg2; clear ho2 hg2))
    have HF : Hid (w2.ownsRow w.heap.size 130 3 (.slice (some ⟨w.heap.size, 0, none⟩) n n) n CS) := hide (by
      have h2 := HO2.out
      rwa [List.drop_eq_nil_of_le (by rw [HO1.out.1, HFL.out]; exact Nat.le_refl _), List.append_nil] at h2)
    have HB : Hid (Below w.heap.size w w2) := hide (((Below.refl w.heap.size w).grown HG1.out (Nat.le_refl _) (fun k hk => by cases hk)).grown HG2.out ((Below.refl w.heap.size w).grown HG1.out (Nat.le_refl _) (fun k hk => by cases hk)).size (fun k hk => by cases hk; exact Nat.le_refl _))
    clear HO1 HO2 HG1 HG2
    go_ret
    exact ⟨_, rfl, by rw [hCS]; exact HF.out, HB.out⟩
set_option maxRecDepth 100000 in
set_option maxHeartbeats 2000000 in
theorem copyListNote (w : World) (v : Value) (xs : List (Int × Int)) (h : Rd w w.heap.size 2 v xs.length (xs.flatMap noteC)) (hm : xs.length ≤ 2000000) (h1 : ∀ u ∈ xs.flatMap noteC, u.oneCell' = true) :
    Calls Try.prog 106 #[v] w fun e w' => ∃ v', e = .returned v' ∧ w'.ownsRow w.heap.size 136 2 v' xs.length (xs.flatMap noteC) ∧ Below w.heap.size w w' := by
  have HR := hide h
  have H1 := hide h1
  obtain ⟨hfl, a, cap, rfl, _⟩ := h
  obtain ⟨i0, hi, hz0, hz1, hz2⟩ := info_parts Try.infoNote
  have HSZ : Hid ((Try.prog.info? 136).map (·.size) = some 2) := hide (by rw [hi]; simp [hz1])
  clear h1
  by_cases h0 : xs.length = 0
  · have hnil := List.eq_nil_of_length_eq_zero h0
    subst hnil
    go_enter Try.func106, Try.ntmps106
    go_wp2
    go_ret
    exact ⟨_, rfl, World.ownsRow_nil _ _ _ _, Below.refl _ _⟩
  · obtain ⟨ad, rfl, hsrc⟩ := rd_src HR.out (by omega)
    have HSR := hide hsrc
    have HFL := hide hfl
    obtain ⟨CS, hCS⟩ : ∃ CS, xs.flatMap noteC = CS := ⟨_, rfl⟩
    rw [hCS] at HSR H1 HFL
    have hne : ¬ ((xs.length : Int) = 0) := by omega
    clear hsrc hfl HR
    generalize xs.length = n at *
    go_enter Try.func106, Try.ntmps106
    go_wp2_with (first
      | (at_make; refine wpList_make_full _ rfl _ _ 63 rfl w.heap.size 136 i0 (.agg #[.int .i64 0, .int .i64 0]) 2 Try.underlying63 hi hz0 hz1 _ _ _ _ n rfl rfl rfl rfl (by rw [hz2]; omega) (by unfold maxLen; omega) (Nat.le_refl _) ?_; intro w1 ho1 hg1; have HO1 := hide ho1; have HG1 := hide hg1; have HSR1 : Hid (∀ (j : Nat) (u : Value), CS[j]? = some u → w1.cell? (ad.add j) = some u) := hide (fun j u hu => (((Below.refl w.heap.size w).grown HG1.out (Nat.le_refl _) (fun k hk => by cases hk)).cell (World.block_lt_of_cell? w _ (HSR.out j u hu))).trans (HSR.out j u hu)); clear ho1 hg1)
      | (refine wpList_copy_rows rfl _ _ 63 63 rfl 136 Try.underlying63 2 HSZ.out w.heap.size w.heap.size n n _ rfl HO1.out ad n cap rfl (Nat.le_refl _) CS HFL.out HSR1.out H1.out ?_; intro w2 ho2 hg2; have HO2 := hide ho2; have HG2 := hide hg2; clear ho2 hg2))
    have HF : Hid (w2.ownsRow w.heap.size 136 2 (.slice (some ⟨w.heap.size, 0, none⟩) n n) n CS) := hide (by
      have h2 := HO2.out
      rwa [List.drop_eq_nil_of_le (by rw [HO1.out.1, HFL.out]; exact Nat.le_refl _), List.append_nil] at h2)
    have HB : Hid (Below w.heap.size w w2) := hide (((Below.refl w.heap.size w).grown HG1.out (Nat.le_refl _) (fun k hk => by cases hk)).grown HG2.out ((Below.refl w.heap.size w).grown HG1.out (Nat.le_refl _) (fun k hk => by cases hk)).size (fun k hk => by cases hk; exact Nat.le_refl _))
    clear HO1 HO2 HG1 HG2
    go_ret
    exact ⟨_, rfl, by rw [hCS]; exact HF.out, HB.out⟩
set_option maxRecDepth 100000 in
set_option maxHeartbeats 2000000 in
theorem copyListM (w : World) (v : Value) (xs : List MsX) (h : Rd w w.heap.size 7 v xs.length (xs.flatMap msC)) (hm : xs.length ≤ 2000000) (h1 : ∀ u ∈ xs.flatMap msC, u.oneCell' = true) :
    Calls Try.prog 94 #[v] w fun e w' => ∃ v', e = .returned v' ∧ w'.ownsRow w.heap.size 65 7 v' xs.length (xs.flatMap msC) ∧ Below w.heap.size w w' := by
  have HR := hide h
  have H1 := hide h1
  obtain ⟨hfl, a, cap, rfl, _⟩ := h
  obtain ⟨i0, hi, hz0, hz1, hz2⟩ := info_parts Try.infoMs
  have HSZ : Hid ((Try.prog.info? 65).map (·.size) = some 7) := hide (by rw [hi]; simp [hz1])
  clear h1
  by_cases h0 : xs.length = 0
  · have hnil := List.eq_nil_of_length_eq_zero h0
    subst hnil
    go_enter Try.func94, Try.ntmps94
    go_wp2
    go_ret
    exact ⟨_, rfl, World.ownsRow_nil _ _ _ _, Below.refl _ _⟩
  · obtain ⟨ad, rfl, hsrc⟩ := rd_src HR.out (by omega)
    have HSR := hide hsrc
    have HFL := hide hfl
    obtain ⟨CS, hCS⟩ : ∃ CS, xs.flatMap msC = CS := ⟨_, rfl⟩
    rw [hCS] at HSR H1 HFL
    have hne : ¬ ((xs.length : Int) = 0) := by omega
    clear hsrc hfl HR
    generalize xs.length = n at *
    go_enter Try.func94, Try.ntmps94
    go_wp2_with (first
      | (at_make; refine wpList_make_full _ rfl _ _ 49 rfl w.heap.size 65 i0 (.agg #[.int .i64 0, .int .i64 0, .int .i64 0, .int .i64 0, .int .i64 0, .slice none 0 0, .slice none 0 0]) 7 Try.underlying49 hi hz0 hz1 _ _ _ _ n rfl rfl rfl rfl (by rw [hz2]; omega) (by unfold maxLen; omega) (Nat.le_refl _) ?_; intro w1 ho1 hg1; have HO1 := hide ho1; have HG1 := hide hg1; have HSR1 : Hid (∀ (j : Nat) (u : Value), CS[j]? = some u → w1.cell? (ad.add j) = some u) := hide (fun j u hu => (((Below.refl w.heap.size w).grown HG1.out (Nat.le_refl _) (fun k hk => by cases hk)).cell (World.block_lt_of_cell? w _ (HSR.out j u hu))).trans (HSR.out j u hu)); clear ho1 hg1)
      | (refine wpList_copy_rows rfl _ _ 49 49 rfl 65 Try.underlying49 7 HSZ.out w.heap.size w.heap.size n n _ rfl HO1.out ad n cap rfl (Nat.le_refl _) CS HFL.out HSR1.out H1.out ?_; intro w2 ho2 hg2; have HO2 := hide ho2; have HG2 := hide hg2; clear ho2 hg2))
    have HF : Hid (w2.ownsRow w.heap.size 65 7 (.slice (some ⟨w.heap.size, 0, none⟩) n n) n CS) := hide (by
      have h2 := HO2.out
      rwa [List.drop_eq_nil_of_le (by rw [HO1.out.1, HFL.out]; exact Nat.le_refl _), List.append_nil] at h2)
    have HB : Hid (Below w.heap.size w w2) := hide (((Below.refl w.heap.size w).grown HG1.out (Nat.le_refl _) (fun k hk => by cases hk)).grown HG2.out ((Below.refl w.heap.size w).grown HG1.out (Nat.le_refl _) (fun k hk => by cases hk)).size (fun k hk => by cases hk; exact Nat.le_refl _))
    clear HO1 HO2 HG1 HG2
    go_ret
    exact ⟨_, rfl, by rw [hCS]; exact HF.out, HB.out⟩
end Go.Proofs.Ytoaenoakdbieaaa
