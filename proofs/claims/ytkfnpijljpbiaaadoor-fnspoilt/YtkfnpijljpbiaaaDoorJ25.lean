/-
  Joined: CopyM, SndCopI, SndCopS.
-/
import Derived.Test.YtkfnpijljpbiaaaDoorJ12
import Derived.Laws.CopyRow
import Derived.Laws.IdiomCopy
import Derived.Maps.AppendAt
import Derived.Deep.RegionLaw
import Derived.Deep.DrawnRows
import Derived.Deep.CutRange
import Derived.BigRegion
/-
  'copy' on rows of elements of several cells; lists copied by the program.
-/
namespace Go.Proofs.YtkfnpijljpbiaaaDoor
open Go.RowKit

theorem run_copy_rowN {P : Program} (w : World) (dT sT ty elem : TypeId) (g dLen dCap : Nat) (a : Addr) (sLen sCap sz : Nat) (cur : Array Value) (t : TypeId) (cs : List Value)
    (hu : P.underlying dT = some (.slice elem)) (hs : (P.info? elem).map (·.size) = some sz)
    (hg : w.heap[g]? = some (.cells cur t (0, 0))) (hm : Nat.min sLen dLen = sLen) (hn : cs.length = sLen * sz)
    (hsrc : ∀ j v, cs[j]? = some v → w.cell? (a.add j) = some v) (hfit : cs.length ≤ cur.size) (h1 : ∀ v ∈ cs, v.oneCell' = true) :
    (Builtin.copy_ #[dT, sT] ty #[.slice (some ⟨g, 0, none⟩) dLen dCap, .slice (some a) sLen sCap]).run P w =
      .ok (goInt sLen) (w.setRow g (cur.toList.take 0 ++ cs ++ cur.toList.drop (0 + cs.length)).toArray) := by
  have hl := run_loadCells_list (P := P) w a cs hsrc
  have hst := run_storeCells_at P g 0 t cs 0 cur w hg (by simpa using hfit) h1
  cases hq : P.info? elem with
  | none => simp [hq] at hs
  | some i =>
    have hi : i.size = sz := by simpa [hq] using hs
    have hmm : min sLen dLen = sLen := hm
    rw [hn] at hl
    simp [Builtin.copy_, run_underlying hu, Builtin.lenOf, Builtin.firstCells, sizeOf, typeInfo, hq, hi, hmm, hl, hst]

theorem own_copied {w : World} {base e sz g n c : Nat} {xs cs : List Value} {cur : Array Value} (h : w.ownsRow base e sz (.slice (some ⟨g, 0, none⟩) n c) n xs) (hg : w.heap[g]? = some (.cells cur e (0, 0))) (hl : cs.length ≤ n * sz) :
    (w.setRow g (cur.toList.take 0 ++ cs ++ cur.toList.drop (0 + cs.length)).toArray).ownsRow base e sz (.slice (some ⟨g, 0, none⟩) n c) n (cs ++ xs.drop cs.length) := by
  obtain ⟨hx, hr⟩ := h
  rcases hr with ⟨e0, _⟩ | ⟨g', cap, cur', e0, hb, hgg, h2, h3, h4, h5⟩
  · cases e0
  · cases e0
    rw [hg] at hgg
    cases hgg
    refine ⟨by rw [List.length_append, List.length_drop, hx]; omega, .inr ⟨g, c, _, rfl, hb, setRow_heap w g _ _ e _ hg, h2, h3, ?_, ?_⟩⟩
    · have hcs : cs.length ≤ c * sz := Nat.le_trans hl (Nat.mul_le_mul_right _ h2)
      simp
      omega
    · simp only [List.take_zero, List.nil_append, Nat.zero_add]
      rw [List.take_append, List.take_of_length_le hl, ← h5, List.drop_take]

theorem grown_setRow {w : World} {g : Nat} (cs : Array Value) : w.grownBy (w.setRow g cs) (some g) :=
  ⟨rfl, rfl, rfl, by simp [World.setRow], fun k _ hk => setRow_other w g k cs (fun e => hk (by rw [e]))⟩

/-- 'copy(dst, src)', dst a row of one's own, src no longer than it. -/
theorem wpList_copy_rows {P : Program} {w : World} {ops : Array Oper} {rest : List Oper} {o : Oper} {act : Act} {Q : Exit → Act → World → Prop} (hgd : o.guard = none) (d s : Operand) (dT sT : TypeId)
    (ho : o.op = .call { callee := .builtin .copy, args := #[d, s], argTypes := #[dT, sT] }) (elem : TypeId) (hu : P.underlying dT = some (.slice elem)) (sz : Nat) (hsz : (P.info? elem).map (·.size) = some sz)
    (base g n c : Nat) (xs : List Value) (hd : act.eval d = .slice (some ⟨g, 0, none⟩) n c) (hown : w.ownsRow base elem sz (.slice (some ⟨g, 0, none⟩) n c) n xs)
    (ad : Addr) (m sCap : Nat) (hs : act.eval s = .slice (some ad) m sCap) (hmn : m ≤ n) (cs : List Value) (hn : cs.length = m * sz) (hsrc : ∀ j v, cs[j]? = some v → w.cell? (ad.add j) = some v) (h1 : ∀ v ∈ cs, v.oneCell' = true)
    (h : ∀ w', w'.ownsRow base elem sz (.slice (some ⟨g, 0, none⟩) n c) n (cs ++ xs.drop cs.length) → w.grownBy w' (some g) → wpList P ops Q rest (act.put o.dst (goInt m)) w') :
    wpList P ops Q (o :: rest) act w := by
  have hle : cs.length ≤ n * sz := by rw [hn]; exact Nat.mul_le_mul_right _ hmn
  obtain ⟨cur, hg, hcz⟩ : ∃ cur, w.heap[g]? = some (.cells cur elem (0, 0)) ∧ n * sz ≤ cur.size := by
    rcases hown.2 with ⟨e0, _⟩ | ⟨g', cap, cur, e0, hb, hgg, h2, h3, h4, h5⟩
    · cases e0
    · cases e0
      exact ⟨cur, hgg, by rw [h4]; exact Nat.mul_le_mul_right _ h2⟩
  refine wpList_plain hgd fun K hK => ?_
  have hrun := run_copy_rowN (P := P) w dT sT o.type elem g n c ad m sCap sz cur elem cs hu hsz hg (Nat.min_eq_left hmn) hn hsrc (Nat.le_trans hle hcz) h1
  unfold Oper.wp
  simp only [execOp, ho, resolve, invoke, builtin, Sem.run_bind, Sem.run_pure, Result.andThen_ok, List.map_toArray, List.map_cons, List.map_nil, hd, hs, hrun]
  exact hK _ _ (h _ (own_copied hown hg hle) (grown_setRow _))

/-- Nothing goes over where src has no element. -/
theorem wpList_copy_zero {P : Program} {w : World} {ops : Array Oper} {rest : List Oper} {o : Oper} {act : Act} {Q : Exit → Act → World → Prop} (hgd : o.guard = none) (d s : Operand) (dT sT : TypeId)
    (ho : o.op = .call { callee := .builtin .copy, args := #[d, s], argTypes := #[dT, sT] }) (elem : TypeId) (hu : P.underlying dT = some (.slice elem)) (hsz : ((P.info? elem).map (·.size)).isSome = true)
    (x : Addr) (n c : Nat) (hd : act.eval d = .slice (some x) n c) (sp : Option Addr) (sCap : Nat) (hs : act.eval s = .slice sp 0 sCap)
    (h : wpList P ops Q rest (act.put o.dst (goInt 0)) w) :
    wpList P ops Q (o :: rest) act w := by
  refine wpList_plain hgd fun K hK => ?_
  have hrun : (Builtin.copy_ #[dT, sT] o.type #[.slice (some x) n c, .slice sp 0 sCap]).run P w = .ok (goInt 0) w := by
    cases hq : P.info? elem with
    | none => simp [hq] at hsz
    | some i =>
      have hl : ∀ (x : Addr), (loadCells x 0).run P w = .ok #[] w := fun x => by simpa using run_loadCells_list (P := P) w x [] (by simp)
      cases sp <;> simp [Builtin.copy_, run_underlying hu, Builtin.lenOf, Builtin.firstCells, sizeOf, typeInfo, hq, storeCells, hl]
  unfold Oper.wp
  simp only [execOp, ho, resolve, invoke, builtin, Sem.run_bind, Sem.run_pure, Result.andThen_ok, List.map_toArray, List.map_cons, List.map_nil, hd, hs, hrun]
  exact hK _ _ h

theorem rd_src {w : World} {B sz n c : Nat} {a : Option Addr} {cs : List Value} (h : Rd w B sz (.slice a n c) n cs) (hp : 0 < n) : ∃ ad, a = some ad ∧ ∀ j v, cs[j]? = some v → w.cell? (ad.add j) = some v := by
  obtain ⟨h0, a', cap, e, _, _, hx⟩ := h
  cases e
  obtain ⟨b, o, rfl, _, hc⟩ := hx hp
  refine ⟨_, rfl, fun j v hv => ?_⟩
  have hj : j < n * sz := by rw [← h0]; exact (List.getElem?_eq_some_iff.1 hv).1
  rw [Addr.add_lit, hc j hj]; exact hv

set_option maxRecDepth 100000 in
set_option maxHeartbeats 2000000 in
theorem copyListCell (w : World) (v : Value) (xs : List (Int × Bool × Int)) (h : Rd w w.heap.size 3 v xs.length (xs.flatMap cellC)) (hm : xs.length ≤ 2000000) (h1 : ∀ u ∈ xs.flatMap cellC, u.oneCell' = true) :
    Calls Tryd.prog 71 #[v] w fun e w' => ∃ v', e = .returned v' ∧ w'.ownsRow w.heap.size 92 3 v' xs.length (xs.flatMap cellC) ∧ Below w.heap.size w w' := by
  have HR := hide h
  have H1 := hide h1
  obtain ⟨hfl, a, cap, rfl, _⟩ := h
  obtain ⟨i0, hi, hz0, hz1, hz2⟩ := info_parts Tryd.infoCell
  have HSZ : Hid ((Tryd.prog.info? 92).map (·.size) = some 3) := hide (by rw [hi]; simp [hz1])
  clear h1
  by_cases h0 : xs.length = 0
  · have hnil := List.eq_nil_of_length_eq_zero h0
    subst hnil
    go_enter Tryd.func71, Tryd.ntmps71
    go_wp2
    go_ret
    exact ⟨_, rfl, World.ownsRow_nil _ _ _ _, Below.refl _ _⟩
  · obtain ⟨ad, rfl, hsrc⟩ := rd_src HR.out (by omega)
    have HSR := hide hsrc
    have HFL := hide hfl
    obtain ⟨CS, hCS⟩ : ∃ CS, xs.flatMap cellC = CS := ⟨_, rfl⟩
    rw [hCS] at HSR H1 HFL
    have hne : ¬ ((xs.length : Int) = 0) := by omega
    clear hsrc hfl HR
    generalize xs.length = n at *
    go_enter Tryd.func71, Tryd.ntmps71
    go_wp2_with (first
      | (at_make; refine wpList_make_full _ rfl _ _ 36 rfl w.heap.size 92 i0 (.agg #[.int .i64 0, .bool false, .int .i64 0]) 3 Tryd.underlying36 hi hz0 hz1 _ _ _ _ n rfl rfl rfl rfl (by rw [hz2]; omega) (by unfold maxLen; omega) (Nat.le_refl _) ?_; intro w1 ho1 hg1; have HO1 := hide ho1; have HG1 := hide hg1; have HSR1 : Hid (∀ (j : Nat) (u : Value), CS[j]? = some u → w1.cell? (ad.add j) = some u) := hide (fun j u hu => (((Below.refl w.heap.size w).grown HG1.out (Nat.le_refl _) (fun k hk => by cases hk)).cell (World.block_lt_of_cell? w _ (HSR.out j u hu))).trans (HSR.out j u hu)); clear ho1 hg1)
      | (refine wpList_copy_rows rfl _ _ 36 36 rfl 92 Tryd.underlying36 3 HSZ.out w.heap.size w.heap.size n n _ rfl HO1.out ad n cap rfl (Nat.le_refl _) CS HFL.out HSR1.out H1.out ?_; intro w2 ho2 hg2; have HO2 := hide ho2; have HG2 := hide hg2; clear ho2 hg2))
    have HF : Hid (w2.ownsRow w.heap.size 92 3 (.slice (some ⟨w.heap.size, 0, none⟩) n n) n CS) := hide (by
      have h2 := HO2.out
      rwa [List.drop_eq_nil_of_le (by rw [HO1.out.1, HFL.out]; exact Nat.le_refl _), List.append_nil] at h2)
    have HB : Hid (Below w.heap.size w w2) := hide (((Below.refl w.heap.size w).grown HG1.out (Nat.le_refl _) (fun k hk => by cases hk)).grown HG2.out ((Below.refl w.heap.size w).grown HG1.out (Nat.le_refl _) (fun k hk => by cases hk)).size (fun k hk => by cases hk; exact Nat.le_refl _))
    clear HO1 HO2 HG1 HG2
    go_ret
    exact ⟨_, rfl, by rw [hCS]; exact HF.out, HB.out⟩
set_option maxRecDepth 100000 in
set_option maxHeartbeats 2000000 in
theorem copyListNote (w : World) (v : Value) (xs : List (Int × Int)) (h : Rd w w.heap.size 2 v xs.length (xs.flatMap noteC)) (hm : xs.length ≤ 2000000) (h1 : ∀ u ∈ xs.flatMap noteC, u.oneCell' = true) :
    Calls Tryd.prog 72 #[v] w fun e w' => ∃ v', e = .returned v' ∧ w'.ownsRow w.heap.size 95 2 v' xs.length (xs.flatMap noteC) ∧ Below w.heap.size w w' := by
  have HR := hide h
  have H1 := hide h1
  obtain ⟨hfl, a, cap, rfl, _⟩ := h
  obtain ⟨i0, hi, hz0, hz1, hz2⟩ := info_parts Tryd.infoNote
  have HSZ : Hid ((Tryd.prog.info? 95).map (·.size) = some 2) := hide (by rw [hi]; simp [hz1])
  clear h1
  by_cases h0 : xs.length = 0
  · have hnil := List.eq_nil_of_length_eq_zero h0
    subst hnil
    go_enter Tryd.func72, Tryd.ntmps72
    go_wp2
    go_ret
    exact ⟨_, rfl, World.ownsRow_nil _ _ _ _, Below.refl _ _⟩
  · obtain ⟨ad, rfl, hsrc⟩ := rd_src HR.out (by omega)
    have HSR := hide hsrc
    have HFL := hide hfl
    obtain ⟨CS, hCS⟩ : ∃ CS, xs.flatMap noteC = CS := ⟨_, rfl⟩
    rw [hCS] at HSR H1 HFL
    have hne : ¬ ((xs.length : Int) = 0) := by omega
    clear hsrc hfl HR
    generalize xs.length = n at *
    go_enter Tryd.func72, Tryd.ntmps72
    go_wp2_with (first
      | (at_make; refine wpList_make_full _ rfl _ _ 37 rfl w.heap.size 95 i0 (.agg #[.int .i64 0, .int .i64 0]) 2 Tryd.underlying37 hi hz0 hz1 _ _ _ _ n rfl rfl rfl rfl (by rw [hz2]; omega) (by unfold maxLen; omega) (Nat.le_refl _) ?_; intro w1 ho1 hg1; have HO1 := hide ho1; have HG1 := hide hg1; have HSR1 : Hid (∀ (j : Nat) (u : Value), CS[j]? = some u → w1.cell? (ad.add j) = some u) := hide (fun j u hu => (((Below.refl w.heap.size w).grown HG1.out (Nat.le_refl _) (fun k hk => by cases hk)).cell (World.block_lt_of_cell? w _ (HSR.out j u hu))).trans (HSR.out j u hu)); clear ho1 hg1)
      | (refine wpList_copy_rows rfl _ _ 37 37 rfl 95 Tryd.underlying37 2 HSZ.out w.heap.size w.heap.size n n _ rfl HO1.out ad n cap rfl (Nat.le_refl _) CS HFL.out HSR1.out H1.out ?_; intro w2 ho2 hg2; have HO2 := hide ho2; have HG2 := hide hg2; clear ho2 hg2))
    have HF : Hid (w2.ownsRow w.heap.size 95 2 (.slice (some ⟨w.heap.size, 0, none⟩) n n) n CS) := hide (by
      have h2 := HO2.out
      rwa [List.drop_eq_nil_of_le (by rw [HO1.out.1, HFL.out]; exact Nat.le_refl _), List.append_nil] at h2)
    have HB : Hid (Below w.heap.size w w2) := hide (((Below.refl w.heap.size w).grown HG1.out (Nat.le_refl _) (fun k hk => by cases hk)).grown HG2.out ((Below.refl w.heap.size w).grown HG1.out (Nat.le_refl _) (fun k hk => by cases hk)).size (fun k hk => by cases hk; exact Nat.le_refl _))
    clear HO1 HO2 HG1 HG2
    go_ret
    exact ⟨_, rfl, by rw [hCS]; exact HF.out, HB.out⟩
set_option maxRecDepth 100000 in
set_option maxHeartbeats 2000000 in
theorem copyListM (w : World) (v : Value) (xs : List MsX) (h : Rd w w.heap.size 7 v xs.length (xs.flatMap msC)) (hm : xs.length ≤ 2000000) (h1 : ∀ u ∈ xs.flatMap msC, u.oneCell' = true) :
    Calls Tryd.prog 53 #[v] w fun e w' => ∃ v', e = .returned v' ∧ w'.ownsRow w.heap.size 39 7 v' xs.length (xs.flatMap msC) ∧ Below w.heap.size w w' := by
  have HR := hide h
  have H1 := hide h1
  obtain ⟨hfl, a, cap, rfl, _⟩ := h
  obtain ⟨i0, hi, hz0, hz1, hz2⟩ := info_parts Tryd.infoMs
  have HSZ : Hid ((Tryd.prog.info? 39).map (·.size) = some 7) := hide (by rw [hi]; simp [hz1])
  clear h1
  by_cases h0 : xs.length = 0
  · have hnil := List.eq_nil_of_length_eq_zero h0
    subst hnil
    go_enter Tryd.func53, Tryd.ntmps53
    go_wp2
    go_ret
    exact ⟨_, rfl, World.ownsRow_nil _ _ _ _, Below.refl _ _⟩
  · obtain ⟨ad, rfl, hsrc⟩ := rd_src HR.out (by omega)
    have HSR := hide hsrc
    have HFL := hide hfl
    obtain ⟨CS, hCS⟩ : ∃ CS, xs.flatMap msC = CS := ⟨_, rfl⟩
    rw [hCS] at HSR H1 HFL
    have hne : ¬ ((xs.length : Int) = 0) := by omega
    clear hsrc hfl HR
    generalize xs.length = n at *
    go_enter Tryd.func53, Tryd.ntmps53
    go_wp2_with (first
      | (at_make; refine wpList_make_full _ rfl _ _ 24 rfl w.heap.size 39 i0 (.agg #[.int .i64 0, .int .i64 0, .int .i64 0, .int .i64 0, .int .i64 0, .slice none 0 0, .slice none 0 0]) 7 Tryd.underlying24 hi hz0 hz1 _ _ _ _ n rfl rfl rfl rfl (by rw [hz2]; omega) (by unfold maxLen; omega) (Nat.le_refl _) ?_; intro w1 ho1 hg1; have HO1 := hide ho1; have HG1 := hide hg1; have HSR1 : Hid (∀ (j : Nat) (u : Value), CS[j]? = some u → w1.cell? (ad.add j) = some u) := hide (fun j u hu => (((Below.refl w.heap.size w).grown HG1.out (Nat.le_refl _) (fun k hk => by cases hk)).cell (World.block_lt_of_cell? w _ (HSR.out j u hu))).trans (HSR.out j u hu)); clear ho1 hg1)
      | (refine wpList_copy_rows rfl _ _ 24 24 rfl 39 Tryd.underlying24 7 HSZ.out w.heap.size w.heap.size n n _ rfl HO1.out ad n cap rfl (Nat.le_refl _) CS HFL.out HSR1.out H1.out ?_; intro w2 ho2 hg2; have HO2 := hide ho2; have HG2 := hide hg2; clear ho2 hg2))
    have HF : Hid (w2.ownsRow w.heap.size 39 7 (.slice (some ⟨w.heap.size, 0, none⟩) n n) n CS) := hide (by
      have h2 := HO2.out
      rwa [List.drop_eq_nil_of_le (by rw [HO1.out.1, HFL.out]; exact Nat.le_refl _), List.append_nil] at h2)
    have HB : Hid (Below w.heap.size w w2) := hide (((Below.refl w.heap.size w).grown HG1.out (Nat.le_refl _) (fun k hk => by cases hk)).grown HG2.out ((Below.refl w.heap.size w).grown HG1.out (Nat.le_refl _) (fun k hk => by cases hk)).size (fun k hk => by cases hk; exact Nat.le_refl _))
    clear HO1 HO2 HG1 HG2
    go_ret
    exact ⟨_, rfl, by rw [hCS]; exact HF.out, HB.out⟩
end Go.Proofs.YtkfnpijljpbiaaaDoor
/-
  Messages and senders copied by the program.
-/
namespace Go.Proofs.YtkfnpijljpbiaaaDoor
open Go.RowKit

theorem one_cellC (cs : List (Int × Bool × Int)) : ∀ u ∈ cs.flatMap cellC, u.oneCell' = true := by
  intro u hu
  obtain ⟨x, _, hx⟩ := List.mem_flatMap.1 hu
  simp [cellC] at hx
  rcases hx with rfl | rfl | rfl <;> rfl
theorem one_noteC (cs : List (Int × Int)) : ∀ u ∈ cs.flatMap noteC, u.oneCell' = true := by
  intro u hu
  obtain ⟨x, _, hx⟩ := List.mem_flatMap.1 hu
  simp [noteC] at hx
  rcases hx with rfl | rfl <;> rfl
theorem one_msC {w : World} {B : Nat} {x : MsX} (h : Mt w B x) : ∀ u ∈ msC x, u.oneCell' = true := by
  intro u hu
  obtain ⟨a5, c5, e5, _⟩ := cells_at h.1
  obtain ⟨a6, c6, e6, _⟩ := notes_at h.2
  simp [msC, e5, e6] at hu
  rcases hu with rfl | rfl | rfl | rfl | rfl | rfl | rfl <;> rfl
theorem one_msCs {w : World} {B : Nat} {xs : List MsX} (h : ∀ x ∈ xs, Mt w B x) : ∀ u ∈ xs.flatMap msC, u.oneCell' = true := by
  intro u hu
  obtain ⟨x, hx, hu⟩ := List.mem_flatMap.1 hu
  exact one_msC (h x hx) u hu

set_option maxRecDepth 100000 in
set_option maxHeartbeats 4000000 in
theorem copyMsI (w : World) (m : Ms) (cv nv : Value) (h : Mt w w.heap.size (m, cv, nv)) (hg : GoodM m) :
    Calls Tryd.prog 54 #[msV m cv nv] w fun e w' => ∃ v5 v6, e = .returned (msV m v5 v6) ∧ OwnC w' w.heap.size v5 m.cs ∧ OwnN w' w.heap.size v6 m.ns ∧ Below w.heap.size w w' ∧ (∀ b, v5.ownBlock = some b → ∀ b', v6.ownBlock = some b' → b < b') := by
  have HC := hide h.1
  have HN := hide h.2
  obtain ⟨a5, cap5, e5, _⟩ := cells_at h.1
  obtain ⟨a6, cap6, e6, _⟩ := notes_at h.2
  simp only at e5 e6
  subst e5 e6
  clear h
  obtain ⟨k, i, u, c, n, cs, ns⟩ := m
  simp only at HC HN hg
  have hgc : cs.length ≤ 1048576 := hg.1
  have hgn : ns.length ≤ 1048576 := hg.2
  clear hg
  unfold msV msgV
  simp only
  go_enter Tryd.func54, Tryd.ntmps54
  go_wp2_with fail
  have G0 := heap_alloc_new w (.cells #[.int .i64 k, .int .i64 i, .int .i64 u, .int .i64 c, .int .i64 n, .slice a5 cs.length cap5, .slice a6 ns.length cap6] 39)
  have G1 := heap_alloc_new (w.alloc (.cells #[.int .i64 k, .int .i64 i, .int .i64 u, .int .i64 c, .int .i64 n, .slice a5 cs.length cap5, .slice a6 ns.length cap6] 39)) (.cells #[.int .i64 0, .int .i64 0, .int .i64 0, .int .i64 0, .int .i64 0, .slice none 0 0, .slice none 0 0] 39)
  simp only [World.size_alloc] at G1
  have bA := ((Below.refl w.heap.size w).alloc (Nat.le_refl _) (.cells #[.int .i64 k, .int .i64 i, .int .i64 u, .int .i64 c, .int .i64 n, .slice a5 cs.length cap5, .slice a6 ns.length cap6] 39)).alloc (by simp) (.cells #[.int .i64 0, .int .i64 0, .int .i64 0, .int .i64 0, .int .i64 0, .slice none 0 0, .slice none 0 0] 39)
  refine (copyListCell _ _ cs (HC.out.at bA) (by omega) (one_cellC cs)).mono ?_
  rintro e w1 ⟨v5, rfl, o5, b1⟩
  have HO5 : Hid (OwnC w1 (w.heap.size + 1 + 1) v5 cs) := hide (by unfold OwnC; simpa using o5)
  obtain ⟨a7, c7, rfl⟩ := ownC_shape HO5.out
  have E0 := (b1.block w.heap.size (by simp; omega)).trans ((Below.heap_alloc _ _ _ (by simp)).trans G0)
  have E1 := (b1.block (w.heap.size + 1) (by simp)).trans G1
  have HB := hide (bA.trans (b1.mono (by simp; omega)))
  have hs1 : w.heap.size + 1 + 1 ≤ w1.heap.size := by have := b1.size; simpa using this
  clear b1 o5 G0 G1 bA
  have f5 := (box_of E0).1 5 _ rfl
  have f6 := (box_of E0).1 6 _ rfl
  have z0 := (box_of E0).2
  have HE := hide (And.intro E0 E1)
  clear E0 E1
  go_wp2_with fail
  clear f5 f6 z0
  have E0 := heap_setCell_same w1 w.heap.size 5 _ 39 (.slice a7 cs.length c7) HE.out.1
  have E1 := (heap_setCell_other w1 ⟨w.heap.size, 5, none⟩ (w.heap.size + 1) (.slice a7 cs.length c7) (by simp)).trans HE.out.2
  simp at E0
  replace HB := hide (HB.out.setCell (p := ⟨w.heap.size, 5, none⟩) (Nat.le_refl _) (.slice a7 cs.length c7))
  have H5 := hide (ownsRow_setCell_below HO5.out (a := ⟨w.heap.size, 5, none⟩) (by dsimp only; omega) (.slice a7 cs.length c7))
  clear HO5 HE
  have hs1' : w.heap.size + 1 + 1 ≤ (w1.setCell ⟨w.heap.size, 5, none⟩ (.slice a7 cs.length c7)).heap.size := by simpa using hs1
  generalize w1.setCell ⟨w.heap.size, 5, none⟩ (.slice a7 cs.length c7) = w2 at *
  refine (copyListNote _ _ ns (HN.out.at HB.out) (by omega) (one_noteC ns)).mono ?_
  rintro e w3 ⟨v6, rfl, o6, b3⟩
  have HO6 : Hid (OwnN w3 w2.heap.size v6 ns) := hide o6
  obtain ⟨a8, c8, rfl⟩ := ownN_shape HO6.out
  have l5 := OwnC.lt H5.out
  have hlt : Hid (∀ b, (Value.slice a7 cs.length c7).ownBlock = some b → ∀ b', (Value.slice a8 ns.length c8).ownBlock = some b' → b < b') := hide fun b hb b' hb' => Nat.lt_of_lt_of_le (l5 b hb).2 (HO6.out.lt b' hb').1
  replace H5 := hide (OwnC.below H5.out b3)
  replace E0 := (b3.block w.heap.size (by omega)).trans E0
  replace E1 := (b3.block (w.heap.size + 1) (by omega)).trans E1
  replace HB := hide (HB.out.trans (b3.mono HB.out.size))
  have hs3 := b3.size
  clear b3 o6 l5
  have X0 := (box_of E0).1
  have z0 := (box_of E0).2
  have X1 := (box_of E1).1
  have z1 := (box_of E1).2
  have HX0 := hide X0
  have HX1 := hide X1
  clear X0 X1
  have f0 := HX0.out 0 _ rfl
  have f1 := HX0.out 1 _ rfl
  have f2 := HX0.out 2 _ rfl
  have f3 := HX0.out 3 _ rfl
  have f4 := HX0.out 4 _ rfl
  have f5 := HX0.out 5 _ rfl
  have f6 := HX0.out 6 _ rfl
  have r0 := HX1.out 0 _ rfl
  have r1 := HX1.out 1 _ rfl
  have r2 := HX1.out 2 _ rfl
  have r3 := HX1.out 3 _ rfl
  have r4 := HX1.out 4 _ rfl
  have r5 := HX1.out 5 _ rfl
  have r6 := HX1.out 6 _ rfl
  have H1 := hide E1
  clear E0 E1 HX0 HX1
  go_wp2
  refine bodyPost_ret (v := .agg #[.int .i64 k, .int .i64 i, .int .i64 u, .int .i64 c, .int .i64 n, .slice a7 cs.length c7, .slice a8 ns.length c8]) (results_one Tryd.results54 _ _ _ rfl (load7 (put7 ((heap_setCell_other _ _ _ _ (by simp)).trans H1.out) _ _ _ _ _ _ _))) rfl ⟨_, _, rfl, ?_, ?_, ?_, hlt.out⟩
  · refine OwnC.mono (b := w.heap.size + 1 + 1) (ownsRow_setCell_below (ownsRow_setCell_below (ownsRow_setCell_below (ownsRow_setCell_below (ownsRow_setCell_below (ownsRow_setCell_below (ownsRow_setCell_below (ownsRow_setCell_below H5.out ?_ _) ?_ _) ?_ _) ?_ _) ?_ _) ?_ _) ?_ _) ?_ _) (by omega)
    all_goals (dsimp only; omega)
  · refine OwnN.mono (b := w2.heap.size) (ownsRow_setCell_below (ownsRow_setCell_below (ownsRow_setCell_below (ownsRow_setCell_below (ownsRow_setCell_below (ownsRow_setCell_below (ownsRow_setCell_below (ownsRow_setCell_below HO6.out ?_ _) ?_ _) ?_ _) ?_ _) ?_ _) ?_ _) ?_ _) ?_ _) (by omega)
    all_goals (dsimp only; omega)
  · refine (((((((HB.out.setCell ?_ _).setCell ?_ _).setCell ?_ _).setCell ?_ _).setCell ?_ _).setCell ?_ _).setCell ?_ _).setCell ?_ _
    all_goals (dsimp only; omega)
set_option maxRecDepth 100000 in
set_option maxHeartbeats 8000000 in
theorem copySndI (w : World) (base : Int) (v : Value) (ms : List Ms) (h : RdS w w.heap.size v ms) (hm : ms.length ≤ 2000000) (hgd : GoodS ms) :
    Calls Tryd.prog 26 #[sndV base v] w fun e w' => ∃ v', e = .returned (sndV base v') ∧ OwnS w' w.heap.size w'.heap.size v' ms ∧ Below w.heap.size w w' := by
  obtain ⟨xs, rfl, hrd, hmt⟩ := h
  have HR := hide hrd
  have HM := hide hmt
  have HGD : Hid (∀ x ∈ xs, GoodM x.1) := hide (fun x hx => hgd x.1 (List.mem_map_of_mem hx))
  obtain ⟨_, a, cap, rfl, _⟩ := hrd
  rw [List.length_map] at hm
  clear hmt hgd
  unfold sndV
  have G0 := heap_alloc_new w (.cells #[.int .i64 base, .slice a xs.length cap] 26)
  have G1 := heap_alloc_new (w.alloc (.cells #[.int .i64 base, .slice a xs.length cap] 26)) (.cells #[.int .i64 0, .slice none 0 0] 26)
  simp only [World.size_alloc] at G1
  have bA := ((Below.refl w.heap.size w).alloc (Nat.le_refl _) (.cells #[.int .i64 base, .slice a xs.length cap] 26)).alloc (by simp) (.cells #[.int .i64 0, .slice none 0 0] 26)
  have HG := hide (And.intro G0 G1)
  have HA := hide bA
  clear G0 G1 bA
  go_enter Tryd.func26, Tryd.ntmps26
  go_wp2_with fail
  refine (copyListM _ _ xs (HR.out.at HA.out) hm (one_msCs HM.out)).mono ?_
  rintro e w1 ⟨v1, rfl, o1, b1⟩
  have E0 := (b1.block w.heap.size (by simp; omega)).trans ((Below.heap_alloc _ _ _ (by simp)).trans HG.out.1)
  have E1 := (b1.block (w.heap.size + 1) (by simp)).trans HG.out.2
  have hs1 : w.heap.size + 1 + 1 ≤ w1.heap.size := by have := b1.size; simpa using this
  have HB1 := hide (HA.out.trans (b1.mono HA.out.size))
  have o1' : w1.ownsRow (w.heap.size + 1 + 1) 39 7 v1 xs.length (xs.flatMap msC) := by simpa using o1
  have HT := hide (ownT_start o1' rfl (fun q hq => (World.ownsRow.lt o1' q hq).2))
  obtain ⟨a1, c1, e1⟩ : ∃ a1 c1, v1 = .slice a1 xs.length c1 := by
    rcases o1.2 with ⟨e, h0⟩ | ⟨g, c, _, e, _⟩
    · exact ⟨_, _, by rw [e, h0]⟩
    · exact ⟨_, _, e⟩
  subst e1
  have HE := hide (And.intro E0 E1)
  clear b1 o1 o1' E0 E1 HA HG
  generalize hn : xs.length = n at *
  have HN := hide hn
  clear hn
  go_wp2
  go_loopw [11] (fun i wr => ∃ (j : Nat) (ys : List MsX), j ≤ n ∧ i = .int .i64 (j : Int) ∧ Hid (ys.length = j ∧ ys.map Prod.fst = (xs.map Prod.fst).take j) ∧ Hid (OwnT wr (w.heap.size + 1 + 1) wr.heap.size (.slice a1 n c1) ys (xs.drop j)) ∧ Hid (Below w.heap.size w wr) ∧ Hid (w1.heap.size ≤ wr.heap.size ∧ wr.heap[w.heap.size]? = some (.cells #[.int .i64 base, .slice a n cap] 26 (0, 0)) ∧ wr.heap[w.heap.size + 1]? = some (.cells #[.int .i64 0, .slice none 0 0] 26 (0, 0)))) (fun i _ => n - (intOf i).toNat)
  case atStart => exact ⟨0, [], Nat.zero_le _, rfl, hide ⟨rfl, by simp⟩, HT, HB1, hide ⟨Nat.le_refl _, HE.out.1, HE.out.2⟩⟩
  case round =>
    clear HT HB1 HE
    obtain ⟨j, ys, hj, rfl, HY, HO, HB, HE⟩ := hrel
    by_cases hlt : j < n
    · have hjx : j < xs.length := by rw [HN.out]; exact hlt
      have HD : Hid (xs.drop j = xs.getD j default :: xs.drop (j + 1)) := hide (by rw [List.drop_eq_getElem_cons hjx]; simp [hjx])
      have hxm : xs.getD j default ∈ xs := by
        have : xs.getD j default = xs[j] := by simp [hjx]
        rw [this]; exact List.getElem_mem _
      have HP : Hid ((xs.map Prod.fst).take (j + 1) = (xs.map Prod.fst).take j ++ [(xs.getD j default).1]) := hide (by rw [List.take_succ_eq_append_getElem (by simpa using hjx)]; simp [hjx])
      have HMj := hide (HM.out _ hxm)
      have HGj := hide (HGD.out _ hxm)
      have hyj := HY.out.1
      obtain ⟨g, rfl⟩ : ∃ g, a1 = some ⟨g, 0, none⟩ := by
        rcases HO.out.1.2 with ⟨e, h1⟩ | ⟨g, c', _, e, _⟩
        · simp only [Value.slice.injEq] at e; omega
        · simp only [Value.slice.injEq] at e; exact ⟨g, e.1⟩
      have hlen : (ys ++ xs.drop j).length = n := by rw [List.length_append, hyj, List.length_drop, HN.out]; omega
      have hrow := HO.out.1
      rw [hlen] at hrow
      have fc : ∀ r, r < 7 → wr.cell? ⟨g, j * 7 + r, none⟩ = (msC (xs.getD j default))[r]? := fun r hr => by
        rw [World.ownsRow.cellAt hrow _ (by omega), flat_get msC 7 msC_len _ default j r (by rw [hlen]; exact hlt) hr, HD.out]
        have : (ys ++ xs.getD j default :: xs.drop (j + 1)).getD j default = xs.getD j default := by rw [List.getD_eq_getElem?_getD, List.getElem?_append_right (by omega), hyj, Nat.sub_self]; rfl
        rw [this]
      rw [HD.out] at HO
      generalize xs.getD j default = x at *
      obtain ⟨p, cv, nv⟩ := x
      obtain ⟨a5, c5, ec, _⟩ := cells_at HMj.out.1
      obtain ⟨a6, c6, en, _⟩ := notes_at HMj.out.2
      simp only at ec en
      subst ec en
      have d0 := fc 0 (by omega)
      have d1 := fc 1 (by omega)
      have d2 := fc 2 (by omega)
      have d3 := fc 3 (by omega)
      have d4 := fc 4 (by omega)
      have d5 := fc 5 (by omega)
      have d6 := fc 6 (by omega)
      rw [Nat.add_zero] at d0
      simp only [msC, List.getElem?_cons_zero, List.getElem?_cons_succ] at d0 d1 d2 d3 d4 d5 d6
      have hs := HB.out.size
      have bA := (Below.refl wr.heap.size wr).alloc (Nat.le_refl _) (.cells #[.int .i64 p.k, .int .i64 p.i, .int .i64 p.u, .int .i64 p.c, .int .i64 p.n, .slice a5 p.cs.length c5, .slice a6 p.ns.length c6] 39)
      have HA := hide bA
      have hgl : g < wr.heap.size := (World.ownsRow.lt hrow g rfl).2
      have hgb : w.heap.size + 1 + 1 ≤ g := (World.ownsRow.lt hrow g rfl).1
      clear fc hrow hxm bA hlen
      go_wp2_with fail
      clear d0 d1 d2 d3 d4 d5 d6
      refine (copyMsI _ p _ _ ((HMj.out.kept (fun k hk => HB.out.block k hk)).up hs |>.at HA.out) HGj.out).mono ?_
      rintro e w2 ⟨v5, v6, rfl, o5, o6, b2, hord⟩
      obtain ⟨au, cu, rfl⟩ := ownC_shape o5
      obtain ⟨av, cw, rfl⟩ := ownN_shape o6
      have bT := HA.out.trans (b2.mono HA.out.size)
      have hs2 := bT.size
      obtain ⟨hc, hf, ho2⟩ := OwnT.put (z := (p, .slice a5 p.cs.length c5, .slice a6 p.ns.length c6)) (zs := xs.drop (j + 1)) (ys := ys) ((HO.out.below bT).up hs2) (by rw [hyj, List.length_drop, HN.out]; omega) p (.slice au p.cs.length cu) (.slice av p.ns.length cw) (o5.mono (by simp; omega)) (o6.mono (by simp; omega)) (fun q hq => by
        have h1 := o5.lt q hq
        simp only [World.size_alloc] at h1
        refine ⟨by omega, fun x hx e => ?_, h1.2⟩
        have := HO.out.2.2.2.2 x hx q e
        omega) (fun q hq => by
        have h1 := o6.lt q hq
        simp only [World.size_alloc] at h1
        refine ⟨by omega, fun x hx e => ?_, h1.2, fun e => ?_⟩
        · have := HO.out.2.2.2.2 x hx q e
          omega
        · have := hord q e q hq; omega)
      rw [hyj] at hc ho2
      obtain ⟨y0, d0⟩ := hc 0 (by omega)
      obtain ⟨y1, d1⟩ := hc 1 (by omega)
      obtain ⟨y2, d2⟩ := hc 2 (by omega)
      obtain ⟨y3, d3⟩ := hc 3 (by omega)
      obtain ⟨y4, d4⟩ := hc 4 (by omega)
      obtain ⟨y5, d5⟩ := hc 5 (by omega)
      obtain ⟨y6, d6⟩ := hc 6 (by omega)
      rw [Nat.add_zero] at d0
      replace HO := hide ho2
      have HY2 : Hid ((ys ++ [(p, Value.slice au p.cs.length cu, Value.slice av p.ns.length cw)]).length = j + 1 ∧ (ys ++ [(p, Value.slice au p.cs.length cu, Value.slice av p.ns.length cw)]).map Prod.fst = (xs.map Prod.fst).take (j + 1)) := hide ⟨by rw [List.length_append, HY.out.1]; rfl, by rw [List.map_append, HY.out.2, HP.out]; rfl⟩
      replace HB := hide (HB.out.trans (bT.mono HB.out.size))
      replace HB := hide (((((((HB.out.setCell (p := ⟨g, j * 7, none⟩) (by dsimp only; omega) (.int .i64 p.k)).setCell (p := ⟨g, j * 7 + 1, none⟩) (by dsimp only; omega) (.int .i64 p.i)).setCell (p := ⟨g, j * 7 + 2, none⟩) (by dsimp only; omega) (.int .i64 p.u)).setCell (p := ⟨g, j * 7 + 3, none⟩) (by dsimp only; omega) (.int .i64 p.c)).setCell (p := ⟨g, j * 7 + 4, none⟩) (by dsimp only; omega) (.int .i64 p.n)).setCell (p := ⟨g, j * 7 + 5, none⟩) (by dsimp only; omega) (.slice au p.cs.length cu)).setCell (p := ⟨g, j * 7 + 6, none⟩) (by dsimp only; omega) (.slice av p.ns.length cw))
      have hk7 : ∀ q, q ≠ g → (((((((w2.setCell ⟨g, j * 7, none⟩ (.int .i64 p.k)).setCell ⟨g, j * 7 + 1, none⟩ (.int .i64 p.i)).setCell ⟨g, j * 7 + 2, none⟩ (.int .i64 p.u)).setCell ⟨g, j * 7 + 3, none⟩ (.int .i64 p.c)).setCell ⟨g, j * 7 + 4, none⟩ (.int .i64 p.n)).setCell ⟨g, j * 7 + 5, none⟩ (.slice au p.cs.length cu)).setCell ⟨g, j * 7 + 6, none⟩ (.slice av p.ns.length cw)).heap[q]? = w2.heap[q]? := fun q hq => by
        rw [heap_setCell_other _ _ _ _ (by simpa using hq), heap_setCell_other _ _ _ _ (by simpa using hq), heap_setCell_other _ _ _ _ (by simpa using hq), heap_setCell_other _ _ _ _ (by simpa using hq), heap_setCell_other _ _ _ _ (by simpa using hq), heap_setCell_other _ _ _ _ (by simpa using hq), heap_setCell_other _ _ _ _ (by simpa using hq)]
      have HE2 : Hid (w1.heap.size ≤ (((((((w2.setCell ⟨g, j * 7, none⟩ (.int .i64 p.k)).setCell ⟨g, j * 7 + 1, none⟩ (.int .i64 p.i)).setCell ⟨g, j * 7 + 2, none⟩ (.int .i64 p.u)).setCell ⟨g, j * 7 + 3, none⟩ (.int .i64 p.c)).setCell ⟨g, j * 7 + 4, none⟩ (.int .i64 p.n)).setCell ⟨g, j * 7 + 5, none⟩ (.slice au p.cs.length cu)).setCell ⟨g, j * 7 + 6, none⟩ (.slice av p.ns.length cw)).heap.size ∧ _ ∧ _) := hide ⟨by simp; exact Nat.le_trans HE.out.1 hs2, (hk7 _ (by omega)).trans ((bT.block w.heap.size (by omega)).trans HE.out.2.1), (hk7 _ (by omega)).trans ((bT.block (w.heap.size + 1) (by omega)).trans HE.out.2.2)⟩
      clear b2 bT ho2 o5 o6 hc hord hk7 HE HMj HGj
      obtain ⟨mk, mi, mu, mc, mn, mcs, mns⟩ := p
      unfold msV msgV
      simp only at HO HB HE2 ⊢
      go_wp2
      exact ⟨⟨j + 1, ys ++ [(⟨mk, mi, mu, mc, mn, mcs, mns⟩, .slice au mcs.length cu, .slice av mns.length cw)], hlt, by go_num, HY2, hide (by simpa using HO.out), HB, HE2⟩, by simp [intOf]; omega⟩
    · obtain rfl : j = n := by omega
      have HF : Hid (OwnS wr (w.heap.size + 1 + 1) wr.heap.size (.slice a1 j c1) (xs.map Prod.fst)) := hide ⟨ys, by rw [HY.out.2, ← HN.out, ← List.map_take, List.take_length], by have := HO.out; rw [← HN.out, List.drop_length, HN.out] at this; exact this.done⟩
      have f0 := (box_of HE.out.2.1).1 0 _ rfl
      have r0 := (box_of HE.out.2.2).1 0 _ rfl
      have r1 := (box_of HE.out.2.2).1 1 _ rfl
      have z1 := (box_of HE.out.2.2).2
      go_wp2
      refine bodyPost_ret (v := .agg #[.int .i64 base, .slice a1 j c1]) (results_one Tryd.results26 _ _ _ rfl (loadS (put2 HE.out.2.2 _ _))) rfl ⟨_, rfl, ?_, ?_⟩
      · refine ((OwnS.same HF.out (fun q hq _ _ => ?_)).mono (by omega)).up (by simp)
        rw [heap_setCell_other _ _ _ _ (by simp; omega), heap_setCell_other _ _ _ _ (by simp; omega)]
      · exact (HB.out.setCell (by simp) _).setCell (by simp) _
end Go.Proofs.YtkfnpijljpbiaaaDoor
/-
  Messages and senders copied by the model.
-/
namespace Go.Proofs.YtkfnpijljpbiaaaDoor
open Go.RowKit

/-- 'append(v, message)', v being a row of one's own, the message with parts of its own. -/
theorem run_app_Ms {w : World} (ty : TypeId) (base hi g c : Nat) (v : Value) (xs : List MsX) (y : MsX) (hown : OwnY w base hi v xs)
    (hb : Box w g (msC y)) (hc : OwnC w base y.2.1 y.1.cs) (hn : OwnN w base y.2.2 y.1.ns) (hf1 : ∀ q, y.2.1.ownBlock = some q → v.ownBlock ≠ some q ∧ ∀ z ∈ vals xs, z.ownBlock ≠ some q)
    (hf2 : ∀ q, y.2.2.ownBlock = some q → v.ownBlock ≠ some q ∧ (∀ z ∈ vals xs, z.ownBlock ≠ some q) ∧ y.2.1.ownBlock ≠ some q) (hsm : xs.length ≤ 2000000) (hbase : base ≤ w.heap.size) :
    ∃ v' w', (Builtin.append_ #[24, 24] ty #[v, .slice (some ⟨g, 0, none⟩) 1 c]).run Tryd.prog w = .ok v' w' ∧ OwnY w' base w'.heap.size v' (xs ++ [y]) ∧ w.grownBy w' v.ownBlock ∧ (v'.ownBlock = v.ownBlock ∨ v'.ownBlock = some w.heap.size) := by
  obtain ⟨i0, hi0, hz0, hz1, hz2⟩ := info_parts Tryd.infoMs
  obtain ⟨ay, cy, hy⟩ := ownC_shape hc
  obtain ⟨an, cn, hy2⟩ := ownN_shape hn
  obtain ⟨v', w', hr, ho', hg', _, ha'⟩ := run_append_own_at (P := Tryd.prog) w base 24 ty 39 i0 (.agg #[.int .i64 0, .int .i64 0, .int .i64 0, .int .i64 0, .int .i64 0, .slice none 0 0, .slice none 0 0]) 7 88 Tryd.underlying24 hi0 hz0 hz1 hz2 rfl (by decide) v xs.length (xs.flatMap msC) hown.1 ⟨g, 0, none⟩ 1 c (msC y) rfl (fun j u hu => by rw [Addr.add_lit, Nat.zero_add]; exact hb j u hu) (fun u hu => by unfold msC at hu; rw [hy, hy2] at hu; simp at hu; rcases hu with rfl | rfl | rfl | rfl | rfl | rfl | rfl <;> rfl) (by unfold maxLen; omega) (by omega) hbase
  obtain ⟨h0, h1, h2, h3, h4⟩ := hown
  have hs := sep_snoc h2 hf1 hf2
  have hlt : ∀ z ∈ vals (xs ++ [y]), ∀ q, z.ownBlock = some q → q < w.heap.size := by
    intro z hz q hq
    obtain ⟨t, ht, hz⟩ := List.mem_flatMap.1 hz
    have hp : OwnC w base t.2.1 t.1.cs ∧ OwnN w base t.2.2 t.1.ns := by
      rcases List.mem_append.1 ht with ht | ht
      · exact h1 t ht
      · obtain rfl := List.mem_singleton.1 ht
        exact ⟨hc, hn⟩
    simp at hz
    rcases hz with rfl | rfl
    · exact (hp.1.lt q hq).2
    · exact (hp.2.lt q hq).2
  refine ⟨v', w', hr, ⟨?_, ?_, ⟨?_, hs.2⟩, fun q hq => (World.ownsRow.lt ho' q hq).2, fun z hz q hq => Nat.lt_of_lt_of_le (hlt z hz q hq) hg'.size⟩, hg', ha'⟩
  · rw [List.length_append, List.flatMap_append]
    simpa using ho'
  · intro t ht
    have hk := vals_mem ht
    have hp : OwnC w base t.2.1 t.1.cs ∧ OwnN w base t.2.2 t.1.ns := by
      rcases List.mem_append.1 ht with ht | ht
      · exact h1 t ht
      · obtain rfl := List.mem_singleton.1 ht
        exact ⟨hc, hn⟩
    exact ⟨ownC_kept hp.1 hg' (fun q hq => hs.1 _ hk.1 q hq), ownN_kept hp.2 hg' (fun q hq => hs.1 _ hk.2 q hq)⟩
  · intro z hz q hq e
    have hq2 := hlt z hz q hq
    rcases ha' with ha | ha
    · rw [ha] at e
      exact hs.1 z hz q hq e
    · rw [ha] at e; cases e; omega

theorem wp_app_Ms {w : World} {o : Oper} {act : Act} {K : Act → World → Prop} {Q : Exit → Act → World → Prop} (s x : Operand)
    (ho : o.op = .call { callee := .builtin .append, args := #[s, x], argTypes := #[24, 24] }) (base hi g c : Nat) (v : Value) (xs : List MsX) (y : MsX) (hs : act.eval s = v) (hown : OwnY w base hi v xs)
    (hx : act.eval x = .slice (some ⟨g, 0, none⟩) 1 c) (hb : Box w g (msC y)) (hc : OwnC w base y.2.1 y.1.cs) (hn : OwnN w base y.2.2 y.1.ns) (hf1 : ∀ q, y.2.1.ownBlock = some q → v.ownBlock ≠ some q ∧ ∀ z ∈ vals xs, z.ownBlock ≠ some q)
    (hf2 : ∀ q, y.2.2.ownBlock = some q → v.ownBlock ≠ some q ∧ (∀ z ∈ vals xs, z.ownBlock ≠ some q) ∧ y.2.1.ownBlock ≠ some q) (hsm : xs.length ≤ 2000000) (hbase : base ≤ w.heap.size)
    (h : ∀ v' w', OwnY w' base w'.heap.size v' (xs ++ [y]) → w.grownBy w' v.ownBlock → (v'.ownBlock = v.ownBlock ∨ v'.ownBlock = some w.heap.size) → K (act.put o.dst v') w') :
    Oper.wp Tryd.prog o act w K Q := by
  obtain ⟨v', w', hr, h1, h2, h3⟩ := run_app_Ms o.type base hi g c v xs y hown hb hc hn hf1 hf2 hsm hbase
  unfold Oper.wp execOp
  simp only [ho, resolve, invoke, builtin, Sem.run_bind, Sem.run_pure, Result.andThen_ok, List.map_toArray, List.map_cons, List.map_nil, hs, hx, hr]
  exact h v' w' h1 h2 h3

/-- The same at a step of a region that draws its order. -/
theorem step_app_Ms {w : World} {ops : Array Oper} {o : Oper} {act : Act} {K : Act → World → Prop} {Q : Exit → Act → World → Prop} {E : Prop} (hgd : o.guard = none) (s x : Operand)
    (ho : o.op = .call { callee := .builtin .append, args := #[s, x], argTypes := #[24, 24] }) (base hi g c : Nat) (v : Value) (xs : List MsX) (y : MsX) (hs : act.eval s = v) (hown : OwnY w base hi v xs)
    (hx : act.eval x = .slice (some ⟨g, 0, none⟩) 1 c) (hb : Box w g (msC y)) (hc : OwnC w base y.2.1 y.1.cs) (hn : OwnN w base y.2.2 y.1.ns) (hf1 : ∀ q, y.2.1.ownBlock = some q → v.ownBlock ≠ some q ∧ ∀ z ∈ vals xs, z.ownBlock ≠ some q)
    (hf2 : ∀ q, y.2.2.ownBlock = some q → v.ownBlock ≠ some q ∧ (∀ z ∈ vals xs, z.ownBlock ≠ some q) ∧ y.2.1.ownBlock ≠ some q) (hsm : xs.length ≤ 2000000) (hbase : base ≤ w.heap.size)
    (h : ∀ v' w', OwnY w' base w'.heap.size v' (xs ++ [y]) → w.grownBy w' v.ownBlock → (v'.ownBlock = v.ownBlock ∨ v'.ownBlock = some w.heap.size) → K (act.put o.dst v') w') :
    if Region.wanted o (yielded ops act.tmps) = true then Oper.wp Tryd.prog o act w K Q else E := by
  have hw : Region.wanted o (yielded ops act.tmps) = true := by simp [Region.wanted, hgd]
  rw [if_pos hw]
  exact wp_app_Ms s x ho base hi g c v xs y hs hown hx hb hc hn hf1 hf2 hsm hbase h

theorem OwnY.shape {w : World} {b hi : Nat} {v : Value} {xs : List MsX} (h : OwnY w b hi v xs) : ∃ a c, v = .slice a xs.length c := by
  rcases h.1.2 with ⟨rfl, h0⟩ | ⟨g, c, _, rfl, _⟩
  · exact ⟨_, _, by rw [h0]⟩
  · exact ⟨_, _, rfl⟩

theorem step_callM {P : Program} {ops : Array Oper} {o : Oper} {a : Act} {w : World} {K : Act → World → Prop} {Q : Exit → Act → World → Prop} {E : Prop} {R : Ending → World → Prop} (hgd : o.guard = none) (f : FuncId) (xs : Array Operand) (ts : Array TypeId) (_ho : o.op = .call { callee := .value (.func f), args := xs, argTypes := ts })
    (args : Array Value) (hrun : (execOp a.eval o).run P w = .ok (.enter f args) w) (hc : Calls P f args w R) (h : ∀ e w', R e w' → ∃ v, e = .returned v ∧ K (a.put o.dst v) w') :
    if Region.wanted o (yielded ops a.tmps) = true then Oper.wp P o a w K Q else E := by
  have hw : Region.wanted o (yielded ops a.tmps) = true := by simp [Region.wanted, hgd]
  rw [if_pos hw]
  unfold Oper.wp
  rw [hrun, Oper.upon_enter]
  refine hc.mono fun e w' hh => ?_
  obtain ⟨v, rfl, hk⟩ := h e w' hh
  exact hk

/-- 'append(v, src...)', v a row of one's own, src what may be read. -/
theorem app_rows {P : Program} {w : World} {ops : Array Oper} {rest : List Oper} {o : Oper} {act : Act} {Q : Exit → Act → World → Prop} (hgd : o.guard = none) (s x : Operand) (t : TypeId)
    (ho : o.op = .call { callee := .builtin .append, args := #[s, x], argTypes := #[t, t] })
    (base : Nat) (e : TypeId) (i : TypeInfo) (z : Value) (size bytes : Nat) (ht : P.underlying t = some (.slice e)) (hi : P.info? e = some i) (hz : i.zero = some z)
    (hsize : i.size = size) (hby : i.bytes = bytes) (hzs : z.cells.size = size) (hsz : 0 < size)
    (v : Value) (n : Nat) (xs : List Value) (hs : act.eval s = v) (hown : w.ownsRow base e size v n xs)
    (a : Option Addr) (m c B : Nat) (news : List Value) (hx : act.eval x = .slice a m c) (hrd : Rd w B size (.slice a m c) m news) (h1 : ∀ u ∈ news, u.oneCell' = true)
    (h63 : n + m ≤ maxLen) (hbytes : (n + m) * bytes ≤ 140737488355328) (hbase : base ≤ w.heap.size)
    (h : ∀ v' w', w'.ownsRow base e size v' (n + m) (xs ++ news) → w.grownBy w' v.ownBlock → (v'.ownBlock = v.ownBlock ∨ v'.ownBlock = some w.heap.size) → wpList P ops Q rest (act.put o.dst v') w') :
    wpList P ops Q (o :: rest) act w := by
  obtain ⟨hl, a', c', ea, hcap, hnone, hc⟩ := hrd
  cases ea
  cases a with
  | none =>
    obtain rfl := hnone rfl
    obtain rfl : m = 0 := by omega
    have hnil : news = [] := List.eq_nil_of_length_eq_zero (by simpa using hl)
    subst hnil
    refine wpList_append_own_none hgd s x t ho base e i size ht hi v n xs hs hown hx (h v w ?_ (World.grownBy.refl _ _) (.inl rfl))
    rw [List.append_nil]; exact hown
  | some ad =>
    refine wpList_append_own_at w hgd s x t ho base e i z size bytes ht hi hz hsize hby hzs hsz v n xs hs hown ad m c news hx hl (fun j u hu => ?_) h1 h63 hbytes hbase (fun v' w' ho' hg' _ ha' => h v' w' ho' hg' ha')
    have hj := (List.getElem?_eq_some_iff.1 hu).1
    have hp : 0 < m := by
      rcases Nat.eq_zero_or_pos m with h0 | h0
      · rw [hl, h0] at hj; omega
      · exact h0
    obtain ⟨b, o', e, _, hcc⟩ := hc hp
    cases e
    rw [Addr.add_lit, hcc j (by omega)]
    exact hu

theorem own_none {w : World} {T sz : Nat} : (w.alloc (.cells #[] T)).ownsRow w.heap.size T sz (.slice (some ⟨w.heap.size, 0, none⟩) 0 0) 0 [] :=
  ⟨by simp, .inr ⟨w.heap.size, 0, #[], rfl, Nat.le_refl _, heap_alloc_new w _, Nat.le_refl _, by simp, by simp, by simp⟩⟩

end Go.Proofs.YtkfnpijljpbiaaaDoor
