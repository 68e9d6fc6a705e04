/-
  Joined: CopyG, ClkI.
-/
import Derived.Test.YtllghgcancennaaJ3
import Derived.Laws.CopyRow
import Derived.Laws.IdiomCopy
import Derived.Laws.CopyOwn
import Derived.Test.YtllghgcancennaaJ24
import Derived.Test.YtllghgcancennaaJ9
import Derived.BigQuiet
/-
  'copy' on rows of elements of several cells.
-/
namespace Go.Proofs.Ytllghgcancennaa
open Go.RowKit

theorem run_copy_rowN {P : Program} (w : World) (dT sT ty elem : TypeId) (g dLen dCap : Nat) (a : Addr) (sLen sCap sz : Nat) (cur : Array Value) (t : TypeId) (cs : List Value)
    (hu : P.underlying dT = some (.slice elem)) (hs : (P.info? elem).map (·.size) = some sz)
    (hg : w.heap[g]? = some (.cells cur t (0, 0))) (hm : Nat.min sLen dLen = sLen) (hn : cs.length = sLen * sz)
    (hsrc : ∀ j v, cs[j]? = some v → w.cell? (a.add j) = some v) (hfit : cs.length ≤ cur.size) (h1 : ∀ v ∈ cs, v.oneCell' = true) :
    (Builtin.copy_ #[dT, sT] ty #[.slice (some ⟨g, 0, none⟩) dLen dCap, .slice (some a) sLen sCap]).run P w =
      .ok (goInt sLen) (w.setRow g (cur.toList.take 0 ++ cs ++ cur.toList.drop (0 + cs.length)).toArray) := by
  have hl := run_loadCells_list (P := P) w a cs hsrc
  have hst := run_storeCells_at P g 0 t cs 0 cur w hg (by simpa using hfit) h1
  cases hq : P.info? elem with
  | none => simp [hq] at hs
  | some i =>
    have hi : i.size = sz := by simpa [hq] using hs
    have hmm : min sLen dLen = sLen := hm
    rw [hn] at hl
    simp [Builtin.copy_, run_underlying hu, Builtin.lenOf, Builtin.firstCells, sizeOf, typeInfo, hq, hi, hmm, hl, hst]

theorem own_copied {w : World} {base e sz g n c : Nat} {xs cs : List Value} {cur : Array Value} (h : w.ownsRow base e sz (.slice (some ⟨g, 0, none⟩) n c) n xs) (hg : w.heap[g]? = some (.cells cur e (0, 0))) (hl : cs.length ≤ n * sz) :
    (w.setRow g (cur.toList.take 0 ++ cs ++ cur.toList.drop (0 + cs.length)).toArray).ownsRow base e sz (.slice (some ⟨g, 0, none⟩) n c) n (cs ++ xs.drop cs.length) := by
  obtain ⟨hx, hr⟩ := h
  rcases hr with ⟨e0, _⟩ | ⟨g', cap, cur', e0, hb, hgg, h2, h3, h4, h5⟩
  · cases e0
  · cases e0
    rw [hg] at hgg
    cases hgg
    refine ⟨by rw [List.length_append, List.length_drop, hx]; omega, .inr ⟨g, c, _, rfl, hb, setRow_heap w g _ _ e _ hg, h2, h3, ?_, ?_⟩⟩
    · have hcs : cs.length ≤ c * sz := Nat.le_trans hl (Nat.mul_le_mul_right _ h2)
      simp
      omega
    · simp only [List.take_zero, List.nil_append, Nat.zero_add]
      rw [List.take_append, List.take_of_length_le hl, ← h5, List.drop_take]

theorem grown_setRow {w : World} {g : Nat} (cs : Array Value) : w.grownBy (w.setRow g cs) (some g) :=
  ⟨rfl, rfl, rfl, by simp [World.setRow], fun k _ hk => setRow_other w g k cs (fun e => hk (by rw [e]))⟩

/-- 'copy(dst, src)', dst a row of one's own, src no longer than it. -/
theorem wpList_copy_rows {P : Program} {w : World} {ops : Array Oper} {rest : List Oper} {o : Oper} {act : Act} {Q : Exit → Act → World → Prop} (hgd : o.guard = none) (d s : Operand) (dT sT : TypeId)
    (ho : o.op = .call { callee := .builtin .copy, args := #[d, s], argTypes := #[dT, sT] }) (elem : TypeId) (hu : P.underlying dT = some (.slice elem)) (sz : Nat) (hsz : (P.info? elem).map (·.size) = some sz)
    (base g n c : Nat) (xs : List Value) (hd : act.eval d = .slice (some ⟨g, 0, none⟩) n c) (hown : w.ownsRow base elem sz (.slice (some ⟨g, 0, none⟩) n c) n xs)
    (ad : Addr) (m sCap : Nat) (hs : act.eval s = .slice (some ad) m sCap) (hmn : m ≤ n) (cs : List Value) (hn : cs.length = m * sz) (hsrc : ∀ j v, cs[j]? = some v → w.cell? (ad.add j) = some v) (h1 : ∀ v ∈ cs, v.oneCell' = true)
    (h : ∀ w', w'.ownsRow base elem sz (.slice (some ⟨g, 0, none⟩) n c) n (cs ++ xs.drop cs.length) → w.grownBy w' (some g) → wpList P ops Q rest (act.put o.dst (goInt m)) w') :
    wpList P ops Q (o :: rest) act w := by
  have hle : cs.length ≤ n * sz := by rw [hn]; exact Nat.mul_le_mul_right _ hmn
  obtain ⟨cur, hg, hcz⟩ : ∃ cur, w.heap[g]? = some (.cells cur elem (0, 0)) ∧ n * sz ≤ cur.size := by
    rcases hown.2 with ⟨e0, _⟩ | ⟨g', cap, cur, e0, hb, hgg, h2, h3, h4, h5⟩
    · cases e0
    · cases e0
      exact ⟨cur, hgg, by rw [h4]; exact Nat.mul_le_mul_right _ h2⟩
  refine wpList_plain hgd fun K hK => ?_
  have hrun := run_copy_rowN (P := P) w dT sT o.type elem g n c ad m sCap sz cur elem cs hu hsz hg (Nat.min_eq_left hmn) hn hsrc (Nat.le_trans hle hcz) h1
  unfold Oper.wp
  simp only [execOp, ho, resolve, invoke, builtin, Sem.run_bind, Sem.run_pure, Result.andThen_ok, List.map_toArray, List.map_cons, List.map_nil, hd, hs, hrun]
  exact hK _ _ (h _ (own_copied hown hg hle) (grown_setRow _))

/-- Nothing goes over where src has no element. -/
theorem wpList_copy_zero {P : Program} {w : World} {ops : Array Oper} {rest : List Oper} {o : Oper} {act : Act} {Q : Exit → Act → World → Prop} (hgd : o.guard = none) (d s : Operand) (dT sT : TypeId)
    (ho : o.op = .call { callee := .builtin .copy, args := #[d, s], argTypes := #[dT, sT] }) (elem : TypeId) (hu : P.underlying dT = some (.slice elem)) (hsz : ((P.info? elem).map (·.size)).isSome = true)
    (x : Addr) (n c : Nat) (hd : act.eval d = .slice (some x) n c) (sp : Option Addr) (sCap : Nat) (hs : act.eval s = .slice sp 0 sCap)
    (h : wpList P ops Q rest (act.put o.dst (goInt 0)) w) :
    wpList P ops Q (o :: rest) act w := by
  refine wpList_plain hgd fun K hK => ?_
  have hrun : (Builtin.copy_ #[dT, sT] o.type #[.slice (some x) n c, .slice sp 0 sCap]).run P w = .ok (goInt 0) w := by
    cases hq : P.info? elem with
    | none => simp [hq] at hsz
    | some i =>
      have hl : ∀ (x : Addr), (loadCells x 0).run P w = .ok #[] w := fun x => by simpa using run_loadCells_list (P := P) w x [] (by simp)
      cases sp <;> simp [Builtin.copy_, run_underlying hu, Builtin.lenOf, Builtin.firstCells, sizeOf, typeInfo, hq, storeCells, hl]
  unfold Oper.wp
  simp only [execOp, ho, resolve, invoke, builtin, Sem.run_bind, Sem.run_pure, Result.andThen_ok, List.map_toArray, List.map_cons, List.map_nil, hd, hs, hrun]
  exact hK _ _ h

theorem rd_src {w : World} {B sz n c : Nat} {a : Option Addr} {cs : List Value} (h : Rd w B sz (.slice a n c) n cs) (hp : 0 < n) : ∃ ad, a = some ad ∧ ∀ j v, cs[j]? = some v → w.cell? (ad.add j) = some v := by
  obtain ⟨h0, a', cap, e, _, _, hx⟩ := h
  cases e
  obtain ⟨b, o, rfl, _, hc⟩ := hx hp
  refine ⟨_, rfl, fun j v hv => ?_⟩
  have hj : j < n * sz := by rw [← h0]; exact (List.getElem?_eq_some_iff.1 hv).1
  rw [Addr.add_lit, hc j hj]; exact hv

end Go.Proofs.Ytllghgcancennaa
/-
  Clocks in the program: Join2, Knows, Tick.
-/
namespace Go.Proofs.Ytllghgcancennaa
open Go.RowKit

set_option maxRecDepth 100000 in
set_option maxHeartbeats 4000000 in
theorem copySt (w : World) (v : Value) (xs : List Smp) (h : Reads w w.heap.size (smps xs) v) (hm : xs.length ≤ 2000000) :
    Calls Try.prog 76 #[v] w fun e w' => rowP w w' (smps xs) e := by
  have HF1 := hide (flat_smpI xs)
  obtain ⟨i0, hi, hz0, hz1, hz2⟩ := info_parts Try.infoSmp
  have HSZ : Hid ((Try.prog.info? 72).map (·.size) = some 2) := hide (by rw [hi]; simp [hz1])
  unfold smps Reads at h
  obtain ⟨us, hrd, hds⟩ := h
  have HDS := hide hds
  have H1 := hide (one_flat HF1.out hds)
  have HR := hide hrd
  obtain ⟨hfl, a, cap, rfl, _⟩ := hrd
  clear hds
  by_cases h0 : xs.length = 0
  · have hnil := List.eq_nil_of_length_eq_zero h0
    subst hnil
    go_enter Try.func76, Try.ntmps76
    go_wp2
    go_ret
    exact ⟨_, rfl, ownD_nil _ _ _ _ _, Below.refl _ _⟩
  · obtain ⟨ad, rfl, hsrc⟩ := rd_src HR.out (by omega)
    have HSR := hide hsrc
    have HFL := hide hfl
    have hne : ¬ ((xs.length : Int) = 0) := by omega
    clear hsrc hfl HR
    obtain ⟨n, hn⟩ : ∃ n, xs.length = n := ⟨_, rfl⟩
    have HNN := hide hn
    rw [hn] at hm h0 hne HFL ⊢
    clear hn
    go_enter Try.func76, Try.ntmps76
    go_wp2_with (first
      | (at_make; refine wpList_make_full _ rfl _ _ 44 rfl w.heap.size 72 i0 (.agg #[.int .i64 0, .int .i64 0]) 2 Try.underlying44 hi hz0 hz1 _ _ _ _ n rfl rfl rfl rfl (by rw [hz2]; omega) (by unfold maxLen; omega) (Nat.le_refl _) ?_; intro w1 ho1 hg1; have HO1 := hide ho1; have HG1 := hide hg1; have HSR1 : Hid (∀ (j : Nat) (u : Value), us[j]? = some u → w1.cell? (ad.add j) = some u) := hide (fun j u hu => (((Below.refl w.heap.size w).grown HG1.out (Nat.le_refl _) (fun k hk => by cases hk)).cell (World.block_lt_of_cell? w _ (HSR.out j u hu))).trans (HSR.out j u hu)); clear ho1 hg1)
      | (refine wpList_copy_rows rfl _ _ 44 44 rfl 72 Try.underlying44 2 HSZ.out w.heap.size w.heap.size n n _ rfl HO1.out ad n cap rfl (Nat.le_refl _) us HFL.out HSR1.out H1.out ?_; intro w2 ho2 hg2; have HO2 := hide ho2; have HG2 := hide hg2; clear ho2 hg2))
    have HF : Hid (w2.ownsRow w.heap.size 72 2 (.slice (some ⟨w.heap.size, 0, none⟩) n n) n us) := hide (by
      have h2 := HO2.out
      rwa [List.drop_eq_nil_of_le (by rw [HO1.out.1, HFL.out]; exact Nat.le_refl _), List.append_nil] at h2)
    have HB : Hid (Below w.heap.size w w2) := hide (((Below.refl w.heap.size w).grown HG1.out (Nat.le_refl _) (fun k hk => by cases hk)).grown HG2.out ((Below.refl w.heap.size w).grown HG1.out (Nat.le_refl _) (fun k hk => by cases hk)).size (fun k hk => by cases hk; exact Nat.le_refl _))
    clear HO1 HO2 HG1 HG2
    go_ret
    refine ⟨_, rfl, ⟨[w.heap.size], ?_, by simp, fun q hq => ?_⟩, HB.out⟩
    · unfold smps Owns
      rw [HNN.out]
      exact ⟨us, [], HF.out, ownsL_flat (fun d hd => by obtain ⟨u, hu, _⟩ := HF1.out d hd; exact ⟨u, hu⟩) (ReadsL.low HDS.out HB.out (Nat.le_refl _)), rfl⟩
    · have hq' : q = w.heap.size := by simpa using hq
      subst hq'
      exact (World.ownsRow.lt HF.out _ rfl).2
theorem blw_drewN {B : Nat} {a w : World} (h : Below B a w) (n : Nat) : Below B a (w.drewN n) := h.trans ⟨rfl, rfl, rfl, Nat.le_refl _, fun _ _ => rfl⟩
theorem smp_ext {x y : Smp} (h1 : x.w = y.w) (h2 : x.n = y.n) : x = y := by
  cases x; cases y; cases h1; cases h2; rfl
theorem knows_eq {a b : List Smp} (ha : clkB a = true) (hb : clkB b = true) : knowsB a b = true ↔ joinK a b = a := by
  have hj := joinC_yes ha hb
  constructor
  · intro h
    rw [← hj.1]
    exact join_of ha hb h
  · intro h
    refine knows_mk ha hb (fun q => ?_)
    have := hj.2.2 q
    rw [hj.1, h] at this
    omega
set_option maxRecDepth 100000 in
set_option maxHeartbeats 8000000 in
theorem equalI (w : World) (xs ys : List Smp) (u v : Value) (h1 : Reads w w.heap.size (smps xs) u) (h2 : Reads w w.heap.size (smps ys) v) (hx : xs.length ≤ 2000000) :
    Calls Try.prog 54 #[u, v] w fun e w' => ∃ r : Bool, e = .returned (.bool r) ∧ (r = true ↔ xs = ys) ∧ Below w.heap.size w w' := by
  have HR := hide h1
  have HS := hide h2
  obtain ⟨a1, c1, e1, _⟩ := h1.shape
  obtain ⟨a2, c2, e2, _⟩ := h2.shape
  subst e1 e2
  clear h1 h2
  go_enter Try.func54, Try.ntmps54
  by_cases hne : xs.length = ys.length
  · go_wp2
    go_loopw [13] (fun i wr => ∃ j : Nat, j ≤ xs.length ∧ i = .int .i64 (j : Int) ∧ Hid (∀ k, k < j → xs.getD k default = ys.getD k default) ∧ Hid (Below w.heap.size w wr)) (fun i _ => xs.length - (intOf i).toNat)
    case atStart => exact ⟨0, Nat.zero_le _, rfl, hide (fun k hk => absurd hk (Nat.not_lt_zero k)), hide (Below.refl _ _)⟩
    case round =>
      obtain ⟨j, hj, rfl, HA, HBr⟩ := hrel
      by_cases hlt : j < xs.length
      · obtain ⟨a', cap', ea, hcap, _, hc⟩ := stamp_at (HR.out.at HBr.out)
        cases ea
        obtain ⟨b1, o1, rfl, hb1, hcell⟩ := hc (by omega)
        obtain ⟨d0, d1⟩ := hcell j hlt
        clear hcell hc
        obtain ⟨a', cap', ea, hcap', _, hc⟩ := stamp_at (HS.out.at HBr.out)
        cases ea
        obtain ⟨b2, o2, rfl, hb2, hcell⟩ := hc (by omega)
        obtain ⟨d2, d3⟩ := hcell j (by omega)
        clear hcell hc
        have hlt2 : j < ys.length := by omega
        obtain ⟨y, hy⟩ : ∃ y, xs.getD j default = y := ⟨_, rfl⟩
        obtain ⟨z, hz⟩ : ∃ z, ys.getD j default = z := ⟨_, rfl⟩
        rw [hy] at d0 d1
        rw [hz] at d2 d3
        have HY := hide hy
        have HZ := hide hz
        clear hy hz
        have HN : Hid (y ≠ z → ¬ xs = ys) := hide (fun h e => h (by rw [← HY.out, ← HZ.out, e]))
        by_cases hw : y.w = z.w
        · by_cases hn : y.n = z.n
          · have hyz := smp_ext hw hn
            have HA2 : Hid (∀ k, k < j + 1 → xs.getD k default = ys.getD k default) := hide (fun k hk => by
              by_cases hkj : k = j
              · rw [hkj, HY.out, HZ.out, hyz]
              · exact HA.out k (by omega))
            clear HA HN
            have n1 : (y.w == z.w) = true := by simp [hw]
            have n2 : (y.n == z.n) = true := by simp [hn]
            go_wp2
            go_quiet (fail)
            go_wp2
            exact ⟨⟨j + 1, by omega, by go_num, HA2, hide (blw_drewN HBr.out _)⟩, by simp [intOf]; omega⟩
          · have HF : Hid (¬ xs = ys) := hide (HN.out (fun e => hn (by rw [e])))
            clear HA HN
            have n1 : (y.w == z.w) = true := by simp [hw]
            have n2 : (y.n == z.n) = false := by simp [hn]
            go_wp2
            go_quiet (fail)
            go_wp2
            go_ret
            exact ⟨_, rfl, by simp [HF.out], blw_drewN HBr.out _⟩
        · have HF : Hid (¬ xs = ys) := hide (HN.out (fun e => hw (by rw [e])))
          clear HA HN
          have n1 : (y.w == z.w) = false := by simp [hw]
          go_wp2
          go_quiet (fail)
          go_wp2
          go_ret
          exact ⟨_, rfl, by simp [HF.out], blw_drewN HBr.out _⟩
      · have he : j = xs.length := by omega
        have HF : Hid (xs = ys) := hide (by
          refine List.ext_getElem hne (fun k hk hk2 => ?_)
          have := HA.out k (by omega)
          rwa [List.getD_eq_getElem?_getD, List.getD_eq_getElem?_getD, List.getElem?_eq_getElem hk, List.getElem?_eq_getElem hk2] at this)
        go_wp2
        go_ret
        exact ⟨_, rfl, by simp [HF.out], HBr.out⟩
  · have HF : Hid (¬ xs = ys) := hide (fun e => hne (by rw [e]))
    have hn : ¬ ((xs.length : Int) = ys.length) := by omega
    go_wp2
    go_ret
    exact ⟨_, rfl, by simp [HF.out], Below.refl _ _⟩
def cjL (a b : List Smp) (j : Nat) : List Smp := if j = 0 then [] else if j = 1 then a else joinK a b
set_option maxRecDepth 100000 in
set_option maxHeartbeats 8000000 in
theorem joinClocksI (w : World) (g : Nat) (a b : List Smp) (u1 u2 : Value) (hb : w.heap[g]? = some (.cells #[u1, u2] 44 (0, 0))) (h1 : Reads w w.heap.size (smps a) u1) (h2 : Reads w w.heap.size (smps b) u2) (hl : a.length + b.length ≤ 2000000) :
    Calls Try.prog 55 #[.slice (some ⟨g, 0, none⟩) 2 2] w fun e w' => rowP w w' (smps (joinK a b)) e := by
  have R1 := hide h1
  have R2 := hide h2
  obtain ⟨a1, c1, e1, _⟩ := h1.shape
  obtain ⟨a2, c2, e2, _⟩ := h2.shape
  subst e1 e2
  clear h1 h2
  have q0 := (box_of hb).1 0 _ rfl
  have q1 := (box_of hb).1 1 _ rfl
  have hgl : g < w.heap.size := (Array.getElem?_eq_some_iff.1 hb).1
  clear hb
  go_enter Try.func55, Try.ntmps55
  go_wp2
  go_loopw [3, 8] (fun v i wr => ∃ j : Nat, j ≤ 2 ∧ i = .int .i64 (j : Int) ∧ Hid (OwnD wr w.heap.size wr.heap.size (smps (cjL a b j)) v) ∧ Hid (Below w.heap.size w wr)) (fun _ i _ => 2 - (intOf i).toNat)
  case atStart => exact ⟨0, by omega, rfl, hide (ownD_nil _ _ _ _ _), hide (Below.refl _ _)⟩
  case round =>
    obtain ⟨j, hj, rfl, HO, HBr⟩ := hrel
    have hsz := HBr.out.size
    rcases (show j = 0 ∨ j = 1 ∨ j = 2 by omega) with rfl | rfl | rfl
    · obtain ⟨ax, cx, ex⟩ := (HO.out).shape
      subst ex
      have p0 := (HBr.out.cell (p := ⟨g, 0, none⟩) hgl).trans q0
      have hsz := HBr.out.size
      go_wp2_with fail
      refine (mergeK _ [] a _ _ (HO.out.rd (Nat.le_refl _)) (R1.out.at HBr.out) (by simp; omega)).mono ?_
      rintro e w9 ⟨r, rfl, o9, b9⟩
      have HO9 : Hid (OwnD w9 w.heap.size w9.heap.size (smps (cjL a b 1)) r) := hide (by
        have h9 := o9.mono hsz
        rw [show joinK [] a = cjL a b 1 by unfold cjL; rw [joinK]; rfl] at h9
        exact h9)
      have HB9 := hide (HBr.out.trans (b9.mono hsz))
      clear o9 b9 HO HBr p0
      go_wp2
      exact ⟨⟨1, by omega, by first | rfl | go_num, HO9, HB9⟩, by simp [intOf]⟩
    · obtain ⟨ax, cx, ex⟩ := (HO.out).shape
      subst ex
      have p0 := (HBr.out.cell (p := ⟨g, 1, none⟩) hgl).trans q1
      have hsz := HBr.out.size
      go_wp2_with fail
      refine (mergeK _ a b _ _ (HO.out.rd (Nat.le_refl _)) (R2.out.at HBr.out) (by omega)).mono ?_
      rintro e w9 ⟨r, rfl, o9, b9⟩
      have HO9 : Hid (OwnD w9 w.heap.size w9.heap.size (smps (cjL a b 2)) r) := hide (by
        have h9 := o9.mono hsz
        rw [show joinK a b = cjL a b 2 by rfl] at h9
        exact h9)
      have HB9 := hide (HBr.out.trans (b9.mono hsz))
      clear o9 b9 HO HBr p0
      go_wp2
      exact ⟨⟨2, by omega, by first | rfl | go_num, HO9, HB9⟩, by simp [intOf]⟩
    · obtain ⟨ax, cx, ex⟩ := (HO.out).shape
      subst ex
      go_wp2
      go_ret
      exact ⟨_, rfl, HO.out, HBr.out⟩
theorem clk_one (q D : Int) : clkB [⟨q, D⟩] = (inB q 1 1000000 && inB D 1 16777215) := by
  unfold clkB clkAt
  simp [List.range_succ]
theorem cnt_hi {xs : List Smp} {q : Int} (h : clkB xs = true) : 0 ≤ cntX xs q ∧ cntX xs q ≤ 16777215 := by
  refine ⟨cnt_pos (clkB_srt h), ?_⟩
  rcases cnt_from (q := q) (xs := xs) with e | ⟨y, hy, _, e⟩
  · omega
  · obtain ⟨i, hi, rfl⟩ := List.getElem_of_mem hy
    have h1 := clkB_at h hi
    unfold clkAt at h1
    rw [Bool.and_eq_true, Bool.and_eq_true, List.getD_eq_getElem?_getD, List.getElem?_eq_getElem hi] at h1
    have h2 := inB_yes h1.2.1
    rw [← e]
    exact h2.2
theorem tick_no {xs : List Smp} {q D : Int} (hD : D = IntKind.i64.wrap (cntX xs q + 1)) (h : ¬ (clkB xs = true ∧ clkB [⟨q, D⟩] = true)) : tickX xs q = xs := by
  unfold tickX
  refine if_neg (fun h1 => h ⟨h1.1, ?_⟩)
  have h2 := cnt_hi (q := q) h1.1
  have hw : IntKind.i64.wrap (cntX xs q + 1) = cntX xs q + 1 := by rw [IntKind.wrap_i64]; omega
  rw [hw] at hD
  rw [clk_one, h1.2.1, Bool.true_and]
  unfold inB
  rw [decide_eq_true_iff]
  omega
theorem tick_yes {xs : List Smp} {q D : Int} (hD : D = IntKind.i64.wrap (cntX xs q + 1)) (h1 : clkB xs = true) (h : clkB [⟨q, D⟩] = true) : tickX xs q = joinK xs [⟨q, D⟩] := by
  have h2 := cnt_hi (q := q) h1
  have hw : IntKind.i64.wrap (cntX xs q + 1) = cntX xs q + 1 := by rw [IntKind.wrap_i64]; omega
  rw [hw] at hD
  rw [clk_one, Bool.and_eq_true] at h
  have h3 := inB_yes h.2
  unfold tickX
  rw [if_pos ⟨h1, h.1, by omega⟩, hD]
set_option maxRecDepth 100000 in
set_option maxHeartbeats 8000000 in
theorem knowsI (w : World) (a b : List Smp) (v1 v2 : Value) (h1 : Reads w w.heap.size (smps a) v1) (h2 : Reads w w.heap.size (smps b) v2) (hla : a.length ≤ 1048576) (hlb : b.length ≤ 1048576) :
    Calls Try.prog 27 #[v1, v2] w fun e w' => e = .returned (.bool (knowsB a b)) ∧ Below w.heap.size w w' := by
  have A1 := hide h1
  have B1 := hide h2
  obtain ⟨a1, c1, e1, _⟩ := h1.shape
  obtain ⟨a2, c2, e2, _⟩ := h2.shape
  subst e1 e2
  clear h1 h2
  have HV1 : Hid (clkB a = false → knowsB a b = false) := hide (fun h => by unfold knowsB; rw [h, Bool.false_and, Bool.and_false])
  have HV2 : Hid (clkB b = false → knowsB a b = false) := hide (fun h => by unfold knowsB; rw [h, Bool.and_false, Bool.and_false])
  have HV3 : Hid (clkB a = true → clkB b = true → ∀ r : Bool, (r = true ↔ joinK a b = a) → knowsB a b = r) := hide (fun h h' r hr => by rw [Bool.eq_iff_iff, knows_eq h h', hr])
  generalize knowsB a b = V at *
  go_enter Try.func27, Try.ntmps27
  go_wp2_with fail
  refine (clockOkI _ a _ A1.out hla).mono ?_
  rintro e w1 ⟨rfl, b1⟩
  have HB := hide b1
  clear b1
  cases ca : clkB a with
  | false =>
    have HF := hide (HV1.out ca)
    go_wp2
    go_ret
    exact ⟨by rw [HF.out]; rfl, HB.out⟩
  | true =>
    go_wp2_with fail
    refine (clockOkI _ b _ (B1.out.at HB.out) hlb).mono ?_
    rintro e w2 ⟨rfl, b2⟩
    replace HB := hide (HB.out.trans (b2.mono HB.out.size))
    clear b2
    cases cb : clkB b with
    | false =>
      have HF := hide (HV2.out cb)
      go_wp2
      go_ret
      exact ⟨by rw [HF.out]; rfl, HB.out⟩
    | true =>
      have HF := hide (HV3.out ca cb)
      have hla2 := clk_len ca
      have hlb2 := clk_len cb
      clear HV1 HV2 HV3
      have hs1 := HB.out.size
      have G := hide (heap_alloc_new w2 (.cells #[.slice a1 a.length c1, .slice a2 b.length c2] 44))
      have HBX := hide (HB.out.alloc hs1 (.cells #[.slice a1 a.length c1, .slice a2 b.length c2] 44))
      have hsX := HBX.out.size
      go_wp2_with fail
      refine (joinClocksI _ _ a b _ _ G.out (A1.out.at HBX.out) (B1.out.at HBX.out) (by omega)).mono ?_
      rintro e w3 ⟨r, rfl, o9, b9⟩
      have HO := hide (o9.mono hsX)
      have HB9 := hide (HBX.out.trans (b9.mono hsX))
      have hs9 := HB9.out.size
      clear b9 o9
      obtain ⟨a3, c3, e3⟩ := (HO.out).shape
      subst e3
      go_wp2_with fail
      refine (equalI _ (joinK a b) a _ _ (HO.out.rd (Nat.le_refl _)) (A1.out.at HB9.out) (by have := joinK_len a b; omega)).mono ?_
      rintro e w4 ⟨r, rfl, hr, b4⟩
      have HR := hide (HF.out r hr)
      have HB4 := hide (HB9.out.trans (b4.mono hs9))
      clear b4 hr HF
      go_wp2
      go_ret
      exact ⟨by rw [HR.out]; rfl, HB4.out⟩
set_option maxRecDepth 100000 in
set_option maxHeartbeats 8000000 in
theorem tickI (w : World) (xs : List Smp) (v : Value) (q : Int) (h : Reads w w.heap.size (smps xs) v) (hg : smpsG xs) :
    Calls Try.prog 64 #[v, .int .i64 q] w fun e w' => rowP w w' (smps (tickX xs q)) e := by
  have HR := hide h
  have hm := hg.1
  have hcr := cntX_ok (q := q) hg.2
  have HC := hide (countI w xs v q h hm)
  obtain ⟨a1, c1, e1, _⟩ := h.shape
  subst e1
  clear h hg
  obtain ⟨D, hD⟩ : ∃ D, D = IntKind.i64.wrap (cntX xs q + 1) := ⟨_, rfl⟩
  have HD := hide hD
  have HV1 := hide (tick_no hD)
  have HV2 := hide (tick_yes hD)
  generalize tickX xs q = V at *
  generalize cntX xs q = C at *
  have hD2 := hD.symm
  clear hD
  go_enter Try.func64, Try.ntmps64
  go_wp2_with fail
  refine HC.out.mono ?_
  rintro e w0 ⟨rfl, b0⟩
  have HB0 := hide b0
  clear HC b0
  have hs0 := HB0.out.size
  have HB := hide (HB0.out.alloc hs0 (.cells #[.int .i64 q, .int .i64 D] 72))
  have HZ := hide (OwnDL.snoc (ownDL_nil w0 w0.heap.size w0.heap.size) (Nat.le_refl _) 72 2 1 #[.int .i64 q, .int .i64 D] (by decide) rfl)
  have HQX : Hid (Reads (w0.alloc (.cells #[.int .i64 q, .int .i64 D] 72)) (w0.alloc (.cells #[.int .i64 q, .int .i64 D] 72)).heap.size (smps [⟨q, D⟩]) (.slice (some ⟨w0.heap.size, 0, none⟩) 1 1)) := hide ((OwnDL.mid (c1 := []) (v1 := []) HZ.out rfl).rd (Nat.le_refl _))
  clear HZ
  have hsW := HB.out.size
  go_wp2_with fail
  refine (clockOkI _ xs _ (HR.out.at HB.out) hm).mono ?_
  rintro e w1 ⟨rfl, b1⟩
  have HB1 := hide (HB.out.trans (b1.mono hsW))
  replace HQX := hide (HQX.out.at b1)
  clear b1
  have hs1 := HB1.out.size
  cases ca : clkB xs with
  | false =>
    have HF : Hid (V = xs) := hide (HV1.out (fun h => by rw [ca] at h; cases h.1))
    clear HV1 HV2
    go_wp2_with fail
    refine (copySt _ _ xs (HR.out.at HB1.out) (by omega)).mono ?_
    rintro e w2 ⟨r, rfl, o9, b9⟩
    have HO := hide (o9.mono hs1)
    have HB2 := hide (HB1.out.trans (b9.mono hs1))
    clear o9 b9
    go_wp2
    go_ret
    rw [HF.out]
    exact ⟨_, rfl, HO.out, HB2.out⟩
  | true =>
    go_wp2_with fail
    refine (clockOkI _ [⟨q, D⟩] _ HQX.out (by simp)).mono ?_
    rintro e w2 ⟨rfl, b2⟩
    have HB2 := hide (HB1.out.trans (b2.mono hs1))
    replace HQX := hide (HQX.out.at b2)
    clear b2
    have hs2 := HB2.out.size
    cases cb : clkB [⟨q, D⟩] with
    | false =>
      have HF : Hid (V = xs) := hide (HV1.out (fun h => by rw [cb] at h; cases h.2))
      clear HV1 HV2
      go_wp2_with fail
      refine (copySt _ _ xs (HR.out.at HB2.out) (by omega)).mono ?_
      rintro e w3 ⟨r, rfl, o9, b9⟩
      have HO := hide (o9.mono hs2)
      have HB3 := hide (HB2.out.trans (b9.mono hs2))
      clear o9 b9
      go_wp2
      go_ret
      rw [HF.out]
      exact ⟨_, rfl, HO.out, HB3.out⟩
    | true =>
      have HF : Hid (V = joinK xs [⟨q, D⟩]) := hide (HV2.out ca cb)
      clear HV1 HV2
      have G := hide (heap_alloc_new w2 (.cells #[.slice a1 xs.length c1, .slice (some ⟨w0.heap.size, 0, none⟩) 1 1] 44))
      have HBX := hide (HB2.out.alloc hs2 (.cells #[.slice a1 xs.length c1, .slice (some ⟨w0.heap.size, 0, none⟩) 1 1] 44))
      have bX := (Below.refl w2.heap.size w2).alloc (Nat.le_refl _) (.cells #[.slice a1 xs.length c1, .slice (some ⟨w0.heap.size, 0, none⟩) 1 1] 44)
      replace HQX := hide (HQX.out.at bX)
      have hsX := HBX.out.size
      clear bX
      go_wp2_with fail
      refine (joinClocksI _ _ xs [⟨q, D⟩] _ _ G.out (HR.out.at HBX.out) HQX.out (by simp; omega)).mono ?_
      rintro e w3 ⟨r, rfl, o9, b9⟩
      have HO := hide (o9.mono hsX)
      have HB9 := hide (HBX.out.trans (b9.mono hsX))
      clear b9 o9
      go_wp2
      go_ret
      rw [HF.out]
      exact ⟨_, rfl, HO.out, HB9.out⟩
end Go.Proofs.Ytllghgcancennaa
