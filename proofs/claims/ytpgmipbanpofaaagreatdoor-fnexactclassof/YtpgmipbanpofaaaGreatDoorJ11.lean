/-
  Joined: PartM, PartW, ConstOkI.
-/
import Derived.Test.YtpgmipbanpofaaaGreatDoorJ9
import Derived.Test.YtpgmipbanpofaaaGreatDoorJ10
import Derived.Maps.OwnSet
import Derived.Maps.RangeWalk
import Derived.Test.YtpgmipbanpofaaaGreatDoorJ7
import Derived.Laws.StructEq
/-
  The parts of a const, as a map by their places: what is put, struck, looked up and gone through.
-/
namespace Go.Proofs.YtpgmipbanpofaaaGreatDoor
open Go.RowKit Go.Maps

/-- A part of a const, as it reads. -/
def dPart (n : Int) (s : ByteArray) : DataW Unit := .agg [.lit (.int .i64 n), .lit (.string s.data.toList)]
def partR (v : Value) : Option (DataW Unit × List MemPlace) :=
  match v with
  | .agg cs => match cs.toList with
    | [.int .i64 n, .string s] => some (dPart n s, [])
    | _ => none
  | _ => none
/-- A part of a const, as a value. -/
def partV (x : Int × ByteArray) : Value := .agg #[.int .i64 x.1, .string x.2]

theorem partR_mk (n : Int) (s : ByteArray) : partR (.agg #[.int .i64 n, .string s]) = some (dPart n s, []) := rfl
theorem partR_inv {v : Value} {z : DataW Unit × List MemPlace} (h : partR v = some z) : ∃ n s, v = .agg #[.int .i64 n, .string s] ∧ z = (dPart n s, []) := by
  unfold partR at h
  split at h
  · rename_i cs
    split at h
    · rename_i n s hc
      cases h
      exact ⟨n, s, by cases cs; simp_all, rfl⟩
    · cases h
  · cases h
theorem dPart_inj {n m : Int} {s t : ByteArray} (h : dPart n s = dPart m t) : n = m ∧ s = t := by
  unfold dPart at h
  simp only [DataW.agg.injEq, List.cons.injEq, DataW.lit.injEq, Lit.int.injEq, Lit.string.injEq, true_and, and_true] at h
  refine ⟨h.1, ?_⟩
  obtain ⟨⟨a⟩⟩ := s
  obtain ⟨⟨b⟩⟩ := t
  simp at h
  rw [h.2]

theorem keyI : Keyed Tryz.prog 3 := int_keyed Tryz.underlying3
theorem keyAt (k : Int) (h0 : 0 ≤ k) (h1 : k ≤ 1000) : keyOf Tryz.prog 3 (.int .i64 k) = some (.int .i64 k) := keyOf_int_mk Tryz.underlying3 (WalkArith.wf_i64 (by omega))
theorem zeroPart (w : World) : (zeroValue 107).run Tryz.prog w = .ok (.agg #[.int .i64 0, .string noS]) w := by kernel_rfl

/-- Block g holds the parts D. -/
def Pool (w : World) (g : Nat) (D : DataW Unit) : Prop := w.ownsMap Tryz.prog 3 partR g 100 D
theorem Pool.kept {w w' : World} {g : Nat} {D : DataW Unit} (h : Pool w g D) (hb : w'.heap[g]? = w.heap[g]?) : Pool w' g D := by
  obtain ⟨es, clock, h1, r⟩ := h
  exact ⟨es, clock, hb.trans h1, r⟩
theorem Pool.below {w w' : World} {g : Nat} {D : DataW Unit} (h : Pool w g D) (hb : Below w.heap.size w w') : Pool w' g D := h.kept (hb.block g (World.ownsMap.lt h))

section
variable {w : World} {ops : Array Oper} {rest : List Oper} {o : Oper} {a : Act} {Q : Exit → Act → World → Prop}

/-- A literal's entry. -/
theorem wp_insert (hg : o.guard = none) (m x v : Operand) (hop : o.op = Op.insert 104 m x v) (b n : Nat) (D : DataW Unit) (hm : a.eval m = .map (some b)) (hown : w.ownsMap Tryz.prog 3 partR b n D) (hn : n < 100)
    (k : Int) (hk : 0 ≤ k ∧ k ≤ 1000) (hx : a.eval x = .int .i64 k) (y : Int) (s : ByteArray) (hv : a.eval v = .agg #[.int .i64 y, .string s])
    (hK : ∀ w', w'.ownsMap Tryz.prog 3 partR b (n + 1) (D.put (.int .i64 k) (dPart y s)) → w.grownBy w' (some b) → wpList Tryz.prog ops Q rest (a.put o.dst undef) w') :
    wpList Tryz.prog ops Q (o :: rest) a w := by
  refine wpList_plain hg fun K' hK' => ?_
  obtain ⟨w', hrun, r1, r2⟩ := hown.update keyI Tryz.underlying104 (Nat.lt_of_lt_of_le hn (by unfold maxLen; omega)) (keyAt k hk.1 hk.2) (partR_mk y s)
  unfold Oper.wp
  simp [execOp, hop, hm, hx, hv, hrun, Result.andThen]
  exact hK' _ _ (hK w' r1 r2)

/-- An entry that is stored. -/
theorem wp_store (hg : o.guard = none) (m x v : Operand) (hop : o.op = Op.mapUpdate 104 m x v) (b n : Nat) (D : DataW Unit) (hm : a.eval m = .map (some b)) (hown : w.ownsMap Tryz.prog 3 partR b n D) (hn : n < 100)
    (k : Int) (hk : 0 ≤ k ∧ k ≤ 1000) (hx : a.eval x = .int .i64 k) (y : Int) (s : ByteArray) (hv : a.eval v = .agg #[.int .i64 y, .string s])
    (hK : ∀ w', w'.ownsMap Tryz.prog 3 partR b (n + 1) (D.put (.int .i64 k) (dPart y s)) → w.grownBy w' (some b) → wpList Tryz.prog ops Q rest (a.put o.dst undef) w') :
    wpList Tryz.prog ops Q (o :: rest) a w := by
  refine wpList_plain hg fun K' hK' => ?_
  obtain ⟨w', hrun, r1, r2⟩ := hown.update keyI Tryz.underlying104 (Nat.lt_of_lt_of_le hn (by unfold maxLen; omega)) (keyAt k hk.1 hk.2) (partR_mk y s)
  unfold Oper.wp
  simp [execOp, hop, hm, hx, hv, hrun, Result.andThen]
  exact hK' _ _ (hK w' r1 r2)
end

theorem look_run {w : World} {g : Nat} {D : DataW Unit} (h : Pool w g D) {k : Int} (hk : 0 ≤ k ∧ k ≤ 1000) {n : Int} {s : ByteArray} (hat : D.atKey (.int .i64 k) (dPart 0 noS) = dPart n s) :
    (Instr.lookup 104 (.map (some g)) (.int .i64 k) false).run Tryz.prog w = .ok (.agg #[.int .i64 n, .string s]) w := by
  obtain ⟨v, ps, hrun, hv⟩ := World.ownsMap.lookup h keyI Tryz.underlying104 (zeroPart w) (partR_mk 0 noS) (keyAt k hk.1 hk.2)
  obtain ⟨n', s', rfl, hz⟩ := partR_inv hv
  rw [hat] at hz
  obtain ⟨rfl, rfl⟩ := dPart_inj (congrArg Prod.fst hz)
  exact hrun
theorem look_ok {w : World} {g : Nat} {D : DataW Unit} (h : Pool w g D) {k : Int} (hk : 0 ≤ k ∧ k ≤ 1000) {n : Int} {s : ByteArray} (hat : D.atKey (.int .i64 k) (dPart 0 noS) = dPart n s) :
    (Instr.lookup 104 (.map (some g)) (.int .i64 k) true).run Tryz.prog w = .ok (.tuple #[.agg #[.int .i64 n, .string s], .bool (Maps.has D (.int .i64 k))]) w := by
  obtain ⟨v, ps, hrun, hv⟩ := World.ownsMap.look_ok h keyI Tryz.underlying104 (zeroPart w) (partR_mk 0 noS) (keyAt k hk.1 hk.2)
  obtain ⟨n', s', rfl, hz⟩ := partR_inv hv
  rw [hat] at hz
  obtain ⟨rfl, rfl⟩ := dPart_inj (congrArg Prod.fst hz)
  exact hrun

/-- What a kind refers to. -/
def refB (k p : Int) : Bool := if k = 1 then p == 0 else if k = 2 then p == 1 else if k = 3 ∨ k = 4 then (p == 1 || p == 2) else false
/-- The parts of a const. -/
def pD (k n : Int) (a b : ByteArray) : DataW Unit :=
  .map (if k = 1 then [(.int .i64 0, dPart n noS)] else if k = 2 then [(.int .i64 1, dPart 0 a)] else if k = 3 ∨ k = 4 then [(.int .i64 1, dPart 0 a), (.int .i64 2, dPart 0 b)] else [])
def allD (n : Int) (a b : ByteArray) : DataW Unit := .map [(.int .i64 0, dPart n noS), (.int .i64 1, dPart 0 a), (.int .i64 2, dPart 0 b)]
/-- .. while those that are not referred to are struck. -/
def stD (k n : Int) (a b : ByteArray) : Nat → DataW Unit
  | 0 => allD n a b
  | j + 1 => bif refB k j then stD k n a b j else (stD k n a b j).del (.int .i64 j)
theorem stD_end (k n : Int) (a b : ByteArray) : stD k n a b 3 = pD k n a b := by
  by_cases h1 : k = 1
  · subst h1; rfl
  · by_cases h2 : k = 2
    · subst h2; rfl
    · by_cases h3 : k = 3
      · subst h3; rfl
      · by_cases h4 : k = 4
        · subst h4; rfl
        · have hr : ∀ p, refB k p = false := fun p => by simp [refB, h1, h2, h3, h4]
          simp only [stD, hr, pD, h1, h2, h3, h4, if_false, or_self, cond_false]
          rfl
theorem allD_put (n : Int) (a b : ByteArray) : (((DataW.map []).put (.int .i64 0) (dPart n noS)).put (.int .i64 1) (dPart 0 a)).put (.int .i64 2) (dPart 0 b) = allD n a b := rfl

/-- A part is right. -/
def partB (p n : Int) (s : ByteArray) : Bool := bif p == 0 then inB n (-2147483648) 2147483647 else nameB s
end Go.Proofs.YtpgmipbanpofaaaGreatDoor
/-
  What the program does with the parts of a const.
-/
namespace Go.Proofs.YtpgmipbanpofaaaGreatDoor
open Go.RowKit Go.Maps

set_option maxRecDepth 100000 in
set_option maxHeartbeats 1000000 in
theorem refersImpl (k p : Int) (w : World) :
    Calls Tryz.prog 82 #[.int .i64 k, .int .i64 p] w fun e w' => e = .returned (.bool (refB k p)) ∧ w' = w := by
  by_cases h1 : k = 1
  · subst h1
    go_enter Tryz.func82, Tryz.ntmps82
    go_wp2
    go_ret
    exact ⟨by simp [refB], rfl⟩
  · have e1 : (k == 1) = false := by simpa using h1
    by_cases h2 : k = 2
    · subst h2
      go_enter Tryz.func82, Tryz.ntmps82
      go_wp2
      go_ret
      exact ⟨by simp [refB], rfl⟩
    · have e2 : (k == 2) = false := by simpa using h2
      by_cases h3 : k = 3
      · subst h3
        cases hp : (p == 1)
        · go_enter Tryz.func82, Tryz.ntmps82
          go_wp2
          go_ret
          exact ⟨by simp [refB, hp], rfl⟩
        · go_enter Tryz.func82, Tryz.ntmps82
          go_wp2
          go_ret
          exact ⟨by simp [refB, hp], rfl⟩
      · have e3 : (k == 3) = false := by simpa using h3
        by_cases h4 : k = 4
        · subst h4
          cases hp : (p == 1)
          · go_enter Tryz.func82, Tryz.ntmps82
            go_wp2
            go_ret
            exact ⟨by simp [refB, hp], rfl⟩
          · go_enter Tryz.func82, Tryz.ntmps82
            go_wp2
            go_ret
            exact ⟨by simp [refB, hp], rfl⟩
        · have e4 : (k == 4) = false := by simpa using h4
          go_enter Tryz.func82, Tryz.ntmps82
          go_wp2
          go_ret
          exact ⟨by simp [refB, h1, h2, h3, h4], rfl⟩


set_option maxRecDepth 100000 in
set_option maxHeartbeats 2000000 in
theorem referredImpl (k n : Int) (a b : ByteArray) (w : World) :
    Calls Tryz.prog 99 #[constV k n a b] w fun e w' => ∃ g, e = .returned (.map (some g)) ∧ w.heap.size ≤ g ∧ Pool w' g (pD k n a b) ∧ Below w.heap.size w w' := by
  have hmm := @run_makeMap Tryz.prog
  unfold constV
  have HX := hide (Box.new w #[.int .i64 k, .int .i64 n, .string a, .string b] 42)
  have HB := hide ((Below.refl w.heap.size w).alloc (Nat.le_refl _) (.cells #[.int .i64 k, .int .i64 n, .string a, .string b] 42))
  have hs : Hid ((w.alloc (.cells #[.int .i64 k, .int .i64 n, .string a, .string b] 42)).heap.size = w.heap.size + 1) := hide (by simp)
  have H0 : Hid (((w.alloc (.cells #[.int .i64 k, .int .i64 n, .string a, .string b] 42)).alloc (.map #[] 0)).ownsMap Tryz.prog 3 partR (w.heap.size + 1) 0 (.map [])) := hide (by
    have := World.ownsMap_made (w.alloc (.cells #[.int .i64 k, .int .i64 n, .string a, .string b] 42)) Tryz.prog 3 partR
    rwa [hs.out] at this)
  replace HB := hide (HB.out.alloc (by simp) (.map #[] 0))
  have HX0 : Hid (Box ((w.alloc (.cells #[.int .i64 k, .int .i64 n, .string a, .string b] 42)).alloc (.map #[] 0)) w.heap.size [.int .i64 k, .int .i64 n, .string a, .string b]) := hide (HX.out.apart (by simp) (World.grownBy_alloc _ _ none) (by simp))
  have q1 := HX.out 1 _ rfl
  go_enter Tryz.func99, Tryz.ntmps99
  go_wp2_with (first
    | (refine wp_insert rfl _ _ _ rfl (w.heap.size + 1) 0 (.map []) rfl H0.out (by omega) 0 (by omega) rfl _ _ rfl ?_; intro w1 h1 g1; have H1 := hide h1; have HX1 := hide (HX0.out.apart (by simp; omega) g1 (by simp)); have HB1 := hide (HB.out.grown g1 (by simp; omega) (fun k hk => by cases hk; omega)); have hz1 := hide g1.size; have q2 := HX1.out 2 _ rfl; clear h1 g1)
    | (refine wp_insert rfl _ _ _ rfl (w.heap.size + 1) 1 _ rfl H1.out (by omega) 1 (by omega) rfl _ _ rfl ?_; intro w2 h2 g2; have H2 := hide h2; have hz2 := hide (Nat.le_trans hz1.out g2.size); have HX2 := hide (HX1.out.apart (by have := hz1.out; simp at this; omega) g2 (by simp)); have HB2 := hide (HB1.out.grown g2 (by have := hz1.out; simp at this; omega) (fun k hk => by cases hk; omega)); have q3 := HX2.out 3 _ rfl; clear h2 g2)
    | (refine wp_insert rfl _ _ _ rfl (w.heap.size + 1) 2 _ rfl H2.out (by omega) 2 (by omega) rfl _ _ rfl ?_; intro w3 h3 g3; have H3 := hide h3; have hz3 := hide (Nat.le_trans hz2.out g3.size); have HX3 := hide (HX2.out.apart (by have := hz2.out; simp at this; omega) g3 (by simp)); have HB3 := hide (HB2.out.grown g3 (by have := hz2.out; simp at this; omega) (fun k hk => by cases hk; omega)); clear h3 g3)
    | fail)
  clear q1 q2 q3
  go_loopw [16] (fun x wr => ∃ j : Nat, j ≤ 3 ∧ x = .int .i64 (j : Int) ∧ Hid (wr.ownsMap Tryz.prog 3 partR (w.heap.size + 1) 3 (stD k n a b j)) ∧ Hid (Box wr w.heap.size [.int .i64 k, .int .i64 n, .string a, .string b]) ∧ Hid (Below w.heap.size w wr)) (fun x _ => 3 - (intOf x).toNat)
  case atStart => exact ⟨0, by omega, rfl, H3, HX3, HB3⟩
  case round =>
    obtain ⟨j, hj, rfl, HO, HY, HW⟩ := hrel
    clear H0 HX0 HX HB H1 HX1 HB1 hz1 H2 HX2 HB2 hz2 H3 HX3 HB3 hz3 hs
    by_cases hlt : j < 3
    · have q0 := HY.out 0 _ rfl
      have hl := World.ownsMap.lt HO.out
      cases hr : refB k j with
      | true =>
        have HD : Hid (stD k n a b (j + 1) = stD k n a b j) := hide (by simp [stD, hr])
        go_wp2_with fail
        refine (refersImpl _ _ _).mono ?_
        rintro e w2 ⟨rfl, rfl⟩
        rw [hr]
        go_wp2
        exact ⟨⟨j + 1, by omega, by go_num, hide (by rw [HD.out]; exact HO.out), HY, HW⟩, by simp [intOf]; omega⟩
      | false =>
        have HD : Hid (stD k n a b (j + 1) = (stD k n a b j).del (.int .i64 j)) := hide (by simp [stD, hr])
        go_wp2_with fail
        refine (refersImpl _ _ _).mono ?_
        rintro e w2 ⟨rfl, rfl⟩
        rw [hr]
        go_wp2_with (at_delete; refine wpList_delete_own _ rfl _ _ 104 3 rfl 107 keyI Tryz.underlying104 _ (w.heap.size + 1) 3 _ rfl HO.out _ _ rfl (keyAt j (by omega) (by omega)) ?_; intro w1 h1 t1; have HO1 := hide h1; have HY1 := hide (HY.out.apart (by omega) t1.grown (by simp)); have HW1 := hide (HW.out.grown t1.grown (by omega) (fun k hk => by cases hk; omega)); clear h1 t1)
        exact ⟨⟨j + 1, by omega, by go_num, hide (by rw [HD.out]; exact HO1.out), HY1, HW1⟩, by simp [intOf]; omega⟩
    · obtain rfl : j = 3 := by omega
      have HD := hide (stD_end k n a b)
      go_wp2
      go_ret
      exact ⟨w.heap.size + 1, rfl, by omega, by unfold Pool; rw [← HD.out]; exact World.ownsMap.mono HO.out (by omega), HW.out⟩
end Go.Proofs.YtpgmipbanpofaaaGreatDoor
/-
  What ConstOk does, in the program.
-/
namespace Go.Proofs.YtpgmipbanpofaaaGreatDoor
open Go.RowKit Go.Maps

set_option maxRecDepth 100000 in
set_option maxHeartbeats 1000000 in
theorem partRightImpl (p n : Int) (s : ByteArray) (w : World) (hs : s.size ≤ maxLen) :
    Calls Tryz.prog 103 #[.int .i64 p, .agg #[.int .i64 n, .string s]] w fun e w' => e = .returned (.bool (partB p n s)) ∧ Below w.heap.size w w' := by
  cases hp : (p == 0) with
  | true =>
    have HP : Hid (partB p n s = inB n (-2147483648) 2147483647) := hide (by simp [partB, hp])
    have hr := rnd_eq n
    go_enter Tryz.func103, Tryz.ntmps103
    go_wp2
    go_quiet ((go_at_call 102; exact Calls.quiet_of_same (roundImpl _ _)))
    go_wp2
    go_ret
    exact ⟨by rw [HP.out]; rfl, below_drewN ((Below.refl _ _).alloc (Nat.le_refl _) _) _⟩
  | false =>
    have HP : Hid (partB p n s = nameB s) := hide (by simp [partB, hp])
    have HS := hide hs
    clear hs
    go_enter Tryz.func103, Tryz.ntmps103
    go_wp2_with fail
    refine (nameImpl _ _ HS.out).mono ?_
    rintro e w1 ⟨rfl, rfl⟩
    go_wp2
    go_ret
    exact ⟨by rw [HP.out]; rfl, (Below.refl _ _).alloc (Nat.le_refl _) _⟩

/-- All parts of D are right, just if R holds. -/
def RightD (D : DataW Unit) (R : Bool) : Prop :=
  (∀ x n s, (∀ zd, D.atKey (.int .i64 x) zd = dPart n s) → s.size ≤ maxLen) ∧
  ((∀ x n s, Maps.has D (.int .i64 x) = true → (∀ zd, D.atKey (.int .i64 x) zd = dPart n s) → partB x n s = true) → R = true) ∧
  (∀ x n s, (∀ zd, D.atKey (.int .i64 x) zd = dPart n s) → partB x n s = false → R = false)

theorem sameInt (x y : Int) : (Lit.int .i64 x).sameKey (.int .i64 y) = (x == y) := by simp [Lit.sameKey]; rfl

theorem wp_next {w : World} {ops : Array Oper} {rest : List Oper} {o : Oper} {a : Act} {Q : Exit → Act → World → Prop} (hg : o.guard = none) (it : Operand) (hop : o.op = Op.next it false)
    (b r n : Nat) (D : DataW Unit) (left : Lit → Bool) (cnt : Nat) (hit : a.eval it = .pointer (some ⟨r, 0, none⟩)) (h : w.ranges Tryz.prog 3 partR b r n D left cnt)
    (hDone : (∀ kl, left kl = false) → wpList Tryz.prog ops Q rest (a.put o.dst (.tuple #[.bool false])) w)
    (hMore : ∀ (x y : Int) (s : ByteArray) (w' : World) (cnt' : Nat), left (.int .i64 x) = true → (∀ zd, D.atKey (.int .i64 x) zd = dPart y s) → w'.ranges Tryz.prog 3 partR b r n D (fun z => left z && !z.sameKey (.int .i64 x)) cnt' → cnt' < cnt →
      w.grownBy w' (some r) → w'.heap.size = w.heap.size → (Instr.entry (.pointer (some ⟨r, 0, none⟩))).run Tryz.prog w' = .ok (.tuple #[.int .i64 x, .agg #[.int .i64 y, .string s]]) w' → wpList Tryz.prog ops Q rest (a.put o.dst (.tuple #[.bool true, .int .i64 x, .agg #[.int .i64 y, .string s]])) w') :
    wpList Tryz.prog ops Q (o :: rest) a w := by
  refine wpList_plain hg fun K' hK' => ?_
  unfold Oper.wp
  rcases h.next keyI o.type with ⟨h0, hl, hrun⟩ | ⟨key, v, kl, y, w', cnt', hkey, hlk, hv, hat, hrun, hrg, hlt, hgr, hsz, hen⟩
  · simp [execOp, hop, hit, hrun, Result.andThen]
    exact hK' _ _ (hDone hl)
  · obtain ⟨x, rfl, rfl, _⟩ := keyOf_int_inv Tryz.underlying3 hkey
    obtain ⟨m, s, rfl, rfl⟩ := partR_inv hv
    simp [execOp, hop, hit, hrun, Result.andThen]
    exact hK' _ _ (hMore x m s w' cnt' hlk hat hrg hlt hgr hsz hen)

set_option maxRecDepth 100000 in
set_option maxHeartbeats 2000000 in
theorem partsRightImpl (g : Nat) (D : DataW Unit) (R : Bool) (w : World) (hp : Pool w g D) (hR : RightD D R) :
    Calls Tryz.prog 100 #[.map (some g)] w fun e w' => e = .returned (.bool R) ∧ Below w.heap.size w w' := by
  have HR := hide hR
  have HP := hide hp
  have hgl := World.ownsMap.lt hp
  clear hR hp
  go_enter Tryz.func100, Tryz.ntmps100
  go_wp2_with (at_range; refine wpList_range_own _ rfl _ 104 rfl 3 107 keyI Tryz.underlying104 _ g 100 D rfl HP.out ?_; intro w0 hrg0 hg0 hs0; have HR0 := hide hrg0; have HW0 := hide ((Below.refl w.heap.size w).grown hg0 (Nat.le_refl _) (fun k hk => by cases hk)); clear hrg0 hg0)
  go_frame
  go_loopw [3] (fun _ wr => ∃ left cnt, Hid (wr.ranges Tryz.prog 3 partR g w.heap.size 100 D left cnt) ∧ Hid (∀ x n s, left (.int .i64 x) = false → Maps.has D (.int .i64 x) = true → (∀ zd, D.atKey (.int .i64 x) zd = dPart n s) → partB x n s = true) ∧ Hid (Below w.heap.size w wr) ∧ w.heap.size < wr.heap.size) (fun _ wr => wr.rangeLeft g w.heap.size)
  case atStart => exact ⟨_, _, HR0, hide (fun x n s h h' _ => by rw [h'] at h; cases h), HW0, by omega⟩
  case round =>
    obtain ⟨left, cnt, HG, HA, HW, hsz⟩ := hrel
    clear HR0 HW0 HP hs0
    go_wp2_with (at_next; refine wp_next rfl _ rfl g w.heap.size 100 D left cnt rfl HG.out ?_ ?_)
    · intro hl
      have HF : Hid (R = true) := hide (HR.out.2.1 (fun x n s hh hat => HA.out x n s (hl _) hh hat))
      go_wp2
      go_ret
      exact ⟨by rw [HF.out]; rfl, HW.out⟩
    · intro x n s w1 cnt1 hlx hat hrg1 hlt hg1 hs1 hen
      have HM : Hid (w1.rangeLeft g w.heap.size < wr.rangeLeft g w.heap.size) := hide (by rw [hrg1.left_eq, HG.out.left_eq]; exact hlt)
      have HA1 := hide hat
      have HG1 := hide hrg1
      have HW1 := hide (HW.out.grown hg1 HW.out.size (fun k hk => by cases hk; omega))
      have hss := HR.out.1 x n s hat
      have hsz1 : w.heap.size < w1.heap.size := by omega
      clear hat hrg1 hlt hg1 hs1 HG HW hlx
      have HW2 := hide (HW1.out.alloc (by omega) (.cells #[.int .i64 n, .string s] 107))
      have HG2 := hide (HG1.out.alloc (.cells #[.int .i64 n, .string s] 107))
      cases hb : partB x n s with
      | false =>
        have HF : Hid (R = false) := hide (HR.out.2.2 x n s HA1.out hb)
        go_wp2_with fail
        refine (partRightImpl _ _ _ _ hss).mono ?_
        rintro e w2 ⟨rfl, b2⟩
        have HW3 := hide (HW2.out.trans (b2.mono HW2.out.size))
        clear b2
        rw [hb]
        go_wp2
        go_ret
        exact ⟨by rw [HF.out]; rfl, HW3.out⟩
      | true =>
        have HA2 : Hid (∀ y m t, (left (.int .i64 y) && !(Lit.int .i64 y).sameKey (.int .i64 x)) = false → Maps.has D (.int .i64 y) = true → (∀ zd, D.atKey (.int .i64 y) zd = dPart m t) → partB y m t = true) := hide (fun y m t hl hh hat => by
          rw [sameInt] at hl
          by_cases hy : y = x
          · subst hy
            obtain ⟨rfl, rfl⟩ := dPart_inj ((hat (dPart 0 noS)).symm.trans (HA1.out (dPart 0 noS)))
            exact hb
          · exact HA.out y m t (by simpa [hy] using hl) hh hat)
        go_wp2_with fail
        refine (partRightImpl _ _ _ _ hss).mono ?_
        rintro e w2 ⟨rfl, b2⟩
        have HW3 := hide (HW2.out.trans (b2.mono HW2.out.size))
        have HG3 := hide (HG2.out.kept (grown_of_below b2) (by simp) (by simp))
        have HM3 : Hid (w2.rangeLeft g w.heap.size < wr.rangeLeft g w.heap.size) := hide (by rw [HG3.out.left_eq, ← HG1.out.left_eq]; exact HM.out)
        have hsz3 : Hid (w.heap.size < w2.heap.size) := hide (by have := b2.size; simp at this; omega)
        clear b2
        rw [hb]
        go_wp2
        exact ⟨⟨_, _, HG3, HA2, HW3, hsz3.out⟩, HM3.out⟩

theorem loadK {w : World} {g : Nat} {x y z u : Value} (h : w.heap[g]? = some (.cells #[x, y, z, u] 42 (0, 0))) : (loadVar 42 ⟨g, 0, none⟩).run Tryz.prog w = .ok (.agg #[x, y, z, u]) w :=
  run_loadVar_row w g 42 42 #[x, y, z, u] (0, 0) _ h Tryz.underlying42 rfl (by kernel_rfl)

set_option maxRecDepth 100000 in
set_option maxHeartbeats 2000000 in
theorem constOfImpl (g : Nat) (D : DataW Unit) (k n n1 n2 : Int) (s a b : ByteArray) (w : World) (hp : Pool w g D)
    (h0 : D.atKey (.int .i64 0) (dPart 0 noS) = dPart n s) (h1 : D.atKey (.int .i64 1) (dPart 0 noS) = dPart n1 a) (h2 : D.atKey (.int .i64 2) (dPart 0 noS) = dPart n2 b) :
    Calls Tryz.prog 84 #[.int .i64 k, .map (some g)] w fun e w' => e = .returned (constV k n a b) ∧ Below w.heap.size w w' := by
  have HP := hide (hp.below ((Below.refl w.heap.size w).alloc (Nat.le_refl _) (.cells #[.int .i64 0, .int .i64 0, .string noS, .string noS] 42)))
  have l0 := look_run HP.out (k := 0) (by omega) h0
  have l1 := look_run HP.out (k := 1) (by omega) h1
  have l2 := look_run HP.out (k := 2) (by omega) h2
  have f0 : ∀ w, (Instr.field 107 (.agg #[.int .i64 n, .string s]) 0).run Tryz.prog w = .ok (.int .i64 n) w := fun _ => by kernel_rfl
  have f1 : ∀ w, (Instr.field 107 (.agg #[.int .i64 n1, .string a]) 1).run Tryz.prog w = .ok (.string a) w := fun _ => by kernel_rfl
  have f2 : ∀ w, (Instr.field 107 (.agg #[.int .i64 n2, .string b]) 1).run Tryz.prog w = .ok (.string b) w := fun _ => by kernel_rfl
  clear hp h0 h1 h2
  unfold constV
  go_enter Tryz.func84, Tryz.ntmps84
  go_wp2
  exact bodyPost_ret (v := .agg #[.int .i64 k, .int .i64 n, .string a, .string b]) (results_one Tryz.results84 _ _ _ rfl (loadK (heap_alloc_new w _))) rfl ⟨rfl, (Below.refl _ _).alloc (Nat.le_refl _) _⟩

theorem atKey_nil (kl : Lit) (zd : DataW Unit) : (DataW.map []).atKey kl zd = zd := rfl
theorem atKey_one (p x : Int) (d zd : DataW Unit) : (DataW.map [(Lit.int .i64 p, d)]).atKey (.int .i64 x) zd = bif p == x then d else zd := by
  simp only [DataW.atKey, List.find?, sameInt]
  cases p == x <;> rfl
theorem atKey_two (p p' x : Int) (d d' zd : DataW Unit) : (DataW.map [(Lit.int .i64 p, d), (Lit.int .i64 p', d')]).atKey (.int .i64 x) zd = bif p == x then d else bif p' == x then d' else zd := by
  simp only [DataW.atKey, List.find?, sameInt]
  cases p == x <;> cases p' == x <;> rfl

/-- What is right of the parts of a const. -/
def rB (k n : Int) (a b : ByteArray) : Bool := if k = 1 then inB n (-2147483648) 2147483647 else if k = 2 then nameB a else if k = 3 ∨ k = 4 then nameB a && nameB b else true

theorem two_ways {m : Int} {t : ByteArray} (h : ∀ zd : DataW Unit, zd = dPart m t) : False := by
  have h1 := h (dPart (m + 1) t)
  have := (dPart_inj h1).1
  omega

theorem rightD_of (k n : Int) (a b : ByteArray) (ha : a.size ≤ maxLen) (hb : b.size ≤ maxLen) : RightD (pD k n a b) (rB k n a b) := by
  have key : ∀ x m t, (∀ zd, (pD k n a b).atKey (.int .i64 x) zd = dPart m t) →
      (k = 1 ∧ x = 0 ∧ m = n ∧ t = noS) ∨ (k = 2 ∧ x = 1 ∧ m = 0 ∧ t = a) ∨ ((k = 3 ∨ k = 4) ∧ ((x = 1 ∧ m = 0 ∧ t = a) ∨ (x = 2 ∧ m = 0 ∧ t = b))) := by
    intro x m t h
    unfold pD at h
    by_cases h1 : k = 1
    · simp only [h1, if_true, atKey_one] at h
      cases hx : ((0 : Int) == x)
      · rw [hx] at h; exact (two_ways h).elim
      · rw [hx] at h
        obtain ⟨rfl, rfl⟩ := dPart_inj (h (dPart 0 noS)).symm
        exact .inl ⟨h1, by have := of_decide_eq_true hx; omega, rfl, rfl⟩
    · by_cases h2 : k = 2
      · subst h2
        simp only [show ¬ ((2 : Int) = 1) from by decide, if_false, if_true, atKey_one] at h
        cases hx : ((1 : Int) == x)
        · rw [hx] at h; exact (two_ways h).elim
        · rw [hx] at h
          obtain ⟨rfl, rfl⟩ := dPart_inj (h (dPart 0 noS)).symm
          exact .inr (.inl ⟨rfl, by have := of_decide_eq_true hx; omega, rfl, rfl⟩)
      · by_cases h3 : k = 3 ∨ k = 4
        · simp only [h1, h2, h3, if_false, if_true, atKey_two] at h
          refine .inr (.inr ⟨h3, ?_⟩)
          cases hx : ((1 : Int) == x)
          · rw [hx] at h
            cases hy : ((2 : Int) == x)
            · rw [hy] at h; exact (two_ways h).elim
            · rw [hy] at h
              obtain ⟨rfl, rfl⟩ := dPart_inj (h (dPart 0 noS)).symm
              exact .inr ⟨by have := of_decide_eq_true hy; omega, rfl, rfl⟩
          · rw [hx] at h
            obtain ⟨rfl, rfl⟩ := dPart_inj (h (dPart 0 noS)).symm
            exact .inl ⟨by have := of_decide_eq_true hx; omega, rfl, rfl⟩
        · simp only [h1, h2, h3, if_false, atKey_nil] at h
          exact (two_ways h).elim
  refine ⟨fun x m t h => ?_, fun h => ?_, fun x m t h hf => ?_⟩
  · rcases key x m t h with ⟨_, _, _, rfl⟩ | ⟨_, _, _, rfl⟩ | ⟨_, ⟨_, _, rfl⟩ | ⟨_, _, rfl⟩⟩
    · simp [maxLen, ByteArray.size]
    · exact ha
    · exact ha
    · exact hb
  · unfold rB
    by_cases h1 : k = 1
    · subst h1
      exact h 0 n noS rfl (fun zd => rfl)
    · by_cases h2 : k = 2
      · subst h2
        exact h 1 0 a rfl (fun zd => rfl)
      · by_cases h3 : k = 3 ∨ k = 4
        · have e : pD k n a b = .map [(.int .i64 1, dPart 0 a), (.int .i64 2, dPart 0 b)] := by simp [pD, h1, h2, h3]
          have x1 := h 1 0 a (by rw [e]; rfl) (fun zd => by rw [e]; rfl)
          have x2 := h 2 0 b (by rw [e]; rfl) (fun zd => by rw [e]; rfl)
          simp only [h1, h2, h3, if_false, if_true]
          rw [show nameB a = true from x1, show nameB b = true from x2]
          rfl
        · simp [h1, h2, h3]
  · rcases key x m t h with ⟨rfl, rfl, rfl, rfl⟩ | ⟨rfl, rfl, rfl, rfl⟩ | ⟨hk, ⟨rfl, rfl, rfl⟩ | ⟨rfl, rfl, rfl⟩⟩
    · exact hf
    · exact hf
    · have h1 : ¬ k = 1 := by omega
      have h2 : ¬ k = 2 := by omega
      unfold rB
      simp only [h1, h2, hk, if_false, if_true]
      rw [show nameB t = false from hf]
      rfl
    · have h1 : ¬ k = 1 := by omega
      have h2 : ¬ k = 2 := by omega
      unfold rB
      simp only [h1, h2, hk, if_false, if_true]
      rw [show nameB t = false from hf]
      cases nameB a <;> rfl
end Go.Proofs.YtpgmipbanpofaaaGreatDoor
