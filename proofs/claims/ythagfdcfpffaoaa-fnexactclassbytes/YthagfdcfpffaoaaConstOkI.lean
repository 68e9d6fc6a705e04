/-
  What ConstOk does, in the program.
-/
import Derived.Test.YthagfdcfpffaoaaPartW
namespace Go.Proofs.Ythagfdcfpffaoaa
open Go.RowKit Go.Maps

set_option maxRecDepth 100000 in
set_option maxHeartbeats 1000000 in
theorem partRightImpl (p n : Int) (s : ByteArray) (w : World) (hs : s.size ≤ maxLen) :
    Calls Try.prog 95 #[.int .i64 p, .agg #[.int .i64 n, .string s]] w fun e w' => e = .returned (.bool (partB p n s)) ∧ Below w.heap.size w w' := by
  cases hp : (p == 0) with
  | true =>
    have HP : Hid (partB p n s = inB n (-2147483648) 2147483647) := hide (by simp [partB, hp])
    have hr := rnd_eq n
    go_enter Try.func95, Try.ntmps95
    go_wp2
    go_quiet ((go_at_call 96; exact Calls.quiet_of_same (roundImpl _ _)))
    go_wp2
    go_ret
    exact ⟨by rw [HP.out]; rfl, below_drewN ((Below.refl _ _).alloc (Nat.le_refl _) _) _⟩
  | false =>
    have HP : Hid (partB p n s = nameB s) := hide (by simp [partB, hp])
    have HS := hide hs
    clear hs
    go_enter Try.func95, Try.ntmps95
    go_wp2_with fail
    refine (nameImpl _ _ HS.out).mono ?_
    rintro e w1 ⟨rfl, rfl⟩
    go_wp2
    go_ret
    exact ⟨by rw [HP.out]; rfl, (Below.refl _ _).alloc (Nat.le_refl _) _⟩

/-- All parts of D are right, just if R holds. -/
def RightD (D : DataW Unit) (R : Bool) : Prop :=
  (∀ x n s, (∀ zd, D.atKey (.int .i64 x) zd = dPart n s) → s.size ≤ maxLen) ∧
  ((∀ x n s, Maps.has D (.int .i64 x) = true → (∀ zd, D.atKey (.int .i64 x) zd = dPart n s) → partB x n s = true) → R = true) ∧
  (∀ x n s, (∀ zd, D.atKey (.int .i64 x) zd = dPart n s) → partB x n s = false → R = false)

theorem sameInt (x y : Int) : (Lit.int .i64 x).sameKey (.int .i64 y) = (x == y) := by simp [Lit.sameKey]; rfl

theorem wp_next {w : World} {ops : Array Oper} {rest : List Oper} {o : Oper} {a : Act} {Q : Exit → Act → World → Prop} (hg : o.guard = none) (it : Operand) (hop : o.op = Op.next it false)
    (b r n : Nat) (D : DataW Unit) (left : Lit → Bool) (cnt : Nat) (hit : a.eval it = .pointer (some ⟨r, 0, none⟩)) (h : w.ranges Try.prog 3 partR b r n D left cnt)
    (hDone : (∀ kl, left kl = false) → wpList Try.prog ops Q rest (a.put o.dst (.tuple #[.bool false])) w)
    (hMore : ∀ (x y : Int) (s : ByteArray) (w' : World) (cnt' : Nat), left (.int .i64 x) = true → (∀ zd, D.atKey (.int .i64 x) zd = dPart y s) → w'.ranges Try.prog 3 partR b r n D (fun z => left z && !z.sameKey (.int .i64 x)) cnt' → cnt' < cnt →
      w.grownBy w' (some r) → w'.heap.size = w.heap.size → (Instr.entry (.pointer (some ⟨r, 0, none⟩))).run Try.prog w' = .ok (.tuple #[.int .i64 x, .agg #[.int .i64 y, .string s]]) w' → wpList Try.prog ops Q rest (a.put o.dst (.tuple #[.bool true, .int .i64 x, .agg #[.int .i64 y, .string s]])) w') :
    wpList Try.prog ops Q (o :: rest) a w := by
  refine wpList_plain hg fun K' hK' => ?_
  unfold Oper.wp
  rcases h.next keyI o.type with ⟨h0, hl, hrun⟩ | ⟨key, v, kl, y, w', cnt', hkey, hlk, hv, hat, hrun, hrg, hlt, hgr, hsz, hen⟩
  · simp [execOp, hop, hit, hrun, Result.andThen]
    exact hK' _ _ (hDone hl)
  · obtain ⟨x, rfl, rfl, _⟩ := keyOf_int_inv Try.underlying3 hkey
    obtain ⟨m, s, rfl, rfl⟩ := partR_inv hv
    simp [execOp, hop, hit, hrun, Result.andThen]
    exact hK' _ _ (hMore x m s w' cnt' hlk hat hrg hlt hgr hsz hen)

set_option maxRecDepth 100000 in
set_option maxHeartbeats 2000000 in
theorem partsRightImpl (g : Nat) (D : DataW Unit) (R : Bool) (w : World) (hp : Pool w g D) (hR : RightD D R) :
    Calls Try.prog 89 #[.map (some g)] w fun e w' => e = .returned (.bool R) ∧ Below w.heap.size w w' := by
  have HR := hide hR
  have HP := hide hp
  have hgl := World.ownsMap.lt hp
  clear hR hp
  go_enter Try.func89, Try.ntmps89
  go_wp2_with (at_range; refine wpList_range_own _ rfl _ 94 rfl 3 97 keyI Try.underlying94 _ g 100 D rfl HP.out ?_; intro w0 hrg0 hg0 hs0; have HR0 := hide hrg0; have HW0 := hide ((Below.refl w.heap.size w).grown hg0 (Nat.le_refl _) (fun k hk => by cases hk)); clear hrg0 hg0)
  go_frame
  go_loopw [3] (fun _ wr => ∃ left cnt, Hid (wr.ranges Try.prog 3 partR g w.heap.size 100 D left cnt) ∧ Hid (∀ x n s, left (.int .i64 x) = false → Maps.has D (.int .i64 x) = true → (∀ zd, D.atKey (.int .i64 x) zd = dPart n s) → partB x n s = true) ∧ Hid (Below w.heap.size w wr) ∧ w.heap.size < wr.heap.size) (fun _ wr => wr.rangeLeft g w.heap.size)
  case atStart => exact ⟨_, _, HR0, hide (fun x n s h h' _ => by rw [h'] at h; cases h), HW0, by omega⟩
  case round =>
    obtain ⟨left, cnt, HG, HA, HW, hsz⟩ := hrel
    clear HR0 HW0 HP hs0
    go_wp2_with (at_next; refine wp_next rfl _ rfl g w.heap.size 100 D left cnt rfl HG.out ?_ ?_)
    · intro hl
      have HF : Hid (R = true) := hide (HR.out.2.1 (fun x n s hh hat => HA.out x n s (hl _) hh hat))
      go_wp2
      go_ret
      exact ⟨by rw [HF.out]; rfl, HW.out⟩
    · intro x n s w1 cnt1 hlx hat hrg1 hlt hg1 hs1 hen
      have HM : Hid (w1.rangeLeft g w.heap.size < wr.rangeLeft g w.heap.size) := hide (by rw [hrg1.left_eq, HG.out.left_eq]; exact hlt)
      have HA1 := hide hat
      have HG1 := hide hrg1
      have HW1 := hide (HW.out.grown hg1 HW.out.size (fun k hk => by cases hk; omega))
      have hss := HR.out.1 x n s hat
      have hsz1 : w.heap.size < w1.heap.size := by omega
      clear hat hrg1 hlt hg1 hs1 HG HW hlx
      have HW2 := hide (HW1.out.alloc (by omega) (.cells #[.int .i64 n, .string s] 97))
      have HG2 := hide (HG1.out.alloc (.cells #[.int .i64 n, .string s] 97))
      cases hb : partB x n s with
      | false =>
        have HF : Hid (R = false) := hide (HR.out.2.2 x n s HA1.out hb)
        go_wp2_with fail
        refine (partRightImpl _ _ _ _ hss).mono ?_
        rintro e w2 ⟨rfl, b2⟩
        have HW3 := hide (HW2.out.trans (b2.mono HW2.out.size))
        clear b2
        rw [hb]
        go_wp2
        go_ret
        exact ⟨by rw [HF.out]; rfl, HW3.out⟩
      | true =>
        have HA2 : Hid (∀ y m t, (left (.int .i64 y) && !(Lit.int .i64 y).sameKey (.int .i64 x)) = false → Maps.has D (.int .i64 y) = true → (∀ zd, D.atKey (.int .i64 y) zd = dPart m t) → partB y m t = true) := hide (fun y m t hl hh hat => by
          rw [sameInt] at hl
          by_cases hy : y = x
          · subst hy
            obtain ⟨rfl, rfl⟩ := dPart_inj ((hat (dPart 0 noS)).symm.trans (HA1.out (dPart 0 noS)))
            exact hb
          · exact HA.out y m t (by simpa [hy] using hl) hh hat)
        go_wp2_with fail
        refine (partRightImpl _ _ _ _ hss).mono ?_
        rintro e w2 ⟨rfl, b2⟩
        have HW3 := hide (HW2.out.trans (b2.mono HW2.out.size))
        have HG3 := hide (HG2.out.kept (grown_of_below b2) (by simp) (by simp))
        have HM3 : Hid (w2.rangeLeft g w.heap.size < wr.rangeLeft g w.heap.size) := hide (by rw [HG3.out.left_eq, ← HG1.out.left_eq]; exact HM.out)
        have hsz3 : Hid (w.heap.size < w2.heap.size) := hide (by have := b2.size; simp at this; omega)
        clear b2
        rw [hb]
        go_wp2
        exact ⟨⟨_, _, HG3, HA2, HW3, hsz3.out⟩, HM3.out⟩

theorem loadK {w : World} {g : Nat} {x y z u : Value} (h : w.heap[g]? = some (.cells #[x, y, z, u] 63 (0, 0))) : (loadVar 63 ⟨g, 0, none⟩).run Try.prog w = .ok (.agg #[x, y, z, u]) w :=
  run_loadVar_row w g 63 63 #[x, y, z, u] (0, 0) _ h Try.underlying63 rfl (by kernel_rfl)

set_option maxRecDepth 100000 in
set_option maxHeartbeats 2000000 in
theorem constOfImpl (g : Nat) (D : DataW Unit) (k n n1 n2 : Int) (s a b : ByteArray) (w : World) (hp : Pool w g D)
    (h0 : D.atKey (.int .i64 0) (dPart 0 noS) = dPart n s) (h1 : D.atKey (.int .i64 1) (dPart 0 noS) = dPart n1 a) (h2 : D.atKey (.int .i64 2) (dPart 0 noS) = dPart n2 b) :
    Calls Try.prog 90 #[.int .i64 k, .map (some g)] w fun e w' => e = .returned (constV k n a b) ∧ Below w.heap.size w w' := by
  have HP := hide (hp.below ((Below.refl w.heap.size w).alloc (Nat.le_refl _) (.cells #[.int .i64 0, .int .i64 0, .string noS, .string noS] 63)))
  have l0 := look_run HP.out (k := 0) (by omega) h0
  have l1 := look_run HP.out (k := 1) (by omega) h1
  have l2 := look_run HP.out (k := 2) (by omega) h2
  have f0 : ∀ w, (Instr.field 97 (.agg #[.int .i64 n, .string s]) 0).run Try.prog w = .ok (.int .i64 n) w := fun _ => by kernel_rfl
  have f1 : ∀ w, (Instr.field 97 (.agg #[.int .i64 n1, .string a]) 1).run Try.prog w = .ok (.string a) w := fun _ => by kernel_rfl
  have f2 : ∀ w, (Instr.field 97 (.agg #[.int .i64 n2, .string b]) 1).run Try.prog w = .ok (.string b) w := fun _ => by kernel_rfl
  clear hp h0 h1 h2
  unfold constV
  go_enter Try.func90, Try.ntmps90
  go_wp2
  exact bodyPost_ret (v := .agg #[.int .i64 k, .int .i64 n, .string a, .string b]) (results_one Try.results90 _ _ _ rfl (loadK (heap_alloc_new w _))) rfl ⟨rfl, (Below.refl _ _).alloc (Nat.le_refl _) _⟩

theorem atKey_nil (kl : Lit) (zd : DataW Unit) : (DataW.map []).atKey kl zd = zd := rfl
theorem atKey_one (p x : Int) (d zd : DataW Unit) : (DataW.map [(Lit.int .i64 p, d)]).atKey (.int .i64 x) zd = bif p == x then d else zd := by
  simp only [DataW.atKey, List.find?, sameInt]
  cases p == x <;> rfl
theorem atKey_two (p p' x : Int) (d d' zd : DataW Unit) : (DataW.map [(Lit.int .i64 p, d), (Lit.int .i64 p', d')]).atKey (.int .i64 x) zd = bif p == x then d else bif p' == x then d' else zd := by
  simp only [DataW.atKey, List.find?, sameInt]
  cases p == x <;> cases p' == x <;> rfl

/-- What is right of the parts of a const. -/
def rB (k n : Int) (a b : ByteArray) : Bool := if k = 1 then inB n (-2147483648) 2147483647 else if k = 2 then nameB a else if k = 3 ∨ k = 4 then nameB a && nameB b else true

theorem two_ways {m : Int} {t : ByteArray} (h : ∀ zd : DataW Unit, zd = dPart m t) : False := by
  have h1 := h (dPart (m + 1) t)
  have := (dPart_inj h1).1
  omega

theorem rightD_of (k n : Int) (a b : ByteArray) (ha : a.size ≤ maxLen) (hb : b.size ≤ maxLen) : RightD (pD k n a b) (rB k n a b) := by
  have key : ∀ x m t, (∀ zd, (pD k n a b).atKey (.int .i64 x) zd = dPart m t) →
      (k = 1 ∧ x = 0 ∧ m = n ∧ t = noS) ∨ (k = 2 ∧ x = 1 ∧ m = 0 ∧ t = a) ∨ ((k = 3 ∨ k = 4) ∧ ((x = 1 ∧ m = 0 ∧ t = a) ∨ (x = 2 ∧ m = 0 ∧ t = b))) := by
    intro x m t h
    unfold pD at h
    by_cases h1 : k = 1
    · simp only [h1, if_true, atKey_one] at h
      cases hx : ((0 : Int) == x)
      · rw [hx] at h; exact (two_ways h).elim
      · rw [hx] at h
        obtain ⟨rfl, rfl⟩ := dPart_inj (h (dPart 0 noS)).symm
        exact .inl ⟨h1, by have := of_decide_eq_true hx; omega, rfl, rfl⟩
    · by_cases h2 : k = 2
      · subst h2
        simp only [show ¬ ((2 : Int) = 1) from by decide, if_false, if_true, atKey_one] at h
        cases hx : ((1 : Int) == x)
        · rw [hx] at h; exact (two_ways h).elim
        · rw [hx] at h
          obtain ⟨rfl, rfl⟩ := dPart_inj (h (dPart 0 noS)).symm
          exact .inr (.inl ⟨rfl, by have := of_decide_eq_true hx; omega, rfl, rfl⟩)
      · by_cases h3 : k = 3 ∨ k = 4
        · simp only [h1, h2, h3, if_false, if_true, atKey_two] at h
          refine .inr (.inr ⟨h3, ?_⟩)
          cases hx : ((1 : Int) == x)
          · rw [hx] at h
            cases hy : ((2 : Int) == x)
            · rw [hy] at h; exact (two_ways h).elim
            · rw [hy] at h
              obtain ⟨rfl, rfl⟩ := dPart_inj (h (dPart 0 noS)).symm
              exact .inr ⟨by have := of_decide_eq_true hy; omega, rfl, rfl⟩
          · rw [hx] at h
            obtain ⟨rfl, rfl⟩ := dPart_inj (h (dPart 0 noS)).symm
            exact .inl ⟨by have := of_decide_eq_true hx; omega, rfl, rfl⟩
        · simp only [h1, h2, h3, if_false, atKey_nil] at h
          exact (two_ways h).elim
  refine ⟨fun x m t h => ?_, fun h => ?_, fun x m t h hf => ?_⟩
  · rcases key x m t h with ⟨_, _, _, rfl⟩ | ⟨_, _, _, rfl⟩ | ⟨_, ⟨_, _, rfl⟩ | ⟨_, _, rfl⟩⟩
    · simp [maxLen, ByteArray.size]
    · exact ha
    · exact ha
    · exact hb
  · unfold rB
    by_cases h1 : k = 1
    · subst h1
      exact h 0 n noS rfl (fun zd => rfl)
    · by_cases h2 : k = 2
      · subst h2
        exact h 1 0 a rfl (fun zd => rfl)
      · by_cases h3 : k = 3 ∨ k = 4
        · have e : pD k n a b = .map [(.int .i64 1, dPart 0 a), (.int .i64 2, dPart 0 b)] := by simp [pD, h1, h2, h3]
          have x1 := h 1 0 a (by rw [e]; rfl) (fun zd => by rw [e]; rfl)
          have x2 := h 2 0 b (by rw [e]; rfl) (fun zd => by rw [e]; rfl)
          simp only [h1, h2, h3, if_false, if_true]
          rw [show nameB a = true from x1, show nameB b = true from x2]
          rfl
        · simp [h1, h2, h3]
  · rcases key x m t h with ⟨rfl, rfl, rfl, rfl⟩ | ⟨rfl, rfl, rfl, rfl⟩ | ⟨hk, ⟨rfl, rfl, rfl⟩ | ⟨rfl, rfl, rfl⟩⟩
    · exact hf
    · exact hf
    · have h1 : ¬ k = 1 := by omega
      have h2 : ¬ k = 2 := by omega
      unfold rB
      simp only [h1, h2, hk, if_false, if_true]
      rw [show nameB t = false from hf]
      rfl
    · have h1 : ¬ k = 1 := by omega
      have h2 : ¬ k = 2 := by omega
      unfold rB
      simp only [h1, h2, hk, if_false, if_true]
      rw [show nameB t = false from hf]
      cases nameB a <;> rfl
end Go.Proofs.Ythagfdcfpffaoaa
