/-
  Joined: PnB, MsgB, CellB.
-/
import Derived.Test.YtkfnpijljpbiaaaDoorJ6
import Derived.Test.YtkfnpijljpbiaaaDoorJ10
/-
  The bytes of numbers are bytes; rows of bytes of one's own, one put behind another.
-/
namespace Go.Proofs.YtkfnpijljpbiaaaDoor
open Go.RowKit

theorem pnF_byt : ∀ (k : Nat) (n : Int), 0 ≤ n → n ≤ pnB k → Byt (pnF k n)
  | 0, n, h0, h1 => by
    intro z hz
    simp [pnF] at hz
    simp [pnB] at h1
    omega
  | k + 1, n, h0, h1 => by
    intro z hz
    unfold pnF at hz
    split at hz
    · rcases List.mem_cons.1 hz with rfl | hz
      · omega
      · exact pnF_byt k (n / 128) (by omega) (by simp only [pnB] at h1; omega) z hz
    · simp at hz; omega
theorem pn_byt (n : Int) : Byt (pn n) := by
  unfold pn
  split
  · rename_i h
    exact pnF_byt 3 n h.1 (by simp [pnB]; omega)
  · intro z hz; cases hz
theorem pnF_pos : ∀ (k : Nat) (n : Int), 0 < (pnF k n).length
  | 0, n => by simp [pnF]
  | k + 1, n => by unfold pnF; split <;> simp
theorem pn_pos (n : Int) (h0 : 0 ≤ n) (h1 : n ≤ 16777215) : 0 < (pn n).length := by rw [pn_in n h0 h1]; exact pnF_pos 3 n

/-- 'append(v, u...)', both rows of one's own: u's bytes behind v's. -/
theorem app_own {w : World} {ops : Array Oper} {rest : List Oper} {o : Oper} {act : Act} {Q : Exit → Act → World → Prop} (hgd : o.guard = none) (s x : Operand)
    (ho : o.op = .call { callee := .builtin .append, args := #[s, x], argTypes := #[22, 22] }) (base b2 : Nat) (v u : Value) (xs zs : List Int) (hs : act.eval s = v) (hown : Own w base v xs)
    (hx : act.eval x = u) (hu : Own w b2 u zs) (hz : Byt zs) (hl : zs.length ≤ 1048576) (hsm : xs.length ≤ 2000000) (hbase : base ≤ w.heap.size)
    (h : ∀ v' w', Own w' base v' (xs ++ zs) → w.grownBy w' v.ownBlock → (v' = .slice none 0 0 ↔ v = .slice none 0 0 ∧ zs.length = 0) → wpList Tryd.prog ops Q rest (act.put o.dst v') w') :
    wpList Tryd.prog ops Q (o :: rest) act w := by
  obtain ⟨a, c, rfl, hi, _⟩ := in_any hu hl hz (Nat.le_refl _)
  exact app_in hgd s x ho base w.heap.size v xs hs hown a zs.length c zs hx (fun e => hu.cap0 e) hi hsm hbase h
end Go.Proofs.YtkfnpijljpbiaaaDoor
/-
  The bytes of a message.
-/
namespace Go.Proofs.YtkfnpijljpbiaaaDoor
open Go.RowKit

def cellB (x : Int × Bool × Int) : List Int := bif x.2.1 then pn x.1 ++ pn 1 ++ pn x.2.2 else pn x.1 ++ pn 0 ++ pw x.2.2
def noteB (x : Int × Int) : List Int := pn x.1 ++ pn x.2
/-- The numbers that a message's bytes begin with. -/
def headB (k i u c n : Int) : List Int := pn k ++ pn i ++ pn u ++ pn c ++ pn n
def msgB (k i u c n : Int) (cs : List (Int × Bool × Int)) (ns : List (Int × Int)) : List Int :=
  headB k i u c n ++ pn cs.length ++ cs.flatMap cellB ++ pn ns.length ++ ns.flatMap noteB

theorem cellB_len (x : Int × Bool × Int) : (cellB x).length ≤ 12 := by
  have h1 := pn_len x.1
  have h2 := pn_len x.2.2
  have h3 := pw_len x.2.2
  have h4 := pn_len 1
  have h5 := pn_len 0
  unfold cellB
  cases x.2.1 <;> simp <;> omega
theorem noteB_len (x : Int × Int) : (noteB x).length ≤ 8 := by
  have h1 := pn_len x.1
  have h2 := pn_len x.2
  unfold noteB
  simp; omega
theorem headB_len (k i u c n : Int) : (headB k i u c n).length ≤ 20 := by
  have h1 := pn_len k
  have h2 := pn_len i
  have h3 := pn_len u
  have h4 := pn_len c
  have h5 := pn_len n
  unfold headB
  simp; omega
theorem flatB_len {α : Type} (f : α → List Int) (m : Nat) (hf : ∀ x, (f x).length ≤ m) : ∀ (xs : List α), (xs.flatMap f).length ≤ xs.length * m
  | [] => by simp
  | x :: xs => by
    have := flatB_len f m hf xs
    have := hf x
    rw [List.flatMap_cons, List.length_append, List.length_cons, Nat.succ_mul]; omega
theorem flatB_snoc {α : Type} (f : α → List Int) (xs : List α) (d : α) (j : Nat) (h : j < xs.length) : (xs.take (j + 1)).flatMap f = (xs.take j).flatMap f ++ f (xs.getD j d) := by
  rw [List.take_succ_eq_append_getElem h, List.flatMap_append]; simp [h]
theorem cellB_byt (x : Int × Bool × Int) : Byt (cellB x) := by
  unfold cellB
  cases x.2.1
  · exact ((pn_byt _).append (pn_byt _)).append (pw_byt _)
  · exact ((pn_byt _).append (pn_byt _)).append (pn_byt _)
theorem noteB_byt (x : Int × Int) : Byt (noteB x) := (pn_byt _).append (pn_byt _)
theorem flatB_byt {α : Type} (f : α → List Int) (hf : ∀ x, Byt (f x)) (xs : List α) : Byt (xs.flatMap f) := by
  intro z hz
  obtain ⟨x, _, hx⟩ := List.mem_flatMap.1 hz
  exact hf x z hx
theorem msgB_byt (k i u c n : Int) (cs : List (Int × Bool × Int)) (ns : List (Int × Int)) : Byt (msgB k i u c n cs ns) := by
  unfold msgB headB
  exact ((((((((pn_byt _).append (pn_byt _)).append (pn_byt _)).append (pn_byt _)).append (pn_byt _)).append (pn_byt _)).append (flatB_byt _ cellB_byt _)).append (pn_byt _)).append (flatB_byt _ noteB_byt _)
theorem msgB_len (k i u c n : Int) (cs : List (Int × Bool × Int)) (ns : List (Int × Int)) (h1 : cs.length ≤ 8) (h2 : ns.length ≤ 130) : (msgB k i u c n cs ns).length ≤ 1200 := by
  have h3 := headB_len k i u c n
  have h4 := pn_len cs.length
  have h5 := flatB_len cellB 12 cellB_len cs
  have h6 := pn_len ns.length
  have h7 := flatB_len noteB 8 noteB_len ns
  unfold msgB
  simp only [List.length_append]; omega
end Go.Proofs.YtkfnpijljpbiaaaDoor
/-
  What cellBytes does.
-/
namespace Go.Proofs.YtkfnpijljpbiaaaDoor
open Go.RowKit

theorem cellB_yes (x y : Int) : cellB (x, true, y) = pn x ++ pn 1 ++ pn y := rfl
theorem cellB_no (x y : Int) : cellB (x, false, y) = pn x ++ pn 0 ++ pw y := rfl

set_option maxRecDepth 100000 in
set_option maxHeartbeats 1000000 in
theorem cellBytesTrue (x y : Int) (w : World) :
    Calls Tryd.prog 61 #[.agg #[.int .i64 x, .bool true, .int .i64 y]] w fun e w' => ∃ v, e = .returned v ∧ Own w' w.heap.size v (cellB (x, true, y)) ∧ Below w.heap.size w w' := by
  rw [cellB_yes]
  have hlx := pn_len x
  have HX := hide (Box.new w #[.int .i64 x, .bool true, .int .i64 y] 92)
  have HW := hide ((Below.refl w.heap.size w).alloc (Nat.le_refl _) (.cells #[.int .i64 x, .bool true, .int .i64 y] 92))
  have hg : Hid (w.heap.size < (w.alloc (.cells #[.int .i64 x, .bool true, .int .i64 y] 92)).heap.size) := hide (by simp)
  go_enter Tryd.func61, Tryd.ntmps61
  go_wp2_with fail
  generalize w.alloc (.cells #[.int .i64 x, .bool true, .int .i64 y] 92) = W0 at *
  refine (putNumImpl _ _).mono ?_
  rintro e w1 ⟨v1, rfl, o1, b1⟩
  have HP := hide b1
  have HO := hide o1
  clear b1 o1
  have f0 := (HX.out.below hg.out HP.out) 0 _ rfl
  have f1 := (HX.out.below hg.out HP.out) 1 _ rfl
  have f2 := (HX.out.below hg.out HP.out) 2 _ rfl
  go_wp2_with fail
  clear f0 f1 f2
  refine (putNumImpl _ _).mono ?_
  rintro e w2 ⟨v2, rfl, o2, b2⟩
  have HU2 := hide o2
  replace HO := hide (HO.out.below b2)
  replace HP := hide (HP.out.trans (b2.mono HP.out.size))
  have s2 := HP.out.size
  clear o2 b2
  go_wp2_with (at_builtin; refine app_own rfl _ _ rfl W0.heap.size _ _ _ (pn x) (pn 1) rfl HO.out rfl HU2.out (pn_byt _) (Nat.le_trans (pn_len _) (by omega)) (by omega) s2 ?_; intro v3 w3 o3 g3 n3; have HP3 := hide (HP.out.grown g3 s2 (fun q hq => (HO.out.lt q hq).1)); have HO3 := hide o3; clear o3 g3 n3; have f0 := (HX.out.below hg.out HP3.out) 0 _ rfl; have f1 := (HX.out.below hg.out HP3.out) 1 _ rfl; have f2 := (HX.out.below hg.out HP3.out) 2 _ rfl)
  clear f0 f1 f2
  refine (putNumImpl _ _).mono ?_
  rintro e w4 ⟨v4, rfl, o4, b4⟩
  have HU4 := hide o4
  replace HO := hide (HO3.out.below b4)
  replace HP := hide (HP3.out.trans (b4.mono HP3.out.size))
  have s4 := HP.out.size
  have hl1 := pn_len 1
  clear o4 b4 HO3 HP3
  go_wp2_with (at_builtin; refine app_own rfl _ _ rfl W0.heap.size _ _ _ (pn x ++ pn 1) (pn y) rfl HO.out rfl HU4.out (pn_byt _) (Nat.le_trans (pn_len _) (by omega)) (by simp; omega) s4 ?_; intro v5 w5 o5 g5 n5; have HP5 := hide (HP.out.grown g5 s4 (fun q hq => (HO.out.lt q hq).1)); have HO5 := hide o5; clear o5 g5 n5)
  go_ret
  exact ⟨_, rfl, HO5.out.mono HW.out.size, HW.out.trans (HP5.out.mono HW.out.size)⟩

set_option maxRecDepth 100000 in
set_option maxHeartbeats 1000000 in
theorem cellBytesFalse (x y : Int) (w : World) :
    Calls Tryd.prog 61 #[.agg #[.int .i64 x, .bool false, .int .i64 y]] w fun e w' => ∃ v, e = .returned v ∧ Own w' w.heap.size v (cellB (x, false, y)) ∧ Below w.heap.size w w' := by
  rw [cellB_no]
  have hlx := pn_len x
  have HX := hide (Box.new w #[.int .i64 x, .bool false, .int .i64 y] 92)
  have HW := hide ((Below.refl w.heap.size w).alloc (Nat.le_refl _) (.cells #[.int .i64 x, .bool false, .int .i64 y] 92))
  have hg : Hid (w.heap.size < (w.alloc (.cells #[.int .i64 x, .bool false, .int .i64 y] 92)).heap.size) := hide (by simp)
  go_enter Tryd.func61, Tryd.ntmps61
  go_wp2_with fail
  generalize w.alloc (.cells #[.int .i64 x, .bool false, .int .i64 y] 92) = W0 at *
  refine (putNumImpl _ _).mono ?_
  rintro e w1 ⟨v1, rfl, o1, b1⟩
  have HP := hide b1
  have HO := hide o1
  clear b1 o1
  have f0 := (HX.out.below hg.out HP.out) 0 _ rfl
  have f1 := (HX.out.below hg.out HP.out) 1 _ rfl
  have f2 := (HX.out.below hg.out HP.out) 2 _ rfl
  go_wp2_with fail
  clear f0 f1 f2
  refine (putNumImpl _ _).mono ?_
  rintro e w2 ⟨v2, rfl, o2, b2⟩
  have HU2 := hide o2
  replace HO := hide (HO.out.below b2)
  replace HP := hide (HP.out.trans (b2.mono HP.out.size))
  have s2 := HP.out.size
  clear o2 b2
  go_wp2_with (at_builtin; refine app_own rfl _ _ rfl W0.heap.size _ _ _ (pn x) (pn 0) rfl HO.out rfl HU2.out (pn_byt _) (Nat.le_trans (pn_len _) (by omega)) (by omega) s2 ?_; intro v3 w3 o3 g3 n3; have HP3 := hide (HP.out.grown g3 s2 (fun q hq => (HO.out.lt q hq).1)); have HO3 := hide o3; clear o3 g3 n3; have f0 := (HX.out.below hg.out HP3.out) 0 _ rfl; have f1 := (HX.out.below hg.out HP3.out) 1 _ rfl; have f2 := (HX.out.below hg.out HP3.out) 2 _ rfl)
  clear f0 f1 f2
  refine (putWordImpl _ _).mono ?_
  rintro e w4 ⟨v4, rfl, o4, b4⟩
  have HU4 := hide o4
  replace HO := hide (HO3.out.below b4)
  replace HP := hide (HP3.out.trans (b4.mono HP3.out.size))
  have s4 := HP.out.size
  have hl1 := pn_len 0
  clear o4 b4 HO3 HP3
  go_wp2_with (at_builtin; refine app_own rfl _ _ rfl W0.heap.size _ _ _ (pn x ++ pn 0) (pw y) rfl HO.out rfl HU4.out (pw_byt _) (Nat.le_trans (pw_len _) (by omega)) (by simp; omega) s4 ?_; intro v5 w5 o5 g5 n5; have HP5 := hide (HP.out.grown g5 s4 (fun q hq => (HO.out.lt q hq).1)); have HO5 := hide o5; clear o5 g5 n5)
  go_ret
  exact ⟨_, rfl, HO5.out.mono HW.out.size, HW.out.trans (HP5.out.mono HW.out.size)⟩

theorem cellBytes (x : Int) (r : Bool) (y : Int) (w : World) :
    Calls Tryd.prog 61 #[.agg #[.int .i64 x, .bool r, .int .i64 y]] w fun e w' => ∃ v, e = .returned v ∧ Own w' w.heap.size v (cellB (x, r, y)) ∧ Below w.heap.size w w' := by
  cases r
  · exact cellBytesFalse x y w
  · exact cellBytesTrue x y w
end Go.Proofs.YtkfnpijljpbiaaaDoor
