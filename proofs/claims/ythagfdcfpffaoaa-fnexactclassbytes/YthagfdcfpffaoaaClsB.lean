/-
  The bytes of a class, by the program.
-/
import Derived.Test.YthagfdcfpffaoaaClsOkJ
import Derived.Test.YthagfdcfpffaoaaConstB
import Derived.Test.YthagfdcfpffaoaaStepB
namespace Go.Proofs.Ythagfdcfpffaoaa
open Go.RowKit

def kcY (x : Kc) : List Int := kB x.k x.n x.a x.b
def fdY (x : Fd) : List Int := pt x.n ++ pt x.t
def rowY {α : Type} (g : α → List Int) (xs : List α) : List Int := pn (xs.length : Int) ++ xs.flatMap g
def meY (x : Me) : List Int := pt x.n ++ rowY pt x.ps ++ pt x.r ++ pn x.l ++ pn (x.c.length : Int) ++ x.c
def clY0 (x : Cl) : List Int := pt x.n ++ pt x.s ++ rowY kcY x.p ++ rowY fdY x.f ++ rowY meY x.m
def clY (x : Cl) : List Int := bif clB x then clY0 x else []

theorem flat_le {α : Type} {g : α → List Int} {k : Nat} : ∀ (xs : List α), (∀ y ∈ xs, (g y).length ≤ k) → (xs.flatMap g).length ≤ xs.length * k
  | [], _ => by simp
  | x :: xs, h => by
    have h1 := h x (by simp)
    have h2 := flat_le xs (fun y hy => h y (by simp [hy]))
    rw [List.flatMap_cons, List.length_append, List.length_cons, Nat.succ_mul]; omega
theorem flat_take_le {α : Type} {g : α → List Int} {k : Nat} {xs : List α} (h : ∀ y ∈ xs, (g y).length ≤ k) (j : Nat) (hj : j ≤ xs.length) : ((xs.take j).flatMap g).length ≤ j * k := by
  have := flat_le (xs.take j) (fun y hy => h y (List.mem_of_mem_take hy))
  rwa [List.length_take, Nat.min_eq_left hj] at this
theorem flat_step {α : Type} [Inhabited α] (g : α → List Int) (xs : List α) (j : Nat) (h : j < xs.length) : (xs.take (j + 1)).flatMap g = (xs.take j).flatMap g ++ g (xs.getD j default) := by
  have : xs.getD j default = xs[j] := by simp [h]
  rw [List.take_succ_eq_append_getElem h, List.flatMap_append, this]
  simp
theorem byt_flat {α : Type} {g : α → List Int} : ∀ (xs : List α), (∀ y ∈ xs, Byt (g y)) → Byt (xs.flatMap g)
  | [], _ => fun z hz => by simp at hz
  | x :: xs, h => by
    rw [List.flatMap_cons]
    exact (h x (by simp)).append (byt_flat xs (fun y hy => h y (by simp [hy])))
theorem rowY_byt {α : Type} {g : α → List Int} {xs : List α} (h : ∀ y ∈ xs, Byt (g y)) : Byt (rowY g xs) := (pn_byt _).append (byt_flat xs h)
theorem rowY_len {α : Type} {g : α → List Int} {k : Nat} {xs : List α} (h : ∀ y ∈ xs, (g y).length ≤ k) : (rowY g xs).length ≤ 4 + xs.length * k := by
  have := flat_le xs h
  have h2 := pn_len (xs.length : Int)
  unfold rowY
  rw [List.length_append]; omega
theorem pt_pos (s : ByteArray) (h : s.size ≤ 200) : 0 < (pt s).length := by
  rw [pt_in s h, List.length_append]
  have := pn_pos (s.size : Int) (by omega) (by omega)
  omega
theorem rowY_pos {α : Type} (g : α → List Int) (xs : List α) (h : xs.length ≤ 1000) : 0 < (rowY g xs).length := by
  unfold rowY
  have := pn_pos (xs.length : Int) (by omega) (by omega)
  rw [List.length_append]; omega
theorem kcY_len (x : Kc) : (kcY x).length ≤ 412 := kB_len _ _ _ _
theorem kcY_byt (x : Kc) : Byt (kcY x) := kB_byt _ _ _ _
theorem fdY_len (x : Fd) : (fdY x).length ≤ 408 := by
  unfold fdY
  have := pt_len x.n
  have := pt_len x.t
  rw [List.length_append]; omega
theorem fdY_byt (x : Fd) : Byt (fdY x) := (ptByt _).append (ptByt _)
/-- A method whose bytes are not too many. -/
def MeS (x : Me) : Prop := x.n.size ≤ 200 ∧ x.r.size ≤ 200 ∧ x.ps.length ≤ 3 ∧ (∀ s ∈ x.ps, s.size ≤ 200) ∧ x.c.length ≤ 90 ∧ Byt x.c
theorem meY_len (x : Me) (h : MeS x) : (meY x).length ≤ 2000 := by
  have h1 := pt_len x.n
  have h2 := pt_len x.r
  have h3 := rowY_len (g := pt) (k := 204) (xs := x.ps) (fun y _ => pt_len y)
  have h4 := pn_len x.l
  have h5 := pn_len (x.c.length : Int)
  have h6 := h.2.2.1
  have h7 := h.2.2.2.2.1
  unfold meY
  simp only [List.length_append]; omega
theorem meY_byt (x : Me) (h : MeS x) : Byt (meY x) := ((((((ptByt _).append (rowY_byt (fun y _ => ptByt y))).append (ptByt _)).append (pn_byt _)).append (pn_byt _)).append h.2.2.2.2.2)
theorem name_len {s : ByteArray} (h : nameB s = true) : s.size ≤ 8 := by
  unfold nameB at h
  rw [Bool.and_eq_true] at h
  have := inB_yes h.1
  omega
/-- Of a class that is right. -/
structure ClS (x : Cl) : Prop where
  n : x.n.size ≤ 200
  s : x.s.size ≤ 200
  p : x.p.length ≤ 24
  f : x.f.length ≤ 8
  m : x.m.length ≤ 6
  fs : ∀ y ∈ x.f, y.n.size ≤ 200 ∧ y.t.size ≤ 200
  ms : ∀ y ∈ x.m, MeS y
theorem clS_of {x : Cl} (h : clB x = true) (hg : ClG x) : ClS x := by
  unfold clB namB poolB fldsB metsB clsB at h
  simp only [Bool.and_eq_true, Bool.or_eq_true, decide_eq_true_eq, List.all_eq_true] at h
  obtain ⟨⟨⟨⟨⟨h1, _⟩, h2⟩, ⟨h3, _⟩, _⟩, ⟨h4, h5⟩, _⟩, ⟨h6, h7⟩, _⟩ := h
  refine ⟨by have := name_len h1; omega, ?_, h3, h4, h6, fun y hy => ?_, fun y hy => ?_⟩
  · rcases h2 with h2 | ⟨h2, _⟩
    · have : x.s.size = 0 := by
        rw [List.isEmpty_iff, ByteArray.toList_eq] at h2
        have h3 := congrArg List.length h2
        rw [Array.length_toList] at h3
        exact h3
      omega
    · have := name_len h2; omega
  · have := h5 y hy
    unfold fdB at this
    rw [Bool.and_eq_true] at this
    have a := name_len this.1
    have b := name_len this.2
    omega
  · have := h7 y hy
    unfold meB at this
    simp only [Bool.and_eq_true, decide_eq_true_eq, List.all_eq_true] at this
    obtain ⟨⟨⟨⟨a1, a2, a3⟩, a4⟩, _⟩, a5⟩ := this
    have b1 := name_len a1
    have b2 := name_len a4
    have b3 := inB_yes a5
    exact ⟨by omega, by omega, a2, fun s hs => by have := name_len (a3 s hs); omega, by omega, (hg.ms y hy).2.2.1.2.2⟩

set_option maxRecDepth 100000 in
set_option maxHeartbeats 2000000 in
theorem fdBy (w : World) (x : Fd) (h1 : x.n.size ≤ 200) (h2 : x.t.size ≤ 200) :
    Calls Try.prog 40 #[fdV x] w fun e w' => ∃ v, e = .returned v ∧ Own w' w.heap.size v (fdY x) ∧ Below w.heap.size w w' := by
  have HX := hide (Box.new w #[.string x.n, .string x.t] 65)
  have HW := hide ((Below.refl w.heap.size w).alloc (Nat.le_refl _) (.cells #[.string x.n, .string x.t] 65))
  have hg : w.heap.size < (w.alloc (.cells #[.string x.n, .string x.t] 65)).heap.size := by simp
  have hm1 : x.n.size ≤ maxLen := len_max (by omega)
  have hm2 : x.t.size ≤ maxLen := len_max (by omega)
  have hp := pt_pos x.t h2
  have hl0 := pt_len x.n
  have hl1 := pt_len x.t
  unfold fdV
  go_enter Try.func40, Try.ntmps40
  go_wp2_with fail
  generalize w.alloc (.cells #[.string x.n, .string x.t] 65) = W0 at *
  have HS : Hid (∀ w', Below W0.heap.size W0 w' → w'.cell? ⟨w.heap.size, 0, none⟩ = some (.string x.n) ∧ w'.cell? ⟨w.heap.size, 1, none⟩ = some (.string x.t)) := hide (fun w' hw => ⟨(hw.cell (p := ⟨w.heap.size, 0, none⟩) hg).trans (HX.out 0 _ rfl), (hw.cell (p := ⟨w.heap.size, 1, none⟩) hg).trans (HX.out 1 _ rfl)⟩)
  have HD0 : Hid (Below W0.heap.size W0 W0.drew) := hide (Below.refl W0.heap.size W0).drew
  go_region_held_law (fun w' => w'.cell? ⟨w.heap.size, 0, none⟩ = some (.string x.n) ∧ w'.cell? ⟨w.heap.size, 1, none⟩ = some (.string x.t))
    (first | exact HS.out _ HD3.out | exact HS.out _ HD2.out | exact HS.out _ HD1.out | exact HS.out _ HD0.out)
    (first
      | (refine step_callB (some 5) rfl rfl 36 _ _ rfl #[.string x.n] (by kernel_rfl) (putTextImpl x.n _ hm1) ?_; rintro e x1 ⟨v1, rfl, o1, b1⟩; refine ⟨_, rfl, ?_⟩; have HD1 : Hid (Below W0.heap.size W0 x1) := hide (HD0.out.trans (b1.mono HD0.out.size)); have HO1 : Hid (Own x1 W0.heap.size v1 (pt x.n)) := hide o1; clear b1 o1)
      | (refine step_callB (some 8) rfl rfl 36 _ _ rfl #[.string x.t] (by kernel_rfl) (putTextImpl x.t _ hm2) ?_; rintro e x2 ⟨v2, rfl, o2, b2⟩; refine ⟨_, rfl, ?_⟩; have HD2 : Hid (Below W0.heap.size W0 x2) := hide (HD1.out.trans (b2.mono HD1.out.size)); have HO2 := hide (HO1.out.below b2); have HU2 := hide o2; clear b2 o2)
      | (refine step_appB (some 9) rfl rfl _ _ rfl W0.heap.size _ v1 v2 (pt x.n) (pt x.t) (by rfl) (by rfl) HO2.out HU2.out (ptByt _) hp (by omega) (by omega) HD2.out.size ?_; intro v3 x3 o3 g3; have HD3 : Hid (Below W0.heap.size W0 x3) := hide (HD2.out.grown g3 HD2.out.size (fun q hq => (HO2.out.lt q hq).1)); have HO3 := hide o3; clear o3 g3)
      | fail)
  clear HS HD0 HD1 HD2 HO1 HO2 HU2
  go_wp2
  go_ret
  exact ⟨_, rfl, HO3.out.mono HW.out.size, HW.out.trans (HD3.out.mono HW.out.size)⟩
set_option maxRecDepth 100000 in
set_option maxHeartbeats 4000000 in
theorem lbSt (w : World) (v : Value) (xs : List ByteArray) (h : Reads w w.heap.size (strs xs) v) (hm : xs.length ≤ 24) (hg : ∀ y ∈ xs, y.size ≤ 200) :
    Calls Try.prog 73 #[v, .func (.func 36) #[] #[]] w fun e w' => ∃ v', e = .returned v' ∧ Own w' w.heap.size v' (rowY pt xs) ∧ Below w.heap.size w w' := by
  have HX : Hid (∀ wr, Below w.heap.size w wr → _) := hide (fun wr hb => str_at (h.at hb))
  have HG := hide (fun j hj => getD_mem hg j hj)
  have HL : Hid (∀ j, j ≤ xs.length → ((xs.take j).flatMap pt).length ≤ j * 204) := hide (fun j hj => flat_take_le (fun y hy => pt_len y) j hj)
  have HT : Hid (∀ j, j < xs.length → (xs.take (j + 1)).flatMap pt = (xs.take j).flatMap pt ++ pt (xs.getD j default)) := hide (fun j hj => flat_step _ xs j hj)
  have HF : Hid (rowY pt xs = pn (xs.length : Int) ++ (xs.take xs.length).flatMap pt) := hide (by unfold rowY; rw [List.take_length])
  obtain ⟨a, cap, rfl, _⟩ := str_at h
  clear h hg
  generalize hn : xs.length = n at *
  have hpl := pn_len (n : Int)
  go_enter Try.func73, Try.ntmps73
  go_wp2_with fail
  refine (putNumImpl _ _).mono ?_
  rintro e w1 ⟨v1, rfl, o1, b1⟩
  have HO1 := hide o1
  have HB1 := hide b1
  clear o1 b1
  go_wp2
  go_loopw [5, 13] (fun out i wr => ∃ j : Nat, j ≤ n ∧ i = .int .i64 (j : Int) ∧ Hid (Own wr w.heap.size out (pn (n : Int) ++ (xs.take j).flatMap pt)) ∧ Hid (Below w.heap.size w wr)) (fun _ i _ => n - (intOf i).toNat)
  case atStart => exact ⟨0, Nat.zero_le _, rfl, hide (by simpa using HO1.out), HB1⟩
  case round =>
    obtain ⟨j, hj, rfl, HO, HB⟩ := hrel
    clear HO1 HB1
    by_cases hlt : j < n
    · obtain ⟨a', cap', ea, _, _, hc⟩ := HX.out wr HB.out
      cases ea
      obtain ⟨b, o, rfl, _, hcell⟩ := hc (by omega)
      obtain e0 := hcell j hlt
      have hgx := hide (HG.out j (by omega))
      have hlj := HL.out j hj
      have HTj := hide (HT.out j (by omega))
      clear hcell hc
      obtain ⟨x, hx⟩ : ∃ x, xs.getD j default = x := ⟨_, rfl⟩
      rw [hx] at e0 hgx HTj
      clear hx
      go_wp2_with fail
      refine (putTextImpl x _ (len_max (by have := hgx.out; omega))).mono ?_
      rintro e w2 ⟨v2, rfl, o2, b2⟩
      have HU := hide o2
      replace HO := hide (HO.out.below b2)
      replace HB := hide (HB.out.trans (b2.mono HB.out.size))
      have s2 := HB.out.size
      have hgl : (pt x).length ≤ 204 := pt_len x
      have hgb : Hid (Byt (pt x)) := hide (ptByt x)
      clear o2 b2
      go_wp2_with (at_builtin; refine app_own rfl _ _ rfl w.heap.size _ _ _ _ (pt x) rfl HO.out rfl HU.out hgb.out (by omega) (by simp only [List.length_append]; omega) s2 ?_; intro v5 w5 o5 g5 n5; have HB5 := hide (HB.out.grown g5 s2 (fun q hq => (HO.out.lt q hq).1)); have HO5 := hide o5; clear o5 g5 n5)
      exact ⟨⟨j + 1, by omega, by go_num, hide (by rw [HTj.out, ← List.append_assoc]; exact HO5.out), HB5⟩, by simp [intOf]; omega⟩
    · obtain rfl : j = n := by omega
      go_wp2
      go_ret
      exact ⟨_, rfl, by rw [HF.out]; exact HO.out, HB.out⟩
set_option maxRecDepth 100000 in
set_option maxHeartbeats 4000000 in
theorem lbKc (w : World) (v : Value) (xs : List Kc) (h : Reads w w.heap.size (pool xs) v) (hm : xs.length ≤ 24) (hg : ∀ y ∈ xs, y.a.size ≤ 1048576 ∧ y.b.size ≤ 1048576) :
    Calls Try.prog 37 #[v, .func (.func 38) #[] #[]] w fun e w' => ∃ v', e = .returned v' ∧ Own w' w.heap.size v' (rowY kcY xs) ∧ Below w.heap.size w w' := by
  have HX : Hid (∀ wr, Below w.heap.size w wr → _) := hide (fun wr hb => const_at (h.at hb))
  have HG := hide (fun j hj => getD_mem hg j hj)
  have HL : Hid (∀ j, j ≤ xs.length → ((xs.take j).flatMap kcY).length ≤ j * 412) := hide (fun j hj => flat_take_le (fun y hy => kcY_len y) j hj)
  have HT : Hid (∀ j, j < xs.length → (xs.take (j + 1)).flatMap kcY = (xs.take j).flatMap kcY ++ kcY (xs.getD j default)) := hide (fun j hj => flat_step _ xs j hj)
  have HF : Hid (rowY kcY xs = pn (xs.length : Int) ++ (xs.take xs.length).flatMap kcY) := hide (by unfold rowY; rw [List.take_length])
  obtain ⟨a, cap, rfl, _⟩ := const_at h
  clear h hg
  generalize hn : xs.length = n at *
  have hpl := pn_len (n : Int)
  go_enter Try.func37, Try.ntmps37
  go_wp2_with fail
  refine (putNumImpl _ _).mono ?_
  rintro e w1 ⟨v1, rfl, o1, b1⟩
  have HO1 := hide o1
  have HB1 := hide b1
  clear o1 b1
  go_wp2
  go_loopw [5, 13] (fun out i wr => ∃ j : Nat, j ≤ n ∧ i = .int .i64 (j : Int) ∧ Hid (Own wr w.heap.size out (pn (n : Int) ++ (xs.take j).flatMap kcY)) ∧ Hid (Below w.heap.size w wr)) (fun _ i _ => n - (intOf i).toNat)
  case atStart => exact ⟨0, Nat.zero_le _, rfl, hide (by simpa using HO1.out), HB1⟩
  case round =>
    obtain ⟨j, hj, rfl, HO, HB⟩ := hrel
    clear HO1 HB1
    by_cases hlt : j < n
    · obtain ⟨a', cap', ea, _, _, hc⟩ := HX.out wr HB.out
      cases ea
      obtain ⟨b, o, rfl, _, hcell⟩ := hc (by omega)
      obtain ⟨e0, e1, e2, e3⟩ := hcell j hlt
      have hgx := hide (HG.out j (by omega))
      have hlj := HL.out j hj
      have HTj := hide (HT.out j (by omega))
      clear hcell hc
      obtain ⟨x, hx⟩ : ∃ x, xs.getD j default = x := ⟨_, rfl⟩
      rw [hx] at e0 e1 e2 e3 hgx HTj
      clear hx
      go_wp2_with fail
      refine (constBytesImpl x.k x.n x.a x.b _ (len_max hgx.out.1) (len_max hgx.out.2)).mono ?_
      rintro e w2 ⟨v2, rfl, o2, b2⟩
      have HU := hide o2
      have b3 := (Below.refl wr.heap.size wr).alloc (Nat.le_refl _) (.cells #[.int .i64 x.k, .int .i64 x.n, .string x.a, .string x.b] 63)
      replace HO := hide ((HO.out.below b3).below b2)
      replace HB := hide ((HB.out.trans (b3.mono HB.out.size)).trans (b2.mono (Nat.le_trans HB.out.size b3.size)))
      clear b3
      have s2 := HB.out.size
      have hgl : (kcY x).length ≤ 412 := kcY_len x
      have hgb : Hid (Byt (kcY x)) := hide (kcY_byt x)
      clear o2 b2
      go_wp2_with (at_builtin; refine app_own rfl _ _ rfl w.heap.size _ _ _ _ (kcY x) rfl HO.out rfl HU.out hgb.out (by omega) (by simp only [List.length_append]; omega) s2 ?_; intro v5 w5 o5 g5 n5; have HB5 := hide (HB.out.grown g5 s2 (fun q hq => (HO.out.lt q hq).1)); have HO5 := hide o5; clear o5 g5 n5)
      exact ⟨⟨j + 1, by omega, by go_num, hide (by rw [HTj.out, ← List.append_assoc]; exact HO5.out), HB5⟩, by simp [intOf]; omega⟩
    · obtain rfl : j = n := by omega
      go_wp2
      go_ret
      exact ⟨_, rfl, by rw [HF.out]; exact HO.out, HB.out⟩
set_option maxRecDepth 100000 in
set_option maxHeartbeats 4000000 in
theorem lbFd (w : World) (v : Value) (xs : List Fd) (h : Reads w w.heap.size (flds xs) v) (hm : xs.length ≤ 24) (hg : ∀ y ∈ xs, y.n.size ≤ 200 ∧ y.t.size ≤ 200) :
    Calls Try.prog 39 #[v, .func (.func 40) #[] #[]] w fun e w' => ∃ v', e = .returned v' ∧ Own w' w.heap.size v' (rowY fdY xs) ∧ Below w.heap.size w w' := by
  have HX : Hid (∀ wr, Below w.heap.size w wr → _) := hide (fun wr hb => field_at (h.at hb))
  have HG := hide (fun j hj => getD_mem hg j hj)
  have HL : Hid (∀ j, j ≤ xs.length → ((xs.take j).flatMap fdY).length ≤ j * 408) := hide (fun j hj => flat_take_le (fun y hy => fdY_len y) j hj)
  have HT : Hid (∀ j, j < xs.length → (xs.take (j + 1)).flatMap fdY = (xs.take j).flatMap fdY ++ fdY (xs.getD j default)) := hide (fun j hj => flat_step _ xs j hj)
  have HF : Hid (rowY fdY xs = pn (xs.length : Int) ++ (xs.take xs.length).flatMap fdY) := hide (by unfold rowY; rw [List.take_length])
  obtain ⟨a, cap, rfl, _⟩ := field_at h
  clear h hg
  generalize hn : xs.length = n at *
  have hpl := pn_len (n : Int)
  go_enter Try.func39, Try.ntmps39
  go_wp2_with fail
  refine (putNumImpl _ _).mono ?_
  rintro e w1 ⟨v1, rfl, o1, b1⟩
  have HO1 := hide o1
  have HB1 := hide b1
  clear o1 b1
  go_wp2
  go_loopw [5, 13] (fun out i wr => ∃ j : Nat, j ≤ n ∧ i = .int .i64 (j : Int) ∧ Hid (Own wr w.heap.size out (pn (n : Int) ++ (xs.take j).flatMap fdY)) ∧ Hid (Below w.heap.size w wr)) (fun _ i _ => n - (intOf i).toNat)
  case atStart => exact ⟨0, Nat.zero_le _, rfl, hide (by simpa using HO1.out), HB1⟩
  case round =>
    obtain ⟨j, hj, rfl, HO, HB⟩ := hrel
    clear HO1 HB1
    by_cases hlt : j < n
    · obtain ⟨a', cap', ea, _, _, hc⟩ := HX.out wr HB.out
      cases ea
      obtain ⟨b, o, rfl, _, hcell⟩ := hc (by omega)
      obtain ⟨e0, e1⟩ := hcell j hlt
      have hgx := hide (HG.out j (by omega))
      have hlj := HL.out j hj
      have HTj := hide (HT.out j (by omega))
      clear hcell hc
      obtain ⟨x, hx⟩ : ∃ x, xs.getD j default = x := ⟨_, rfl⟩
      rw [hx] at e0 e1 hgx HTj
      clear hx
      go_wp2_with fail
      refine (fdBy _ x hgx.out.1 hgx.out.2).mono ?_
      rintro e w2 ⟨v2, rfl, o2, b2⟩
      have HU := hide o2
      have b3 := (Below.refl wr.heap.size wr).alloc (Nat.le_refl _) (.cells #[.string x.n, .string x.t] 65)
      replace HO := hide ((HO.out.below b3).below b2)
      replace HB := hide ((HB.out.trans (b3.mono HB.out.size)).trans (b2.mono (Nat.le_trans HB.out.size b3.size)))
      clear b3
      have s2 := HB.out.size
      have hgl : (fdY x).length ≤ 408 := fdY_len x
      have hgb : Hid (Byt (fdY x)) := hide (fdY_byt x)
      clear o2 b2
      go_wp2_with (at_builtin; refine app_own rfl _ _ rfl w.heap.size _ _ _ _ (fdY x) rfl HO.out rfl HU.out hgb.out (by omega) (by simp only [List.length_append]; omega) s2 ?_; intro v5 w5 o5 g5 n5; have HB5 := hide (HB.out.grown g5 s2 (fun q hq => (HO.out.lt q hq).1)); have HO5 := hide o5; clear o5 g5 n5)
      exact ⟨⟨j + 1, by omega, by go_num, hide (by rw [HTj.out, ← List.append_assoc]; exact HO5.out), HB5⟩, by simp [intOf]; omega⟩
    · obtain rfl : j = n := by omega
      go_wp2
      go_ret
      exact ⟨_, rfl, by rw [HF.out]; exact HO.out, HB.out⟩
set_option maxRecDepth 100000 in
set_option maxHeartbeats 4000000 in
theorem meBy (w : World) (x : Me) (pv cv : Value) (hp : Reads w w.heap.size (strs x.ps) pv) (hc : Reads w w.heap.size (byts x.c) cv) (hS : MeS x) :
    Calls Try.prog 42 #[meV x pv cv] w fun e w' => ∃ v, e = .returned v ∧ Own w' w.heap.size v (meY x) ∧ Below w.heap.size w w' := by
  obtain ⟨a1, k1, e1, _⟩ := hp.shape
  obtain ⟨a2, k2, e2, hic⟩ : ∃ a c, cv = .slice a x.c.length c ∧ (a = none → c = 0) ∧ In w w.heap.size a x.c.length x.c := by
    obtain ⟨a, c, e, _, h1, h2⟩ := byts_in hc (by have := hS.2.2.2.2.1; omega) hS.2.2.2.2.2
    exact ⟨a, c, e, h1, h2⟩
  subst e1 e2
  have HX := hide (Box.new w #[.string x.n, .slice a1 x.ps.length k1, .string x.r, .int .i64 x.l, .slice a2 x.c.length k2] 48)
  have bA := (Below.refl w.heap.size w).alloc (Nat.le_refl _) (.cells #[.string x.n, .slice a1 x.ps.length k1, .string x.r, .int .i64 x.l, .slice a2 x.c.length k2] 48)
  have HW := hide bA
  have HP := hide (hp.at bA)
  have HC := hide (And.intro hic.1 (hic.2.at bA))
  have HM : Hid (meY x = pt x.n ++ rowY pt x.ps ++ pt x.r ++ pn x.l ++ pn (x.c.length : Int) ++ x.c) := hide rfl
  have hg : w.heap.size < (w.alloc (.cells #[.string x.n, .slice a1 x.ps.length k1, .string x.r, .int .i64 x.l, .slice a2 x.c.length k2] 48)).heap.size := by simp
  have hm1 : x.n.size ≤ maxLen := len_max (by have := hS.1; omega)
  have hm2 : x.r.size ≤ maxLen := len_max (by have := hS.2.1; omega)
  have hps := hS.2.2.1
  have hcl := hS.2.2.2.2.1
  have hp2 := rowY_pos pt x.ps (by omega)
  have hl0 := pt_len x.n
  have hl1 := rowY_len (g := pt) (k := 204) (xs := x.ps) (fun y _ => pt_len y)
  have hl2 := pt_len x.r
  have hl3 := pn_len x.l
  have hl4 := pn_len (x.c.length : Int)
  have HSt := hide hS.2.2.2.1
  clear hp hc bA hic hS
  unfold meV
  go_enter Try.func42, Try.ntmps42
  go_wp2_with fail
  generalize w.alloc (.cells #[.string x.n, .slice a1 x.ps.length k1, .string x.r, .int .i64 x.l, .slice a2 x.c.length k2] 48) = W0 at *
  have HS : Hid (∀ w', Below W0.heap.size W0 w' → w'.cell? ⟨w.heap.size, 0, none⟩ = some (.string x.n) ∧ w'.cell? ⟨w.heap.size, 1, none⟩ = some (.slice a1 x.ps.length k1)) := hide (fun w' hw => ⟨(hw.cell (p := ⟨w.heap.size, 0, none⟩) hg).trans (HX.out 0 _ rfl), (hw.cell (p := ⟨w.heap.size, 1, none⟩) hg).trans (HX.out 1 _ rfl)⟩)
  have HD0 : Hid (Below W0.heap.size W0 W0.drew) := hide (Below.refl W0.heap.size W0).drew
  go_region_held_law (fun w' => w'.cell? ⟨w.heap.size, 0, none⟩ = some (.string x.n) ∧ w'.cell? ⟨w.heap.size, 1, none⟩ = some (.slice a1 x.ps.length k1))
    (first | exact HS.out _ HD3.out | exact HS.out _ HD2.out | exact HS.out _ HD1.out | exact HS.out _ HD0.out)
    (first
      | (refine step_callB (some 6) rfl rfl 36 _ _ rfl #[.string x.n] (by kernel_rfl) (putTextImpl x.n _ hm1) ?_; rintro e x1 ⟨v1, rfl, o1, b1⟩; refine ⟨_, rfl, ?_⟩; have HD1 : Hid (Below W0.heap.size W0 x1) := hide (HD0.out.trans (b1.mono HD0.out.size)); have HO1 : Hid (Own x1 W0.heap.size v1 (pt x.n)) := hide o1; clear b1 o1)
      | (refine step_callB (some 9) rfl rfl 73 _ _ rfl #[.slice a1 x.ps.length k1, .func (.func 36) #[] #[]] (by kernel_rfl) (lbSt _ _ x.ps (HP.out.at HD1.out) (by omega) HSt.out) ?_; rintro e x2 ⟨v2, rfl, o2, b2⟩; refine ⟨_, rfl, ?_⟩; have HD2 : Hid (Below W0.heap.size W0 x2) := hide (HD1.out.trans (b2.mono HD1.out.size)); have HO2 := hide (HO1.out.below b2); have HU2 := hide o2; clear b2 o2)
      | (refine step_appB (some 10) rfl rfl _ _ rfl W0.heap.size _ v1 v2 (pt x.n) (rowY pt x.ps) (by rfl) (by rfl) HO2.out HU2.out (rowY_byt (fun y _ => ptByt y)) hp2 (by omega) (by omega) HD2.out.size ?_; intro v3 x3 o3 g3; have HD3 : Hid (Below W0.heap.size W0 x3) := hide (HD2.out.grown g3 HD2.out.size (fun q hq => (HO2.out.lt q hq).1)); have HO3 := hide o3; clear o3 g3)
      | fail)
  clear HS HD0 HD1 HD2 HO1 HO2 HU2
  have HD := HD3
  have HO := HO3
  clear HD3 HO3
  have f2 := (HX.out.below hg HD.out) 2 _ rfl
  go_wp2_with fail
  clear f2
  refine (putTextImpl _ _ hm2).mono ?_
  rintro e w4 ⟨v4, rfl, o4, b4⟩
  have HU := hide o4
  replace HD := hide (HD.out.trans (b4.mono HD.out.size))
  replace HO := hide (HO.out.below b4)
  have s9 := HD.out.size
  clear o4 b4
  go_wp2_with (at_builtin; refine app_own rfl _ _ rfl W0.heap.size _ _ _ (pt x.n ++ rowY pt x.ps) (pt x.r) rfl HO.out rfl HU.out (ptByt _) (by omega) (by simp only [List.length_append]; omega) s9 ?_; intro v5 w5 o5 g5 n5; have HD5 := hide (HD.out.grown g5 s9 (fun q hq => (HO.out.lt q hq).1)); have HO5 := hide o5; clear o5 g5 n5; have f3 := (HX.out.below hg HD5.out) 3 _ rfl)
  clear f3
  replace HD := HD5
  replace HO := HO5
  clear HD5 HO5 HU s9
  refine (putNumImpl _ _).mono ?_
  rintro e w4 ⟨v4, rfl, o4, b4⟩
  have HU := hide o4
  replace HD := hide (HD.out.trans (b4.mono HD.out.size))
  replace HO := hide (HO.out.below b4)
  have s9 := HD.out.size
  clear o4 b4
  go_wp2_with (at_builtin; refine app_own rfl _ _ rfl W0.heap.size _ _ _ (pt x.n ++ rowY pt x.ps ++ pt x.r) (pn x.l) rfl HO.out rfl HU.out (pn_byt _) (by omega) (by simp only [List.length_append]; omega) s9 ?_; intro v5 w5 o5 g5 n5; have HD5 := hide (HD.out.grown g5 s9 (fun q hq => (HO.out.lt q hq).1)); have HO5 := hide o5; clear o5 g5 n5; have f4 := (HX.out.below hg HD5.out) 4 _ rfl)
  clear f4
  replace HD := HD5
  replace HO := HO5
  clear HD5 HO5 HU s9
  refine (putNumImpl _ _).mono ?_
  rintro e w4 ⟨v4, rfl, o4, b4⟩
  have HU := hide o4
  replace HD := hide (HD.out.trans (b4.mono HD.out.size))
  replace HO := hide (HO.out.below b4)
  have s9 := HD.out.size
  clear o4 b4
  go_wp2_with (first | (at_builtin; refine app_own rfl _ _ rfl W0.heap.size _ _ _ (pt x.n ++ rowY pt x.ps ++ pt x.r ++ pn x.l) (pn (x.c.length : Int)) rfl HO.out rfl HU.out (pn_byt _) (by omega) (by simp only [List.length_append]; omega) s9 ?_; intro v5 w5 o5 g5 n5; have HD5 := hide (HD.out.grown g5 s9 (fun q hq => (HO.out.lt q hq).1)); have HO5 := hide o5; clear o5 g5 n5; have f4 := (HX.out.below hg HD5.out) 4 _ rfl; have HC5 := hide (HC.out.2.at HD5.out); have s5 := HD5.out.size) | (at_builtin; refine app_in rfl _ _ rfl W0.heap.size _ _ (pt x.n ++ rowY pt x.ps ++ pt x.r ++ pn x.l ++ pn (x.c.length : Int)) rfl HO5.out a2 x.c.length k2 x.c rfl HC.out.1 HC5.out (by simp only [List.length_append]; omega) s5 ?_; intro v6 w6 o6 g6 n6; have HD6 := hide (HD5.out.grown g6 s5 (fun q hq => (HO5.out.lt q hq).1)); have HO6 := hide o6; clear o6 g6 n6))
  go_ret
  exact ⟨_, rfl, by rw [HM.out]; exact HO6.out.mono HW.out.size, HW.out.trans (HD6.out.mono HW.out.size)⟩
set_option maxRecDepth 100000 in
set_option maxHeartbeats 4000000 in
theorem lbMe (w : World) (v : Value) (xs : List Me) (h : Reads w w.heap.size (mets xs) v) (hm : xs.length ≤ 24) (hg : ∀ y ∈ xs, MeS y) :
    Calls Try.prog 41 #[v, .func (.func 42) #[] #[]] w fun e w' => ∃ v', e = .returned v' ∧ Own w' w.heap.size v' (rowY meY xs) ∧ Below w.heap.size w w' := by
  have HX : Hid (∀ wr, Below w.heap.size w wr → _) := hide (fun wr hb => meth_at (h.at hb))
  have HG := hide (fun j hj => getD_mem hg j hj)
  have HL : Hid (∀ j, j ≤ xs.length → ((xs.take j).flatMap meY).length ≤ j * 2000) := hide (fun j hj => flat_take_le (fun y hy => meY_len y (hg y hy)) j hj)
  have HT : Hid (∀ j, j < xs.length → (xs.take (j + 1)).flatMap meY = (xs.take j).flatMap meY ++ meY (xs.getD j default)) := hide (fun j hj => flat_step _ xs j hj)
  have HF : Hid (rowY meY xs = pn (xs.length : Int) ++ (xs.take xs.length).flatMap meY) := hide (by unfold rowY; rw [List.take_length])
  obtain ⟨a, cap, rfl, _⟩ := meth_at h
  clear h hg
  generalize hn : xs.length = n at *
  have hpl := pn_len (n : Int)
  go_enter Try.func41, Try.ntmps41
  go_wp2_with fail
  refine (putNumImpl _ _).mono ?_
  rintro e w1 ⟨v1, rfl, o1, b1⟩
  have HO1 := hide o1
  have HB1 := hide b1
  clear o1 b1
  go_wp2
  go_loopw [5, 13] (fun out i wr => ∃ j : Nat, j ≤ n ∧ i = .int .i64 (j : Int) ∧ Hid (Own wr w.heap.size out (pn (n : Int) ++ (xs.take j).flatMap meY)) ∧ Hid (Below w.heap.size w wr)) (fun _ i _ => n - (intOf i).toNat)
  case atStart => exact ⟨0, Nat.zero_le _, rfl, hide (by simpa using HO1.out), HB1⟩
  case round =>
    obtain ⟨j, hj, rfl, HO, HB⟩ := hrel
    clear HO1 HB1
    by_cases hlt : j < n
    · obtain ⟨a', cap', ea, _, _, hc⟩ := HX.out wr HB.out
      cases ea
      obtain ⟨b, o, rfl, _, hcell⟩ := hc (by omega)
      obtain ⟨pv, cv, e0, e1, e2, e3, e4, r1, r2⟩ := hcell j hlt
      have hgx := hide (HG.out j (by omega))
      have hlj := HL.out j hj
      have HTj := hide (HT.out j (by omega))
      clear hcell hc
      obtain ⟨x, hx⟩ : ∃ x, xs.getD j default = x := ⟨_, rfl⟩
      rw [hx] at e0 e2 e3 r1 r2 hgx HTj
      clear hx
      obtain ⟨aa, cc, ea, _⟩ := r1.shape
      obtain ⟨ab, cd, eb, _⟩ := r2.shape
      subst ea eb
      have R1 := hide (r1.at ((Below.refl wr.heap.size wr).alloc (Nat.le_refl _) (.cells #[.string x.n, .slice aa x.ps.length cc, .string x.r, .int .i64 x.l, .slice ab x.c.length cd] 48)))
      have R2 := hide (r2.at ((Below.refl wr.heap.size wr).alloc (Nat.le_refl _) (.cells #[.string x.n, .slice aa x.ps.length cc, .string x.r, .int .i64 x.l, .slice ab x.c.length cd] 48)))
      clear r1 r2
      go_wp2_with fail
      refine (meBy _ x _ _ R1.out R2.out hgx.out).mono ?_
      rintro e w2 ⟨v2, rfl, o2, b2⟩
      have HU := hide o2
      have b3 := (Below.refl wr.heap.size wr).alloc (Nat.le_refl _) (.cells #[.string x.n, .slice aa x.ps.length cc, .string x.r, .int .i64 x.l, .slice ab x.c.length cd] 48)
      replace HO := hide ((HO.out.below b3).below b2)
      replace HB := hide ((HB.out.trans (b3.mono HB.out.size)).trans (b2.mono (Nat.le_trans HB.out.size b3.size)))
      clear b3
      have s2 := HB.out.size
      have hgl : (meY x).length ≤ 2000 := meY_len x hgx.out
      have hgb : Hid (Byt (meY x)) := hide (meY_byt x hgx.out)
      clear o2 b2
      go_wp2_with (at_builtin; refine app_own rfl _ _ rfl w.heap.size _ _ _ _ (meY x) rfl HO.out rfl HU.out hgb.out (by omega) (by simp only [List.length_append]; omega) s2 ?_; intro v5 w5 o5 g5 n5; have HB5 := hide (HB.out.grown g5 s2 (fun q hq => (HO.out.lt q hq).1)); have HO5 := hide o5; clear o5 g5 n5)
      exact ⟨⟨j + 1, by omega, by go_num, hide (by rw [HTj.out, ← List.append_assoc]; exact HO5.out), HB5⟩, by simp [intOf]; omega⟩
    · obtain rfl : j = n := by omega
      go_wp2
      go_ret
      exact ⟨_, rfl, by rw [HF.out]; exact HO.out, HB.out⟩
set_option maxRecDepth 100000 in
set_option maxHeartbeats 4000000 in
theorem clBy (w : World) (x : Cl) (pv fv mv : Value) (hp : Reads w w.heap.size (pool x.p) pv) (hf : Reads w w.heap.size (flds x.f) fv) (hme : Reads w w.heap.size (mets x.m) mv) (hG : ClG x) :
    Calls Try.prog 11 #[clV x pv fv mv] w fun e w' => ∃ v, e = .returned v ∧ Own w' w.heap.size v (clY x) ∧ Below w.heap.size w w' := by
  obtain ⟨a1, k1, e1, _⟩ := hp.shape
  obtain ⟨a2, k2, e2, _⟩ := hf.shape
  obtain ⟨a3, k3, e3, _⟩ := hme.shape
  subst e1 e2 e3
  have HX := hide (Box.new w #[.string x.n, .string x.s, .slice a1 x.p.length k1, .slice a2 x.f.length k2, .slice a3 x.m.length k3] 33)
  have bA := (Below.refl w.heap.size w).alloc (Nat.le_refl _) (.cells #[.string x.n, .string x.s, .slice a1 x.p.length k1, .slice a2 x.f.length k2, .slice a3 x.m.length k3] 33)
  have HW := hide bA
  have HP := hide (hp.at bA)
  have HF := hide (hf.at bA)
  have HM := hide (hme.at bA)
  have hg : w.heap.size < (w.alloc (.cells #[.string x.n, .string x.s, .slice a1 x.p.length k1, .slice a2 x.f.length k2, .slice a3 x.m.length k3] 33)).heap.size := by simp
  clear hp hf hme bA
  unfold clV
  go_enter Try.func11, Try.ntmps11
  go_wp2_with fail
  generalize w.alloc (.cells #[.string x.n, .string x.s, .slice a1 x.p.length k1, .slice a2 x.f.length k2, .slice a3 x.m.length k3] 33) = W at *
  refine (clImpl _ x _ _ _ HP.out HF.out HM.out hG).mono ?_
  rintro e W0 ⟨rfl, b1⟩
  replace HX := hide (HX.out.below hg b1)
  replace hg := Nat.lt_of_lt_of_le hg b1.size
  replace HP := hide (HP.out.at b1)
  replace HF := hide (HF.out.at b1)
  replace HM := hide (HM.out.at b1)
  replace HW := hide (HW.out.trans (b1.mono HW.out.size))
  clear b1
  cases hk : clB x with
  | false =>
    have HE : Hid (clY x = []) := hide (by simp [clY, hk])
    go_wp2
    go_ret
    exact ⟨_, rfl, by rw [HE.out]; exact World.ownsRow_nil _ _ _ _, HW.out⟩
  | true =>
    have HE : Hid (clY x = pt x.n ++ pt x.s ++ rowY kcY x.p ++ rowY fdY x.f ++ rowY meY x.m) := hide (by simp [clY, hk, clY0])
    have hS := clS_of hk hG
    clear hk
    have hm1 : x.n.size ≤ maxLen := len_max hG.n
    have hm2 : x.s.size ≤ maxLen := len_max hG.s
    have hq1 := hS.p
    have hq2 := hS.f
    have hq3 := hS.m
    have hp2 := pt_pos x.s hS.s
    have hl0 := pt_len x.n
    have hl1 := pt_len x.s
    have hl2 := rowY_len (g := kcY) (k := 412) (xs := x.p) (fun y _ => kcY_len y)
    have hl3 := rowY_len (g := fdY) (k := 408) (xs := x.f) (fun y _ => fdY_len y)
    have hl4 := rowY_len (g := meY) (k := 2000) (xs := x.m) (fun y hy => meY_len y (hS.ms y hy))
    have HZ := hide hS
    clear hS
    go_wp2_with fail
    have HS : Hid (∀ w', Below W0.heap.size W0 w' → w'.cell? ⟨w.heap.size, 0, none⟩ = some (.string x.n) ∧ w'.cell? ⟨w.heap.size, 1, none⟩ = some (.string x.s)) := hide (fun w' hw => ⟨(hw.cell (p := ⟨w.heap.size, 0, none⟩) hg).trans (HX.out 0 _ rfl), (hw.cell (p := ⟨w.heap.size, 1, none⟩) hg).trans (HX.out 1 _ rfl)⟩)
    have HD0 : Hid (Below W0.heap.size W0 W0.drew) := hide (Below.refl W0.heap.size W0).drew
    go_region_held_law (fun w' => w'.cell? ⟨w.heap.size, 0, none⟩ = some (.string x.n) ∧ w'.cell? ⟨w.heap.size, 1, none⟩ = some (.string x.s))
      (first | exact HS.out _ HD3.out | exact HS.out _ HD2.out | exact HS.out _ HD1.out | exact HS.out _ HD0.out)
      (first
        | (refine step_callB (some 9) rfl rfl 36 _ _ rfl #[.string x.n] (by kernel_rfl) (putTextImpl x.n _ hm1) ?_; rintro e x1 ⟨v1, rfl, o1, b1⟩; refine ⟨_, rfl, ?_⟩; have HD1 : Hid (Below W0.heap.size W0 x1) := hide (HD0.out.trans (b1.mono HD0.out.size)); have HO1 : Hid (Own x1 W0.heap.size v1 (pt x.n)) := hide o1; clear b1 o1)
        | (refine step_callB (some 12) rfl rfl 36 _ _ rfl #[.string x.s] (by kernel_rfl) (putTextImpl x.s _ hm2) ?_; rintro e x2 ⟨v2, rfl, o2, b2⟩; refine ⟨_, rfl, ?_⟩; have HD2 : Hid (Below W0.heap.size W0 x2) := hide (HD1.out.trans (b2.mono HD1.out.size)); have HO2 := hide (HO1.out.below b2); have HU2 := hide o2; clear b2 o2)
        | (refine step_appB (some 13) rfl rfl _ _ rfl W0.heap.size _ v1 v2 (pt x.n) (pt x.s) (by rfl) (by rfl) HO2.out HU2.out (ptByt _) hp2 (by omega) (by omega) HD2.out.size ?_; intro v3 x3 o3 g3; have HD3 : Hid (Below W0.heap.size W0 x3) := hide (HD2.out.grown g3 HD2.out.size (fun q hq => (HO2.out.lt q hq).1)); have HO3 := hide o3; clear o3 g3)
        | fail)
    clear HS HD0 HD1 HD2 HO1 HO2 HU2
    have HD := HD3
    have HO := HO3
    clear HD3 HO3
    have f2 := (HX.out.below hg HD.out) 2 _ rfl
    go_wp2_with fail
    clear f2
    refine (lbKc _ _ x.p (HP.out.at HD.out) hq1 hG.ps).mono ?_
    rintro e w4 ⟨v4, rfl, o4, b4⟩
    have HU := hide o4
    replace HD := hide (HD.out.trans (b4.mono HD.out.size))
    replace HO := hide (HO.out.below b4)
    have s9 := HD.out.size
    clear o4 b4
    go_wp2_with (at_builtin; refine app_own rfl _ _ rfl W0.heap.size _ _ _ (pt x.n ++ pt x.s) (rowY kcY x.p) rfl HO.out rfl HU.out (rowY_byt (fun y _ => kcY_byt y)) (by omega) (by simp only [List.length_append]; omega) s9 ?_; intro v5 w5 o5 g5 n5; have HD5 := hide (HD.out.grown g5 s9 (fun q hq => (HO.out.lt q hq).1)); have HO5 := hide o5; clear o5 g5 n5; have f3 := (HX.out.below hg HD5.out) 3 _ rfl)
    clear f3
    replace HD := HD5
    replace HO := HO5
    clear HD5 HO5 HU s9
    refine (lbFd _ _ x.f (HF.out.at HD.out) (by omega) HZ.out.fs).mono ?_
    rintro e w4 ⟨v4, rfl, o4, b4⟩
    have HU := hide o4
    replace HD := hide (HD.out.trans (b4.mono HD.out.size))
    replace HO := hide (HO.out.below b4)
    have s9 := HD.out.size
    clear o4 b4
    go_wp2_with (at_builtin; refine app_own rfl _ _ rfl W0.heap.size _ _ _ (pt x.n ++ pt x.s ++ rowY kcY x.p) (rowY fdY x.f) rfl HO.out rfl HU.out (rowY_byt (fun y _ => fdY_byt y)) (by omega) (by simp only [List.length_append]; omega) s9 ?_; intro v5 w5 o5 g5 n5; have HD5 := hide (HD.out.grown g5 s9 (fun q hq => (HO.out.lt q hq).1)); have HO5 := hide o5; clear o5 g5 n5; have f4 := (HX.out.below hg HD5.out) 4 _ rfl)
    clear f4
    replace HD := HD5
    replace HO := HO5
    clear HD5 HO5 HU s9
    refine (lbMe _ _ x.m (HM.out.at HD.out) (by omega) HZ.out.ms).mono ?_
    rintro e w4 ⟨v4, rfl, o4, b4⟩
    have HU := hide o4
    replace HD := hide (HD.out.trans (b4.mono HD.out.size))
    replace HO := hide (HO.out.below b4)
    have s9 := HD.out.size
    clear o4 b4
    go_wp2_with (at_builtin; refine app_own rfl _ _ rfl W0.heap.size _ _ _ (pt x.n ++ pt x.s ++ rowY kcY x.p ++ rowY fdY x.f) (rowY meY x.m) rfl HO.out rfl HU.out (rowY_byt (fun y hy => meY_byt y (HZ.out.ms y hy))) (by omega) (by simp only [List.length_append]; omega) s9 ?_; intro v5 w5 o5 g5 n5; have HD5 := hide (HD.out.grown g5 s9 (fun q hq => (HO.out.lt q hq).1)); have HO5 := hide o5; clear o5 g5 n5)
    go_ret
    exact ⟨_, rfl, by rw [HE.out]; exact HO5.out.mono HW.out.size, HW.out.trans (HD5.out.mono HW.out.size)⟩
end Go.Proofs.Ythagfdcfpffaoaa
