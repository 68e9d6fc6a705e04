/-
  What ClassOk does, in the program: its four parts, and all of it.
-/
import Derived.Test.YthagfdcfpffaoaaClsOkI
namespace Go.Proofs.Ythagfdcfpffaoaa
open Go.RowKit

set_option maxRecDepth 100000 in
set_option maxHeartbeats 2000000 in
theorem namesImpl (w : World) (x : Cl) (a1 a2 a3 : Option Addr) (l1 l2 l3 k1 k2 k3 : Nat) (hn : x.n.size ≤ 1048576) (hs : x.s.size ≤ 1048576) :
    Calls Try.prog 26 #[clV x (.slice a1 l1 k1) (.slice a2 l2 k2) (.slice a3 l3 k3)] w fun e w' => e = .returned (.bool (namB x)) ∧ Below w.heap.size w w' := by
  have HM : Hid (namB x = (clsB x.n && (x.s.toList.isEmpty || clsB x.s))) := hide rfl
  unfold clV
  go_enter Try.func26, Try.ntmps26
  go_wp2_with fail
  refine (clsImpl _ _ (len_max hn)).mono ?_
  rintro e w1 ⟨rfl, rfl⟩
  cases c1 : clsB x.n with
  | false =>
    have HF : Hid (namB x = false) := hide (by rw [HM.out, c1]; rfl)
    go_wp2
    go_ret
    exact ⟨by rw [HF.out]; rfl, (Below.refl _ _).alloc (Nat.le_refl _) _⟩
  | true =>
    rw [c1] at HM
    clear c1
    cases c2 : x.s.toList.isEmpty with
    | true =>
      have HF : Hid (namB x = true) := hide (by rw [HM.out, c2]; rfl)
      have c2' : (x.s.toList == []) = true := by simpa using c2
      go_wp2
      go_ret
      exact ⟨by rw [HF.out]; rfl, (Below.refl _ _).alloc (Nat.le_refl _) _⟩
    | false =>
      have HF : Hid (namB x = clsB x.s) := hide (by rw [HM.out, c2]; rfl)
      have c2' : (x.s.toList == []) = false := by simpa using c2
      go_wp2_with fail
      refine (clsImpl _ _ (len_max hs)).mono ?_
      rintro e w1 ⟨rfl, rfl⟩
      go_wp2
      go_ret
      exact ⟨by rw [HF.out]; rfl, (Below.refl _ _).alloc (Nat.le_refl _) _⟩
set_option maxRecDepth 100000 in
set_option maxHeartbeats 2000000 in
theorem poolOkI (w : World) (xs : List Kc) (v : Value) (h : Reads w w.heap.size (pool xs) v) (hm : xs.length ≤ 1048576) (hg : ∀ y ∈ xs, y.a.size ≤ 1048576 ∧ y.b.size ≤ 1048576) :
    Calls Try.prog 56 #[v] w fun e w' => e = .returned (.bool (poolB xs)) ∧ Below w.heap.size w w' := by
  have HM : Hid (poolB xs = ((decide (xs.length ≤ 24) && xs.all kcB) && noTwo eqK xs)) := hide rfl
  have HP := hide h
  obtain ⟨a, k, e, _⟩ := h.shape
  subst e
  clear h
  go_enter Try.func56, Try.ntmps56
  go_wp2_with fail
  refine (eachKc _ _ xs HP.out hm hg).mono ?_
  rintro e w2 ⟨rfl, b2⟩
  have HB := hide b2
  replace HP := hide (HP.out.at b2)
  clear b2
  obtain ⟨V, hV⟩ : ∃ V, (decide (xs.length ≤ 24) && xs.all kcB) = V := ⟨_, rfl⟩
  rw [hV] at HM ⊢
  clear hV
  cases V with
  | false =>
    have HF : Hid (poolB xs = false) := hide (by rw [HM.out]; rfl)
    go_wp2
    go_ret
    exact ⟨by rw [HF.out]; rfl, HB.out⟩
  | true =>
    have HF : Hid (poolB xs = noTwo eqK xs) := hide (by rw [HM.out]; rfl)
    go_wp2_with fail
    refine (twoKc _ _ xs HP.out hm).mono ?_
    rintro e w3 ⟨rfl, b3⟩
    replace HB := hide (HB.out.trans (b3.mono HB.out.size))
    clear b3
    go_wp2
    go_ret
    exact ⟨by rw [HF.out]; rfl, HB.out⟩
set_option maxRecDepth 100000 in
set_option maxHeartbeats 2000000 in
theorem poolImpl (w : World) (x : Cl) (a3 a4 : Option Addr) (l3 k3 l4 k4 : Nat) (v : Value) (h : Reads w w.heap.size (pool x.p) v) (hg : ClG x) :
    Calls Try.prog 27 #[clV x v (.slice a3 l3 k3) (.slice a4 l4 k4)] w fun e w' => e = .returned (.bool (poolB x.p)) ∧ Below w.heap.size w w' := by
  obtain ⟨a, k, e, _⟩ := h.shape
  subst e
  have bA := (Below.refl w.heap.size w).alloc (Nat.le_refl _) (.cells #[.string x.n, .string x.s, .slice a x.p.length k, .slice a3 l3 k3, .slice a4 l4 k4] 33)
  have HP := hide (h.at bA)
  have HB := hide bA
  clear h bA
  unfold clV
  go_enter Try.func27, Try.ntmps27
  go_wp2_with fail
  refine (poolOkI _ x.p _ HP.out hg.p hg.ps).mono ?_
  rintro e w2 ⟨rfl, b2⟩
  replace HB := hide (HB.out.trans (b2.mono HB.out.size))
  clear b2
  go_wp2
  go_ret
  exact ⟨rfl, HB.out⟩
set_option maxRecDepth 100000 in
set_option maxHeartbeats 2000000 in
theorem fldsImpl (w : World) (x : Cl) (a2 a4 : Option Addr) (l2 k2 l4 k4 : Nat) (v : Value) (h : Reads w w.heap.size (flds x.f) v) (hg : ClG x) :
    Calls Try.prog 28 #[clV x (.slice a2 l2 k2) v (.slice a4 l4 k4)] w fun e w' => e = .returned (.bool (fldsB x.f)) ∧ Below w.heap.size w w' := by
  have HM : Hid (fldsB x.f = ((decide (x.f.length ≤ 8) && x.f.all fdB) && noTwo sameF x.f)) := hide rfl
  obtain ⟨a, k, e, _⟩ := h.shape
  subst e
  have bA := (Below.refl w.heap.size w).alloc (Nat.le_refl _) (.cells #[.string x.n, .string x.s, .slice a2 l2 k2, .slice a x.f.length k, .slice a4 l4 k4] 33)
  have HX := hide (Box.new w #[.string x.n, .string x.s, .slice a2 l2 k2, .slice a x.f.length k, .slice a4 l4 k4] 33)
  have hgs : Hid (w.heap.size < (w.alloc (.cells #[.string x.n, .string x.s, .slice a2 l2 k2, .slice a x.f.length k, .slice a4 l4 k4] 33)).heap.size) := hide (by simp)
  have HP := hide (h.at bA)
  have HB := hide bA
  clear h bA
  unfold clV
  go_enter Try.func28, Try.ntmps28
  go_wp2_with fail
  generalize w.alloc (.cells #[.string x.n, .string x.s, .slice a2 l2 k2, .slice a x.f.length k, .slice a4 l4 k4] 33) = W at *
  refine (eachFd _ _ x.f HP.out hg.f hg.fs).mono ?_
  rintro e w2 ⟨rfl, b2⟩
  replace HX := hide (HX.out.below hgs.out b2)
  replace HB := hide (HB.out.trans (b2.mono HB.out.size))
  replace HP := hide (HP.out.at b2)
  clear b2
  obtain ⟨V, hV⟩ : ∃ V, (decide (x.f.length ≤ 8) && x.f.all fdB) = V := ⟨_, rfl⟩
  rw [hV] at HM ⊢
  clear hV
  cases V with
  | false =>
    have HF : Hid (fldsB x.f = false) := hide (by rw [HM.out]; rfl)
    go_wp2
    go_ret
    exact ⟨by rw [HF.out]; rfl, HB.out⟩
  | true =>
    have HF : Hid (fldsB x.f = noTwo sameF x.f) := hide (by rw [HM.out]; rfl)
    have q := HX.out 3 _ rfl
    go_wp2_with fail
    refine (twoFd _ _ x.f HP.out hg.f).mono ?_
    rintro e w3 ⟨rfl, b3⟩
    replace HB := hide (HB.out.trans (b3.mono HB.out.size))
    clear b3
    go_wp2
    go_ret
    exact ⟨by rw [HF.out]; rfl, HB.out⟩
set_option maxRecDepth 100000 in
set_option maxHeartbeats 2000000 in
theorem metsImpl (w : World) (x : Cl) (a2 a3 : Option Addr) (l2 k2 l3 k3 : Nat) (v : Value) (h : Reads w w.heap.size (mets x.m) v) (hg : ClG x) :
    Calls Try.prog 29 #[clV x (.slice a2 l2 k2) (.slice a3 l3 k3) v] w fun e w' => e = .returned (.bool (metsB x.m)) ∧ Below w.heap.size w w' := by
  have HM : Hid (metsB x.m = ((decide (x.m.length ≤ 6) && x.m.all meB) && noTwo sameN x.m)) := hide rfl
  obtain ⟨a, k, e, _⟩ := h.shape
  subst e
  have bA := (Below.refl w.heap.size w).alloc (Nat.le_refl _) (.cells #[.string x.n, .string x.s, .slice a2 l2 k2, .slice a3 l3 k3, .slice a x.m.length k] 33)
  have HX := hide (Box.new w #[.string x.n, .string x.s, .slice a2 l2 k2, .slice a3 l3 k3, .slice a x.m.length k] 33)
  have hgs : Hid (w.heap.size < (w.alloc (.cells #[.string x.n, .string x.s, .slice a2 l2 k2, .slice a3 l3 k3, .slice a x.m.length k] 33)).heap.size) := hide (by simp)
  have HP := hide (h.at bA)
  have HB := hide bA
  clear h bA
  unfold clV
  go_enter Try.func29, Try.ntmps29
  go_wp2_with fail
  generalize w.alloc (.cells #[.string x.n, .string x.s, .slice a2 l2 k2, .slice a3 l3 k3, .slice a x.m.length k] 33) = W at *
  refine (eachMe _ _ x.m HP.out hg.m (fun y hy => ⟨(hg.ms y hy).1, (hg.ms y hy).2.1, (hg.ms y hy).2.2.1, (hg.ms y hy).2.2.2.1⟩)).mono ?_
  rintro e w2 ⟨rfl, b2⟩
  replace HX := hide (HX.out.below hgs.out b2)
  replace HB := hide (HB.out.trans (b2.mono HB.out.size))
  replace HP := hide (HP.out.at b2)
  clear b2
  obtain ⟨V, hV⟩ : ∃ V, (decide (x.m.length ≤ 6) && x.m.all meB) = V := ⟨_, rfl⟩
  rw [hV] at HM ⊢
  clear hV
  cases V with
  | false =>
    have HF : Hid (metsB x.m = false) := hide (by rw [HM.out]; rfl)
    go_wp2
    go_ret
    exact ⟨by rw [HF.out]; rfl, HB.out⟩
  | true =>
    have HF : Hid (metsB x.m = noTwo sameN x.m) := hide (by rw [HM.out]; rfl)
    have q := HX.out 4 _ rfl
    go_wp2_with fail
    refine (twoMe _ _ x.m HP.out hg.m).mono ?_
    rintro e w3 ⟨rfl, b3⟩
    replace HB := hide (HB.out.trans (b3.mono HB.out.size))
    clear b3
    go_wp2
    go_ret
    exact ⟨by rw [HF.out]; rfl, HB.out⟩
set_option maxRecDepth 100000 in
set_option maxHeartbeats 4000000 in
theorem clImpl (w : World) (x : Cl) (pv fv mv : Value) (hp : Reads w w.heap.size (pool x.p) pv) (hf : Reads w w.heap.size (flds x.f) fv) (hme : Reads w w.heap.size (mets x.m) mv) (hg : ClG x) :
    Calls Try.prog 8 #[clV x pv fv mv] w fun e w' => e = .returned (.bool (clB x)) ∧ Below w.heap.size w w' := by
  obtain ⟨a1, k1, e1, _⟩ := hp.shape
  obtain ⟨a2, k2, e2, _⟩ := hf.shape
  obtain ⟨a3, k3, e3, _⟩ := hme.shape
  subst e1 e2 e3
  have bA := (Below.refl w.heap.size w).alloc (Nat.le_refl _) (.cells #[.string x.n, .string x.s, .slice a1 x.p.length k1, .slice a2 x.f.length k2, .slice a3 x.m.length k3] 33)
  have HX := hide (Box.new w #[.string x.n, .string x.s, .slice a1 x.p.length k1, .slice a2 x.f.length k2, .slice a3 x.m.length k3] 33)
  have hgs : Hid (w.heap.size < (w.alloc (.cells #[.string x.n, .string x.s, .slice a1 x.p.length k1, .slice a2 x.f.length k2, .slice a3 x.m.length k3] 33)).heap.size) := hide (by simp)
  have HP := hide (hp.at bA)
  have HFL := hide (hf.at bA)
  have HME := hide (hme.at bA)
  have HB := hide bA
  have HM : Hid (clB x = (namB x && poolB x.p && fldsB x.f && metsB x.m)) := hide rfl
  clear hp hf hme bA
  unfold clV
  go_enter Try.func8, Try.ntmps8
  go_wp2_with fail
  generalize w.alloc (.cells #[.string x.n, .string x.s, .slice a1 x.p.length k1, .slice a2 x.f.length k2, .slice a3 x.m.length k3] 33) = W at *
  refine (namesImpl _ x _ _ _ _ _ _ _ _ _ hg.n hg.s).mono ?_
  rintro e w1 ⟨rfl, b1⟩
  replace HX := hide (HX.out.below hgs.out b1)
  replace hgs := hide (Nat.lt_of_lt_of_le hgs.out b1.size)
  replace HB := hide (HB.out.trans (b1.mono HB.out.size))
  replace HP := hide (HP.out.at b1)
  replace HFL := hide (HFL.out.at b1)
  replace HME := hide (HME.out.at b1)
  clear b1
  cases c1 : namB x with
  | false =>
    have HF : Hid (clB x = false) := hide (by rw [HM.out, c1]; rfl)
    go_wp2
    go_ret
    exact ⟨by rw [HF.out]; rfl, HB.out⟩
  | true =>
    rw [c1] at HM
    clear c1
    have q0 := HX.out 0 _ rfl
    have q1 := HX.out 1 _ rfl
    have q2 := HX.out 2 _ rfl
    have q3 := HX.out 3 _ rfl
    have q4 := HX.out 4 _ rfl
    go_wp2_with fail
    clear q0 q1 q2 q3 q4
    refine (poolImpl _ x _ _ _ _ _ _ _ HP.out hg).mono ?_
    rintro e w1 ⟨rfl, b1⟩
    replace HX := hide (HX.out.below hgs.out b1)
    replace hgs := hide (Nat.lt_of_lt_of_le hgs.out b1.size)
    replace HB := hide (HB.out.trans (b1.mono HB.out.size))
    replace HFL := hide (HFL.out.at b1)
    replace HME := hide (HME.out.at b1)
    clear b1
    cases c1 : poolB x.p with
    | false =>
      have HF : Hid (clB x = false) := hide (by rw [HM.out, c1]; rfl)
      go_wp2
      go_ret
      exact ⟨by rw [HF.out]; rfl, HB.out⟩
    | true =>
      rw [c1] at HM
      clear c1
      have q0 := HX.out 0 _ rfl
      have q1 := HX.out 1 _ rfl
      have q2 := HX.out 2 _ rfl
      have q3 := HX.out 3 _ rfl
      have q4 := HX.out 4 _ rfl
      go_wp2_with fail
      clear q0 q1 q2 q3 q4
      refine (fldsImpl _ x _ _ _ _ _ _ _ HFL.out hg).mono ?_
      rintro e w1 ⟨rfl, b1⟩
      replace HX := hide (HX.out.below hgs.out b1)
      replace hgs := hide (Nat.lt_of_lt_of_le hgs.out b1.size)
      replace HB := hide (HB.out.trans (b1.mono HB.out.size))
      replace HME := hide (HME.out.at b1)
      clear b1
      cases c1 : fldsB x.f with
      | false =>
        have HF : Hid (clB x = false) := hide (by rw [HM.out, c1]; rfl)
        go_wp2
        go_ret
        exact ⟨by rw [HF.out]; rfl, HB.out⟩
      | true =>
        rw [c1] at HM
        clear c1
        have q0 := HX.out 0 _ rfl
        have q1 := HX.out 1 _ rfl
        have q2 := HX.out 2 _ rfl
        have q3 := HX.out 3 _ rfl
        have q4 := HX.out 4 _ rfl
        go_wp2_with fail
        clear q0 q1 q2 q3 q4
        refine (metsImpl _ x _ _ _ _ _ _ _ HME.out hg).mono ?_
        rintro e w1 ⟨rfl, b1⟩
        replace HB := hide (HB.out.trans (b1.mono HB.out.size))
        clear b1
        have HF : Hid (clB x = metsB x.m) := hide (by rw [HM.out]; rfl)
        go_wp2
        go_ret
        exact ⟨by rw [HF.out]; rfl, HB.out⟩
end Go.Proofs.Ythagfdcfpffaoaa
