/-
  Joined: ClcH, ClcL.
-/
import Derived.Test.YtbanifnfkabelaaJ31
import Derived.Test.YtbanifnfkabelaaJ27
import Derived.Test.YtbanifnfkabelaaJ23
import Derived.Test.YtbanifnfkabelaaKEvQ
import Derived.Test.YtbanifnfkabelaaJ21
import Derived.Test.YtbanifnfkabelaaJ17
import Derived.Test.YtbanifnfkabelaaJ12
import Derived.Deep.RegionHeld
/-
  The program's accesses: is an event unordered with one of them, and one more.
-/
namespace Go.Proofs.Ytbanifnfkabelaa
open Go.RowKit Go.Maps

theorem grown_drew {w x : World} {own : Option Nat} (h : w.grownBy x own) : w.grownBy x.drew own := ⟨h.os, h.tape, h.output, h.size, h.block⟩
theorem evV_inj {x y : Evt} (h : evV x = evV y) : x = y := by
  unfold evV at h
  injection h with h
  simp at h
  obtain ⟨a, b, c, d⟩ := h
  cases x; cases y; simp_all
theorem next_no {A : Evt → Option Int} {left : Lit → Bool} {c : List Smp} {x y : Evt} {k : Int} (hxR : EvtR x)
    (h : ∀ a k, EvtR a → left (evK a) = false → A a = some k → ¬ (clashB a y = true ∧ cntX c a.w < k)) (hA : A x = some k) (hx : ¬ (clashB x y = true ∧ cntX c x.w < k)) :
    ∀ a k, EvtR a → (left (evK a) && !(evK a).sameKey (evK x)) = false → A a = some k → ¬ (clashB a y = true ∧ cntX c a.w < k) := fun a k' ha hl hak => by
  by_cases e : a = x
  · subst e
    rw [hA] at hak
    cases hak
    exact hx
  · refine h a k' ha ?_ hak
    cases hs : (evK a).sameKey (evK x) with
    | true => exact absurd (WideAt.sameKey_eq hs) (evK_ne hxR ha e)
    | false =>
      rw [hs] at hl
      simpa using hl
theorem step_acc {w : World} {ops : Array Oper} {o : Oper} {a : Act} {K : Act → World → Prop} {Q : Exit → Act → World → Prop} {E : Prop} (hgd : o.guard = none) (hd : o.dst = none) (m x v : Operand) (hop : o.op = Op.mapUpdate 47 m x v)
    (b n : Nat) (A : Evt → Option Int) (hm : a.eval m = .map (some b)) (hown : AccM w b n A) (hn : n < maxLen) (y : Evt) (hy : EvtR y) (hx : a.eval x = evV y) (c : Int) (hc : -9223372036854775808 ≤ c ∧ c ≤ 9223372036854775807) (hv : a.eval v = .int .i64 c)
    (h : ∀ w', AccM w' b (n + 1) (accPut A y c) → w.grownBy w' (some b) → K a w') : if Region.wanted o (yielded ops a.tmps) = true then Oper.wp Try.prog o a w K Q else E := by
  have hw : Region.wanted o (yielded ops a.tmps) = true := by simp [Region.wanted, hgd]
  rw [if_pos hw]
  obtain ⟨w', hrun, r1, r2⟩ := hown.put hn hy hc
  unfold Oper.wp
  simp [execOp, hop, hm, hx, hv, hrun, Result.andThen]
  show K (a.put o.dst undef) w'
  rw [hd]
  exact h w' r1 r2
set_option maxRecDepth 100000 in
set_option maxHeartbeats 8000000 in
theorem unordI (w : World) (b n : Nat) (A : Evt → Option Int) (y : Evt) (c : List Smp) (v : Value) (U : Bool) (hA : AccM w b n A) (hAR : ∀ a k, A a = some k → EvtR a) (hc : Reads w w.heap.size (smps c) v) (hm : c.length ≤ 1048576)
    (hU : U = true ↔ ∃ a k, A a = some k ∧ clashB a y = true ∧ cntX c a.w < k) :
    Calls Try.prog 23 #[.map (some b), .agg #[.int .i64 y.w, .int .i64 y.k, .int .i64 y.i, .int .i64 y.a], v] w fun e w' => e = .returned (.bool U) ∧ Below w.heap.size w w' := by
  have HU := hide hU
  have HAR := hide hAR
  have HC := hide hc
  obtain ⟨a1, c1, e1, _⟩ := hc.shape
  subst e1
  obtain ⟨D, hp, hd⟩ := hA
  have hbl := World.ownsMap.lt hp
  have HD := hide hd
  have HB0 := hide ((Below.refl w.heap.size w).alloc (Nat.le_refl _) (.cells #[.int .i64 y.w, .int .i64 y.k, .int .i64 y.i, .int .i64 y.a] 29))
  have HP := hide (World.ownsMap.alloc hp (.cells #[.int .i64 y.w, .int .i64 y.k, .int .i64 y.i, .int .i64 y.a] 29))
  have EF := hide (heap_alloc_new w (.cells #[.int .i64 y.w, .int .i64 y.k, .int .i64 y.i, .int .i64 y.a] 29))
  have hbw : w.heap.size < (w.alloc (.cells #[.int .i64 y.w, .int .i64 y.k, .int .i64 y.i, .int .i64 y.a] 29)).heap.size := by simp
  clear hU hAR hc hp hd
  go_enter Try.func23, Try.ntmps23
  go_upto_region 1 with fail
  generalize w.alloc (.cells #[.int .i64 y.w, .int .i64 y.k, .int .i64 y.i, .int .i64 y.a] 29) = W at *
  go_wp2_with (at_range; refine wpList_range_own _ rfl _ 47 rfl 29 3 evKeyed Try.underlying47 (plainElem Try.prog 3) b n D rfl HP.out ?_; intro w0 hrg0 hg0 hs0; have HR0 := hide hrg0; have HW0 := hide ((Below.refl W.heap.size W).grown hg0 (Nat.le_refl _) (fun k hk => by cases hk)); clear hrg0 hg0)
  go_frame
  obtain ⟨r, hr⟩ : ∃ r, W.heap.size = r := ⟨_, rfl⟩
  rw [hr] at HR0 hs0 ⊢
  have hbr : b < r := by omega
  go_loopw [11] (fun _ wr => ∃ left cnt, Hid (wr.ranges Try.prog 29 (plainElem Try.prog 3) b r n D left cnt) ∧ Hid (∀ z, left z = true → Maps.has D z = true) ∧ Hid (∀ a k, EvtR a → left (evK a) = false → A a = some k → ¬ (clashB a y = true ∧ cntX c a.w < k)) ∧ Hid (Below W.heap.size W wr) ∧ r < wr.heap.size) (fun _ wr => wr.rangeLeft b r)
  case atStart => exact ⟨_, _, HR0, hide (fun z h => h), hide (fun a k ha h hA => by rw [((HD.out a ha).2 k hA).1] at h; cases h), HW0, by omega⟩
  case round =>
    obtain ⟨left, cnt, HG, HL, HN, HW, hsz⟩ := hrel
    clear HR0 HW0 HP hs0
    go_wp2_with (at_next; refine wpList_next_ranges _ rfl _ rfl 29 evKeyed (plainElem Try.prog 3) evV (Value.int .i64) (fun key kl h => by obtain ⟨y, e, _⟩ := evKey_inv h; exact ⟨y, e⟩) (fun v y h => by obtain ⟨c, e, _⟩ := plainElem_int_inv Try.underlying3 h; exact ⟨c, e⟩) b r n D left cnt rfl HG.out ?_ ?_)
    · intro _ hl
      have HF : Hid (U = false) := hide (by
        cases hU : U with
        | false => rfl
        | true =>
          obtain ⟨a, k, h1, h2, h3⟩ := HU.out.1 hU
          exact absurd ⟨h2, h3⟩ (HN.out a k (HAR.out a k h1) (hl _) h1))
      go_wp2
      go_ret
      exact ⟨by rw [HF.out]; rfl, HB0.out.trans (HW.out.mono HB0.out.size)⟩
    · intro x k kl yy yz w1 cnt1 hkey hlx hv hat hrg1 hlt hg1 hs1 hen
      obtain ⟨x', hxx, hxR, rfl⟩ := evKey_inv hkey
      obtain rfl : x = x' := evV_inj hxx
      clear hxx
      obtain ⟨k', hkk, hyy, _⟩ := plainElem_int_inv Try.underlying3 hv
      obtain rfl : k = k' := by injection hkk
      have hy1 : yy = .lit (.int .i64 k) := congrArg Prod.fst hyy
      have hAx : A x = some k := by
        have h3 := HD.out x hxR
        have hat' : ∀ zd, D.atKey (evK x) zd = .lit (.int .i64 k) := fun zd => by rw [hat zd, hy1]
        cases hx0 : A x with
        | none =>
          have := (h3.1 hx0).2 (.agg [])
          rw [hat'] at this
          cases this
        | some k2 =>
          have := (h3.2 k2 hx0).2 (.agg [])
          rw [hat'] at this
          simp at this
          rw [this]
      have HM : Hid (w1.rangeLeft b r < wr.rangeLeft b r) := hide (by rw [hrg1.left_eq, HG.out.left_eq]; exact hlt)
      have HG1 := hide hrg1
      have HW1 := hide (HW.out.grown hg1 HW.out.size (fun k hk => by cases hk; omega))
      have HL1 : Hid (∀ z, (left z && !z.sameKey (evK x)) = true → Maps.has D z = true) := hide (fun z hz => by rw [Bool.and_eq_true] at hz; exact HL.out z hz.1)
      have hsz1 : r < w1.heap.size := by omega
      have HAX := hide hAx
      unfold evV at hen
      clear hkey hlx hv hat hrg1 hlt hg1 hs1 HG HW HL hkk hyy hy1 hAx
      have HW2 := hide (HW1.out.alloc (by omega) (.cells #[.int .i64 x.w, .int .i64 x.k, .int .i64 x.i, .int .i64 x.a] 29))
      have HG2 := hide (HG1.out.alloc (.cells #[.int .i64 x.w, .int .i64 x.k, .int .i64 x.i, .int .i64 x.a] 29))
      have EX := hide (heap_alloc_new w1 (.cells #[.int .i64 x.w, .int .i64 x.k, .int .i64 x.i, .int .i64 x.a] 29))
      have EY := hide ((HW2.out.block _ hbw).trans EF.out)
      have HM2 : Hid ((w1.alloc (.cells #[.int .i64 x.w, .int .i64 x.k, .int .i64 x.i, .int .i64 x.a] 29)).rangeLeft b r < wr.rangeLeft b r) := hide (by rw [HG2.out.left_eq, ← HG1.out.left_eq]; exact HM.out)
      have hsz2 : r < (w1.alloc (.cells #[.int .i64 x.w, .int .i64 x.k, .int .i64 x.i, .int .i64 x.a] 29)).heap.size := by simp; omega
      go_upto_region 4 with fail
      obtain ⟨gx, hgx⟩ : ∃ g, w1.heap.size = g := ⟨_, rfl⟩
      rw [hgx] at EX ⊢
      clear hgx HM HG1 HW1 hsz1 hen
      generalize w1.alloc (.cells #[.int .i64 x.w, .int .i64 x.k, .int .i64 x.i, .int .i64 x.a] 29) = W2 at *
      have d0 := (box_of EX.out).1 0 _ rfl
      have d1 := (box_of EX.out).1 1 _ rfl
      have d2 := (box_of EX.out).1 2 _ rfl
      have d3 := (box_of EX.out).1 3 _ rfl
      have e0 := (box_of EY.out).1 0 _ rfl
      have e1 := (box_of EY.out).1 1 _ rfl
      have e2 := (box_of EY.out).1 2 _ rfl
      have e3 := (box_of EY.out).1 3 _ rfl
      go_wp2_with fail
      refine (clashI W2 x y).mono ?_
      rintro e w3 ⟨rfl, b3⟩
      clear d0 d1 d2 d3 e0 e1 e2 e3
      have HW3 := hide (HW2.out.trans (b3.mono HW2.out.size))
      have HG3 := hide (HG2.out.kept (grown_of_below b3) (by simp) (by simp))
      have HM3 : Hid (w3.rangeLeft b r < wr.rangeLeft b r) := hide (by rw [HG3.out.left_eq, ← HG2.out.left_eq]; exact HM2.out)
      have hsz3 : r < w3.heap.size := Nat.lt_of_lt_of_le hsz2 b3.size
      have EX3 := hide ((b3.block _ (Array.getElem?_eq_some_iff.1 EX.out).1).trans EX.out)
      clear b3 HW2 HG2 HM2 hsz2 EX EY
      cases hcl : clashB x y with
      | false =>
        have HN3 := hide (next_no hxR HN.out HAX.out (fun h => by rw [hcl] at h; cases h.1))
        go_wp2
        exact ⟨⟨_, _, HG3, HL1, HN3, HW3, hsz3⟩, HM3.out⟩
      | true =>
        have d0 := (box_of EX3.out).1 0 _ rfl
        go_wp2_with fail
        refine (countI _ c _ x.w (HC.out.at (HB0.out.trans (HW3.out.mono HB0.out.size))) hm).mono ?_
        rintro e w4 ⟨rfl, b4⟩
        clear d0
        have HW4 := hide (HW3.out.trans (b4.mono HW3.out.size))
        have HG4 := hide (HG3.out.kept (grown_of_below b4) (by simp) (by simp))
        have HM4 : Hid (w4.rangeLeft b r < wr.rangeLeft b r) := hide (by rw [HG4.out.left_eq, ← HG3.out.left_eq]; exact HM3.out)
        have hsz4 : r < w4.heap.size := Nat.lt_of_lt_of_le hsz3 b4.size
        clear b4 HW3 HG3 HM3 hsz3 EX3
        by_cases hlk : cntX c x.w < k
        · have HF : Hid (U = true) := hide (HU.out.2 ⟨x, k, HAX.out, hcl, hlk⟩)
          go_wp2
          go_ret
          exact ⟨by rw [HF.out]; rfl, HB0.out.trans (HW4.out.mono HB0.out.size)⟩
        · have HN3 := hide (next_no hxR HN.out HAX.out (fun h => hlk h.2))
          go_wp2
          exact ⟨⟨_, _, HG4, HL1, HN3, HW4, hsz4⟩, HM4.out⟩
set_option maxRecDepth 100000 in
set_option maxHeartbeats 8000000 in
theorem takesI (w : World) (b n : Nat) (A : Evt → Option Int) (y : Evt) (c : List Smp) (v : Value) (hA : AccM w b n A) (hn : n ≤ 100000) (hyR : EvtR y) (B : Nat) (hc : Reads w B (smps c) v) (hBb : B ≤ b) (hm : c.length ≤ 1048576) (hcn : 0 ≤ cntX c y.w ∧ cntX c y.w ≤ 16777215) :
    Calls Try.prog 24 #[.map (some b), .agg #[.int .i64 y.w, .int .i64 y.k, .int .i64 y.i, .int .i64 y.a], v] w fun e w' => e = .returned (.tuple #[]) ∧ w.grownBy w' (some b) ∧ AccM w' b (n + 1) (accPut (if y.k = 2 then (fun _ => none) else A) y (cntX c y.w)) := by
  have hbl := hA.lt
  have HC := hide hc
  have HB0 := hide ((Below.refl w.heap.size w).alloc (Nat.le_refl _) (.cells #[.int .i64 y.w, .int .i64 y.k, .int .i64 y.i, .int .i64 y.a] 29))
  have HP := hide (hA.below ((Below.refl w.heap.size w).alloc (Nat.le_refl _) (.cells #[.int .i64 y.w, .int .i64 y.k, .int .i64 y.i, .int .i64 y.a] 29)))
  have EF := hide (heap_alloc_new w (.cells #[.int .i64 y.w, .int .i64 y.k, .int .i64 y.i, .int .i64 y.a] 29))
  have HB := hide (below_grown HB0.out (some b))
  have HRD : Hid (∀ W, w.grownBy W (some b) → Reads W W.heap.size (smps c) v) := hide (fun W hW => (hc.kept (fun k hk => hW.block k (by omega) (fun e => by injection e with e; omega))).up (by have := hW.size; omega))
  obtain ⟨A2, hA2⟩ : ∃ f : Evt → Option Int, (if y.k = 2 then (fun _ => none) else A) = f := ⟨_, rfl⟩
  rw [hA2]
  have HK0 := hide hA2
  clear hA2
  obtain ⟨bx, hbx⟩ : ∃ g, w.heap.size = g := ⟨_, rfl⟩
  have hbb : b < bx := by omega
  obtain ⟨va, vc, ve, _⟩ := hc.shape
  subst ve
  clear hA hc HC HB0
  go_enter Try.func24, Try.ntmps24
  go_upto_region 1 with fail
  rw [hbx] at EF
  try rw [hbx]
  clear hbx
  generalize w.alloc (.cells #[.int .i64 y.w, .int .i64 y.k, .int .i64 y.i, .int .i64 y.a] 29) = W at *
  have k1 := (box_of EF.out).1 1 _ rfl
  cases c2 : (y.k == 2) with
  | true =>
    have HK2 : Hid (A2 = (fun _ => none)) := hide (HK0.out ▸ if_pos (eq_of_beq c2))
    obtain ⟨w1, hrun, h1, g1⟩ := HP.out.clear
    go_upto_region 3 with fail
    replace EF := hide ((g1.block bx (Array.getElem?_eq_some_iff.1 EF.out).1 (fun e => by injection e with e; omega)).trans EF.out)
    replace HB := hide (grownBy_trans HB.out g1)
    replace HP := hide h1
    clear hrun h1 g1 k1
    have EFd : Hid (w1.drew.heap[bx]? = some (.cells #[.int .i64 y.w, .int .i64 y.k, .int .i64 y.i, .int .i64 y.a] 29 (0, 0))) := hide EF.out
    have HPd : Hid (AccM w1.drew b 0 (fun _ => none)) := hide (HP.out.kept rfl)
    have HBd := hide (grown_drew HB.out)
    refine wp_region_held_drew (S := fun w' => w'.cell? ⟨bx, 0, none⟩ = some (.int .i64 y.w) ∧ w'.cell? ⟨bx, 1, none⟩ = some (.int .i64 y.k) ∧ w'.cell? ⟨bx, 2, none⟩ = some (.int .i64 y.i) ∧ w'.cell? ⟨bx, 3, none⟩ = some (.int .i64 y.a)) (by kernel_rfl) ⟨(box_of EFd.out).1 0 _ rfl, (box_of EFd.out).1 1 _ rfl, (box_of EFd.out).1 2 _ rfl, (box_of EFd.out).1 3 _ rfl⟩ (fun hHeld => ?_)
    generalize hD : w1.drew = x0 at EFd HPd HBd hHeld ⊢
    clear hD
    refine wpAnyH_take (i := 0) (v := ?_) rfl (by kernel_rfl) (by kernel_rfl) (by kernel_rfl) (fun _ _ _ h => h) (Or.inl ⟨by rfl, ?_⟩) (by assumption) ?_
    rotate_left
    · intro w' hSw
      try dsimp only at hSw
      go_simp; try rfl
    simp only [List.getElem_toArray, List.getElem_cons_zero, Act.put, List.setIfInBounds_toArray, List.set_cons_zero, List.set_cons_succ]
    refine wpAnyH_take (i := 1) (v := ?_) rfl (by kernel_rfl) (by kernel_rfl) (by kernel_rfl) (fun _ _ _ h => h) (Or.inl ⟨by rfl, ?_⟩) (by assumption) ?_
    rotate_left
    · intro w' hSw
      try dsimp only at hSw
      go_simp; try rfl
    simp only [List.getElem_toArray, List.getElem_cons_succ, List.getElem_cons_zero, Act.put, List.setIfInBounds_toArray, List.set_cons_zero, List.set_cons_succ]
    refine wpAnyH_take (i := 2) (v := ?_) rfl (by kernel_rfl) (by kernel_rfl) (by kernel_rfl) (fun _ _ _ h => h) (Or.inl ⟨by rfl, ?_⟩) (by assumption) ?_
    rotate_left
    · intro w' hSw
      try dsimp only at hSw
      go_simp; try rfl
    simp only [List.getElem_toArray, List.getElem_cons_succ, List.getElem_cons_zero, Act.put, List.setIfInBounds_toArray, List.set_cons_zero, List.set_cons_succ]
    refine wpAnyH_take (i := 3) (v := ?_) rfl (by kernel_rfl) (by kernel_rfl) (by kernel_rfl) (fun _ _ _ h => h) (Or.inl ⟨by rfl, ?_⟩) (by assumption) ?_
    rotate_left
    · intro w' hSw
      try dsimp only at hSw
      go_simp; try rfl
    simp only [List.getElem_toArray, List.getElem_cons_succ, List.getElem_cons_zero, Act.put, List.setIfInBounds_toArray, List.set_cons_zero, List.set_cons_succ]
    refine wpAnyH_take (i := 4) (v := ?_) rfl (by kernel_rfl) (by kernel_rfl) (by kernel_rfl) (fun _ _ _ h => h) (Or.inl ⟨by rfl, ?_⟩) (by assumption) ?_
    rotate_left
    · intro w' hSw
      try dsimp only at hSw
      go_simp; try rfl
    simp only [List.getElem_toArray, List.getElem_cons_succ, List.getElem_cons_zero, Act.put, List.setIfInBounds_toArray, List.set_cons_zero, List.set_cons_succ]
    refine wpAnyH_ready (rs := [5]) (by kernel_rfl) (by simp) (AllReadyH.cons rfl (fun K hK => ?_) AllReadyH.nil)
    refine step_callW (some 15) rfl (by kernel_rfl) 19 _ _ rfl #[.slice va c.length vc, .int .i64 y.w] (by kernel_rfl) (countI _ c _ y.w (HRD.out _ HBd.out) hm) ?_
    rintro e x1 ⟨rfl, b1⟩
    refine ⟨_, rfl, ?_⟩
    have EF1 := hide ((b1.block _ (Array.getElem?_eq_some_iff.1 EFd.out).1).trans EFd.out)
    have HP1 := hide (HPd.out.below b1)
    have HB1 := hide (grownBy_trans HBd.out (below_grown b1 (some b)))
    clear b1
    refine hK.out _ _ ⟨(box_of EF1.out).1 0 _ rfl, (box_of EF1.out).1 1 _ rfl, (box_of EF1.out).1 2 _ rfl, (box_of EF1.out).1 3 _ rfl⟩ (fun hHeld => ?_)
    clear hK K
    simp only [Act.put, List.setIfInBounds_toArray, List.set_cons_zero, List.set_cons_succ]
    refine wpAnyH_ready (rs := [6]) (by kernel_rfl) (by simp) (AllReadyH.cons rfl (fun K hK => ?_) AllReadyH.nil)
    refine step_acc rfl rfl _ _ _ rfl b 0 (fun _ => none) (by kernel_rfl) HP1.out (by unfold maxLen; omega) y hyR (by kernel_rfl) (cntX c y.w) (by omega) (by kernel_rfl) ?_
    intro x2 h2 g2
    have EF2 := hide ((g2.block bx (Array.getElem?_eq_some_iff.1 EF1.out).1 (fun e => by injection e with e; omega)).trans EF1.out)
    have HP2 := hide h2
    have HB2 := hide (grownBy_trans HB1.out g2)
    clear h2 g2
    refine hK.out _ _ ⟨(box_of EF2.out).1 0 _ rfl, (box_of EF2.out).1 1 _ rfl, (box_of EF2.out).1 2 _ rfl, (box_of EF2.out).1 3 _ rfl⟩ (fun hHeld => ?_)
    clear hK K
    refine wpAnyH_done (by kernel_rfl) ?_ _
    go_wp2
    go_end0
    refine ⟨rfl, HB2.out, ?_⟩
    rw [HK2.out]
    exact HP2.out.mono (by omega)
  | false =>
    have HK2 : Hid (A2 = A) := hide (HK0.out ▸ if_neg (fun e => by rw [e] at c2; simp at c2))
    go_upto_region 3 with fail
    clear k1
    have EFd : Hid (W.drew.heap[bx]? = some (.cells #[.int .i64 y.w, .int .i64 y.k, .int .i64 y.i, .int .i64 y.a] 29 (0, 0))) := hide EF.out
    have HPd : Hid (AccM W.drew b n A) := hide (HP.out.kept rfl)
    have HBd := hide (grown_drew HB.out)
    refine wp_region_held_drew (S := fun w' => w'.cell? ⟨bx, 0, none⟩ = some (.int .i64 y.w) ∧ w'.cell? ⟨bx, 1, none⟩ = some (.int .i64 y.k) ∧ w'.cell? ⟨bx, 2, none⟩ = some (.int .i64 y.i) ∧ w'.cell? ⟨bx, 3, none⟩ = some (.int .i64 y.a)) (by kernel_rfl) ⟨(box_of EFd.out).1 0 _ rfl, (box_of EFd.out).1 1 _ rfl, (box_of EFd.out).1 2 _ rfl, (box_of EFd.out).1 3 _ rfl⟩ (fun hHeld => ?_)
    generalize hD : W.drew = x0 at EFd HPd HBd hHeld ⊢
    clear hD
    refine wpAnyH_take (i := 0) (v := ?_) rfl (by kernel_rfl) (by kernel_rfl) (by kernel_rfl) (fun _ _ _ h => h) (Or.inl ⟨by rfl, ?_⟩) (by assumption) ?_
    rotate_left
    · intro w' hSw
      try dsimp only at hSw
      go_simp; try rfl
    simp only [List.getElem_toArray, List.getElem_cons_zero, Act.put, List.setIfInBounds_toArray, List.set_cons_zero, List.set_cons_succ]
    refine wpAnyH_take (i := 1) (v := ?_) rfl (by kernel_rfl) (by kernel_rfl) (by kernel_rfl) (fun _ _ _ h => h) (Or.inl ⟨by rfl, ?_⟩) (by assumption) ?_
    rotate_left
    · intro w' hSw
      try dsimp only at hSw
      go_simp; try rfl
    simp only [List.getElem_toArray, List.getElem_cons_succ, List.getElem_cons_zero, Act.put, List.setIfInBounds_toArray, List.set_cons_zero, List.set_cons_succ]
    refine wpAnyH_take (i := 2) (v := ?_) rfl (by kernel_rfl) (by kernel_rfl) (by kernel_rfl) (fun _ _ _ h => h) (Or.inl ⟨by rfl, ?_⟩) (by assumption) ?_
    rotate_left
    · intro w' hSw
      try dsimp only at hSw
      go_simp; try rfl
    simp only [List.getElem_toArray, List.getElem_cons_succ, List.getElem_cons_zero, Act.put, List.setIfInBounds_toArray, List.set_cons_zero, List.set_cons_succ]
    refine wpAnyH_take (i := 3) (v := ?_) rfl (by kernel_rfl) (by kernel_rfl) (by kernel_rfl) (fun _ _ _ h => h) (Or.inl ⟨by rfl, ?_⟩) (by assumption) ?_
    rotate_left
    · intro w' hSw
      try dsimp only at hSw
      go_simp; try rfl
    simp only [List.getElem_toArray, List.getElem_cons_succ, List.getElem_cons_zero, Act.put, List.setIfInBounds_toArray, List.set_cons_zero, List.set_cons_succ]
    refine wpAnyH_take (i := 4) (v := ?_) rfl (by kernel_rfl) (by kernel_rfl) (by kernel_rfl) (fun _ _ _ h => h) (Or.inl ⟨by rfl, ?_⟩) (by assumption) ?_
    rotate_left
    · intro w' hSw
      try dsimp only at hSw
      go_simp; try rfl
    simp only [List.getElem_toArray, List.getElem_cons_succ, List.getElem_cons_zero, Act.put, List.setIfInBounds_toArray, List.set_cons_zero, List.set_cons_succ]
    refine wpAnyH_ready (rs := [5]) (by kernel_rfl) (by simp) (AllReadyH.cons rfl (fun K hK => ?_) AllReadyH.nil)
    refine step_callW (some 15) rfl (by kernel_rfl) 19 _ _ rfl #[.slice va c.length vc, .int .i64 y.w] (by kernel_rfl) (countI _ c _ y.w (HRD.out _ HBd.out) hm) ?_
    rintro e x1 ⟨rfl, b1⟩
    refine ⟨_, rfl, ?_⟩
    have EF1 := hide ((b1.block _ (Array.getElem?_eq_some_iff.1 EFd.out).1).trans EFd.out)
    have HP1 := hide (HPd.out.below b1)
    have HB1 := hide (grownBy_trans HBd.out (below_grown b1 (some b)))
    clear b1
    refine hK.out _ _ ⟨(box_of EF1.out).1 0 _ rfl, (box_of EF1.out).1 1 _ rfl, (box_of EF1.out).1 2 _ rfl, (box_of EF1.out).1 3 _ rfl⟩ (fun hHeld => ?_)
    clear hK K
    simp only [Act.put, List.setIfInBounds_toArray, List.set_cons_zero, List.set_cons_succ]
    refine wpAnyH_ready (rs := [6]) (by kernel_rfl) (by simp) (AllReadyH.cons rfl (fun K hK => ?_) AllReadyH.nil)
    refine step_acc rfl rfl _ _ _ rfl b n A (by kernel_rfl) HP1.out (by unfold maxLen; omega) y hyR (by kernel_rfl) (cntX c y.w) (by omega) (by kernel_rfl) ?_
    intro x2 h2 g2
    have EF2 := hide ((g2.block bx (Array.getElem?_eq_some_iff.1 EF1.out).1 (fun e => by injection e with e; omega)).trans EF1.out)
    have HP2 := hide h2
    have HB2 := hide (grownBy_trans HB1.out g2)
    clear h2 g2
    refine hK.out _ _ ⟨(box_of EF2.out).1 0 _ rfl, (box_of EF2.out).1 1 _ rfl, (box_of EF2.out).1 2 _ rfl, (box_of EF2.out).1 3 _ rfl⟩ (fun hHeld => ?_)
    clear hK K
    refine wpAnyH_done (by kernel_rfl) ?_ _
    go_wp2
    go_end0
    refine ⟨rfl, HB2.out, ?_⟩
    rw [HK2.out]
    exact HP2.out
end Go.Proofs.Ytbanifnfkabelaa
/-
  Rows of clocks: compared, marked, what is held.
-/
namespace Go.Proofs.Ytbanifnfkabelaa
open Go.RowKit

def rwsG (cs : List (List Smp)) : Prop := cs.length ≤ 1048576 ∧ ∀ c ∈ cs, smpsG c
theorem rwsG_at {cs : List (List Smp)} (h : rwsG cs) {j : Nat} (hj : j < cs.length) : smpsG (cs.getD j []) := by
  rw [List.getD_eq_getElem?_getD, List.getElem?_eq_getElem hj]
  exact h.2 _ (List.getElem_mem hj)
def cntRws (cs : List (List Smp)) : Nat := tot cntSmps cs
def mkRws : Nat → List (List Smp) → List (List Smp)
  | _, [] => []
  | k, c :: cs => mkSmps k c :: mkRws (k + cntSmps c) cs
theorem mkRws_len : ∀ (k : Nat) (cs : List (List Smp)), (mkRws k cs).length = cs.length
  | _, [] => rfl
  | k, c :: cs => by simp [mkRws, mkRws_len _ cs]
theorem mkRws_get : ∀ (k : Nat) (cs : List (List Smp)) (j : Nat), j < cs.length → (mkRws k cs).getD j [] = mkSmps (k + tot cntSmps (cs.take j)) (cs.getD j [])
  | k, [], j, h => by simp at h
  | k, c :: cs, 0, h => by simp [mkRws, tot]
  | k, c :: cs, j + 1, h => by
    rw [mkRws, List.getD_cons_succ, mkRws_get _ cs j (by simpa using h), List.getD_cons_succ]
    congr 1
    unfold tot
    rw [List.take_succ_cons, List.map_cons, List.sum_cons]; omega
def mixC (k : Nat) (cs : List (List Smp)) (j : Nat) : List (List Smp) := (mkRws k cs).take j ++ cs.drop j
theorem mixC_len (k : Nat) (cs : List (List Smp)) {j : Nat} (h : j ≤ cs.length) : (mixC k cs j).length = cs.length := by
  unfold mixC
  rw [List.length_append, List.length_take, List.length_drop, mkRws_len]
  omega
theorem mixC_at (k : Nat) (cs : List (List Smp)) {j : Nat} (h : j < cs.length) : mixC k cs j = (mkRws k cs).take j ++ cs.getD j [] :: cs.drop (j + 1) := by
  unfold mixC
  rw [List.drop_eq_getElem_cons h, List.getD_eq_getElem?_getD, List.getElem?_eq_getElem h]
  rfl
theorem mixC_next (k : Nat) (cs : List (List Smp)) {j : Nat} (h : j < cs.length) : mixC k cs (j + 1) = (mkRws k cs).take j ++ mkSmps (k + tot cntSmps (cs.take j)) (cs.getD j []) :: cs.drop (j + 1) := by
  unfold mixC
  have hl : j < (mkRws k cs).length := by rw [mkRws_len]; exact h
  rw [List.take_succ_eq_append_getElem hl, List.append_assoc, ← mkRws_get k cs j h, List.getD_eq_getElem?_getD, List.getElem?_eq_getElem hl]
  rfl
theorem OwnDL.chg {w : World} {b hi : Nat} {c : Dt} {c1 c2 : List Dt} {v : Value} {v1 v2 : List Value} (h : OwnDL w b hi (c1 ++ c :: c2) (v1 ++ v :: v2)) (hl : v1.length = c1.length) :
    ∃ F', Owns w b c v F' ∧ F'.Nodup ∧ (∀ q ∈ F', b ≤ q ∧ q < hi) ∧ ∀ (c' : Dt) (w' : World), Owns w' b c' v F' → (∀ q, q < w.heap.size → q ∉ F' → w'.heap[q]? = w.heap[q]?) → OwnDL w' b hi (c1 ++ c' :: c2) (v1 ++ v :: v2) := by
  obtain ⟨F, h1, h2, h3⟩ := h
  obtain ⟨u1, u2, F1, F2, e, rfl, h4, h5⟩ := OwnsL.app h1
  obtain ⟨rfl, rfl⟩ := List.append_inj e (by rw [h4.len, hl])
  obtain ⟨y, us, G1, G2, e2, rfl, h6, h7⟩ := ownsL_cons h5
  cases e2
  have l1 := OwnsL.lt _ _ _ h4
  have l2 := OwnsL.lt _ _ _ h7
  have l3 := Owns.lt _ _ _ h6
  have nd := List.nodup_append.1 h2
  have nd2 := List.nodup_append.1 nd.2.1
  refine ⟨G1, h6, nd2.1, fun q hq => ⟨(l3 q hq).1, h3 q (by simp [hq])⟩, fun c' w' ho hs => ?_⟩
  have k1 := h4.same (fun q hq => hs q (l1 q hq).2 (fun hm => nd.2.2 q hq q (by simp [hm]) rfl))
  have k2 := h7.same (fun q hq => hs q (l2 q hq).2 (fun hm => nd2.2.2 q hm q hq rfl))
  exact ⟨F1 ++ (G1 ++ G2), k1.join (ownsL_mk ho k2), h2, h3⟩
theorem Out.of {w : World} {b hi : Nat} {cs : List (List Smp)} {v : Value} (h : OwnD w b hi (rws cs) v) : ∃ us, Out w b hi cs v us := by
  obtain ⟨F, h1, h2, h3⟩ := h
  have h4 : OwnDL w b hi [rws cs] [v] := ⟨F ++ [], ownsL_mk h1 ownsL_nil, by rw [List.append_nil]; exact h2, by rw [List.append_nil]; exact h3⟩
  unfold rws at h4
  obtain ⟨us, l1, _, h5⟩ := OwnDL.flat h4
  rw [List.append_nil, List.append_nil] at h5
  exact ⟨us, by rw [l1, List.length_map], h5⟩
/-- One clock of a row gives way to another in the same blocks. -/
theorem Out.chg {w : World} {b hi : Nat} {A B : List (List Smp)} {c : List Smp} {v : Value} {us : List Value} (h : Out w b hi (A ++ c :: B) v us) :
    ∃ F', Owns w b (smps c) (us.getD A.length undef) F' ∧ F'.Nodup ∧ (∀ q ∈ F', b ≤ q ∧ q < hi) ∧ ∀ (c' : List Smp) (w' : World), Owns w' b (smps c') (us.getD A.length undef) F' → (∀ q, q < w.heap.size → q ∉ F' → w'.heap[q]? = w.heap[q]?) → Out w' b hi (A ++ c' :: B) v us := by
  obtain ⟨hl, h2⟩ := h
  rw [List.length_append, List.length_cons] at hl
  have hlt : A.length < us.length := by omega
  have eu : us = us.take A.length ++ us.getD A.length undef :: us.drop (A.length + 1) := by
    rw [List.getD_eq_getElem?_getD, List.getElem?_eq_getElem hlt, Option.getD_some, ← List.drop_eq_getElem_cons hlt, List.take_append_drop]
  unfold outD at h2
  rw [List.map_append, List.map_cons] at h2
  have h3 : OwnDL w b hi ((.row 42 1 (A ++ c :: B).length (us.map .val) :: A.map smps) ++ smps c :: B.map smps) ((v :: us.take A.length) ++ us.getD A.length undef :: us.drop (A.length + 1)) := by
    rw [List.cons_append, List.cons_append, ← eu]
    exact h2
  obtain ⟨F', f1, f2, f3, f4⟩ := h3.chg (by simp; omega)
  refine ⟨F', f1, f2, f3, fun c' w' ho hs => ⟨by rw [List.length_append, List.length_cons]; omega, ?_⟩⟩
  have h5 := f4 (smps c') w' ho hs
  rw [List.cons_append, List.cons_append, ← eu] at h5
  unfold outD
  rw [List.map_append, List.map_cons]
  rw [show (A ++ c' :: B).length = (A ++ c :: B).length by simp]
  exact h5
theorem cntRws_le : ∀ {cs : List (List Smp)}, (∀ c ∈ cs, c.length ≤ 3000) → cntRws cs ≤ cs.length * 24000
  | [], _ => by simp [cntRws, tot]
  | c :: cs, h => by
    have h1 := cntRws_le (cs := cs) (fun d hd => h d (by simp [hd]))
    have h2 := h c (by simp)
    have h3 := cntSmps_le c
    unfold smpsW at h3
    unfold cntRws tot at h1 ⊢
    rw [List.map_cons, List.sum_cons, List.length_cons, Nat.succ_mul]
    omega
theorem clocksX_len (xs : List Evt) : (clocksX xs).length ≤ 3000 ∧ ∀ c ∈ clocksX xs, c.length ≤ 3000 ∧ smpsG c := by
  unfold clocksX
  split
  · rename_i h
    unfold evB at h
    rw [Bool.and_eq_true] at h
    have hx : xs.length ≤ 3000 := of_decide_eq_true h.2
    refine ⟨by rw [clkN_len]; exact hx, fun c hc => ?_⟩
    have hg := clkN_good xs _ (Nat.le_refl _) c hc
    exact ⟨Nat.le_trans hg.len hx, hg.g hx⟩
  · exact ⟨by simp, fun c hc => by cases hc⟩
theorem clocksX_ok (xs : List Evt) : rwsG (clocksX xs) := ⟨by have := (clocksX_len xs).1; omega, fun c hc => ((clocksX_len xs).2 c hc).2⟩
theorem clocksX_cnt (xs : List Evt) : cntRws (clocksX xs) ≤ 72000000 := by
  have h1 := clocksX_len xs
  have h2 := cntRws_le (fun c hc => (h1.2 c hc).1)
  have h3 := Nat.mul_le_mul_right 24000 h1.1
  omega
end Go.Proofs.Ytbanifnfkabelaa
