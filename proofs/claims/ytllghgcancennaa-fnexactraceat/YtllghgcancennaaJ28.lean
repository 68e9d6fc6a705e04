/-
  Joined: ClcH, EvP.
-/
import Derived.Test.YtllghgcancennaaJ21
import Derived.Test.YtllghgcancennaaJ27
import Derived.Test.YtllghgcancennaaJ22
import Derived.Test.YtllghgcancennaaKEvQ
import Derived.Test.YtllghgcancennaaJ10
import Derived.Test.YtllghgcancennaaJ14
/-
  The program's accesses: is an event unordered with one of them, and one more.
-/
namespace Go.Proofs.Ytllghgcancennaa
open Go.RowKit Go.Maps

theorem grown_drew {w x : World} {own : Option Nat} (h : w.grownBy x own) : w.grownBy x.drew own := ⟨h.os, h.tape, h.output, h.size, h.block⟩
theorem evV_inj {x y : Evt} (h : evV x = evV y) : x = y := by
  unfold evV at h
  injection h with h
  simp at h
  obtain ⟨a, b, c, d⟩ := h
  cases x; cases y; simp_all
theorem next_no {A : Evt → Option Int} {left : Lit → Bool} {c : List Smp} {x y : Evt} {k : Int} (hxR : EvtR x)
    (h : ∀ a k, EvtR a → left (evK a) = false → A a = some k → ¬ (clashB a y = true ∧ cntX c a.w < k)) (hA : A x = some k) (hx : ¬ (clashB x y = true ∧ cntX c x.w < k)) :
    ∀ a k, EvtR a → (left (evK a) && !(evK a).sameKey (evK x)) = false → A a = some k → ¬ (clashB a y = true ∧ cntX c a.w < k) := fun a k' ha hl hak => by
  by_cases e : a = x
  · subst e
    rw [hA] at hak
    cases hak
    exact hx
  · refine h a k' ha ?_ hak
    cases hs : (evK a).sameKey (evK x) with
    | true => exact absurd (WideAt.sameKey_eq hs) (evK_ne hxR ha e)
    | false =>
      rw [hs] at hl
      simpa using hl
theorem step_acc {w : World} {ops : Array Oper} {o : Oper} {a : Act} {K : Act → World → Prop} {Q : Exit → Act → World → Prop} {E : Prop} (hgd : o.guard = none) (hd : o.dst = none) (m x v : Operand) (hop : o.op = Op.mapUpdate 61 m x v)
    (b n : Nat) (A : Evt → Option Int) (hm : a.eval m = .map (some b)) (hown : AccM w b n A) (hn : n < maxLen) (y : Evt) (hy : EvtR y) (hx : a.eval x = evV y) (c : Int) (hc : -9223372036854775808 ≤ c ∧ c ≤ 9223372036854775807) (hv : a.eval v = .int .i64 c)
    (h : ∀ w', AccM w' b (n + 1) (accPut A y c) → w.grownBy w' (some b) → K a w') : if Region.wanted o (yielded ops a.tmps) = true then Oper.wp Try.prog o a w K Q else E := by
  have hw : Region.wanted o (yielded ops a.tmps) = true := by simp [Region.wanted, hgd]
  rw [if_pos hw]
  obtain ⟨w', hrun, r1, r2⟩ := hown.put hn hy hc
  unfold Oper.wp
  simp [execOp, hop, hm, hx, hv, hrun, Result.andThen]
  show K (a.put o.dst undef) w'
  rw [hd]
  exact h w' r1 r2
set_option maxRecDepth 100000 in
set_option maxHeartbeats 8000000 in
theorem unordI (w : World) (b n : Nat) (A : Evt → Option Int) (y : Evt) (c : List Smp) (v : Value) (U : Bool) (hA : AccM w b n A) (hAR : ∀ a k, A a = some k → EvtR a) (hc : Reads w w.heap.size (smps c) v) (hm : c.length ≤ 1048576)
    (hU : U = true ↔ ∃ a k, A a = some k ∧ clashB a y = true ∧ cntX c a.w < k) :
    Calls Try.prog 46 #[.map (some b), .agg #[.int .i64 y.w, .int .i64 y.k, .int .i64 y.i, .int .i64 y.a], v] w fun e w' => e = .returned (.bool U) ∧ Below w.heap.size w w' := by
  have HU := hide hU
  have HAR := hide hAR
  have HC := hide hc
  obtain ⟨a1, c1, e1, _⟩ := hc.shape
  subst e1
  obtain ⟨D, hp, hd⟩ := hA
  have hbl := World.ownsMap.lt hp
  have HD := hide hd
  have HB0 := hide ((Below.refl w.heap.size w).alloc (Nat.le_refl _) (.cells #[.int .i64 y.w, .int .i64 y.k, .int .i64 y.i, .int .i64 y.a] 40))
  have HP := hide (World.ownsMap.alloc hp (.cells #[.int .i64 y.w, .int .i64 y.k, .int .i64 y.i, .int .i64 y.a] 40))
  have EF := hide (heap_alloc_new w (.cells #[.int .i64 y.w, .int .i64 y.k, .int .i64 y.i, .int .i64 y.a] 40))
  have hbw : w.heap.size < (w.alloc (.cells #[.int .i64 y.w, .int .i64 y.k, .int .i64 y.i, .int .i64 y.a] 40)).heap.size := by simp
  clear hU hAR hc hp hd
  go_enter Try.func46, Try.ntmps46
  go_upto_region 1 with fail
  generalize w.alloc (.cells #[.int .i64 y.w, .int .i64 y.k, .int .i64 y.i, .int .i64 y.a] 40) = W at *
  go_wp2_with (at_range; refine wpList_range_own _ rfl _ 61 rfl 40 3 evKeyed Try.underlying61 (plainElem Try.prog 3) b n D rfl HP.out ?_; intro w0 hrg0 hg0 hs0; have HR0 := hide hrg0; have HW0 := hide ((Below.refl W.heap.size W).grown hg0 (Nat.le_refl _) (fun k hk => by cases hk)); clear hrg0 hg0)
  go_frame
  obtain ⟨r, hr⟩ : ∃ r, W.heap.size = r := ⟨_, rfl⟩
  rw [hr] at HR0 hs0 ⊢
  have hbr : b < r := by omega
  go_loopw [11] (fun _ wr => ∃ left cnt, Hid (wr.ranges Try.prog 40 (plainElem Try.prog 3) b r n D left cnt) ∧ Hid (∀ z, left z = true → Maps.has D z = true) ∧ Hid (∀ a k, EvtR a → left (evK a) = false → A a = some k → ¬ (clashB a y = true ∧ cntX c a.w < k)) ∧ Hid (Below W.heap.size W wr) ∧ r < wr.heap.size) (fun _ wr => wr.rangeLeft b r)
  case atStart => exact ⟨_, _, HR0, hide (fun z h => h), hide (fun a k ha h hA => by rw [((HD.out a ha).2 k hA).1] at h; cases h), HW0, by omega⟩
  case round =>
    obtain ⟨left, cnt, HG, HL, HN, HW, hsz⟩ := hrel
    clear HR0 HW0 HP hs0
    go_wp2_with (at_next; refine wpList_next_ranges _ rfl _ rfl 40 evKeyed (plainElem Try.prog 3) evV (Value.int .i64) (fun key kl h => by obtain ⟨y, e, _⟩ := evKey_inv h; exact ⟨y, e⟩) (fun v y h => by obtain ⟨c, e, _⟩ := plainElem_int_inv Try.underlying3 h; exact ⟨c, e⟩) b r n D left cnt rfl HG.out ?_ ?_)
    · intro _ hl
      have HF : Hid (U = false) := hide (by
        cases hU : U with
        | false => rfl
        | true =>
          obtain ⟨a, k, h1, h2, h3⟩ := HU.out.1 hU
          exact absurd ⟨h2, h3⟩ (HN.out a k (HAR.out a k h1) (hl _) h1))
      go_wp2
      go_ret
      exact ⟨by rw [HF.out]; rfl, HB0.out.trans (HW.out.mono HB0.out.size)⟩
    · intro x k kl yy yz w1 cnt1 hkey hlx hv hat hrg1 hlt hg1 hs1 hen
      obtain ⟨x', hxx, hxR, rfl⟩ := evKey_inv hkey
      obtain rfl : x = x' := evV_inj hxx
      clear hxx
      obtain ⟨k', hkk, hyy, _⟩ := plainElem_int_inv Try.underlying3 hv
      obtain rfl : k = k' := by injection hkk
      have hy1 : yy = .lit (.int .i64 k) := congrArg Prod.fst hyy
      have hAx : A x = some k := by
        have h3 := HD.out x hxR
        have hat' : ∀ zd, D.atKey (evK x) zd = .lit (.int .i64 k) := fun zd => by rw [hat zd, hy1]
        cases hx0 : A x with
        | none =>
          have := (h3.1 hx0).2 (.agg [])
          rw [hat'] at this
          cases this
        | some k2 =>
          have := (h3.2 k2 hx0).2 (.agg [])
          rw [hat'] at this
          simp at this
          rw [this]
      have HM : Hid (w1.rangeLeft b r < wr.rangeLeft b r) := hide (by rw [hrg1.left_eq, HG.out.left_eq]; exact hlt)
      have HG1 := hide hrg1
      have HW1 := hide (HW.out.grown hg1 HW.out.size (fun k hk => by cases hk; omega))
      have HL1 : Hid (∀ z, (left z && !z.sameKey (evK x)) = true → Maps.has D z = true) := hide (fun z hz => by rw [Bool.and_eq_true] at hz; exact HL.out z hz.1)
      have hsz1 : r < w1.heap.size := by omega
      have HAX := hide hAx
      unfold evV at hen
      clear hkey hlx hv hat hrg1 hlt hg1 hs1 HG HW HL hkk hyy hy1 hAx
      have HW2 := hide (HW1.out.alloc (by omega) (.cells #[.int .i64 x.w, .int .i64 x.k, .int .i64 x.i, .int .i64 x.a] 40))
      have HG2 := hide (HG1.out.alloc (.cells #[.int .i64 x.w, .int .i64 x.k, .int .i64 x.i, .int .i64 x.a] 40))
      have EX := hide (heap_alloc_new w1 (.cells #[.int .i64 x.w, .int .i64 x.k, .int .i64 x.i, .int .i64 x.a] 40))
      have EY := hide ((HW2.out.block _ hbw).trans EF.out)
      have HM2 : Hid ((w1.alloc (.cells #[.int .i64 x.w, .int .i64 x.k, .int .i64 x.i, .int .i64 x.a] 40)).rangeLeft b r < wr.rangeLeft b r) := hide (by rw [HG2.out.left_eq, ← HG1.out.left_eq]; exact HM.out)
      have hsz2 : r < (w1.alloc (.cells #[.int .i64 x.w, .int .i64 x.k, .int .i64 x.i, .int .i64 x.a] 40)).heap.size := by simp; omega
      go_upto_region 4 with fail
      obtain ⟨gx, hgx⟩ : ∃ g, w1.heap.size = g := ⟨_, rfl⟩
      rw [hgx] at EX ⊢
      clear hgx HM HG1 HW1 hsz1 hen
      generalize w1.alloc (.cells #[.int .i64 x.w, .int .i64 x.k, .int .i64 x.i, .int .i64 x.a] 40) = W2 at *
      have d0 := (box_of EX.out).1 0 _ rfl
      have d1 := (box_of EX.out).1 1 _ rfl
      have d2 := (box_of EX.out).1 2 _ rfl
      have d3 := (box_of EX.out).1 3 _ rfl
      have e0 := (box_of EY.out).1 0 _ rfl
      have e1 := (box_of EY.out).1 1 _ rfl
      have e2 := (box_of EY.out).1 2 _ rfl
      have e3 := (box_of EY.out).1 3 _ rfl
      go_wp2_with fail
      refine (clashI W2 x y).mono ?_
      rintro e w3 ⟨rfl, b3⟩
      clear d0 d1 d2 d3 e0 e1 e2 e3
      have HW3 := hide (HW2.out.trans (b3.mono HW2.out.size))
      have HG3 := hide (HG2.out.kept (grown_of_below b3) (by simp) (by simp))
      have HM3 : Hid (w3.rangeLeft b r < wr.rangeLeft b r) := hide (by rw [HG3.out.left_eq, ← HG2.out.left_eq]; exact HM2.out)
      have hsz3 : r < w3.heap.size := Nat.lt_of_lt_of_le hsz2 b3.size
      have EX3 := hide ((b3.block _ (Array.getElem?_eq_some_iff.1 EX.out).1).trans EX.out)
      clear b3 HW2 HG2 HM2 hsz2 EX EY
      cases hcl : clashB x y with
      | false =>
        have HN3 := hide (next_no hxR HN.out HAX.out (fun h => by rw [hcl] at h; cases h.1))
        go_wp2
        exact ⟨⟨_, _, HG3, HL1, HN3, HW3, hsz3⟩, HM3.out⟩
      | true =>
        have d0 := (box_of EX3.out).1 0 _ rfl
        go_wp2_with fail
        refine (countI _ c _ x.w (HC.out.at (HB0.out.trans (HW3.out.mono HB0.out.size))) hm).mono ?_
        rintro e w4 ⟨rfl, b4⟩
        clear d0
        have HW4 := hide (HW3.out.trans (b4.mono HW3.out.size))
        have HG4 := hide (HG3.out.kept (grown_of_below b4) (by simp) (by simp))
        have HM4 : Hid (w4.rangeLeft b r < wr.rangeLeft b r) := hide (by rw [HG4.out.left_eq, ← HG3.out.left_eq]; exact HM3.out)
        have hsz4 : r < w4.heap.size := Nat.lt_of_lt_of_le hsz3 b4.size
        clear b4 HW3 HG3 HM3 hsz3 EX3
        by_cases hlk : cntX c x.w < k
        · have HF : Hid (U = true) := hide (HU.out.2 ⟨x, k, HAX.out, hcl, hlk⟩)
          go_wp2
          go_ret
          exact ⟨by rw [HF.out]; rfl, HB0.out.trans (HW4.out.mono HB0.out.size)⟩
        · have HN3 := hide (next_no hxR HN.out HAX.out (fun h => hlk h.2))
          go_wp2
          exact ⟨⟨_, _, HG4, HL1, HN3, HW4, hsz4⟩, HM4.out⟩
set_option maxRecDepth 100000 in
set_option maxHeartbeats 8000000 in
theorem takesI (w : World) (b n : Nat) (A : Evt → Option Int) (y : Evt) (c : List Smp) (v : Value) (hA : AccM w b n A) (hn : n ≤ 100000) (hyR : EvtR y) (B : Nat) (hc : Reads w B (smps c) v) (hBb : B ≤ b) (hm : c.length ≤ 1048576) (hcn : 0 ≤ cntX c y.w ∧ cntX c y.w ≤ 16777215) :
    Calls Try.prog 47 #[.map (some b), .agg #[.int .i64 y.w, .int .i64 y.k, .int .i64 y.i, .int .i64 y.a], v] w fun e w' => e = .returned (.tuple #[]) ∧ w.grownBy w' (some b) ∧ AccM w' b (n + 1) (accPut (if y.k = 2 then (fun _ => none) else A) y (cntX c y.w)) := by
  have hbl := hA.lt
  have HC := hide hc
  have HB0 := hide ((Below.refl w.heap.size w).alloc (Nat.le_refl _) (.cells #[.int .i64 y.w, .int .i64 y.k, .int .i64 y.i, .int .i64 y.a] 40))
  have HP := hide (hA.below ((Below.refl w.heap.size w).alloc (Nat.le_refl _) (.cells #[.int .i64 y.w, .int .i64 y.k, .int .i64 y.i, .int .i64 y.a] 40)))
  have EF := hide (heap_alloc_new w (.cells #[.int .i64 y.w, .int .i64 y.k, .int .i64 y.i, .int .i64 y.a] 40))
  have HB := hide (below_grown HB0.out (some b))
  have HRD : Hid (∀ W, w.grownBy W (some b) → Reads W W.heap.size (smps c) v) := hide (fun W hW => (hc.kept (fun k hk => hW.block k (by omega) (fun e => by injection e with e; omega))).up (by have := hW.size; omega))
  obtain ⟨A2, hA2⟩ : ∃ f : Evt → Option Int, (if y.k = 2 then (fun _ => none) else A) = f := ⟨_, rfl⟩
  rw [hA2]
  have HK0 := hide hA2
  clear hA2
  obtain ⟨bx, hbx⟩ : ∃ g, w.heap.size = g := ⟨_, rfl⟩
  have hbb : b < bx := by omega
  obtain ⟨va, vc, ve, _⟩ := hc.shape
  subst ve
  clear hA hc HC HB0
  go_enter Try.func47, Try.ntmps47
  go_upto_region 1 with fail
  rw [hbx] at EF
  try rw [hbx]
  clear hbx
  generalize w.alloc (.cells #[.int .i64 y.w, .int .i64 y.k, .int .i64 y.i, .int .i64 y.a] 40) = W at *
  have k1 := (box_of EF.out).1 1 _ rfl
  cases c2 : (y.k == 2) with
  | true =>
    have HK2 : Hid (A2 = (fun _ => none)) := hide (HK0.out ▸ if_pos (eq_of_beq c2))
    obtain ⟨w1, hrun, h1, g1⟩ := HP.out.clear
    go_upto_region 3 with fail
    replace EF := hide ((g1.block bx (Array.getElem?_eq_some_iff.1 EF.out).1 (fun e => by injection e with e; omega)).trans EF.out)
    replace HB := hide (grownBy_trans HB.out g1)
    replace HP := hide h1
    clear hrun h1 g1 k1
    have EFd : Hid (w1.drew.heap[bx]? = some (.cells #[.int .i64 y.w, .int .i64 y.k, .int .i64 y.i, .int .i64 y.a] 40 (0, 0))) := hide EF.out
    have HPd : Hid (AccM w1.drew b 0 (fun _ => none)) := hide (HP.out.kept rfl)
    have HBd := hide (grown_drew HB.out)
    refine wp_region_held_drew (S := fun w' => w'.cell? ⟨bx, 0, none⟩ = some (.int .i64 y.w) ∧ w'.cell? ⟨bx, 1, none⟩ = some (.int .i64 y.k) ∧ w'.cell? ⟨bx, 2, none⟩ = some (.int .i64 y.i) ∧ w'.cell? ⟨bx, 3, none⟩ = some (.int .i64 y.a)) (by kernel_rfl) ⟨(box_of EFd.out).1 0 _ rfl, (box_of EFd.out).1 1 _ rfl, (box_of EFd.out).1 2 _ rfl, (box_of EFd.out).1 3 _ rfl⟩ (fun hHeld => ?_)
    generalize hD : w1.drew = x0 at EFd HPd HBd hHeld ⊢
    clear hD
    refine wpAnyH_take (i := 0) (v := ?_) rfl (by kernel_rfl) (by kernel_rfl) (by kernel_rfl) (fun _ _ _ h => h) (Or.inl ⟨by rfl, ?_⟩) (by assumption) ?_
    rotate_left
    · intro w' hSw
      try dsimp only at hSw
      go_simp; try rfl
    simp only [List.getElem_toArray, List.getElem_cons_zero, Act.put, List.setIfInBounds_toArray, List.set_cons_zero, List.set_cons_succ]
    refine wpAnyH_take (i := 1) (v := ?_) rfl (by kernel_rfl) (by kernel_rfl) (by kernel_rfl) (fun _ _ _ h => h) (Or.inl ⟨by rfl, ?_⟩) (by assumption) ?_
    rotate_left
    · intro w' hSw
      try dsimp only at hSw
      go_simp; try rfl
    simp only [List.getElem_toArray, List.getElem_cons_succ, List.getElem_cons_zero, Act.put, List.setIfInBounds_toArray, List.set_cons_zero, List.set_cons_succ]
    refine wpAnyH_take (i := 2) (v := ?_) rfl (by kernel_rfl) (by kernel_rfl) (by kernel_rfl) (fun _ _ _ h => h) (Or.inl ⟨by rfl, ?_⟩) (by assumption) ?_
    rotate_left
    · intro w' hSw
      try dsimp only at hSw
      go_simp; try rfl
    simp only [List.getElem_toArray, List.getElem_cons_succ, List.getElem_cons_zero, Act.put, List.setIfInBounds_toArray, List.set_cons_zero, List.set_cons_succ]
    refine wpAnyH_take (i := 3) (v := ?_) rfl (by kernel_rfl) (by kernel_rfl) (by kernel_rfl) (fun _ _ _ h => h) (Or.inl ⟨by rfl, ?_⟩) (by assumption) ?_
    rotate_left
    · intro w' hSw
      try dsimp only at hSw
      go_simp; try rfl
    simp only [List.getElem_toArray, List.getElem_cons_succ, List.getElem_cons_zero, Act.put, List.setIfInBounds_toArray, List.set_cons_zero, List.set_cons_succ]
    refine wpAnyH_take (i := 4) (v := ?_) rfl (by kernel_rfl) (by kernel_rfl) (by kernel_rfl) (fun _ _ _ h => h) (Or.inl ⟨by rfl, ?_⟩) (by assumption) ?_
    rotate_left
    · intro w' hSw
      try dsimp only at hSw
      go_simp; try rfl
    simp only [List.getElem_toArray, List.getElem_cons_succ, List.getElem_cons_zero, Act.put, List.setIfInBounds_toArray, List.set_cons_zero, List.set_cons_succ]
    refine wpAnyH_ready (rs := [5]) (by kernel_rfl) (by simp) (AllReadyH.cons rfl (fun K hK => ?_) AllReadyH.nil)
    refine step_callW (some 15) rfl (by kernel_rfl) 37 _ _ rfl #[.slice va c.length vc, .int .i64 y.w] (by kernel_rfl) (countI _ c _ y.w (HRD.out _ HBd.out) hm) ?_
    rintro e x1 ⟨rfl, b1⟩
    refine ⟨_, rfl, ?_⟩
    have EF1 := hide ((b1.block _ (Array.getElem?_eq_some_iff.1 EFd.out).1).trans EFd.out)
    have HP1 := hide (HPd.out.below b1)
    have HB1 := hide (grownBy_trans HBd.out (below_grown b1 (some b)))
    clear b1
    refine hK.out _ _ ⟨(box_of EF1.out).1 0 _ rfl, (box_of EF1.out).1 1 _ rfl, (box_of EF1.out).1 2 _ rfl, (box_of EF1.out).1 3 _ rfl⟩ (fun hHeld => ?_)
    clear hK K
    simp only [Act.put, List.setIfInBounds_toArray, List.set_cons_zero, List.set_cons_succ]
    refine wpAnyH_ready (rs := [6]) (by kernel_rfl) (by simp) (AllReadyH.cons rfl (fun K hK => ?_) AllReadyH.nil)
    refine step_acc rfl rfl _ _ _ rfl b 0 (fun _ => none) (by kernel_rfl) HP1.out (by unfold maxLen; omega) y hyR (by kernel_rfl) (cntX c y.w) (by omega) (by kernel_rfl) ?_
    intro x2 h2 g2
    have EF2 := hide ((g2.block bx (Array.getElem?_eq_some_iff.1 EF1.out).1 (fun e => by injection e with e; omega)).trans EF1.out)
    have HP2 := hide h2
    have HB2 := hide (grownBy_trans HB1.out g2)
    clear h2 g2
    refine hK.out _ _ ⟨(box_of EF2.out).1 0 _ rfl, (box_of EF2.out).1 1 _ rfl, (box_of EF2.out).1 2 _ rfl, (box_of EF2.out).1 3 _ rfl⟩ (fun hHeld => ?_)
    clear hK K
    refine wpAnyH_done (by kernel_rfl) ?_ _
    go_wp2
    go_end0
    refine ⟨rfl, HB2.out, ?_⟩
    rw [HK2.out]
    exact HP2.out.mono (by omega)
  | false =>
    have HK2 : Hid (A2 = A) := hide (HK0.out ▸ if_neg (fun e => by rw [e] at c2; simp at c2))
    go_upto_region 3 with fail
    clear k1
    have EFd : Hid (W.drew.heap[bx]? = some (.cells #[.int .i64 y.w, .int .i64 y.k, .int .i64 y.i, .int .i64 y.a] 40 (0, 0))) := hide EF.out
    have HPd : Hid (AccM W.drew b n A) := hide (HP.out.kept rfl)
    have HBd := hide (grown_drew HB.out)
    refine wp_region_held_drew (S := fun w' => w'.cell? ⟨bx, 0, none⟩ = some (.int .i64 y.w) ∧ w'.cell? ⟨bx, 1, none⟩ = some (.int .i64 y.k) ∧ w'.cell? ⟨bx, 2, none⟩ = some (.int .i64 y.i) ∧ w'.cell? ⟨bx, 3, none⟩ = some (.int .i64 y.a)) (by kernel_rfl) ⟨(box_of EFd.out).1 0 _ rfl, (box_of EFd.out).1 1 _ rfl, (box_of EFd.out).1 2 _ rfl, (box_of EFd.out).1 3 _ rfl⟩ (fun hHeld => ?_)
    generalize hD : W.drew = x0 at EFd HPd HBd hHeld ⊢
    clear hD
    refine wpAnyH_take (i := 0) (v := ?_) rfl (by kernel_rfl) (by kernel_rfl) (by kernel_rfl) (fun _ _ _ h => h) (Or.inl ⟨by rfl, ?_⟩) (by assumption) ?_
    rotate_left
    · intro w' hSw
      try dsimp only at hSw
      go_simp; try rfl
    simp only [List.getElem_toArray, List.getElem_cons_zero, Act.put, List.setIfInBounds_toArray, List.set_cons_zero, List.set_cons_succ]
    refine wpAnyH_take (i := 1) (v := ?_) rfl (by kernel_rfl) (by kernel_rfl) (by kernel_rfl) (fun _ _ _ h => h) (Or.inl ⟨by rfl, ?_⟩) (by assumption) ?_
    rotate_left
    · intro w' hSw
      try dsimp only at hSw
      go_simp; try rfl
    simp only [List.getElem_toArray, List.getElem_cons_succ, List.getElem_cons_zero, Act.put, List.setIfInBounds_toArray, List.set_cons_zero, List.set_cons_succ]
    refine wpAnyH_take (i := 2) (v := ?_) rfl (by kernel_rfl) (by kernel_rfl) (by kernel_rfl) (fun _ _ _ h => h) (Or.inl ⟨by rfl, ?_⟩) (by assumption) ?_
    rotate_left
    · intro w' hSw
      try dsimp only at hSw
      go_simp; try rfl
    simp only [List.getElem_toArray, List.getElem_cons_succ, List.getElem_cons_zero, Act.put, List.setIfInBounds_toArray, List.set_cons_zero, List.set_cons_succ]
    refine wpAnyH_take (i := 3) (v := ?_) rfl (by kernel_rfl) (by kernel_rfl) (by kernel_rfl) (fun _ _ _ h => h) (Or.inl ⟨by rfl, ?_⟩) (by assumption) ?_
    rotate_left
    · intro w' hSw
      try dsimp only at hSw
      go_simp; try rfl
    simp only [List.getElem_toArray, List.getElem_cons_succ, List.getElem_cons_zero, Act.put, List.setIfInBounds_toArray, List.set_cons_zero, List.set_cons_succ]
    refine wpAnyH_take (i := 4) (v := ?_) rfl (by kernel_rfl) (by kernel_rfl) (by kernel_rfl) (fun _ _ _ h => h) (Or.inl ⟨by rfl, ?_⟩) (by assumption) ?_
    rotate_left
    · intro w' hSw
      try dsimp only at hSw
      go_simp; try rfl
    simp only [List.getElem_toArray, List.getElem_cons_succ, List.getElem_cons_zero, Act.put, List.setIfInBounds_toArray, List.set_cons_zero, List.set_cons_succ]
    refine wpAnyH_ready (rs := [5]) (by kernel_rfl) (by simp) (AllReadyH.cons rfl (fun K hK => ?_) AllReadyH.nil)
    refine step_callW (some 15) rfl (by kernel_rfl) 37 _ _ rfl #[.slice va c.length vc, .int .i64 y.w] (by kernel_rfl) (countI _ c _ y.w (HRD.out _ HBd.out) hm) ?_
    rintro e x1 ⟨rfl, b1⟩
    refine ⟨_, rfl, ?_⟩
    have EF1 := hide ((b1.block _ (Array.getElem?_eq_some_iff.1 EFd.out).1).trans EFd.out)
    have HP1 := hide (HPd.out.below b1)
    have HB1 := hide (grownBy_trans HBd.out (below_grown b1 (some b)))
    clear b1
    refine hK.out _ _ ⟨(box_of EF1.out).1 0 _ rfl, (box_of EF1.out).1 1 _ rfl, (box_of EF1.out).1 2 _ rfl, (box_of EF1.out).1 3 _ rfl⟩ (fun hHeld => ?_)
    clear hK K
    simp only [Act.put, List.setIfInBounds_toArray, List.set_cons_zero, List.set_cons_succ]
    refine wpAnyH_ready (rs := [6]) (by kernel_rfl) (by simp) (AllReadyH.cons rfl (fun K hK => ?_) AllReadyH.nil)
    refine step_acc rfl rfl _ _ _ rfl b n A (by kernel_rfl) HP1.out (by unfold maxLen; omega) y hyR (by kernel_rfl) (cntX c y.w) (by omega) (by kernel_rfl) ?_
    intro x2 h2 g2
    have EF2 := hide ((g2.block bx (Array.getElem?_eq_some_iff.1 EF1.out).1 (fun e => by injection e with e; omega)).trans EF1.out)
    have HP2 := hide h2
    have HB2 := hide (grownBy_trans HB1.out g2)
    clear h2 g2
    refine hK.out _ _ ⟨(box_of EF2.out).1 0 _ rfl, (box_of EF2.out).1 1 _ rfl, (box_of EF2.out).1 2 _ rfl, (box_of EF2.out).1 3 _ rfl⟩ (fun hHeld => ?_)
    clear hK K
    refine wpAnyH_done (by kernel_rfl) ?_ _
    go_wp2
    go_end0
    refine ⟨rfl, HB2.out, ?_⟩
    rw [HK2.out]
    exact HP2.out
end Go.Proofs.Ytllghgcancennaa
/-
  Events in the program: EventsOk.
-/
namespace Go.Proofs.Ytllghgcancennaa
open Go.RowKit

theorem evAll_no {xs : List Evt} {j : Nat} (hj : j < xs.length) (h : evAt (xs.getD j default) = false) : xs.all evAt = false := by
  cases c : xs.all evAt with
  | false => rfl
  | true =>
    rw [List.all_eq_true] at c
    have := c (xs.getD j default) (by rw [List.getD_eq_getElem?_getD, List.getElem?_eq_getElem hj]; exact List.getElem_mem hj)
    rw [h] at this
    cases this
theorem evAll_yes {xs : List Evt} (h : ∀ i, i < xs.length → evAt (xs.getD i default) = true) : xs.all evAt = true := by
  rw [List.all_eq_true]
  intro y hy
  obtain ⟨i, hi, rfl⟩ := List.getElem_of_mem hy
  have := h i hi
  rwa [List.getD_eq_getElem?_getD, List.getElem?_eq_getElem hi] at this
set_option maxRecDepth 100000 in
set_option maxHeartbeats 4000000 in
theorem onumI (w : World) (q : Int) : Calls Try.prog 75 #[.int .i64 q] w fun e w' => e = .returned (.bool (inB q 1 1000000)) ∧ w' = w := by
  go_enter Try.func75, Try.ntmps75
  go_wp2_with fail
  refine (inImpl _ _ _ _).mono ?_
  rintro e x2 ⟨rfl, hx2⟩
  rw [hx2]
  clear hx2 x2
  go_wp2
  go_ret
  exact ⟨rfl, rfl⟩
set_option maxRecDepth 100000 in
set_option maxHeartbeats 8000000 in
theorem rightI (w : World) (y : Evt) :
    Calls Try.prog 63 #[.agg #[.int .i64 y.w, .int .i64 y.k, .int .i64 y.i, .int .i64 y.a]] w fun e w' => e = .returned (.bool (evAt y)) ∧ Below w.heap.size w w' := by
  obtain ⟨V, hV⟩ : ∃ V, evAt y = V := ⟨_, rfl⟩
  have HV := hide hV
  rw [hV]
  clear hV
  go_enter Try.func63, Try.ntmps63
  go_upto_region 1 with fail
  have bA := (Below.refl w.heap.size w).alloc (Nat.le_refl _) (.cells #[.int .i64 y.w, .int .i64 y.k, .int .i64 y.i, .int .i64 y.a] 40)
  have EF := hide (heap_alloc_new w (.cells #[.int .i64 y.w, .int .i64 y.k, .int .i64 y.i, .int .i64 y.a] 40))
  have HBw := hide bA
  clear bA
  obtain ⟨gf, hgf⟩ : ∃ g, w.heap.size = g := ⟨_, rfl⟩
  rw [hgf] at EF ⊢
  clear hgf
  generalize w.alloc (.cells #[.int .i64 y.w, .int .i64 y.k, .int .i64 y.i, .int .i64 y.a] 40) = W2 at *
  have k0 := (box_of EF.out).1 0 _ rfl
  have k1 := (box_of EF.out).1 1 _ rfl
  have k2 := (box_of EF.out).1 2 _ rfl
  have k3 := (box_of EF.out).1 3 _ rfl
  go_wp2_with fail
  refine (onumI _ _).mono ?_
  rintro e x2 ⟨rfl, hx2⟩
  rw [hx2]
  clear hx2 x2
  cases c0 : inB y.w 1 1000000 with
  | false =>
    have HF : Hid (V = false) := hide (by rw [← HV.out]; unfold evAt; rw [c0]; rfl)
    go_wp2
    go_ret
    exact ⟨by rw [HF.out]; rfl, HBw.out⟩
  | true =>
    go_wp2_with fail
    refine (inImpl _ _ _ _).mono ?_
    rintro e x2 ⟨rfl, hx2⟩
    rw [hx2]
    clear hx2 x2
    cases c1 : inB y.k 0 6 with
    | false =>
      have HF : Hid (V = false) := hide (by rw [← HV.out]; unfold evAt; rw [c0, c1]; rfl)
      go_wp2
      go_ret
      exact ⟨by rw [HF.out]; rfl, HBw.out⟩
    | true =>
      go_wp2_with fail
      refine (inImpl _ _ _ _).mono ?_
      rintro e x2 ⟨rfl, hx2⟩
      rw [hx2]
      clear hx2 x2
      cases c2 : inB y.i 0 1000000 with
      | false =>
        have HF : Hid (V = false) := hide (by rw [← HV.out]; unfold evAt; rw [c0, c1, c2]; rfl)
        go_wp2
        go_ret
        exact ⟨by rw [HF.out]; rfl, HBw.out⟩
      | true =>
        go_wp2_with fail
        refine (inImpl _ _ _ _).mono ?_
        rintro e x2 ⟨rfl, hx2⟩
        rw [hx2]
        clear hx2 x2
        have HF : Hid (V = inB y.a 0 7) := hide (by rw [← HV.out]; unfold evAt; rw [c0, c1, c2]; rfl)
        clear c0 c1 c2
        go_wp2
        go_ret
        exact ⟨by rw [HF.out]; rfl, HBw.out⟩
set_option maxRecDepth 100000 in
set_option maxHeartbeats 8000000 in
theorem eachEvI (w : World) (xs : List Evt) (u : Value) (h : Reads w w.heap.size (evts xs) u) (hm : xs.length ≤ 1048576) :
    Calls Try.prog 62 #[u, .int .i64 3000, .func (.func 63) #[] #[]] w fun e w' => e = .returned (.bool (evB xs)) ∧ Below w.heap.size w w' := by
  have HR := hide h
  obtain ⟨a1, c1, e1, _⟩ := h.shape
  subst e1
  clear h
  by_cases hl : xs.length ≤ 3000
  case neg =>
    have HF : Hid (evB xs = false) := hide (by unfold evB; rw [decide_eq_false hl, Bool.and_false])
    go_enter Try.func62, Try.ntmps62
    go_wp2
    go_ret
    exact ⟨by rw [HF.out]; rfl, Below.refl _ _⟩
  have HE : Hid (evB xs = xs.all evAt) := hide (by unfold evB; rw [decide_eq_true hl, Bool.and_true])
  have HN : Hid (∀ j, j < xs.length → evAt (xs.getD j default) = false → xs.all evAt = false) := hide (fun j h1 h2 => evAll_no h1 h2)
  have HYs : Hid ((∀ i, i < xs.length → evAt (xs.getD i default) = true) → xs.all evAt = true) := hide (fun h => evAll_yes h)
  rw [HE.out]
  generalize xs.all evAt = V at *
  clear HE
  go_enter Try.func62, Try.ntmps62
  go_wp2
  go_loopw [15] (fun i wr => ∃ j : Nat, j ≤ xs.length ∧ i = .int .i64 (j : Int) ∧ Hid (Below w.heap.size w wr) ∧ Hid (∀ i, i < j → evAt (xs.getD i default) = true)) (fun i _ => xs.length - (intOf i).toNat)
  case atStart => exact ⟨0, Nat.zero_le _, rfl, hide (Below.refl _ _), hide (fun i hi => by omega)⟩
  case round =>
    obtain ⟨j, hj, rfl, HBr, HQ⟩ := hrel
    by_cases hlt : j < xs.length
    · skip
      obtain ⟨a', cap', ea, hcap, _, hc⟩ := event_at (HR.out.at HBr.out)
      cases ea
      obtain ⟨b, o, rfl, hbb, hcell⟩ := hc (by omega)
      obtain ⟨d0, d1, d2, d3⟩ := hcell j hlt
      clear hcell hc
      obtain ⟨y, hy⟩ : ∃ y, xs.getD j default = y := ⟨_, rfl⟩
      rw [hy] at d0 d1 d2 d3
      have HY := hide hy
      clear hy
      go_wp2_with fail
      have b1 := (Below.refl wr.heap.size wr).alloc (Nat.le_refl _) (.cells #[.int .i64 y.w, .int .i64 y.k, .int .i64 y.i, .int .i64 y.a] 40)
      replace HBr := hide (HBr.out.trans (b1.mono HBr.out.size))
      clear b1 d0 d1 d2 d3
      generalize wr.alloc (.cells #[.int .i64 y.w, .int .i64 y.k, .int .i64 y.i, .int .i64 y.a] 40) = W at *
      refine (rightI _ y).mono ?_
      rintro e w1 ⟨rfl, b1⟩
      replace HBr := hide (HBr.out.trans (b1.mono HBr.out.size))
      clear b1
      cases c : evAt y with
      | false =>
        have HF : Hid (V = false) := hide (HN.out j hlt (by rw [HY.out]; exact c))
        go_wp2
        go_ret
        exact ⟨by rw [HF.out]; rfl, HBr.out⟩
      | true =>
        have HQ2 : Hid (∀ i, i < j + 1 → evAt (xs.getD i default) = true) := hide (fun i hi => by
          rcases Nat.lt_succ_iff_lt_or_eq.1 hi with h | rfl
          · exact HQ.out i h
          · rw [HY.out]; exact c)
        go_wp2
        exact ⟨⟨j + 1, by omega, by go_num, HBr, HQ2⟩, by simp [intOf]; omega⟩
    · obtain rfl : j = xs.length := by omega
      have HF : Hid (V = true) := hide (HYs.out HQ.out)
      go_wp2
      go_ret
      exact ⟨by rw [HF.out]; rfl, HBr.out⟩
set_option maxRecDepth 100000 in
set_option maxHeartbeats 4000000 in
theorem eventsOkI (w : World) (xs : List Evt) (v : Value) (h : Reads w w.heap.size (evts xs) v) (hm : xs.length ≤ 1048576) :
    Calls Try.prog 39 #[v] w fun e w' => e = .returned (.bool (evB xs)) ∧ Below w.heap.size w w' := by
  have HR := hide h
  obtain ⟨a1, c1, e1, _⟩ := h.shape
  subst e1
  clear h
  go_enter Try.func39, Try.ntmps39
  go_wp2_with fail
  refine (eachEvI _ xs _ HR.out hm).mono ?_
  rintro e w1 ⟨rfl, b1⟩
  have HB := hide b1
  clear b1
  go_wp2
  go_ret
  exact ⟨rfl, HB.out⟩
end Go.Proofs.Ytllghgcancennaa
