/-
  TypeOk, TypeOf, Fits and Join in the program.
-/
import Derived.Test.YtobomcfiincpoaaTypM
import Derived.Test.YtobomcfiincpoaaTypTo
import Derived.Test.YtobomcfiincpoaaStepX
import Derived.Laws.StructEq
namespace Go.Proofs.Ytobomcfiincpoaa
open Go.RowKit

theorem inB3 {k : Int} (h : ¬ k = 3) : inB k 0 3 = inB k 0 2 := by
  by_cases h2 : 0 ≤ k ∧ k ≤ 2
  · rw [inB_mk (by omega) (by omega), inB_mk (by omega) (by omega)]
  · by_cases h0 : 0 ≤ k
    · rw [inB_not (.inr (by omega)), inB_not (.inr (by omega))]
    · rw [inB_not (.inl (by omega)), inB_not (.inl (by omega))]
theorem joinL_no {ks : List Kd} {c : Int} (h : ∀ k, subX ks c k = false) : ∀ (n : Nat) (k : Int), joinL ks c n k = ⟨0, 0⟩
  | 0, _ => rfl
  | n + 1, k => by
    unfold joinL
    split
    · rw [if_neg (by rw [h]; simp)]
      exact joinL_no h n _
    · rfl
theorem joinX_near {ks : List Kd} {a b : Ty} (h1 : fitsB ks a b = false) (h2 : fitsB ks b a = false) (ka : a.k = 3) (kb : b.k = 3) : joinX ks a b = joinL ks b.c 7 a.c := by
  have ta : tyB ks a = inB a.c 0 ((ks.length : Int) - 1) := by unfold tyB; rw [if_pos ka]
  have tb : tyB ks b = inB b.c 0 ((ks.length : Int) - 1) := by unfold tyB; rw [if_pos kb]
  unfold joinX
  rw [if_neg (by rw [h1]; simp), if_neg (by rw [h2]; simp)]
  cases ca : tyB ks a with
  | false =>
    rw [if_neg (fun h => by cases h.1)]
    unfold joinL
    rw [← ta, ca]
    rfl
  | true =>
    cases cb : tyB ks b with
    | false =>
      rw [if_neg (fun h => by cases h.2.1)]
      refine (joinL_no (fun k => ?_) _ _).symm
      unfold subX subL
      rw [← tb, cb]
      rfl
    | true =>
      rw [if_pos ⟨rfl, rfl, ka, kb⟩]
      have hs : subX ks b.c a.c = false := by
        unfold fitsB at h2
        rw [if_pos cb, if_pos ca] at h2
        unfold fitR at h2
        rw [ka, kb] at h2
        cases c : subX ks b.c a.c with
        | false => rfl
        | true => rw [c] at h2; simp at h2
      show _ = (if inB a.c 0 ((ks.length : Int) - 1) = true then (if subX ks b.c a.c = true then (⟨3, a.c⟩ : Ty) else joinL ks b.c 6 (ks.getD a.c.toNat default).s) else ⟨0, 0⟩)
      rw [← ta, ca, if_pos rfl, if_neg (by rw [hs]; simp)]
theorem joinX_else {ks : List Kd} {a b : Ty} (h1 : fitsB ks a b = false) (h2 : fitsB ks b a = false) (h : ¬ (a.k = 3 ∧ b.k = 3)) : joinX ks a b = ⟨0, 0⟩ := by
  unfold joinX
  rw [if_neg (by rw [h1]; simp), if_neg (by rw [h2]; simp), if_neg (fun g => h g.2.2)]

set_option maxRecDepth 100000 in
set_option maxHeartbeats 4000000 in
theorem typeOkI (w : World) (x : Pg) (u : Value) (t : Ty) (h : Reads w w.heap.size (kins x.k) u) (hm : x.k.length ≤ 1048576) :
    Calls Try.prog 25 #[pgV x u, tyV t] w fun e w' => e = .returned (.bool (tyB x.k t)) ∧ Below w.heap.size w w' := by
  obtain ⟨a1, c1, e1, _⟩ := h.shape
  subst e1
  clear h
  have HV : Hid (tyB x.k t = if t.k = 3 then inB t.c 0 ((x.k.length : Int) - 1) else inB t.k 0 2 && (t.c == 0)) := hide rfl
  generalize tyB x.k t = V at *
  generalize x.k.length = n at *
  unfold pgV tyV
  by_cases hk : t.k = 3
  · have hk' : (t.k == 3) = true := by rw [hk]; rfl
    have HF : Hid (V = inB t.c 0 ((n : Int) - 1)) := hide (by rw [HV.out, if_pos hk])
    have HB := hide (((Below.refl w.heap.size w).alloc (Nat.le_refl _) (.cells #[.slice a1 n c1] 33)).alloc (by simp) (.cells #[.int .i64 t.k, .int .i64 t.c] 51))
    clear hk
    go_enter Try.func25, Try.ntmps25
    go_wp2_with fail
    generalize ((w.alloc (.cells #[.slice a1 n c1] 33)).alloc (.cells #[.int .i64 t.k, .int .i64 t.c] 51)) = W at *
    refine (hasImpl _ x a1 n c1 t.c hm).mono ?_
    rintro e w1 ⟨rfl, b1⟩
    replace HB := hide (HB.out.trans (b1.mono HB.out.size))
    clear b1
    go_wp2
    go_ret
    exact ⟨by rw [HF.out]; rfl, HB.out⟩
  · have hk' : (t.k == 3) = false := by simpa using hk
    have HF : Hid (V = (inB t.k 0 3 && (t.c == 0))) := hide (by rw [HV.out, if_neg hk, inB3 hk])
    clear hk
    go_enter Try.func25, Try.ntmps25
    go_wp2_with fail
    refine (inImpl _ _ _ _).mono ?_
    rintro e w1 ⟨rfl, hw1⟩
    rw [hw1]
    clear hw1 w1
    cases c : inB t.k 0 3 with
    | false =>
      go_wp2
      go_ret
      exact ⟨by rw [HF.out, c]; rfl, ((Below.refl _ _).alloc (Nat.le_refl _) _).alloc (by simp) _⟩
    | true =>
      go_wp2
      go_ret
      exact ⟨by rw [HF.out, c]; rfl, ((Below.refl _ _).alloc (Nat.le_refl _) _).alloc (by simp) _⟩
set_option maxRecDepth 100000 in
set_option maxHeartbeats 4000000 in
theorem subC (w : World) (x : Pg) (u : Value) (p q : Nat) (c k : Int) (h : Reads w w.heap.size (kins x.k) u) (hg : kinsG x.k) (hp : w.cell? ⟨p, 0, none⟩ = some u) (hq : w.cell? ⟨q, 0, none⟩ = some (.int .i64 c)) :
    Calls Try.prog 72 #[.int .i64 k, .pointer (some ⟨p, 0, none⟩), .pointer (some ⟨q, 0, none⟩)] w fun e w' => e = .returned (.bool (subX x.k c k)) ∧ Below w.heap.size w w' := by
  have HR := hide h
  have HG := hide hg
  obtain ⟨a1, c1, e1, _⟩ := h.shape
  subst e1
  clear h hg
  go_enter Try.func72, Try.ntmps72
  go_wp2_with fail
  refine (subImpl _ x _ c k HR.out HG.out).mono ?_
  rintro e w1 ⟨rfl, b1⟩
  have HB := hide b1
  clear b1
  go_wp2
  go_ret
  exact ⟨rfl, HB.out⟩
set_option maxRecDepth 100000 in
set_option maxHeartbeats 4000000 in
theorem subOfI (w : World) (x : Pg) (a1 : Option Addr) (n c1 : Nat) (c : Int) :
    Calls Try.prog 59 #[pgV x (.slice a1 n c1), .int .i64 c] w fun e w' => ∃ p q : Nat, e = .returned (.func (.func 72) #[] #[.pointer (some ⟨p, 0, none⟩), .pointer (some ⟨q, 0, none⟩)]) ∧ w'.cell? ⟨p, 0, none⟩ = some (.slice a1 n c1) ∧ w'.cell? ⟨q, 0, none⟩ = some (.int .i64 c) ∧ p < w'.heap.size ∧ q < w'.heap.size ∧ Below w.heap.size w w' := by
  unfold pgV
  go_enter Try.func59, Try.ntmps59
  go_wp2
  go_ret
  have G1 := heap_alloc_new (w.alloc (.cells #[.slice a1 n c1] 33)) (.cells #[.int .i64 c] 3)
  have G0 := (Below.heap_alloc (w.alloc (.cells #[.slice a1 n c1] 33)) (.cells #[.int .i64 c] 3) w.heap.size (by simp)).trans (heap_alloc_new w (.cells #[.slice a1 n c1] 33))
  simp only [World.size_alloc] at G1
  exact ⟨_, _, rfl, (box_of G0).1 0 _ rfl, (box_of G1).1 0 _ rfl, by simp <;> omega, by simp <;> omega, ((Below.refl _ _).alloc (Nat.le_refl _) _).alloc (by simp) _⟩
set_option maxRecDepth 100000 in
set_option maxHeartbeats 4000000 in
theorem refFitsI (w : World) (x : Pg) (u : Value) (ak ac bc : Int) (h : Reads w w.heap.size (kins x.k) u) (hg : kinsG x.k) :
    Calls Try.prog 71 #[pgV x u, .agg #[.int .i64 ak, .int .i64 ac], .int .i64 bc] w fun e w' => e = .returned (.bool (ak == 2 || (ak == 3 && subX x.k ac bc))) ∧ Below w.heap.size w w' := by
  have HR := hide h
  have HG := hide hg
  obtain ⟨a1, c1, e1, _⟩ := h.shape
  subst e1
  clear h hg
  have HV : Hid ((ak == 2 || (ak == 3 && subX x.k ac bc)) = (ak == 2 || (ak == 3 && subX x.k ac bc))) := hide rfl
  obtain ⟨V, hV⟩ : ∃ V, (ak == 2 || (ak == 3 && subX x.k ac bc)) = V := ⟨_, rfl⟩
  rw [hV]
  replace HV := hide hV.symm
  clear hV
  have bA := (((Below.refl w.heap.size w).alloc (Nat.le_refl _) (.cells #[.slice a1 x.k.length c1] 33)).alloc (by simp) (.cells #[.int .i64 ak, .int .i64 ac] 51))
  have G0 := heap_alloc_new w (.cells #[.slice a1 x.k.length c1] 33)
  have G1 := heap_alloc_new (w.alloc (.cells #[.slice a1 x.k.length c1] 33)) (.cells #[.int .i64 ak, .int .i64 ac] 51)
  simp only [World.size_alloc] at G1
  have E0 := hide ((Below.heap_alloc _ (.cells #[.int .i64 ak, .int .i64 ac] 51) _ (by simp)).trans (G0))
  have E1 := hide (G1)
  have HB := hide bA
  replace HR := hide (HR.out.at bA)
  clear bA G0 G1
  unfold pgV
  cases k3 : (ak == 2) with
  | true =>
    have HF : Hid (V = true) := hide (by rw [HV.out, k3]; rfl)
    go_enter Try.func71, Try.ntmps71
    go_wp2
    go_ret
    exact ⟨by rw [HF.out]; rfl, HB.out⟩
  | false =>
    cases k4 : (ak == 3) with
    | false =>
      have HF : Hid (V = false) := hide (by rw [HV.out, k3, k4]; rfl)
      go_enter Try.func71, Try.ntmps71
      go_wp2
      go_ret
      exact ⟨by rw [HF.out]; rfl, HB.out⟩
    | true =>
      have HF : Hid (V = subX x.k ac bc) := hide (by rw [HV.out, k3, k4]; simp)
      go_enter Try.func71, Try.ntmps71
      go_wp2_with fail
      generalize ((w.alloc (.cells #[.slice a1 x.k.length c1] 33)).alloc (.cells #[.int .i64 ak, .int .i64 ac] 51)) = W at *
      clear E0 E1
      refine (subOfI _ x a1 _ c1 ac).mono ?_
      rintro e w1 ⟨p, q, rfl, hp, hq, _, _, b1⟩
      replace HR := hide (HR.out.at b1)
      replace HB := hide (HB.out.trans (b1.mono HB.out.size))
      clear b1
      go_wp2_with fail
      refine (subC _ x _ p q ac bc HR.out HG.out hp hq).mono ?_
      rintro e w2 ⟨rfl, b2⟩
      replace HB := hide (HB.out.trans (b2.mono HB.out.size))
      clear b2
      go_wp2
      go_ret
      exact ⟨by rw [HF.out]; rfl, HB.out⟩
set_option maxRecDepth 100000 in
set_option maxHeartbeats 4000000 in
theorem fitsI (w : World) (x : Pg) (u : Value) (a b : Ty) (h : Reads w w.heap.size (kins x.k) u) (hg : kinsG x.k) :
    Calls Try.prog 57 #[pgV x u, tyV a, tyV b] w fun e w' => e = .returned (.bool (fitsB x.k a b)) ∧ Below w.heap.size w w' := by
  obtain ⟨ak, ac⟩ := a
  obtain ⟨bk, bc⟩ := b
  have HR := hide h
  have HG := hide hg
  obtain ⟨a1, c1, e1, _⟩ := h.shape
  subst e1
  clear h hg
  have HV : Hid (fitsB x.k (⟨ak, ac⟩ : Ty) (⟨bk, bc⟩ : Ty) = if tyB x.k (⟨ak, ac⟩ : Ty) = true then (if tyB x.k (⟨bk, bc⟩ : Ty) = true then fitR x.k (⟨ak, ac⟩ : Ty) (⟨bk, bc⟩ : Ty) else false) else false) := hide rfl
  have HVR : Hid (fitR x.k (⟨ak, ac⟩ : Ty) (⟨bk, bc⟩ : Ty) = (bk == 0 || ((ak == bk && ac == bc) || (bk == 3 && (ak == 2 || (ak == 3 && subX x.k ac bc)))))) := hide rfl
  generalize fitsB x.k (⟨ak, ac⟩ : Ty) (⟨bk, bc⟩ : Ty) = V at *
  have bA := ((((Below.refl w.heap.size w).alloc (Nat.le_refl _) (.cells #[.slice a1 x.k.length c1] 33)).alloc (by simp) (.cells #[.int .i64 ak, .int .i64 ac] 51)).alloc (by simp <;> omega) (.cells #[.int .i64 bk, .int .i64 bc] 51))
  have G0 := heap_alloc_new w (.cells #[.slice a1 x.k.length c1] 33)
  have G1 := heap_alloc_new (w.alloc (.cells #[.slice a1 x.k.length c1] 33)) (.cells #[.int .i64 ak, .int .i64 ac] 51)
  have G2 := heap_alloc_new ((w.alloc (.cells #[.slice a1 x.k.length c1] 33)).alloc (.cells #[.int .i64 ak, .int .i64 ac] 51)) (.cells #[.int .i64 bk, .int .i64 bc] 51)
  simp only [World.size_alloc] at G1 G2
  have E0 := hide ((Below.heap_alloc _ (.cells #[.int .i64 bk, .int .i64 bc] 51) _ (by simp <;> omega)).trans ((Below.heap_alloc _ (.cells #[.int .i64 ak, .int .i64 ac] 51) _ (by simp)).trans (G0)))
  have E1 := hide ((Below.heap_alloc _ (.cells #[.int .i64 bk, .int .i64 bc] 51) _ (by simp)).trans (G1))
  have E2 := hide (G2)
  have HB := hide bA
  replace HR := hide (HR.out.at bA)
  clear bA G0 G1 G2
  unfold pgV tyV
  go_enter Try.func57, Try.ntmps57
  go_wp2_with fail
  generalize (((w.alloc (.cells #[.slice a1 x.k.length c1] 33)).alloc (.cells #[.int .i64 ak, .int .i64 ac] 51)).alloc (.cells #[.int .i64 bk, .int .i64 bc] 51)) = W at *
  refine (typeOkI _ x _ (⟨ak, ac⟩ : Ty) HR.out HG.out.1).mono ?_
  rintro e w1 ⟨rfl, b1⟩
  replace E0 := hide ((b1.block _ (Array.getElem?_eq_some_iff.1 E0.out).1).trans E0.out)
  replace E1 := hide ((b1.block _ (Array.getElem?_eq_some_iff.1 E1.out).1).trans E1.out)
  replace E2 := hide ((b1.block _ (Array.getElem?_eq_some_iff.1 E2.out).1).trans E2.out)
  replace HR := hide (HR.out.at b1)
  replace HB := hide (HB.out.trans (b1.mono HB.out.size))
  clear b1
  cases ca : tyB x.k (⟨ak, ac⟩ : Ty) with
  | false =>
    have HF : Hid (V = false) := hide (by rw [HV.out, ca]; rfl)
    go_wp2
    go_ret
    exact ⟨by rw [HF.out]; rfl, HB.out⟩
  | true =>
    rw [ca, if_pos rfl] at HV
    have p0 := (box_of E0.out).1 0 _ rfl
    have q0 := (box_of E2.out).1 0 _ rfl
    have q1 := (box_of E2.out).1 1 _ rfl
    go_wp2_with fail
    clear p0 q0 q1
    refine (typeOkI _ x _ (⟨bk, bc⟩ : Ty) HR.out HG.out.1).mono ?_
    rintro e w2 ⟨rfl, b2⟩
    replace E0 := hide ((b2.block _ (Array.getElem?_eq_some_iff.1 E0.out).1).trans E0.out)
    replace E1 := hide ((b2.block _ (Array.getElem?_eq_some_iff.1 E1.out).1).trans E1.out)
    replace E2 := hide ((b2.block _ (Array.getElem?_eq_some_iff.1 E2.out).1).trans E2.out)
    replace HR := hide (HR.out.at b2)
    replace HB := hide (HB.out.trans (b2.mono HB.out.size))
    clear b2
    cases cb : tyB x.k (⟨bk, bc⟩ : Ty) with
    | false =>
      have HF : Hid (V = false) := hide (by rw [HV.out, cb]; rfl)
      go_wp2
      go_ret
      exact ⟨by rw [HF.out]; rfl, HB.out⟩
    | true =>
      rw [cb, if_pos rfl, HVR.out] at HV
      clear HVR ca cb
      have p0 := (box_of E0.out).1 0 _ rfl
      have r0 := (box_of E1.out).1 0 _ rfl
      have r1 := (box_of E1.out).1 1 _ rfl
      have q0 := (box_of E2.out).1 0 _ rfl
      have q1 := (box_of E2.out).1 1 _ rfl
      cases k0 : (bk == 0) with
      | true =>
        have HF : Hid (V = true) := hide (by rw [HV.out, k0]; rfl)
        go_wp2
        go_ret
        exact ⟨by rw [HF.out]; rfl, HB.out⟩
      | false =>
        rw [k0] at HV
        by_cases e1 : ak = bk
        · subst e1
          by_cases e2 : ac = bc
          · subst e2
            have HF : Hid (V = true) := hide (by rw [HV.out]; simp)
            go_wp2
            go_ret
            exact ⟨by rw [HF.out]; rfl, HB.out⟩
          · have HN : Hid ((ac == bc) = false) := hide (by simpa using e2)
            rw [HN.out] at HV
            simp only [Bool.and_false, Bool.false_or] at HV
            cases k2 : (ak == 3) with
            | false =>
              have HF : Hid (V = false) := hide (by rw [HV.out, k2]; rfl)
              go_wp2
              go_ret
              exact ⟨by rw [HF.out]; rfl, HB.out⟩
            | true =>
              have HF : Hid (V = (ak == 2 || (ak == 3 && subX x.k ac bc))) := hide (by rw [HV.out, k2]; simp)
              go_wp2_with fail
              refine (refFitsI _ x _ ak ac bc HR.out HG.out).mono ?_
              rintro e w3 ⟨rfl, b3⟩
              replace HB := hide (HB.out.trans (b3.mono HB.out.size))
              clear b3
              generalize (ak == 2 || (ak == 3 && subX x.k ac bc)) = R9 at *
              go_wp2
              go_ret
              exact ⟨by rw [HF.out]; rfl, HB.out⟩
        · have HN : Hid ((ak == bk) = false) := hide (by simpa using e1)
          rw [HN.out] at HV
          simp only [Bool.false_and, Bool.false_or] at HV
          cases k2 : (bk == 3) with
          | false =>
            have HF : Hid (V = false) := hide (by rw [HV.out, k2]; rfl)
            go_wp2
            go_ret
            exact ⟨by rw [HF.out]; rfl, HB.out⟩
          | true =>
            have HF : Hid (V = (ak == 2 || (ak == 3 && subX x.k ac bc))) := hide (by rw [HV.out, k2]; simp)
            go_wp2_with fail
            refine (refFitsI _ x _ ak ac bc HR.out HG.out).mono ?_
            rintro e w3 ⟨rfl, b3⟩
            replace HB := hide (HB.out.trans (b3.mono HB.out.size))
            clear b3
            generalize (ak == 2 || (ak == 3 && subX x.k ac bc)) = R9 at *
            go_wp2
            go_ret
            exact ⟨by rw [HF.out]; rfl, HB.out⟩
set_option maxRecDepth 100000 in
set_option maxHeartbeats 4000000 in
theorem nearestI (w : World) (x : Pg) (u : Value) (p q : Nat) (c k : Int) (h : Reads w w.heap.size (kins x.k) u) (hg : kinsG x.k) (hp : w.cell? ⟨p, 0, none⟩ = some u) (hq : w.cell? ⟨q, 0, none⟩ = some (.int .i64 c)) (hpl : p < w.heap.size) (hql : q < w.heap.size) :
    Calls Try.prog 58 #[pgV x u, .int .i64 k, .func (.func 72) #[] #[.pointer (some ⟨p, 0, none⟩), .pointer (some ⟨q, 0, none⟩)]] w fun e w' => e = .returned (tyV (joinL x.k c 7 k)) ∧ Below w.heap.size w w' := by
  have HR := hide h
  have HK : Hid (∀ wr, Below w.heap.size w wr → _) := hide (fun wr hb => kind_at (h.at hb))
  have HG := hide hg
  have hm := hg.1
  have HPQ : Hid (∀ wr, Below w.heap.size w wr → wr.cell? ⟨p, 0, none⟩ = some u ∧ wr.cell? ⟨q, 0, none⟩ = some (.int .i64 c)) := hide (fun wr hb => ⟨(hb.cell (p := ⟨p, 0, none⟩) hpl).trans hp, (hb.cell (p := ⟨q, 0, none⟩) hql).trans hq⟩)
  obtain ⟨a1, c1, e1, _⟩ := h.shape
  subst e1
  clear h hg hp hq hpl hql
  have HF : Hid (joinL x.k c 7 k = joinL x.k c 7 k) := hide rfl
  obtain ⟨V, hV⟩ : ∃ V, joinL x.k c 7 k = V := ⟨_, rfl⟩
  rw [hV]
  replace HF := hide hV.symm
  clear hV
  have HLS : Hid (∀ n k, joinL x.k c (n + 1) k = if inB k 0 ((x.k.length : Int) - 1) then (if subX x.k c k = true then ⟨3, k⟩ else joinL x.k c n (x.k.getD k.toNat default).s) else ⟨0, 0⟩) := hide (fun _ _ => rfl)
  have HLZ : Hid (∀ k, joinL x.k c 0 k = ⟨0, 0⟩) := hide (fun _ => rfl)
  have bA := (((Below.refl w.heap.size w).alloc (Nat.le_refl _) (.cells #[.slice a1 x.k.length c1] 33)).alloc (by simp) (.cells #[.int .i64 0, .int .i64 0] 51))
  have G0 := heap_alloc_new w (.cells #[.slice a1 x.k.length c1] 33)
  have G1 := heap_alloc_new (w.alloc (.cells #[.slice a1 x.k.length c1] 33)) (.cells #[.int .i64 0, .int .i64 0] 51)
  simp only [World.size_alloc] at G1
  have E0 := hide ((Below.heap_alloc _ (.cells #[.int .i64 0, .int .i64 0] 51) _ (by simp)).trans (G0))
  have E1 := hide (G1)
  have HB := hide bA
  clear bA G0 G1
  unfold pgV tyV
  generalize hn : x.k.length = n at *
  go_enter Try.func58, Try.ntmps58
  go_wp2
  generalize ((w.alloc (.cells #[.slice a1 n c1] 33)).alloc (.cells #[.int .i64 0, .int .i64 0] 51)) = W at *
  have HVW : Hid (Below W.heap.size W W) := hide (Below.refl _ _)
  go_loopw [1, 7] (fun q i wr => ∃ (t : Nat) (k : Int), t ≤ 7 ∧ q = .int .i64 k ∧ i = .int .i64 (t : Int) ∧ Hid (V = joinL x.k c (7 - t) k) ∧ Hid (Below W.heap.size W wr)) (fun _ i _ => 7 - (intOf i).toNat)
  case atStart => exact ⟨0, k, by omega, rfl, rfl, HF, HVW⟩
  case round =>
    clear HF HVW
    obtain ⟨t, k2, ht, rfl, rfl, HF, HW⟩ := hrel
    have HB2 := hide (HB.out.trans (HW.out.mono HB.out.size))
    have F0 := hide ((HW.out.block _ (Array.getElem?_eq_some_iff.1 E0.out).1).trans E0.out)
    have F1 := hide ((HW.out.block _ (Array.getElem?_eq_some_iff.1 E1.out).1).trans E1.out)
    by_cases hlt : t < 7
    · have hle : (t : Int) ≤ 6 := by omega
      have p0 := (box_of F0.out).1 0 _ rfl
      go_wp2_with fail
      clear p0
      refine (hasImpl _ x _ n c1 k2 hm).mono ?_
      rintro e w2 ⟨rfl, b2⟩
      replace F0 := hide ((b2.block _ (Array.getElem?_eq_some_iff.1 F0.out).1).trans F0.out)
      replace F1 := hide ((b2.block _ (Array.getElem?_eq_some_iff.1 F1.out).1).trans F1.out)
      replace HW := hide (HW.out.trans (b2.mono HW.out.size))
      replace HB2 := hide (HB2.out.trans (b2.mono HB2.out.size))
      clear b2
      have HU : Hid (V = if inB k2 0 ((n : Int) - 1) then (if subX x.k c k2 = true then ⟨3, k2⟩ else joinL x.k c (7 - (t + 1)) (x.k.getD k2.toNat default).s) else ⟨0, 0⟩) := hide (by rw [HF.out, show 7 - t = (7 - (t + 1)) + 1 by omega, HLS.out])
      clear HF
      cases ci : inB k2 0 ((n : Int) - 1) with
      | false =>
        have HZ : Hid (V = ⟨0, 0⟩) := hide (by rw [HU.out, if_neg (by rw [ci]; simp)])
        have X3 := box_of F1.out
        have s0 := X3.1 0 _ rfl
        have s1 := X3.1 1 _ rfl
        have sz := X3.2
        clear X3
        go_wp2
        refine bodyPost_ret (v := .agg #[.int .i64 0, .int .i64 0]) (results_one Try.results58 _ _ _ rfl (loadTy (putN2 F1.out _ _))) rfl ⟨by rw [HZ.out] <;> rfl, ?_⟩
        exact (HB2.out.setCell (by simp <;> omega) _).setCell (by simp <;> omega) _
      | true =>
        obtain ⟨h0, h1⟩ := inB_yes ci
        obtain ⟨j, rfl⟩ : ∃ j : Nat, k2 = (j : Int) := ⟨k2.toNat, by omega⟩
        have hj : j < n := by omega
        rw [show ((j : Int)).toNat = j from rfl, if_pos ci] at HU
        go_wp2_with fail
        refine (subC _ x _ p q c (j : Int) (HR.out.at HB2.out) HG.out (HPQ.out _ HB2.out).1 (HPQ.out _ HB2.out).2).mono ?_
        rintro e w3 ⟨rfl, b3⟩
        replace F0 := hide ((b3.block _ (Array.getElem?_eq_some_iff.1 F0.out).1).trans F0.out)
        replace F1 := hide ((b3.block _ (Array.getElem?_eq_some_iff.1 F1.out).1).trans F1.out)
        replace HW := hide (HW.out.trans (b3.mono HW.out.size))
        replace HB2 := hide (HB2.out.trans (b3.mono HB2.out.size))
        clear b3
        cases cs : subX x.k c (j : Int) with
        | true =>
          have HZ : Hid (V = ⟨3, (j : Int)⟩) := hide (by rw [HU.out, if_pos cs])
          have X3 := box_of F1.out
          have s0 := X3.1 0 _ rfl
          have s1 := X3.1 1 _ rfl
          have sz := X3.2
          clear X3
          go_wp2
          refine bodyPost_ret (v := .agg #[.int .i64 3, .int .i64 (j : Int)]) (results_one Try.results58 _ _ _ rfl (loadTy (putN2 F1.out _ _))) rfl ⟨by rw [HZ.out] <;> rfl, ?_⟩
          exact (HB2.out.setCell (by simp <;> omega) _).setCell (by simp <;> omega) _
        | false =>
          have HZ : Hid (V = joinL x.k c (7 - (t + 1)) (x.k.getD j default).s) := hide (by rw [HU.out, if_neg (by rw [cs]; simp)])
          clear HU
          obtain ⟨a', cap', ea, _, _, hc⟩ := HK.out _ HB2.out
          cases ea
          obtain ⟨bb', bo', rfl, _, hcell⟩ := hc (by omega)
          obtain ⟨pv1, pv2, pv3, y0, y1, y2, y3, y4, z1, z2, z3⟩ := hcell j (by omega)
          clear hcell hc z1 z2 z3
          obtain ⟨y9, hy⟩ : ∃ y, x.k.getD j default = y := ⟨_, rfl⟩
          rw [hy] at y0 y1 HZ
          clear hy
          have p0 := (box_of F0.out).1 0 _ rfl
          go_wp2
          exact ⟨⟨t + 1, y9.s, by omega, rfl, by go_num, HZ, HW⟩, by simp [intOf]; omega⟩
    · obtain rfl : t = 7 := by omega
      have HZ : Hid (V = ⟨0, 0⟩) := hide (by rw [HF.out]; exact HLZ.out _)
      have hlt' : ¬ (((7 : Nat) : Int) ≤ 6) := by omega
      have X3 := box_of F1.out
      have s0 := X3.1 0 _ rfl
      have s1 := X3.1 1 _ rfl
      have sz := X3.2
      clear X3
      go_wp2
      refine bodyPost_ret (v := .agg #[.int .i64 0, .int .i64 0]) (results_one Try.results58 _ _ _ rfl (loadTy (putN2 F1.out _ _))) rfl ⟨by rw [HZ.out] <;> rfl, ?_⟩
      exact (HB2.out.setCell (by simp <;> omega) _).setCell (by simp <;> omega) _
set_option maxRecDepth 100000 in
set_option maxHeartbeats 4000000 in
theorem joinI (w : World) (x : Pg) (u : Value) (a b : Ty) (h : Reads w w.heap.size (kins x.k) u) (hg : kinsG x.k) :
    Calls Try.prog 43 #[pgV x u, tyV a, tyV b] w fun e w' => e = .returned (tyV (joinX x.k a b)) ∧ Below w.heap.size w w' := by
  have HR := hide h
  have HG := hide hg
  obtain ⟨a1, c1, e1, _⟩ := h.shape
  subst e1
  clear h hg
  have HV1 : Hid (fitsB x.k a b = true → joinX x.k a b = b) := hide (fun h => by unfold joinX; rw [if_pos h])
  have HV2 : Hid (fitsB x.k a b = false → fitsB x.k b a = true → joinX x.k a b = a) := hide (fun h h2 => by unfold joinX; rw [if_neg (by rw [h]; simp), if_pos h2])
  have HV3 : Hid (fitsB x.k a b = false → fitsB x.k b a = false → a.k = 3 → b.k = 3 → joinX x.k a b = joinL x.k b.c 7 a.c) := hide joinX_near
  have HV4 : Hid (fitsB x.k a b = false → fitsB x.k b a = false → ¬ (a.k = 3 ∧ b.k = 3) → joinX x.k a b = ⟨0, 0⟩) := hide joinX_else
  generalize joinX x.k a b = V at *
  have bA := (((((Below.refl w.heap.size w).alloc (Nat.le_refl _) (.cells #[.slice a1 x.k.length c1] 33)).alloc (by simp) (.cells #[.int .i64 a.k, .int .i64 a.c] 51)).alloc (by simp <;> omega) (.cells #[.int .i64 b.k, .int .i64 b.c] 51)).alloc (by simp <;> omega) (.cells #[.int .i64 0, .int .i64 0] 51))
  have G0 := heap_alloc_new w (.cells #[.slice a1 x.k.length c1] 33)
  have G1 := heap_alloc_new (w.alloc (.cells #[.slice a1 x.k.length c1] 33)) (.cells #[.int .i64 a.k, .int .i64 a.c] 51)
  have G2 := heap_alloc_new ((w.alloc (.cells #[.slice a1 x.k.length c1] 33)).alloc (.cells #[.int .i64 a.k, .int .i64 a.c] 51)) (.cells #[.int .i64 b.k, .int .i64 b.c] 51)
  have G3 := heap_alloc_new (((w.alloc (.cells #[.slice a1 x.k.length c1] 33)).alloc (.cells #[.int .i64 a.k, .int .i64 a.c] 51)).alloc (.cells #[.int .i64 b.k, .int .i64 b.c] 51)) (.cells #[.int .i64 0, .int .i64 0] 51)
  simp only [World.size_alloc] at G1 G2 G3
  have E0 := hide ((Below.heap_alloc _ (.cells #[.int .i64 0, .int .i64 0] 51) _ (by simp <;> omega)).trans ((Below.heap_alloc _ (.cells #[.int .i64 b.k, .int .i64 b.c] 51) _ (by simp <;> omega)).trans ((Below.heap_alloc _ (.cells #[.int .i64 a.k, .int .i64 a.c] 51) _ (by simp)).trans (G0))))
  have E1 := hide ((Below.heap_alloc _ (.cells #[.int .i64 0, .int .i64 0] 51) _ (by simp <;> omega)).trans ((Below.heap_alloc _ (.cells #[.int .i64 b.k, .int .i64 b.c] 51) _ (by simp)).trans (G1)))
  have E2 := hide ((Below.heap_alloc _ (.cells #[.int .i64 0, .int .i64 0] 51) _ (by simp)).trans (G2))
  have E3 := hide (G3)
  have HB := hide bA
  replace HR := hide (HR.out.at bA)
  clear bA G0 G1 G2 G3
  unfold pgV
  unfold tyV
  go_enter Try.func43, Try.ntmps43
  go_wp2_with fail
  generalize ((((w.alloc (.cells #[.slice a1 x.k.length c1] 33)).alloc (.cells #[.int .i64 a.k, .int .i64 a.c] 51)).alloc (.cells #[.int .i64 b.k, .int .i64 b.c] 51)).alloc (.cells #[.int .i64 0, .int .i64 0] 51)) = W at *
  refine (fitsI _ x _ a b HR.out HG.out).mono ?_
  rintro e w1 ⟨rfl, b1⟩
  replace E0 := hide ((b1.block _ (Array.getElem?_eq_some_iff.1 E0.out).1).trans E0.out)
  replace E1 := hide ((b1.block _ (Array.getElem?_eq_some_iff.1 E1.out).1).trans E1.out)
  replace E2 := hide ((b1.block _ (Array.getElem?_eq_some_iff.1 E2.out).1).trans E2.out)
  replace E3 := hide ((b1.block _ (Array.getElem?_eq_some_iff.1 E3.out).1).trans E3.out)
  replace HR := hide (HR.out.at b1)
  replace HB := hide (HB.out.trans (b1.mono HB.out.size))
  clear b1
  cases ca : fitsB x.k a b with
  | true =>
    have HF : Hid (V = b) := hide (HV1.out ca)
    have q0 := (box_of E2.out).1 0 _ rfl
    have q1 := (box_of E2.out).1 1 _ rfl
    have X3 := box_of E3.out
    have s0 := X3.1 0 _ rfl
    have s1 := X3.1 1 _ rfl
    have sz := X3.2
    clear X3
    go_wp2
    refine bodyPost_ret (v := .agg #[.int .i64 b.k, .int .i64 b.c]) (results_one Try.results43 _ _ _ rfl (loadTy (putN2 E3.out _ _))) rfl ⟨by rw [HF.out] <;> rfl, ?_⟩
    exact (HB.out.setCell (by simp <;> omega) _).setCell (by simp <;> omega) _
  | false =>
    have HC := hide ca
    clear ca
    have p0 := (box_of E0.out).1 0 _ rfl
    have r0 := (box_of E1.out).1 0 _ rfl
    have r1 := (box_of E1.out).1 1 _ rfl
    have q0 := (box_of E2.out).1 0 _ rfl
    have q1 := (box_of E2.out).1 1 _ rfl
    go_wp2_with fail
    clear p0 r0 r1 q0 q1
    refine (fitsI _ x _ b a HR.out HG.out).mono ?_
    rintro e w2 ⟨rfl, b2⟩
    replace E0 := hide ((b2.block _ (Array.getElem?_eq_some_iff.1 E0.out).1).trans E0.out)
    replace E1 := hide ((b2.block _ (Array.getElem?_eq_some_iff.1 E1.out).1).trans E1.out)
    replace E2 := hide ((b2.block _ (Array.getElem?_eq_some_iff.1 E2.out).1).trans E2.out)
    replace E3 := hide ((b2.block _ (Array.getElem?_eq_some_iff.1 E3.out).1).trans E3.out)
    replace HR := hide (HR.out.at b2)
    replace HB := hide (HB.out.trans (b2.mono HB.out.size))
    clear b2
    cases ca : fitsB x.k b a with
    | true =>
      have HF : Hid (V = a) := hide (HV2.out HC.out ca)
      have q0 := (box_of E1.out).1 0 _ rfl
      have q1 := (box_of E1.out).1 1 _ rfl
      have X3 := box_of E3.out
      have s0 := X3.1 0 _ rfl
      have s1 := X3.1 1 _ rfl
      have sz := X3.2
      clear X3
      go_wp2
      refine bodyPost_ret (v := .agg #[.int .i64 a.k, .int .i64 a.c]) (results_one Try.results43 _ _ _ rfl (loadTy (putN2 E3.out _ _))) rfl ⟨by rw [HF.out] <;> rfl, ?_⟩
      exact (HB.out.setCell (by simp <;> omega) _).setCell (by simp <;> omega) _
    | false =>
      have HC2 := hide ca
      clear ca
      have r0 := (box_of E1.out).1 0 _ rfl
      have r1 := (box_of E1.out).1 1 _ rfl
      have q0 := (box_of E2.out).1 0 _ rfl
      have q1 := (box_of E2.out).1 1 _ rfl
      by_cases ka : a.k = 3
      · have ka' : (a.k == 3) = true := by rw [ka]; rfl
        by_cases kb : b.k = 3
        · have kb' : (b.k == 3) = true := by rw [kb]; rfl
          have HF : Hid (V = joinL x.k b.c 7 a.c) := hide (HV3.out HC.out HC2.out ka kb)
          clear ka kb HV1 HV2 HV3 HV4 HC HC2
          have HCL : Hid (∀ w', Below w2.heap.size w2 w' → w'.cell? ⟨w.heap.size, 0, none⟩ = some (.slice a1 x.k.length c1) ∧ w'.cell? ⟨w.heap.size + 1, 1, none⟩ = some (.int .i64 a.c) ∧ w'.cell? ⟨w.heap.size + 1 + 1, 1, none⟩ = some (.int .i64 b.c)) := hide (fun w' hb => ⟨(box_of ((hb.block _ (Array.getElem?_eq_some_iff.1 E0.out).1).trans E0.out)).1 0 _ rfl, (box_of ((hb.block _ (Array.getElem?_eq_some_iff.1 E1.out).1).trans E1.out)).1 1 _ rfl, (box_of ((hb.block _ (Array.getElem?_eq_some_iff.1 E2.out).1).trans E2.out)).1 1 _ rfl⟩)
          have HD := hide (Below.refl w2.heap.size w2).drew
          have hi9 : ((Try.prog.info? 51).map (·.size)) = some 2 := by kernel_rfl
          go_upto_region 6 with fail
          refine wp_region_held_drew (S := fun w' => w'.cell? ⟨w.heap.size, 0, none⟩ = some (.slice a1 x.k.length c1) ∧ w'.cell? ⟨w.heap.size + 1, 1, none⟩ = some (.int .i64 a.c) ∧ w'.cell? ⟨w.heap.size + 1 + 1, 1, none⟩ = some (.int .i64 b.c)) (by kernel_rfl) (HCL.out _ HD.out) (fun hHeld => ?_)
          have HW := HD
          clear HD
          generalize w2.drew = Z0 at *
          refine wpAnyH_take (i := 0) (v := ?_) rfl (by kernel_rfl) (by kernel_rfl) (by kernel_rfl) (fun _ _ _ h => h) (Or.inl ⟨by rfl, ?_⟩) (by assumption) ?_
          rotate_left
          · intro w' hSw
            try dsimp only at hSw
            go_simp; try rfl
          simp only [List.getElem_toArray, List.getElem_cons_zero, Act.put, List.setIfInBounds_toArray, List.set_cons_zero, List.set_cons_succ]
          refine wpAnyH_take (i := 1) (v := ?_) rfl (by kernel_rfl) (by kernel_rfl) (by kernel_rfl) (fun _ _ _ h => h) (Or.inl ⟨by rfl, ?_⟩) (by assumption) ?_
          rotate_left
          · intro w' hSw
            try dsimp only at hSw
            go_simp; try rfl
          simp only [List.getElem_toArray, List.getElem_cons_succ, List.getElem_cons_zero, Act.put, List.setIfInBounds_toArray, List.set_cons_zero, List.set_cons_succ]
          refine wpAnyH_take (i := 2) (v := ?_) rfl (by kernel_rfl) (by kernel_rfl) (by kernel_rfl) (fun _ _ _ h => h) (Or.inl ⟨by rfl, ?_⟩) (by assumption) ?_
          rotate_left
          · intro w' hSw
            try dsimp only at hSw
            go_simp; try rfl
          simp only [List.getElem_toArray, List.getElem_cons_succ, List.getElem_cons_zero, Act.put, List.setIfInBounds_toArray, List.set_cons_zero, List.set_cons_succ]
          refine wpAnyH_take (i := 3) (v := ?_) rfl (by kernel_rfl) (by kernel_rfl) (by kernel_rfl) (fun _ _ _ h => h) (Or.inl ⟨by rfl, ?_⟩) (by assumption) ?_
          rotate_left
          · intro w' hSw
            try dsimp only at hSw
            go_simp; try rfl
          simp only [List.getElem_toArray, List.getElem_cons_succ, List.getElem_cons_zero, Act.put, List.setIfInBounds_toArray, List.set_cons_zero, List.set_cons_succ]
          refine wpAnyH_take (i := 4) (v := ?_) rfl (by kernel_rfl) (by kernel_rfl) (by kernel_rfl) (fun _ _ _ h => h) (Or.inl ⟨by rfl, ?_⟩) (by assumption) ?_
          rotate_left
          · intro w' hSw
            try dsimp only at hSw
            go_simp; try rfl
          simp only [List.getElem_toArray, List.getElem_cons_succ, List.getElem_cons_zero, Act.put, List.setIfInBounds_toArray, List.set_cons_zero, List.set_cons_succ]
          refine wpAnyH_take (i := 5) (v := ?_) rfl (by kernel_rfl) (by kernel_rfl) (by kernel_rfl) (fun _ _ _ h => h) (Or.inl ⟨by rfl, ?_⟩) (by assumption) ?_
          rotate_left
          · intro w' hSw
            try dsimp only at hSw
            go_simp; try rfl
          simp only [List.getElem_toArray, List.getElem_cons_succ, List.getElem_cons_zero, Act.put, List.setIfInBounds_toArray, List.set_cons_zero, List.set_cons_succ]
          refine wpAnyH_ready (rs := [6]) (by kernel_rfl) (by simp) (AllReadyH.cons rfl (fun K hK => ?_) AllReadyH.nil)
          refine step_callW (some 34) rfl (by kernel_rfl) 59 _ _ rfl #[.agg #[.slice a1 x.k.length c1], .int .i64 b.c] (by kernel_rfl) (subOfI _ x a1 _ c1 b.c) ?_
          rintro e Z1 ⟨p, q, rfl, hp, hq, hpl, hql, b9⟩
          replace HW := hide (HW.out.trans (b9.mono HW.out.size))
          clear b9
          refine ⟨_, rfl, ?_⟩
          refine hK.out _ _ (HCL.out _ HW.out) (fun hHeld => ?_)
          clear hK K
          simp only [Act.put, List.setIfInBounds_toArray, List.set_cons_zero, List.set_cons_succ]
          refine wpAnyH_ready (rs := [7]) (by kernel_rfl) (by simp) (AllReadyH.cons rfl (fun K hK => ?_) AllReadyH.nil)
          refine step_callW (some 35) rfl (by kernel_rfl) 58 _ _ rfl #[.agg #[.slice a1 x.k.length c1], .int .i64 a.c, .func (.func 72) #[] #[.pointer (some ⟨p, 0, none⟩), .pointer (some ⟨q, 0, none⟩)]] (by kernel_rfl) (nearestI _ x _ p q b.c a.c (HR.out.at HW.out) HG.out hp hq hpl hql) ?_
          rintro e Z2 ⟨rfl, b9⟩
          replace HW := hide (HW.out.trans (b9.mono HW.out.size))
          clear b9 hp hq hpl hql
          refine ⟨_, rfl, ?_⟩
          refine hK.out _ _ (HCL.out _ HW.out) (fun hHeld => ?_)
          clear hK K
          simp only [Act.put, List.setIfInBounds_toArray, List.set_cons_zero, List.set_cons_succ]
          refine wpAnyH_ready (rs := [8]) (by kernel_rfl) (by simp) (AllReadyH.cons rfl (fun K hK => ?_) AllReadyH.nil)
          have GA := hide ((HW.out.block _ (Array.getElem?_eq_some_iff.1 E3.out).1).trans E3.out)
          unfold tyV
          generalize joinL x.k b.c 7 a.c = J at *
          refine step_storeX (by kernel_rfl) (by kernel_rfl) 51 _ _ rfl (w.heap.size + 1 + 1 + 1) #[.int .i64 J.k, .int .i64 J.c] (by kernel_rfl) (by kernel_rfl) _ _ GA.out hi9 (by rfl) (by simp [Value.oneCell']) ?_
          have HX := hide (HB.out.trans (HW.out.mono HB.out.size))
          have HM := hide (below_setRow (g := w.heap.size + 1 + 1 + 1) HX.out (by omega) #[.int .i64 J.k, .int .i64 J.c])
          have GB := hide (setRow_heap Z2 (w.heap.size + 1 + 1 + 1) _ #[.int .i64 J.k, .int .i64 J.c] _ _ GA.out)
          have HH : Hid ((Z2.setRow (w.heap.size + 1 + 1 + 1) #[.int .i64 J.k, .int .i64 J.c]).cell? ⟨w.heap.size, 0, none⟩ = some (.slice a1 x.k.length c1) ∧ (Z2.setRow (w.heap.size + 1 + 1 + 1) #[.int .i64 J.k, .int .i64 J.c]).cell? ⟨w.heap.size + 1, 1, none⟩ = some (.int .i64 a.c) ∧ (Z2.setRow (w.heap.size + 1 + 1 + 1) #[.int .i64 J.k, .int .i64 J.c]).cell? ⟨w.heap.size + 1 + 1, 1, none⟩ = some (.int .i64 b.c)) := hide ⟨(cell_setRow_other _ _ _ _ (by simp <;> omega)).trans (HCL.out _ HW.out).1, (cell_setRow_other _ _ _ _ (by simp <;> omega)).trans (HCL.out _ HW.out).2.1, (cell_setRow_other _ _ _ _ (by simp <;> omega)).trans (HCL.out _ HW.out).2.2⟩
          refine hK.out _ _ HH.out (fun hHeld => ?_)
          clear hK K HH
          try simp only [Act.put, List.setIfInBounds_toArray, List.set_cons_zero, List.set_cons_succ]
          refine wpAnyH_done (by kernel_rfl) ?_ _
          go_wp2_with fail
          exact bodyPost_ret (v := .agg #[.int .i64 J.k, .int .i64 J.c]) (results_one Try.results43 _ _ _ rfl (loadTy GB.out)) rfl ⟨by rw [HF.out], HM.out⟩
        · have kb' : (b.k == 3) = false := by simpa using kb
          have HF : Hid (V = ⟨0, 0⟩) := hide (HV4.out HC.out HC2.out (fun h => kb h.2))
          have X3 := box_of E3.out
          have s0 := X3.1 0 _ rfl
          have s1 := X3.1 1 _ rfl
          have sz := X3.2
          clear X3
          go_wp2
          refine bodyPost_ret (v := .agg #[.int .i64 0, .int .i64 0]) (results_one Try.results43 _ _ _ rfl (loadTy (putN2 E3.out _ _))) rfl ⟨by rw [HF.out] <;> rfl, ?_⟩
          exact (HB.out.setCell (by simp <;> omega) _).setCell (by simp <;> omega) _
      · have ka' : (a.k == 3) = false := by simpa using ka
        have HF : Hid (V = ⟨0, 0⟩) := hide (HV4.out HC.out HC2.out (fun h => ka h.1))
        have X3 := box_of E3.out
        have s0 := X3.1 0 _ rfl
        have s1 := X3.1 1 _ rfl
        have sz := X3.2
        clear X3
        go_wp2
        refine bodyPost_ret (v := .agg #[.int .i64 0, .int .i64 0]) (results_one Try.results43 _ _ _ rfl (loadTy (putN2 E3.out _ _))) rfl ⟨by rw [HF.out] <;> rfl, ?_⟩
        exact (HB.out.setCell (by simp <;> omega) _).setCell (by simp <;> omega) _
end Go.Proofs.Ytobomcfiincpoaa
