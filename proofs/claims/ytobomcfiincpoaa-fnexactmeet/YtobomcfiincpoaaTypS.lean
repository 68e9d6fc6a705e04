/-
  TypeOk, TypeOf, Fits and Join in the model.
-/
import Derived.Test.YtobomcfiincpoaaTypM
import Derived.Test.YtobomcfiincpoaaTypTo
import Derived.Laws.StructEq
namespace Go.Proofs.Ytobomcfiincpoaa
open Go.RowKit

set_option maxRecDepth 100000 in
set_option maxHeartbeats 4000000 in
theorem typeOkS (w : World) (x : Pg) (u : Value) (t : Ty) (h : Reads w w.heap.size (kins x.k) u) (hm : x.k.length ≤ 1048576) :
    Calls Try.prog 20 #[pgV x u, tyV t] w fun e w' => e = .returned (.bool (tyB x.k t)) ∧ Below w.heap.size w w' := by
  obtain ⟨a1, c1, e1, _⟩ := h.shape
  subst e1
  clear h
  have HV : Hid (tyB x.k t = if t.k = 3 then inB t.c 0 ((x.k.length : Int) - 1) else inB t.k 0 2 && (t.c == 0)) := hide rfl
  generalize tyB x.k t = V at *
  generalize x.k.length = n at *
  have hw : IntKind.i64.wrap ((n : Int) - 1) = (n : Int) - 1 := by rw [IntKind.wrap_i64]; omega
  unfold pgV tyV
  by_cases hk : t.k = 3
  · have hk' : (t.k == 3) = true := by rw [hk]; rfl
    have HF : Hid (V = inB t.c 0 ((n : Int) - 1)) := hide (by rw [HV.out, if_pos hk])
    clear hk
    go_enter Try.func20, Try.ntmps20
    go_wp2_with fail
    refine (inSpec _ _ _ _).mono ?_
    rintro e w1 ⟨rfl, hw1⟩
    rw [hw1]
    clear hw1 w1
    go_wp2
    go_ret
    exact ⟨by rw [HF.out]; rfl, ((Below.refl _ _).alloc (Nat.le_refl _) _).alloc (by simp) _⟩
  · have hk' : (t.k == 3) = false := by simpa using hk
    have HF : Hid (V = (inB t.k 0 2 && (t.c == 0))) := hide (by rw [HV.out, if_neg hk])
    clear hk
    go_enter Try.func20, Try.ntmps20
    go_wp2_with fail
    refine (inSpec _ _ _ _).mono ?_
    rintro e w1 ⟨rfl, hw1⟩
    rw [hw1]
    clear hw1 w1
    cases c : inB t.k 0 2 with
    | false =>
      go_wp2
      go_ret
      exact ⟨by rw [HF.out, c]; rfl, ((Below.refl _ _).alloc (Nat.le_refl _) _).alloc (by simp) _⟩
    | true =>
      go_wp2
      go_ret
      exact ⟨by rw [HF.out, c]; rfl, ((Below.refl _ _).alloc (Nat.le_refl _) _).alloc (by simp) _⟩
set_option maxRecDepth 100000 in
set_option maxHeartbeats 4000000 in
theorem fitsS (w : World) (x : Pg) (u : Value) (a b : Ty) (h : Reads w w.heap.size (kins x.k) u) (hg : kinsG x.k) :
    Calls Try.prog 41 #[pgV x u, tyV a, tyV b] w fun e w' => e = .returned (.bool (fitsB x.k a b)) ∧ Below w.heap.size w w' := by
  obtain ⟨ak, ac⟩ := a
  obtain ⟨bk, bc⟩ := b
  have HR := hide h
  have HG := hide hg
  obtain ⟨a1, c1, e1, _⟩ := h.shape
  subst e1
  clear h hg
  have HV : Hid (fitsB x.k (⟨ak, ac⟩ : Ty) (⟨bk, bc⟩ : Ty) = if tyB x.k (⟨ak, ac⟩ : Ty) = true then (if tyB x.k (⟨bk, bc⟩ : Ty) = true then fitR x.k (⟨ak, ac⟩ : Ty) (⟨bk, bc⟩ : Ty) else false) else false) := hide rfl
  have HVR : Hid (fitR x.k (⟨ak, ac⟩ : Ty) (⟨bk, bc⟩ : Ty) = (bk == 0 || ((ak == bk && ac == bc) || (bk == 3 && (ak == 2 || (ak == 3 && subX x.k ac bc)))))) := hide rfl
  generalize fitsB x.k (⟨ak, ac⟩ : Ty) (⟨bk, bc⟩ : Ty) = V at *
  have bA := ((((Below.refl w.heap.size w).alloc (Nat.le_refl _) (.cells #[.slice a1 x.k.length c1] 33)).alloc (by simp) (.cells #[.int .i64 ak, .int .i64 ac] 51)).alloc (by simp <;> omega) (.cells #[.int .i64 bk, .int .i64 bc] 51))
  have G0 := heap_alloc_new w (.cells #[.slice a1 x.k.length c1] 33)
  have G1 := heap_alloc_new (w.alloc (.cells #[.slice a1 x.k.length c1] 33)) (.cells #[.int .i64 ak, .int .i64 ac] 51)
  have G2 := heap_alloc_new ((w.alloc (.cells #[.slice a1 x.k.length c1] 33)).alloc (.cells #[.int .i64 ak, .int .i64 ac] 51)) (.cells #[.int .i64 bk, .int .i64 bc] 51)
  simp only [World.size_alloc] at G1 G2
  have E0 := hide ((Below.heap_alloc _ (.cells #[.int .i64 bk, .int .i64 bc] 51) _ (by simp <;> omega)).trans ((Below.heap_alloc _ (.cells #[.int .i64 ak, .int .i64 ac] 51) _ (by simp)).trans (G0)))
  have E1 := hide ((Below.heap_alloc _ (.cells #[.int .i64 bk, .int .i64 bc] 51) _ (by simp)).trans (G1))
  have E2 := hide (G2)
  have HB := hide bA
  replace HR := hide (HR.out.at bA)
  clear bA G0 G1 G2
  unfold pgV tyV
  go_enter Try.func41, Try.ntmps41
  go_wp2_with fail
  generalize (((w.alloc (.cells #[.slice a1 x.k.length c1] 33)).alloc (.cells #[.int .i64 ak, .int .i64 ac] 51)).alloc (.cells #[.int .i64 bk, .int .i64 bc] 51)) = W at *
  refine (typeOkS _ x _ (⟨ak, ac⟩ : Ty) HR.out HG.out.1).mono ?_
  rintro e w1 ⟨rfl, b1⟩
  replace E0 := hide ((b1.block _ (Array.getElem?_eq_some_iff.1 E0.out).1).trans E0.out)
  replace E1 := hide ((b1.block _ (Array.getElem?_eq_some_iff.1 E1.out).1).trans E1.out)
  replace E2 := hide ((b1.block _ (Array.getElem?_eq_some_iff.1 E2.out).1).trans E2.out)
  replace HR := hide (HR.out.at b1)
  replace HB := hide (HB.out.trans (b1.mono HB.out.size))
  clear b1
  cases ca : tyB x.k (⟨ak, ac⟩ : Ty) with
  | false =>
    have HF : Hid (V = false) := hide (by rw [HV.out, ca]; rfl)
    go_wp2
    go_ret
    exact ⟨by rw [HF.out]; rfl, HB.out⟩
  | true =>
    rw [ca, if_pos rfl] at HV
    have p0 := (box_of E0.out).1 0 _ rfl
    have q0 := (box_of E2.out).1 0 _ rfl
    have q1 := (box_of E2.out).1 1 _ rfl
    go_wp2_with fail
    clear p0 q0 q1
    refine (typeOkS _ x _ (⟨bk, bc⟩ : Ty) HR.out HG.out.1).mono ?_
    rintro e w2 ⟨rfl, b2⟩
    replace E0 := hide ((b2.block _ (Array.getElem?_eq_some_iff.1 E0.out).1).trans E0.out)
    replace E1 := hide ((b2.block _ (Array.getElem?_eq_some_iff.1 E1.out).1).trans E1.out)
    replace E2 := hide ((b2.block _ (Array.getElem?_eq_some_iff.1 E2.out).1).trans E2.out)
    replace HR := hide (HR.out.at b2)
    replace HB := hide (HB.out.trans (b2.mono HB.out.size))
    clear b2
    cases cb : tyB x.k (⟨bk, bc⟩ : Ty) with
    | false =>
      have HF : Hid (V = false) := hide (by rw [HV.out, cb]; rfl)
      go_wp2
      go_ret
      exact ⟨by rw [HF.out]; rfl, HB.out⟩
    | true =>
      rw [cb, if_pos rfl, HVR.out] at HV
      clear HVR ca cb
      have p0 := (box_of E0.out).1 0 _ rfl
      have r0 := (box_of E1.out).1 0 _ rfl
      have r1 := (box_of E1.out).1 1 _ rfl
      have q0 := (box_of E2.out).1 0 _ rfl
      have q1 := (box_of E2.out).1 1 _ rfl
      cases k0 : (bk == 0) with
      | true =>
        have HF : Hid (V = true) := hide (by rw [HV.out, k0]; rfl)
        go_wp2
        go_ret
        exact ⟨by rw [HF.out]; rfl, HB.out⟩
      | false =>
        rw [k0] at HV
        by_cases e1 : ak = bk
        · subst e1
          by_cases e2 : ac = bc
          · subst e2
            have HF : Hid (V = true) := hide (by rw [HV.out]; simp)
            go_wp2
            go_ret
            exact ⟨by rw [HF.out]; rfl, HB.out⟩
          · have HN : Hid ((ac == bc) = false) := hide (by simpa using e2)
            rw [HN.out] at HV
            simp only [Bool.and_false, Bool.false_or] at HV
            cases k2 : (ak == 3) with
            | false =>
              have HF : Hid (V = false) := hide (by rw [HV.out, k2]; rfl)
              go_wp2
              go_ret
              exact ⟨by rw [HF.out]; rfl, HB.out⟩
            | true =>
              rw [k2] at HV
              cases k3 : (ak == 2) with
              | true =>
                have HF : Hid (V = true) := hide (by rw [HV.out, k3]; rfl)
                go_wp2
                go_ret
                exact ⟨by rw [HF.out]; rfl, HB.out⟩
              | false =>
                have HF : Hid (V = subX x.k ac bc) := hide (by rw [HV.out, k3]; simp)
                go_wp2_with fail
                refine (subSpec _ x _ ac bc HR.out HG.out).mono ?_
                rintro e w3 ⟨rfl, b3⟩
                replace HB := hide (HB.out.trans (b3.mono HB.out.size))
                clear b3
                go_wp2
                go_ret
                exact ⟨by rw [HF.out]; rfl, HB.out⟩
        · have HN : Hid ((ak == bk) = false) := hide (by simpa using e1)
          rw [HN.out] at HV
          simp only [Bool.false_and, Bool.false_or] at HV
          cases k2 : (bk == 3) with
          | false =>
            have HF : Hid (V = false) := hide (by rw [HV.out, k2]; rfl)
            go_wp2
            go_ret
            exact ⟨by rw [HF.out]; rfl, HB.out⟩
          | true =>
            rw [k2] at HV
            cases k3 : (ak == 2) with
            | true =>
              have HF : Hid (V = true) := hide (by rw [HV.out, k3]; rfl)
              go_wp2
              go_ret
              exact ⟨by rw [HF.out]; rfl, HB.out⟩
            | false =>
              rw [k3] at HV
              cases k4 : (ak == 3) with
              | false =>
                have HF : Hid (V = false) := hide (by rw [HV.out, k4]; rfl)
                go_wp2
                go_ret
                exact ⟨by rw [HF.out]; rfl, HB.out⟩
              | true =>
                have HF : Hid (V = subX x.k ac bc) := hide (by rw [HV.out, k4]; simp)
                go_wp2_with fail
                refine (subSpec _ x _ ac bc HR.out HG.out).mono ?_
                rintro e w3 ⟨rfl, b3⟩
                replace HB := hide (HB.out.trans (b3.mono HB.out.size))
                clear b3
                go_wp2
                go_ret
                exact ⟨by rw [HF.out]; rfl, HB.out⟩
set_option maxRecDepth 100000 in
set_option maxHeartbeats 4000000 in
theorem joinS (w : World) (x : Pg) (u : Value) (a b : Ty) (h : Reads w w.heap.size (kins x.k) u) (hg : kinsG x.k) :
    Calls Try.prog 30 #[pgV x u, tyV a, tyV b] w fun e w' => e = .returned (tyV (joinX x.k a b)) ∧ Below w.heap.size w w' := by
  have HR := hide h
  have HK : Hid (∀ wr, Below w.heap.size w wr → _) := hide (fun wr hb => kind_at (h.at hb))
  have HG := hide hg
  have hm := hg.1
  obtain ⟨a1, c1, e1, _⟩ := h.shape
  subst e1
  clear h hg
  have HV : Hid (joinX x.k a b = if fitsB x.k a b = true then b else if fitsB x.k b a = true then a else if tyB x.k a = true ∧ tyB x.k b = true ∧ a.k = 3 ∧ b.k = 3 then joinL x.k b.c 6 (x.k.getD a.c.toNat default).s else ⟨0, 0⟩) := hide rfl
  have HTA : Hid (tyB x.k a = true → a.k = 3 → inB a.c 0 ((x.k.length : Int) - 1) = true) := hide (fun h h' => by unfold tyB at h; rw [if_pos h'] at h; exact h)
  generalize joinX x.k a b = V at *
  have bA := (((((Below.refl w.heap.size w).alloc (Nat.le_refl _) (.cells #[.slice a1 x.k.length c1] 33)).alloc (by simp) (.cells #[.int .i64 a.k, .int .i64 a.c] 51)).alloc (by simp <;> omega) (.cells #[.int .i64 b.k, .int .i64 b.c] 51)).alloc (by simp <;> omega) (.cells #[.int .i64 0, .int .i64 0] 51))
  have G0 := heap_alloc_new w (.cells #[.slice a1 x.k.length c1] 33)
  have G1 := heap_alloc_new (w.alloc (.cells #[.slice a1 x.k.length c1] 33)) (.cells #[.int .i64 a.k, .int .i64 a.c] 51)
  have G2 := heap_alloc_new ((w.alloc (.cells #[.slice a1 x.k.length c1] 33)).alloc (.cells #[.int .i64 a.k, .int .i64 a.c] 51)) (.cells #[.int .i64 b.k, .int .i64 b.c] 51)
  have G3 := heap_alloc_new (((w.alloc (.cells #[.slice a1 x.k.length c1] 33)).alloc (.cells #[.int .i64 a.k, .int .i64 a.c] 51)).alloc (.cells #[.int .i64 b.k, .int .i64 b.c] 51)) (.cells #[.int .i64 0, .int .i64 0] 51)
  simp only [World.size_alloc] at G1 G2 G3
  have E0 := hide ((Below.heap_alloc _ (.cells #[.int .i64 0, .int .i64 0] 51) _ (by simp <;> omega)).trans ((Below.heap_alloc _ (.cells #[.int .i64 b.k, .int .i64 b.c] 51) _ (by simp <;> omega)).trans ((Below.heap_alloc _ (.cells #[.int .i64 a.k, .int .i64 a.c] 51) _ (by simp)).trans (G0))))
  have E1 := hide ((Below.heap_alloc _ (.cells #[.int .i64 0, .int .i64 0] 51) _ (by simp <;> omega)).trans ((Below.heap_alloc _ (.cells #[.int .i64 b.k, .int .i64 b.c] 51) _ (by simp)).trans (G1)))
  have E2 := hide ((Below.heap_alloc _ (.cells #[.int .i64 0, .int .i64 0] 51) _ (by simp)).trans (G2))
  have E3 := hide (G3)
  have HB := hide bA
  replace HR := hide (HR.out.at bA)
  clear bA G0 G1 G2 G3
  unfold pgV
  unfold tyV
  go_enter Try.func30, Try.ntmps30
  go_wp2_with fail
  generalize ((((w.alloc (.cells #[.slice a1 x.k.length c1] 33)).alloc (.cells #[.int .i64 a.k, .int .i64 a.c] 51)).alloc (.cells #[.int .i64 b.k, .int .i64 b.c] 51)).alloc (.cells #[.int .i64 0, .int .i64 0] 51)) = W at *
  refine (fitsS _ x _ a b HR.out HG.out).mono ?_
  rintro e w1 ⟨rfl, b1⟩
  replace E0 := hide ((b1.block _ (Array.getElem?_eq_some_iff.1 E0.out).1).trans E0.out)
  replace E1 := hide ((b1.block _ (Array.getElem?_eq_some_iff.1 E1.out).1).trans E1.out)
  replace E2 := hide ((b1.block _ (Array.getElem?_eq_some_iff.1 E2.out).1).trans E2.out)
  replace E3 := hide ((b1.block _ (Array.getElem?_eq_some_iff.1 E3.out).1).trans E3.out)
  replace HR := hide (HR.out.at b1)
  replace HB := hide (HB.out.trans (b1.mono HB.out.size))
  clear b1
  cases ca : fitsB x.k a b with
  | true =>
    have HF : Hid (V = b) := hide (by rw [HV.out, ca]; rfl)
    have q0 := (box_of E2.out).1 0 _ rfl
    have q1 := (box_of E2.out).1 1 _ rfl
    have X3 := box_of E3.out
    have s0 := X3.1 0 _ rfl
    have s1 := X3.1 1 _ rfl
    have sz := X3.2
    clear X3
    go_wp2
    refine bodyPost_ret (v := .agg #[.int .i64 b.k, .int .i64 b.c]) (results_one Try.results30 _ _ _ rfl (loadTy (putN2 E3.out _ _))) rfl ⟨by rw [HF.out] <;> rfl, ?_⟩
    exact (HB.out.setCell (by simp <;> omega) _).setCell (by simp <;> omega) _
  | false =>
    rw [ca, if_neg (by simp)] at HV
    clear ca
    have p0 := (box_of E0.out).1 0 _ rfl
    have r0 := (box_of E1.out).1 0 _ rfl
    have r1 := (box_of E1.out).1 1 _ rfl
    have q0 := (box_of E2.out).1 0 _ rfl
    have q1 := (box_of E2.out).1 1 _ rfl
    go_wp2_with fail
    clear p0 r0 r1 q0 q1
    refine (fitsS _ x _ b a HR.out HG.out).mono ?_
    rintro e w2 ⟨rfl, b2⟩
    replace E0 := hide ((b2.block _ (Array.getElem?_eq_some_iff.1 E0.out).1).trans E0.out)
    replace E1 := hide ((b2.block _ (Array.getElem?_eq_some_iff.1 E1.out).1).trans E1.out)
    replace E2 := hide ((b2.block _ (Array.getElem?_eq_some_iff.1 E2.out).1).trans E2.out)
    replace E3 := hide ((b2.block _ (Array.getElem?_eq_some_iff.1 E3.out).1).trans E3.out)
    replace HR := hide (HR.out.at b2)
    replace HB := hide (HB.out.trans (b2.mono HB.out.size))
    clear b2
    cases ca : fitsB x.k b a with
    | true =>
      have HF : Hid (V = a) := hide (by rw [HV.out, ca]; rfl)
      have q0 := (box_of E1.out).1 0 _ rfl
      have q1 := (box_of E1.out).1 1 _ rfl
      have X3 := box_of E3.out
      have s0 := X3.1 0 _ rfl
      have s1 := X3.1 1 _ rfl
      have sz := X3.2
      clear X3
      go_wp2
      refine bodyPost_ret (v := .agg #[.int .i64 a.k, .int .i64 a.c]) (results_one Try.results30 _ _ _ rfl (loadTy (putN2 E3.out _ _))) rfl ⟨by rw [HF.out] <;> rfl, ?_⟩
      exact (HB.out.setCell (by simp <;> omega) _).setCell (by simp <;> omega) _
    | false =>
      rw [ca, if_neg (by simp)] at HV
      clear ca
      have p0 := (box_of E0.out).1 0 _ rfl
      have r0 := (box_of E1.out).1 0 _ rfl
      have r1 := (box_of E1.out).1 1 _ rfl
      have q0 := (box_of E2.out).1 0 _ rfl
      have q1 := (box_of E2.out).1 1 _ rfl
      go_wp2_with fail
      clear p0 r0 r1 q0 q1
      refine (typeOkS _ x _ a HR.out hm).mono ?_
      rintro e w3 ⟨rfl, b3⟩
      replace E0 := hide ((b3.block _ (Array.getElem?_eq_some_iff.1 E0.out).1).trans E0.out)
      replace E1 := hide ((b3.block _ (Array.getElem?_eq_some_iff.1 E1.out).1).trans E1.out)
      replace E2 := hide ((b3.block _ (Array.getElem?_eq_some_iff.1 E2.out).1).trans E2.out)
      replace E3 := hide ((b3.block _ (Array.getElem?_eq_some_iff.1 E3.out).1).trans E3.out)
      replace HR := hide (HR.out.at b3)
      replace HB := hide (HB.out.trans (b3.mono HB.out.size))
      clear b3
      cases ca : tyB x.k a with
      | false =>
        have HF : Hid (V = ⟨0, 0⟩) := hide (by rw [HV.out, if_neg (by rw [ca]; simp)])
        have X3 := box_of E3.out
        have s0 := X3.1 0 _ rfl
        have s1 := X3.1 1 _ rfl
        have sz := X3.2
        clear X3
        go_wp2
        refine bodyPost_ret (v := .agg #[.int .i64 0, .int .i64 0]) (results_one Try.results30 _ _ _ rfl (loadTy (putN2 E3.out _ _))) rfl ⟨by rw [HF.out] <;> rfl, ?_⟩
        exact (HB.out.setCell (by simp <;> omega) _).setCell (by simp <;> omega) _
      | true =>
        have p0 := (box_of E0.out).1 0 _ rfl
        have q0 := (box_of E2.out).1 0 _ rfl
        have q1 := (box_of E2.out).1 1 _ rfl
        go_wp2_with fail
        clear p0 q0 q1
        refine (typeOkS _ x _ b HR.out hm).mono ?_
        rintro e w4 ⟨rfl, b4⟩
        replace E0 := hide ((b4.block _ (Array.getElem?_eq_some_iff.1 E0.out).1).trans E0.out)
        replace E1 := hide ((b4.block _ (Array.getElem?_eq_some_iff.1 E1.out).1).trans E1.out)
        replace E2 := hide ((b4.block _ (Array.getElem?_eq_some_iff.1 E2.out).1).trans E2.out)
        replace E3 := hide ((b4.block _ (Array.getElem?_eq_some_iff.1 E3.out).1).trans E3.out)
        replace HR := hide (HR.out.at b4)
        replace HB := hide (HB.out.trans (b4.mono HB.out.size))
        clear b4
        cases cb : tyB x.k b with
        | false =>
          have HF : Hid (V = ⟨0, 0⟩) := hide (by rw [HV.out, if_neg (by rw [cb]; simp)])
          have X3 := box_of E3.out
          have s0 := X3.1 0 _ rfl
          have s1 := X3.1 1 _ rfl
          have sz := X3.2
          clear X3
          go_wp2
          refine bodyPost_ret (v := .agg #[.int .i64 0, .int .i64 0]) (results_one Try.results30 _ _ _ rfl (loadTy (putN2 E3.out _ _))) rfl ⟨by rw [HF.out] <;> rfl, ?_⟩
          exact (HB.out.setCell (by simp <;> omega) _).setCell (by simp <;> omega) _
        | true =>
          have p0 := (box_of E0.out).1 0 _ rfl
          have r0 := (box_of E1.out).1 0 _ rfl
          have r1 := (box_of E1.out).1 1 _ rfl
          have q0 := (box_of E2.out).1 0 _ rfl
          have q1 := (box_of E2.out).1 1 _ rfl
          by_cases ka : a.k = 3
          · have ka' : (a.k != 3) = false := by rw [ka]; rfl
            by_cases kb : b.k = 3
            · have kb' : (b.k != 3) = false := by rw [kb]; rfl
              have HF : Hid (V = joinL x.k b.c 6 (x.k.getD a.c.toNat default).s) := hide (by rw [HV.out, if_pos ⟨ca, cb, ka, kb⟩])
              have hin := HTA.out ca ka
              clear HV HTA
              obtain ⟨i0, i1⟩ := inB_yes hin
              obtain ⟨ac, hac⟩ : ∃ j : Nat, a.c = (j : Int) := ⟨a.c.toNat, by omega⟩
              rw [hac] at r1 HF
              rw [show ((ac : Int)).toNat = ac from rfl] at HF
              have hal : ac < x.k.length := by omega
              clear hin i0 i1 ca cb ka kb
              have HLS : Hid (∀ n k, joinL x.k b.c (n + 1) k = if inB k 0 ((x.k.length : Int) - 1) then (if subX x.k b.c k = true then ⟨3, k⟩ else joinL x.k b.c n (x.k.getD k.toNat default).s) else ⟨0, 0⟩) := hide (fun _ _ => rfl)
              have HLZ : Hid (∀ k, joinL x.k b.c 0 k = ⟨0, 0⟩) := hide (fun _ => rfl)
              generalize hn : x.k.length = n at *
              have hw : IntKind.i64.wrap ((n : Int) - 1) = (n : Int) - 1 := by rw [IntKind.wrap_i64]; omega
              obtain ⟨a', cap', ea, _, _, hc⟩ := HK.out w4 HB.out
              cases ea
              obtain ⟨bb, bo, rfl, _, hcell⟩ := hc (by omega)
              obtain ⟨pv1, pv2, pv3, y0, y1, y2, y3, y4, z1, z2, z3⟩ := hcell ac hal
              clear hcell hc z1 z2 z3
              obtain ⟨y, hy⟩ : ∃ y, x.k.getD ac default = y := ⟨_, rfl⟩
              rw [hy] at y0 y1 HF
              clear hy
              go_wp2
              clear p0 r0 r1 q0 q1 y0 y1 y2 y3 y4 ka' kb'
              have HVW : Hid (Below w4.heap.size w4 w4) := hide (Below.refl _ _)
              go_loopw [7, 8] (fun q i wr => ∃ (t : Nat) (k : Int), t ≤ 6 ∧ q = .int .i64 k ∧ i = .int .i64 (t : Int) ∧ Hid (V = joinL x.k b.c (6 - t) k) ∧ Hid (Below w4.heap.size w4 wr)) (fun _ i _ => 6 - (intOf i).toNat)
              case atStart => exact ⟨0, y.s, by omega, rfl, rfl, HF, HVW⟩
              case round =>
                clear HF HVW
                obtain ⟨t, k, ht, rfl, rfl, HF, HW⟩ := hrel
                have HB2 := hide (HB.out.trans (HW.out.mono HB.out.size))
                have F0 := hide ((HW.out.block _ (Array.getElem?_eq_some_iff.1 E0.out).1).trans E0.out)
                have F2 := hide ((HW.out.block _ (Array.getElem?_eq_some_iff.1 E2.out).1).trans E2.out)
                have F3 := hide ((HW.out.block _ (Array.getElem?_eq_some_iff.1 E3.out).1).trans E3.out)
                have HR2 := hide (HR.out.at HW.out)
                have p0 := (box_of F0.out).1 0 _ rfl
                go_wp2_with fail
                refine (inSpec _ _ _ _).mono ?_
                rintro e w6 ⟨rfl, hw6⟩
                rw [hw6]
                clear hw6 w6
                cases c : inB k 0 ((n : Int) - 1) with
                | false =>
                  have HZ : Hid (V = ⟨0, 0⟩) := hide (by
                    rw [HF.out]
                    cases h6 : 6 - t with
                    | zero => exact HLZ.out _
                    | succ m => rw [HLS.out, if_neg (by rw [c]; simp)])
                  have X3 := box_of F3.out
                  have s0 := X3.1 0 _ rfl
                  have s1 := X3.1 1 _ rfl
                  have sz := X3.2
                  clear X3
                  go_wp2
                  refine bodyPost_ret (v := .agg #[.int .i64 0, .int .i64 0]) (results_one Try.results30 _ _ _ rfl (loadTy (putN2 F3.out _ _))) rfl ⟨by rw [HZ.out] <;> rfl, ?_⟩
                  exact (HB2.out.setCell (by simp <;> omega) _).setCell (by simp <;> omega) _
                | true =>
                  by_cases hlt : t < 6
                  · have hlt' : (t : Int) < 6 := by omega
                    have HU : Hid (V = if subX x.k b.c k = true then ⟨3, k⟩ else joinL x.k b.c (6 - (t + 1)) (x.k.getD k.toNat default).s) := hide (by rw [HF.out, show 6 - t = (6 - (t + 1)) + 1 by omega, HLS.out, if_pos c])
                    clear HF
                    obtain ⟨h0, h1⟩ := inB_yes c
                    obtain ⟨j, rfl⟩ : ∃ j : Nat, k = (j : Int) := ⟨k.toNat, by omega⟩
                    have hj : j < n := by omega
                    rw [show ((j : Int)).toNat = j from rfl] at HU
                    have q0 := (box_of F2.out).1 0 _ rfl
                    have q1 := (box_of F2.out).1 1 _ rfl
                    go_wp2_with fail
                    clear p0 q0 q1
                    refine (subSpec _ x _ b.c (j : Int) HR2.out HG.out).mono ?_
                    rintro e w7 ⟨rfl, b7⟩
                    replace F0 := hide ((b7.block _ (Array.getElem?_eq_some_iff.1 F0.out).1).trans F0.out)
                    replace F3 := hide ((b7.block _ (Array.getElem?_eq_some_iff.1 F3.out).1).trans F3.out)
                    replace HW := hide (HW.out.trans (b7.mono HW.out.size))
                    replace HB2 := hide (HB2.out.trans (b7.mono HB2.out.size))
                    clear b7 HR2 F2
                    cases cs : subX x.k b.c (j : Int) with
                    | true =>
                      have HZ : Hid (V = ⟨3, (j : Int)⟩) := hide (by rw [HU.out, if_pos cs])
                      have X3 := box_of F3.out
                      have s0 := X3.1 0 _ rfl
                      have s1 := X3.1 1 _ rfl
                      have sz := X3.2
                      clear X3
                      go_wp2
                      refine bodyPost_ret (v := .agg #[.int .i64 3, .int .i64 (j : Int)]) (results_one Try.results30 _ _ _ rfl (loadTy (putN2 F3.out _ _))) rfl ⟨by rw [HZ.out] <;> rfl, ?_⟩
                      exact (HB2.out.setCell (by simp <;> omega) _).setCell (by simp <;> omega) _
                    | false =>
                      have HZ : Hid (V = joinL x.k b.c (6 - (t + 1)) (x.k.getD j default).s) := hide (by rw [HU.out, if_neg (by rw [cs]; simp)])
                      clear HU
                      obtain ⟨a', cap', ea, _, _, hc⟩ := HK.out _ HB2.out
                      cases ea
                      obtain ⟨bb', bo', ea, _, hcell⟩ := hc (by omega)
                      cases ea
                      obtain ⟨pv1, pv2, pv3, y0, y1, y2, y3, y4, z1, z2, z3⟩ := hcell j (by omega)
                      clear hcell hc z1 z2 z3
                      obtain ⟨y9, hy⟩ : ∃ y, x.k.getD j default = y := ⟨_, rfl⟩
                      rw [hy] at y0 y1 HZ
                      clear hy
                      have p0 := (box_of F0.out).1 0 _ rfl
                      go_wp2
                      exact ⟨⟨t + 1, y9.s, by omega, rfl, by go_num, HZ, HW⟩, by simp [intOf]; omega⟩
                  · obtain rfl : t = 6 := by omega
                    have HZ : Hid (V = ⟨0, 0⟩) := hide (by rw [HF.out]; exact HLZ.out _)
                    have hlt' : ¬ (((6 : Nat) : Int) < 6) := by omega
                    have X3 := box_of F3.out
                    have s0 := X3.1 0 _ rfl
                    have s1 := X3.1 1 _ rfl
                    have sz := X3.2
                    clear X3
                    go_wp2
                    refine bodyPost_ret (v := .agg #[.int .i64 0, .int .i64 0]) (results_one Try.results30 _ _ _ rfl (loadTy (putN2 F3.out _ _))) rfl ⟨by rw [HZ.out] <;> rfl, ?_⟩
                    exact (HB2.out.setCell (by simp <;> omega) _).setCell (by simp <;> omega) _
            · have kb' : (b.k != 3) = true := by simpa using kb
              have HF : Hid (V = ⟨0, 0⟩) := hide (by rw [HV.out, if_neg (fun h => kb h.2.2.2)])
              have X3 := box_of E3.out
              have s0 := X3.1 0 _ rfl
              have s1 := X3.1 1 _ rfl
              have sz := X3.2
              clear X3
              go_wp2
              refine bodyPost_ret (v := .agg #[.int .i64 0, .int .i64 0]) (results_one Try.results30 _ _ _ rfl (loadTy (putN2 E3.out _ _))) rfl ⟨by rw [HF.out] <;> rfl, ?_⟩
              exact (HB.out.setCell (by simp <;> omega) _).setCell (by simp <;> omega) _
          · have ka' : (a.k != 3) = true := by simpa using ka
            have HF : Hid (V = ⟨0, 0⟩) := hide (by rw [HV.out, if_neg (fun h => ka h.2.2.1)])
            have X3 := box_of E3.out
            have s0 := X3.1 0 _ rfl
            have s1 := X3.1 1 _ rfl
            have sz := X3.2
            clear X3
            go_wp2
            refine bodyPost_ret (v := .agg #[.int .i64 0, .int .i64 0]) (results_one Try.results30 _ _ _ rfl (loadTy (putN2 E3.out _ _))) rfl ⟨by rw [HF.out] <;> rfl, ?_⟩
            exact (HB.out.setCell (by simp <;> omega) _).setCell (by simp <;> omega) _
end Go.Proofs.Ytobomcfiincpoaa
