/-
  Proved: at every code what FnMsgs says of drawn messages, values and notes holds (it returns true), where the program's own error value holds what its text lays (the card ties it), without any other condition.
-/
import Derived.Test.YtbkhlaiifbdfoaaDoorRows
import Derived.Test.YtbkhlaiifbdfoaaDoorCards
import Derived.Test.YtbkhlaiifbdfoaaDoorTie
import Derived.Test.YtbkhlaiifbdfoaaDoorJ1
import Derived.Test.YtbkhlaiifbdfoaaDoorJ8
import Derived.Test.YtbkhlaiifbdfoaaDoorJ6
import Derived.Test.YtbkhlaiifbdfoaaDoorJ9
import Derived.Test.YtbkhlaiifbdfoaaDoorJ7
import Derived.Deep.CutRange
import Derived.Deep.RegionHeldLaw
import Derived.WalkKit
import Derived.ProofKit
import Derived.OpenShut
import Derived.ShutString
import Derived.ChangeOld
import Derived.Below
import Derived.SevenTiedAt
namespace Go.Proofs.YtbkhlaiifbdfoaaDoor.fnMsgs
open Go.ChangeShapes Go.WideShapes Go.ChangeAt Go.RowKit
set_option linter.unusedVariables false
/-- What MsgOf answers, field by field. -/
def AnsX (b : Nat) (m : M) (ok : Bool) (e : Ending) (w' : World) : Prop :=
  ∃ a5 c5 a6 c6, e = .returned (.tuple #[.agg #[.int .i64 m.k, .int .i64 m.i, .int .i64 m.u, .int .i64 m.c, .int .i64 m.n, .slice a5 m.cs.length c5, .slice a6 m.ns.length c6], .bool ok]) ∧ OwnC w' b (.slice a5 m.cs.length c5) m.cs ∧ OwnN w' b (.slice a6 m.ns.length c6) m.ns
theorem ansX_of {b : Nat} {r : Option M} {e : Ending} {w' : World} (h : ansOf b r e w') : AnsX b (r.getD M0) r.isSome e w' := by
  obtain ⟨u, rfl, v5, v6, rfl, o5, o6, _⟩ := h
  obtain ⟨a5, c5, rfl, _⟩ := cells_at (o5.rd (Nat.le_refl _))
  obtain ⟨a6, c6, rfl, _⟩ := notes_at (o6.rd (Nat.le_refl _))
  exact ⟨a5, c5, a6, c6, rfl, o5, o6⟩
theorem inByt {w : World} {B len : Nat} {a : Option Addr} {zs : List Int} (h : In w B a len zs) : Byt zs := by
  intro z hz
  obtain ⟨j, hj, rfl⟩ := List.getElem_of_mem hz
  have hl := h.1
  have := h.2.2.1 j (by omega)
  simpa [hj] using this
theorem mB_pos {k i u c n : Int} {cs : List (Int × Bool × Int)} {ns : List (Int × Int)} (h : mOk k i u c n cs ns = true) : 0 < (mBytes k i u c n cs ns).length := by
  rcases Nat.eq_zero_or_pos (mBytes k i u c n cs ns).length with h0 | h0
  · have e : mBytes k i u c n cs ns = [] := List.eq_nil_of_length_eq_zero h0
    have := (mOf_iff (zs := []) (fun z hz => by cases hz) ⟨k, i, u, c, n, cs, ns⟩).2 ⟨h, by
      show [] = M.b ⟨k, i, u, c, n, cs, ns⟩
      unfold mBytes at e
      rw [h] at e
      exact e.symm⟩
    cases this
  · exact h0
theorem mB_none {k i u c n : Int} {cs : List (Int × Bool × Int)} {ns : List (Int × Int)} (h : mOk k i u c n cs ns = false) : mBytes k i u c n cs ns = [] := by simp [mBytes, h]

set_option maxRecDepth 100000 in
set_option maxHeartbeats 8000000 in
theorem walk (a0 : Option Addr) (len0 cap0 : Nat) (z0 : List Int) (t : TypeId) (v : Value) (w : World) (w0 : IsRow .u8 w a0 len0 cap0 z0) (hE : Err w t v) (hp : 0 < w.heap.size) :
    Calls Tryd.prog 3 #[.slice a0 len0 cap0] w fun e w' => e = .returned (.bool true) ∧ Below w.heap.size w w' := by
  by_cases hbig : (1048576 : Int) < (len0 : Int)
  · clear w0 hE
    go_enter Tryd.func3, Tryd.ntmps3
    go_wp2_with fail
    refine (bigYes _ _ _ _ hbig).mono ?_
    rintro e w1 ⟨rfl, rfl⟩
    go_wp2
    go_ret
    exact ⟨rfl, Below.refl _ _⟩
  · have hin := in_of w0 (by omega)
    clear w0
    generalize z0.take len0 = zs at hin
    have HI := hide hin
    have HE := hide hE
    clear hin hE
    go_enter Tryd.func3, Tryd.ntmps3
    go_wp2_with fail
    refine (bigNo _ _ _ _ (by omega)).mono ?_
    rintro e x ⟨rfl, hx⟩
    rw [hx]
    clear hx x hbig
    go_wp2_with fail
    refine (drawMsgBytes _ _ _ _ _ HI.out).mono ?_
    rintro e w1 ⟨k, i, u, c, n, a5, c5, a6, c6, cs, ns, rfl, o5, o6, l5, l6, b1⟩
    have HB := hide b1
    have R5 := hide o5
    have R6 := hide o6
    clear b1 o5 o6
    have bA := (Below.refl w1.heap.size w1).alloc (Nat.le_refl _) (.cells #[.int .i64 k, .int .i64 i, .int .i64 u, .int .i64 c, .int .i64 n, .slice a5 cs.length c5, .slice a6 ns.length c6] 27)
    have E3 := hide (heap_alloc_new w1 (.cells #[.int .i64 k, .int .i64 i, .int .i64 u, .int .i64 c, .int .i64 n, .slice a5 cs.length c5, .slice a6 ns.length c6] 27))
    replace HB := hide (HB.out.trans (bA.mono HB.out.size))
    replace R5 := hide (R5.out.below bA)
    replace R6 := hide (R6.out.below bA)
    clear bA
    go_upto_region 4 with fail
    generalize w1.alloc (.cells #[.int .i64 k, .int .i64 i, .int .i64 u, .int .i64 c, .int .i64 n, .slice a5 cs.length c5, .slice a6 ns.length c6] 27) = W1 at *
    have HX := hide (box_of E3.out).1
    have p0 := HX.out 0 _ rfl
    have p1 := HX.out 1 _ rfl
    have p2 := HX.out 2 _ rfl
    have p3 := HX.out 3 _ rfl
    have p4 := HX.out 4 _ rfl
    have p5 := HX.out 5 _ rfl
    have p6 := HX.out 6 _ rfl
    go_wp2_with fail
    clear p0 p1 p2 p3 p4 p5 p6 HX
    refine (msgBytesImpl _ k i u c n _ _ cs ns (R5.out.rd (Nat.le_refl _)) (R6.out.rd (Nat.le_refl _)) (by omega) (by omega)).mono ?_
    rintro e w2 ⟨v4, rfl, o4, b2⟩
    have HO := hide o4
    replace E3 := hide ((b2.block _ (Array.getElem?_eq_some_iff.1 E3.out).1).trans E3.out)
    replace HB := hide (HB.out.trans (b2.mono HB.out.size))
    replace R5 := hide (R5.out.below b2)
    replace R6 := hide (R6.out.below b2)
    obtain ⟨a4, c4, rfl⟩ := own_shape o4
    clear b2 o4
    have hl4 := mBytes_len k i u c n cs ns
    go_upto_region 5 with fail
    go_cut [34] from 21 to 34 (fun s wq => s = .bool false ∧ Below w2.heap.size w2 wq)
    case first =>
      have HS : Hid (∀ w', Below w2.heap.size w2 w' → w'.cell? ⟨w1.heap.size, 0, none⟩ = some (.int .i64 k) ∧ w'.cell? ⟨w1.heap.size, 1, none⟩ = some (.int .i64 i) ∧ w'.cell? ⟨w1.heap.size, 2, none⟩ = some (.int .i64 u) ∧ w'.cell? ⟨w1.heap.size, 3, none⟩ = some (.int .i64 c) ∧ w'.cell? ⟨w1.heap.size, 4, none⟩ = some (.int .i64 n) ∧ w'.cell? ⟨w1.heap.size, 5, none⟩ = some (.slice a5 cs.length c5) ∧ w'.cell? ⟨w1.heap.size, 6, none⟩ = some (.slice a6 ns.length c6)) := hide (fun w' hb => by
        have X := (box_of ((hb.block _ (Array.getElem?_eq_some_iff.1 E3.out).1).trans E3.out)).1
        exact ⟨X 0 _ rfl, X 1 _ rfl, X 2 _ rfl, X 3 _ rfl, X 4 _ rfl, X 5 _ rfl, X 6 _ rfl⟩)
      have HD0 : Hid (Below w2.heap.size w2 w2.drew) := hide (Below.refl _ _).drew
      have HCV : Hid (∀ w', Below w2.heap.size w2 w' → (convert 22 9 (.slice a4 (mBytes k i u c n cs ns).length c4)).run Tryd.prog w' = .ok (.string (strOfNums (mBytes k i u c n cs ns))) w') := hide (fun w' hb => own_str (HO.out.below hb))
      have HK : Hid ((decide (0 < (mBytes k i u c n cs ns).length)) = mOk k i u c n cs ns) := hide (by
        cases hk : mOk k i u c n cs ns with
        | true => exact decide_eq_true (mB_pos hk)
        | false => rw [mB_none hk]; rfl)
      have HCB : Hid (∀ W' : World, Below w2.heap.size w2 W' → Calls Tryd.prog 8 #[msgV k i u c n (.slice a5 cs.length c5) (.slice a6 ns.length c6)] W' fun e w' => ∃ v, e = .returned v ∧ Own w' W'.heap.size v (mBytes k i u c n cs ns) ∧ Below W'.heap.size W' w') := hide (fun W' hb => msgBytesSpec W' k i u c n _ _ cs ns ((R5.out.below hb).rd (Nat.le_refl _)) ((R6.out.below hb).rd (Nat.le_refl _)) (by omega) (by omega))
      have HCO : Hid (∀ W' : World, Below w2.heap.size w2 W' → Calls Tryd.prog 9 #[msgV k i u c n (.slice a5 cs.length c5) (.slice a6 ns.length c6)] W' fun e w' => e = .returned (.bool (mOk k i u c n cs ns)) ∧ Below W'.heap.size W' w') := hide (fun W' hb => msgImpl W' k i u c n _ _ cs ns ((R5.out.below hb).rd (Nat.le_refl _)) ((R6.out.below hb).rd (Nat.le_refl _)) (by omega) (by omega))
      generalize mBytes k i u c n cs ns = us at *
      generalize hS : strOfNums us = SS at *
      have HSS := hide hS
      clear hS
      cases hk : mOk k i u c n cs ns with
      | false =>
        rw [hk] at HK HCO
        have hL : ¬ 0 < us.length := of_decide_eq_false HK.out
        clear hk HK
        refine wp_region_held_drew (S := fun w' => (w'.cell? ⟨w1.heap.size, 0, none⟩ = some (.int .i64 k) ∧ w'.cell? ⟨w1.heap.size, 1, none⟩ = some (.int .i64 i) ∧ w'.cell? ⟨w1.heap.size, 2, none⟩ = some (.int .i64 u) ∧ w'.cell? ⟨w1.heap.size, 3, none⟩ = some (.int .i64 c) ∧ w'.cell? ⟨w1.heap.size, 4, none⟩ = some (.int .i64 n) ∧ w'.cell? ⟨w1.heap.size, 5, none⟩ = some (.slice a5 cs.length c5) ∧ w'.cell? ⟨w1.heap.size, 6, none⟩ = some (.slice a6 ns.length c6)) ∧ (convert 22 9 (.slice a4 us.length c4)).run Tryd.prog w' = .ok (.string SS) w') (by kernel_rfl) (⟨HS.out _ HD0.out, HCV.out _ HD0.out⟩) (fun hHeld => ?_)
        refine wpAnyH_take (i := 0) (v := ?_) rfl (by kernel_rfl) (by kernel_rfl) (by kernel_rfl) (fun _ _ _ h => h) (Or.inl ⟨by rfl, ?_⟩) (by assumption) ?_
        rotate_left
        · intro w' hSw
          try dsimp only at hSw
          go_simp
          try rfl
        simp only [List.getElem_toArray, List.getElem_cons_zero, Act.put, List.setIfInBounds_toArray, List.set_cons_zero, List.set_cons_succ]
        refine wpAnyH_take (i := 1) (v := ?_) rfl (by kernel_rfl) (by kernel_rfl) (by kernel_rfl) (fun _ _ _ h => h) (Or.inl ⟨by rfl, ?_⟩) (by assumption) ?_
        rotate_left
        · intro w' hSw
          try dsimp only at hSw
          go_simp
          try rfl
        simp only [List.getElem_toArray, List.getElem_cons_succ, List.getElem_cons_zero, Act.put, List.setIfInBounds_toArray, List.set_cons_zero, List.set_cons_succ]
        refine wpAnyH_take (i := 2) (v := ?_) rfl (by kernel_rfl) (by kernel_rfl) (by kernel_rfl) (fun _ _ _ h => h) (Or.inl ⟨by rfl, ?_⟩) (by assumption) ?_
        rotate_left
        · intro w' hSw
          try dsimp only at hSw
          go_simp
          try rfl
        simp only [List.getElem_toArray, List.getElem_cons_succ, List.getElem_cons_zero, Act.put, List.setIfInBounds_toArray, List.set_cons_zero, List.set_cons_succ]
        refine wpAnyH_ready (rs := [3]) (by kernel_rfl) (by simp) (AllReadyH.cons rfl (fun K hK => ?_) AllReadyH.nil)
        refine step_callW (some 24) rfl (by kernel_rfl) 8 _ _ rfl #[msgV k i u c n (.slice a5 cs.length c5) (.slice a6 ns.length c6)] (by kernel_rfl) (HCB.out _ HD0.out) ?_; rintro e x1 ⟨v1, rfl, o1, b1⟩; refine ⟨_, rfl, ?_⟩; obtain ⟨a1, q1, rfl⟩ := own_shape o1; have hcv := own_str o1; rw [HSS.out] at hcv; have HD1 : Hid (Below w2.heap.size w2 x1) := hide (HD0.out.trans (b1.mono HD0.out.size)); clear b1 o1
        refine hK.out _ _ (⟨HS.out _ HD1.out, HCV.out _ HD1.out⟩) (fun hHeld => ?_)
        clear hK K
        simp only [Act.put, List.setIfInBounds_toArray, List.set_cons_zero, List.set_cons_succ]
        refine wpAnyH_ready (rs := [4]) (by kernel_rfl) (by simp) (AllReadyH.cons rfl (fun K hK => ?_) AllReadyH.nil)
        go_simp
        refine hK.out _ _ (⟨HS.out _ HD1.out, HCV.out _ HD1.out⟩) (fun hHeld => ?_)
        clear hK K
        refine wpAnyH_take (i := 5) (v := ?_) rfl (by kernel_rfl) (by kernel_rfl) (by kernel_rfl) (fun _ _ _ h => h) (Or.inl ⟨by rfl, ?_⟩) (by assumption) ?_
        rotate_left
        · intro w' hSw
          try dsimp only at hSw
          go_simp
          try rfl
        simp only [List.getElem_toArray, List.getElem_cons_succ, List.getElem_cons_zero, Act.put, List.setIfInBounds_toArray, List.set_cons_zero, List.set_cons_succ]
        refine wpAnyH_take (i := 6) (v := ?_) rfl (by kernel_rfl) (by kernel_rfl) (by kernel_rfl) (fun _ _ _ h => h) (Or.inl ⟨by rfl, ?_⟩) (by assumption) ?_
        rotate_left
        · intro w' hSw
          try dsimp only at hSw
          go_simp
          try rfl
        simp only [List.getElem_toArray, List.getElem_cons_succ, List.getElem_cons_zero, Act.put, List.setIfInBounds_toArray, List.set_cons_zero, List.set_cons_succ]
        refine wpAnyH_take (i := 7) (v := ?_) rfl (by kernel_rfl) (by kernel_rfl) (by kernel_rfl) (fun _ _ _ h => h) (Or.inl ⟨by rfl, ?_⟩) (by assumption) ?_
        rotate_left
        · intro w' hSw
          try dsimp only at hSw
          go_simp
          try rfl
        simp only [List.getElem_toArray, List.getElem_cons_succ, List.getElem_cons_zero, Act.put, List.setIfInBounds_toArray, List.set_cons_zero, List.set_cons_succ]
        refine wpAnyH_take (i := 8) (v := ?_) rfl (by kernel_rfl) (by kernel_rfl) (by kernel_rfl) (fun _ _ _ h => h) (Or.inl ⟨by rfl, ?_⟩) (by assumption) ?_
        rotate_left
        · intro w' hSw
          try dsimp only at hSw
          go_simp
          try rfl
        simp only [List.getElem_toArray, List.getElem_cons_succ, List.getElem_cons_zero, Act.put, List.setIfInBounds_toArray, List.set_cons_zero, List.set_cons_succ]
        refine wpAnyH_take (i := 9) (v := ?_) rfl (by kernel_rfl) (by kernel_rfl) (by kernel_rfl) (fun _ _ _ h => h) (Or.inl ⟨by rfl, ?_⟩) (by assumption) ?_
        rotate_left
        · intro w' hSw
          try dsimp only at hSw
          go_simp
          try rfl
        simp only [List.getElem_toArray, List.getElem_cons_succ, List.getElem_cons_zero, Act.put, List.setIfInBounds_toArray, List.set_cons_zero, List.set_cons_succ]
        refine wpAnyH_take (i := 10) (v := ?_) rfl (by kernel_rfl) (by kernel_rfl) (by kernel_rfl) (fun _ _ _ h => h) (Or.inl ⟨by rfl, ?_⟩) (by assumption) ?_
        rotate_left
        · intro w' hSw
          try dsimp only at hSw
          go_simp
          try rfl
        simp only [List.getElem_toArray, List.getElem_cons_succ, List.getElem_cons_zero, Act.put, List.setIfInBounds_toArray, List.set_cons_zero, List.set_cons_succ]
        refine wpAnyH_ready (rs := [11]) (by kernel_rfl) (by simp) (AllReadyH.cons rfl (fun K hK => ?_) AllReadyH.nil)
        refine step_callW (some 32) rfl (by kernel_rfl) 9 _ _ rfl #[msgV k i u c n (.slice a5 cs.length c5) (.slice a6 ns.length c6)] (by kernel_rfl) (HCO.out _ HD1.out) ?_; rintro e x2 ⟨rfl, b3⟩; refine ⟨_, rfl, ?_⟩; have HD2 : Hid (Below w2.heap.size w2 x2) := hide (HD1.out.trans (b3.mono HD1.out.size)); clear b3
        refine hK.out _ _ (⟨HS.out _ HD2.out, HCV.out _ HD2.out⟩) (fun hHeld => ?_)
        clear hK K
        simp only [Act.put, List.setIfInBounds_toArray, List.set_cons_zero, List.set_cons_succ]
        refine wpAnyH_take (i := 12) (v := ?_) rfl (by kernel_rfl) (by kernel_rfl) (by kernel_rfl) (fun _ _ _ h => h) (Or.inl ⟨by rfl, ?_⟩) (by assumption) ?_
        rotate_left
        · intro w' hSw
          try dsimp only at hSw
          go_simp
          try rfl
        simp only [List.getElem_toArray, List.getElem_cons_succ, List.getElem_cons_zero, Act.put, List.setIfInBounds_toArray, List.set_cons_zero, List.set_cons_succ]
        refine wpAnyH_take (i := 13) (v := ?_) rfl (by kernel_rfl) (by kernel_rfl) (by kernel_rfl) (fun _ _ _ h => h) (Or.inl ⟨by rfl, ?_⟩) (by assumption) ?_
        rotate_left
        · intro w' hSw
          try dsimp only at hSw
          go_simp
          try rfl
        simp only [List.getElem_toArray, List.getElem_cons_succ, List.getElem_cons_zero, Act.put, List.setIfInBounds_toArray, List.set_cons_zero, List.set_cons_succ]
        refine wpAnyH_done (by kernel_rfl) ?_ _
        go_wp2_with fail
        go_meet
        exact ⟨rfl, HD2.out⟩
      | true =>
        rw [hk] at HK HCO
        have hL : 0 < us.length := of_decide_eq_true HK.out
        clear hk HK
        refine wp_region_held_drew (S := fun w' => (w'.cell? ⟨w1.heap.size, 0, none⟩ = some (.int .i64 k) ∧ w'.cell? ⟨w1.heap.size, 1, none⟩ = some (.int .i64 i) ∧ w'.cell? ⟨w1.heap.size, 2, none⟩ = some (.int .i64 u) ∧ w'.cell? ⟨w1.heap.size, 3, none⟩ = some (.int .i64 c) ∧ w'.cell? ⟨w1.heap.size, 4, none⟩ = some (.int .i64 n) ∧ w'.cell? ⟨w1.heap.size, 5, none⟩ = some (.slice a5 cs.length c5) ∧ w'.cell? ⟨w1.heap.size, 6, none⟩ = some (.slice a6 ns.length c6)) ∧ (convert 22 9 (.slice a4 us.length c4)).run Tryd.prog w' = .ok (.string SS) w') (by kernel_rfl) (⟨HS.out _ HD0.out, HCV.out _ HD0.out⟩) (fun hHeld => ?_)
        refine wpAnyH_take (i := 0) (v := ?_) rfl (by kernel_rfl) (by kernel_rfl) (by kernel_rfl) (fun _ _ _ h => h) (Or.inl ⟨by rfl, ?_⟩) (by assumption) ?_
        rotate_left
        · intro w' hSw
          try dsimp only at hSw
          go_simp
          try rfl
        simp only [List.getElem_toArray, List.getElem_cons_zero, Act.put, List.setIfInBounds_toArray, List.set_cons_zero, List.set_cons_succ]
        refine wpAnyH_take (i := 1) (v := ?_) rfl (by kernel_rfl) (by kernel_rfl) (by kernel_rfl) (fun _ _ _ h => h) (Or.inl ⟨by rfl, ?_⟩) (by assumption) ?_
        rotate_left
        · intro w' hSw
          try dsimp only at hSw
          go_simp
          try rfl
        simp only [List.getElem_toArray, List.getElem_cons_succ, List.getElem_cons_zero, Act.put, List.setIfInBounds_toArray, List.set_cons_zero, List.set_cons_succ]
        refine wpAnyH_take (i := 2) (v := ?_) rfl (by kernel_rfl) (by kernel_rfl) (by kernel_rfl) (fun _ _ _ h => h) (Or.inl ⟨by rfl, ?_⟩) (by assumption) ?_
        rotate_left
        · intro w' hSw
          try dsimp only at hSw
          go_simp
          try rfl
        simp only [List.getElem_toArray, List.getElem_cons_succ, List.getElem_cons_zero, Act.put, List.setIfInBounds_toArray, List.set_cons_zero, List.set_cons_succ]
        refine wpAnyH_ready (rs := [3]) (by kernel_rfl) (by simp) (AllReadyH.cons rfl (fun K hK => ?_) AllReadyH.nil)
        refine step_callW (some 24) rfl (by kernel_rfl) 8 _ _ rfl #[msgV k i u c n (.slice a5 cs.length c5) (.slice a6 ns.length c6)] (by kernel_rfl) (HCB.out _ HD0.out) ?_; rintro e x1 ⟨v1, rfl, o1, b1⟩; refine ⟨_, rfl, ?_⟩; obtain ⟨a1, q1, rfl⟩ := own_shape o1; have hcv := own_str o1; rw [HSS.out] at hcv; have HD1 : Hid (Below w2.heap.size w2 x1) := hide (HD0.out.trans (b1.mono HD0.out.size)); clear b1 o1
        refine hK.out _ _ (⟨HS.out _ HD1.out, HCV.out _ HD1.out⟩) (fun hHeld => ?_)
        clear hK K
        simp only [Act.put, List.setIfInBounds_toArray, List.set_cons_zero, List.set_cons_succ]
        refine wpAnyH_ready (rs := [4]) (by kernel_rfl) (by simp) (AllReadyH.cons rfl (fun K hK => ?_) AllReadyH.nil)
        go_simp
        refine hK.out _ _ (⟨HS.out _ HD1.out, HCV.out _ HD1.out⟩) (fun hHeld => ?_)
        clear hK K
        refine wpAnyH_take (i := 5) (v := ?_) rfl (by kernel_rfl) (by kernel_rfl) (by kernel_rfl) (fun _ _ _ h => h) (Or.inl ⟨by rfl, ?_⟩) (by assumption) ?_
        rotate_left
        · intro w' hSw
          try dsimp only at hSw
          go_simp
          try rfl
        simp only [List.getElem_toArray, List.getElem_cons_succ, List.getElem_cons_zero, Act.put, List.setIfInBounds_toArray, List.set_cons_zero, List.set_cons_succ]
        refine wpAnyH_take (i := 6) (v := ?_) rfl (by kernel_rfl) (by kernel_rfl) (by kernel_rfl) (fun _ _ _ h => h) (Or.inl ⟨by rfl, ?_⟩) (by assumption) ?_
        rotate_left
        · intro w' hSw
          try dsimp only at hSw
          go_simp
          try rfl
        simp only [List.getElem_toArray, List.getElem_cons_succ, List.getElem_cons_zero, Act.put, List.setIfInBounds_toArray, List.set_cons_zero, List.set_cons_succ]
        refine wpAnyH_take (i := 7) (v := ?_) rfl (by kernel_rfl) (by kernel_rfl) (by kernel_rfl) (fun _ _ _ h => h) (Or.inl ⟨by rfl, ?_⟩) (by assumption) ?_
        rotate_left
        · intro w' hSw
          try dsimp only at hSw
          go_simp
          try rfl
        simp only [List.getElem_toArray, List.getElem_cons_succ, List.getElem_cons_zero, Act.put, List.setIfInBounds_toArray, List.set_cons_zero, List.set_cons_succ]
        refine wpAnyH_take (i := 8) (v := ?_) rfl (by kernel_rfl) (by kernel_rfl) (by kernel_rfl) (fun _ _ _ h => h) (Or.inl ⟨by rfl, ?_⟩) (by assumption) ?_
        rotate_left
        · intro w' hSw
          try dsimp only at hSw
          go_simp
          try rfl
        simp only [List.getElem_toArray, List.getElem_cons_succ, List.getElem_cons_zero, Act.put, List.setIfInBounds_toArray, List.set_cons_zero, List.set_cons_succ]
        refine wpAnyH_take (i := 9) (v := ?_) rfl (by kernel_rfl) (by kernel_rfl) (by kernel_rfl) (fun _ _ _ h => h) (Or.inl ⟨by rfl, ?_⟩) (by assumption) ?_
        rotate_left
        · intro w' hSw
          try dsimp only at hSw
          go_simp
          try rfl
        simp only [List.getElem_toArray, List.getElem_cons_succ, List.getElem_cons_zero, Act.put, List.setIfInBounds_toArray, List.set_cons_zero, List.set_cons_succ]
        refine wpAnyH_take (i := 10) (v := ?_) rfl (by kernel_rfl) (by kernel_rfl) (by kernel_rfl) (fun _ _ _ h => h) (Or.inl ⟨by rfl, ?_⟩) (by assumption) ?_
        rotate_left
        · intro w' hSw
          try dsimp only at hSw
          go_simp
          try rfl
        simp only [List.getElem_toArray, List.getElem_cons_succ, List.getElem_cons_zero, Act.put, List.setIfInBounds_toArray, List.set_cons_zero, List.set_cons_succ]
        refine wpAnyH_ready (rs := [11]) (by kernel_rfl) (by simp) (AllReadyH.cons rfl (fun K hK => ?_) AllReadyH.nil)
        refine step_callW (some 32) rfl (by kernel_rfl) 9 _ _ rfl #[msgV k i u c n (.slice a5 cs.length c5) (.slice a6 ns.length c6)] (by kernel_rfl) (HCO.out _ HD1.out) ?_; rintro e x2 ⟨rfl, b3⟩; refine ⟨_, rfl, ?_⟩; have HD2 : Hid (Below w2.heap.size w2 x2) := hide (HD1.out.trans (b3.mono HD1.out.size)); clear b3
        refine hK.out _ _ (⟨HS.out _ HD2.out, HCV.out _ HD2.out⟩) (fun hHeld => ?_)
        clear hK K
        simp only [Act.put, List.setIfInBounds_toArray, List.set_cons_zero, List.set_cons_succ]
        refine wpAnyH_take (i := 12) (v := ?_) rfl (by kernel_rfl) (by kernel_rfl) (by kernel_rfl) (fun _ _ _ h => h) (Or.inl ⟨by rfl, ?_⟩) (by assumption) ?_
        rotate_left
        · intro w' hSw
          try dsimp only at hSw
          go_simp
          try rfl
        simp only [List.getElem_toArray, List.getElem_cons_succ, List.getElem_cons_zero, Act.put, List.setIfInBounds_toArray, List.set_cons_zero, List.set_cons_succ]
        refine wpAnyH_take (i := 13) (v := ?_) rfl (by kernel_rfl) (by kernel_rfl) (by kernel_rfl) (fun _ _ _ h => h) (Or.inl ⟨by rfl, ?_⟩) (by assumption) ?_
        rotate_left
        · intro w' hSw
          try dsimp only at hSw
          go_simp
          try rfl
        simp only [List.getElem_toArray, List.getElem_cons_succ, List.getElem_cons_zero, Act.put, List.setIfInBounds_toArray, List.set_cons_zero, List.set_cons_succ]
        refine wpAnyH_done (by kernel_rfl) ?_ _
        go_wp2_with fail
        go_meet
        exact ⟨rfl, HD2.out⟩
    case rest =>
      obtain ⟨rfl, b9⟩ := hcut
      replace E3 := hide ((b9.block _ (Array.getElem?_eq_some_iff.1 E3.out).1).trans E3.out)
      replace HB := hide (HB.out.trans (b9.mono HB.out.size))
      replace HO := hide (HO.out.below b9)
      replace R5 := hide (R5.out.below b9)
      replace R6 := hide (R6.out.below b9)
      clear b9
      go_upto_if 37 with fail
      go_cut [5, 6] from 35 to 50 (fun _ _ wq => Below w.heap.size w wq)
      case first =>
        cases hk : mOk k i u c n cs ns with
        | false =>
          have hL : ¬ 0 < (mBytes k i u c n cs ns).length := by rw [mB_none hk]; simp
          go_wp2_with fail
          go_meet
          exact HB.out
        | true =>
          have hL := mB_pos hk
          have HY := hide (mBytes_byt k i u c n cs ns)
          have HN := hide (model_yes (m := ⟨k, i, u, c, n, cs, ns⟩) HY.out hL rfl)
          clear hk
          have s0 := HB.out.size
          obtain ⟨a', c', e', hin4, _⟩ := in_any HO.out (by omega) HY.out (Nat.le_refl _)
          cases e'
          have HQ := hide (msgOfImpl wc a4 _ c4 _ t v (Nat.lt_of_lt_of_le hp s0) hin4 (HE.out.low HB.out hp))
          clear hin4
          go_wp2_with fail
          refine (unhide HQ).mono ?_
          rintro e w9 ⟨hA, b9⟩
          rw [HN.out] at hA
          obtain ⟨a7, c7, a8, c8, rfl, q5, q6⟩ := ansX_of hA
          simp only [Option.getD_some, Option.isSome_some] at q5 q6 ⊢
          have Q5 := hide q5
          have Q6 := hide q6
          replace E3 := hide ((b9.block _ (Array.getElem?_eq_some_iff.1 E3.out).1).trans E3.out)
          replace HB := hide (HB.out.trans (b9.mono HB.out.size))
          replace R5 := hide (R5.out.below b9)
          replace R6 := hide (R6.out.below b9)
          clear b9 q5 q6 hA HQ
          have bD := (Below.refl w9.heap.size w9).alloc (Nat.le_refl _) (.cells #[.int .i64 k, .int .i64 i, .int .i64 u, .int .i64 c, .int .i64 n, .slice a7 cs.length c7, .slice a8 ns.length c8] 27)
          have E5 := hide (heap_alloc_new w9 (.cells #[.int .i64 k, .int .i64 i, .int .i64 u, .int .i64 c, .int .i64 n, .slice a7 cs.length c7, .slice a8 ns.length c8] 27))
          replace E3 := hide ((bD.block _ (Array.getElem?_eq_some_iff.1 E3.out).1).trans E3.out)
          replace HB := hide (HB.out.trans (bD.mono HB.out.size))
          replace R5 := hide (R5.out.below bD)
          replace R6 := hide (R6.out.below bD)
          replace Q5 := hide (Q5.out.below bD)
          replace Q6 := hide (Q6.out.below bD)
          clear bD
          go_upto_region 9 with fail
          generalize w9.alloc (.cells #[.int .i64 k, .int .i64 i, .int .i64 u, .int .i64 c, .int .i64 n, .slice a7 cs.length c7, .slice a8 ns.length c8] 27) = W9 at *
          have HXa := hide (box_of E3.out).1
          have HXb := hide (box_of E5.out).1
          have p0 := HXa.out 0 _ rfl
          have p1 := HXa.out 1 _ rfl
          have p2 := HXa.out 2 _ rfl
          have p3 := HXa.out 3 _ rfl
          have p4 := HXa.out 4 _ rfl
          have p5 := HXa.out 5 _ rfl
          have p6 := HXa.out 6 _ rfl
          have r0 := HXb.out 0 _ rfl
          have r1 := HXb.out 1 _ rfl
          have r2 := HXb.out 2 _ rfl
          have r3 := HXb.out 3 _ rfl
          have r4 := HXb.out 4 _ rfl
          have r5 := HXb.out 5 _ rfl
          have r6 := HXb.out 6 _ rfl
          go_wp2_with fail
          clear p0 p1 p2 p3 p4 p5 p6 r0 r1 r2 r3 r4 r5 r6
          refine (sameMsg _ k i u c n _ _ _ _ cs ns (Q5.out.rd (Nat.le_refl _)) (Q6.out.rd (Nat.le_refl _)) (R5.out.rd (Nat.le_refl _)) (R6.out.rd (Nat.le_refl _)) (by omega) (by omega)).mono ?_
          rintro e w10 ⟨rfl, b10⟩
          replace HB := hide (HB.out.trans (b10.mono HB.out.size))
          clear b10
          go_wp2_with fail
          go_meet
          exact HB.out
      case rest =>
        clear HO E3 R5 R6 hl4 l5 l6
        have HB := hide hcut
        clear hcut
        go_wp2_with fail
        refine (drawMsgOf _ _ _ _ _ (HI.out.at HB.out)).mono ?_
        rintro e w3 ⟨vr, rfl, ⟨ar, lr, cr, ys, rfl, hinr, hlr, hcr, hzr⟩, b3⟩
        have HR := hide hinr
        replace HB := hide (HB.out.trans (b3.mono HB.out.size))
        clear b3 hinr
        obtain ⟨m, hm0⟩ : ∃ m, (mOf ys).getD M0 = m := ⟨_, rfl⟩
        obtain ⟨ok, hk0⟩ : ∃ ok, (mOf ys).isSome = ok := ⟨_, rfl⟩
        have hcase : (ok = false ∧ m = M0) ∨ (ok = true ∧ mOf ys = some m) := by
          cases hr : mOf ys with
          | none => rw [hr] at hm0 hk0; exact .inl ⟨hk0.symm, hm0.symm⟩
          | some q => rw [hr] at hm0 hk0; exact .inr ⟨hk0.symm, by rw [← hm0]; rfl⟩
        have hml : m.cs.length ≤ 200 ∧ m.ns.length ≤ 200 := by
          rcases hcase with ⟨_, e⟩ | ⟨_, e⟩
          · rw [e]; exact ⟨Nat.zero_le _, Nat.zero_le _⟩
          · have h1 : mOk m.k m.i m.u m.c m.n m.cs m.ns = true := ((mOf_iff (inByt HR.out) m).1 e).1
            have h2 := mOk_lens h1
            omega
        have HQI : Hid (∀ W' : World, Below w3.heap.size w3 W' → Calls Tryd.prog 10 #[.slice ar lr cr] W' fun e w' => AnsX W'.heap.size m ok e w' ∧ Below W'.heap.size W' w') :=
          hide (fun W' hb => (msgOfImpl W' ar lr cr ys t v (Nat.lt_of_lt_of_le hp (Nat.le_trans HB.out.size hb.size)) (HR.out.at hb) (HE.out.low (HB.out.trans (hb.mono HB.out.size)) hp)).mono (fun e w' h => ⟨by have := ansX_of h.1; rw [hm0, hk0] at this; exact this, h.2⟩))
        have HQS : Hid (∀ W' : World, Below w3.heap.size w3 W' → Calls Tryd.prog 13 #[.slice ar lr cr] W' fun e w' => AnsX W'.heap.size m ok e w' ∧ Below W'.heap.size W' w') :=
          hide (fun W' hb => (msgOfSpec W' ar lr cr ys (HR.out.at hb) hcr).mono (fun e w' h => ⟨by have := ansX_of h.1; rw [hm0, hk0] at this; exact this, h.2⟩))
        clear hm0 hk0
        obtain ⟨qk, qi, qu, qc, qn, qcs, qns⟩ := m
        simp only at hml
        have HCS := hide hcase
        clear hcase
        unfold AnsX at HQI HQS
        simp only at HQI HQS
        have HV := hide (Below.refl w3.heap.size w3)
        go_wp2_with fail
        refine (HQI.out _ HV.out).mono ?_
        rintro e w4 ⟨⟨a7, c7, a8, c8, rfl, q5, q6⟩, b4⟩
        have Q5 := hide q5
        have Q6 := hide q6
        replace HV := hide (HV.out.trans (b4.mono HV.out.size))
        clear b4 q5 q6
        have bD := (Below.refl w4.heap.size w4).alloc (Nat.le_refl _) (.cells #[.int .i64 qk, .int .i64 qi, .int .i64 qu, .int .i64 qc, .int .i64 qn, .slice a7 qcs.length c7, .slice a8 qns.length c8] 27)
        have E8 := hide (heap_alloc_new w4 (.cells #[.int .i64 qk, .int .i64 qi, .int .i64 qu, .int .i64 qc, .int .i64 qn, .slice a7 qcs.length c7, .slice a8 qns.length c8] 27))
        replace HV := hide (HV.out.trans (bD.mono HV.out.size))
        replace Q5 := hide (Q5.out.below bD)
        replace Q6 := hide (Q6.out.below bD)
        clear bD
        go_upto_region 13 with fail
        generalize w4.alloc (.cells #[.int .i64 qk, .int .i64 qi, .int .i64 qu, .int .i64 qc, .int .i64 qn, .slice a7 qcs.length c7, .slice a8 qns.length c8] 27) = W4 at *
        go_wp2_with fail
        refine (HQS.out _ HV.out).mono ?_
        rintro e w5 ⟨⟨a9, c9, a10, c10, rfl, _, _⟩, b5⟩
        replace E8 := hide ((b5.block _ (Array.getElem?_eq_some_iff.1 E8.out).1).trans E8.out)
        replace HV := hide (HV.out.trans (b5.mono HV.out.size))
        replace Q5 := hide (Q5.out.below b5)
        replace Q6 := hide (Q6.out.below b5)
        clear b5 HQI HQS
        have bD := (Below.refl w5.heap.size w5).alloc (Nat.le_refl _) (.cells #[.int .i64 qk, .int .i64 qi, .int .i64 qu, .int .i64 qc, .int .i64 qn, .slice a9 qcs.length c9, .slice a10 qns.length c10] 27)
        replace E8 := hide ((bD.block _ (Array.getElem?_eq_some_iff.1 E8.out).1).trans E8.out)
        replace HV := hide (HV.out.trans (bD.mono HV.out.size))
        replace Q5 := hide (Q5.out.below bD)
        replace Q6 := hide (Q6.out.below bD)
        clear bD
        go_upto_region 14 with fail
        generalize w5.alloc (.cells #[.int .i64 qk, .int .i64 qi, .int .i64 qu, .int .i64 qc, .int .i64 qn, .slice a9 qcs.length c9, .slice a10 qns.length c10] 27) = W5 at *
        go_wp2_with fail
        refine (drawMsgOk _ _ _ _ _ (HI.out.at (HB.out.trans (HV.out.mono HB.out.size)))).mono ?_
        rintro e w6 ⟨xk, xi, xu, xc, xn, a11, c11, a12, c12, xs, xt, rfl, x5, x6, lx5, lx6, b6⟩
        have X5 := hide x5
        have X6 := hide x6
        replace E8 := hide ((b6.block _ (Array.getElem?_eq_some_iff.1 E8.out).1).trans E8.out)
        replace HV := hide (HV.out.trans (b6.mono HV.out.size))
        replace Q5 := hide (Q5.out.below b6)
        replace Q6 := hide (Q6.out.below b6)
        clear b6 x5 x6
        have bD := (Below.refl w6.heap.size w6).alloc (Nat.le_refl _) (.cells #[.int .i64 xk, .int .i64 xi, .int .i64 xu, .int .i64 xc, .int .i64 xn, .slice a11 xs.length c11, .slice a12 xt.length c12] 27)
        have E12 := hide (heap_alloc_new w6 (.cells #[.int .i64 xk, .int .i64 xi, .int .i64 xu, .int .i64 xc, .int .i64 xn, .slice a11 xs.length c11, .slice a12 xt.length c12] 27))
        replace E8 := hide ((bD.block _ (Array.getElem?_eq_some_iff.1 E8.out).1).trans E8.out)
        replace HV := hide (HV.out.trans (bD.mono HV.out.size))
        replace Q5 := hide (Q5.out.below bD)
        replace Q6 := hide (Q6.out.below bD)
        replace X5 := hide (X5.out.below bD)
        replace X6 := hide (X6.out.below bD)
        clear bD
        go_upto_region 15 with fail
        generalize w6.alloc (.cells #[.int .i64 xk, .int .i64 xi, .int .i64 xu, .int .i64 xc, .int .i64 xn, .slice a11 xs.length c11, .slice a12 xt.length c12] 27) = W6 at *
        go_wp2_with fail
        refine (drawValOk _ _ _ _ _ (HI.out.at (HB.out.trans (HV.out.mono HB.out.size)))).mono ?_
        rintro e w7 ⟨vb, vy, rfl, b7⟩
        replace E8 := hide ((b7.block _ (Array.getElem?_eq_some_iff.1 E8.out).1).trans E8.out)
        replace E12 := hide ((b7.block _ (Array.getElem?_eq_some_iff.1 E12.out).1).trans E12.out)
        replace HV := hide (HV.out.trans (b7.mono HV.out.size))
        replace Q5 := hide (Q5.out.below b7)
        replace Q6 := hide (Q6.out.below b7)
        replace X5 := hide (X5.out.below b7)
        replace X6 := hide (X6.out.below b7)
        clear b7
        have bD := (Below.refl w7.heap.size w7).alloc (Nat.le_refl _) (.cells #[.bool vb, .int .i64 vy] 36)
        have E13 := hide (heap_alloc_new w7 (.cells #[.bool vb, .int .i64 vy] 36))
        replace E8 := hide ((bD.block _ (Array.getElem?_eq_some_iff.1 E8.out).1).trans E8.out)
        replace E12 := hide ((bD.block _ (Array.getElem?_eq_some_iff.1 E12.out).1).trans E12.out)
        replace HV := hide (HV.out.trans (bD.mono HV.out.size))
        replace Q5 := hide (Q5.out.below bD)
        replace Q6 := hide (Q6.out.below bD)
        replace X5 := hide (X5.out.below bD)
        replace X6 := hide (X6.out.below bD)
        clear bD
        go_upto_region 16 with fail
        generalize w7.alloc (.cells #[.bool vb, .int .i64 vy] 36) = W7 at *
        go_wp2_with fail
        refine (drawNotesOk _ _ _ _ _ (HI.out.at (HB.out.trans (HV.out.mono HB.out.size)))).mono ?_
        rintro e w8 ⟨an, cn, nt, rfl, n6, ln, b8⟩
        have N6 := hide n6
        replace E8 := hide ((b8.block _ (Array.getElem?_eq_some_iff.1 E8.out).1).trans E8.out)
        replace E12 := hide ((b8.block _ (Array.getElem?_eq_some_iff.1 E12.out).1).trans E12.out)
        replace E13 := hide ((b8.block _ (Array.getElem?_eq_some_iff.1 E13.out).1).trans E13.out)
        replace HV := hide (HV.out.trans (b8.mono HV.out.size))
        replace Q5 := hide (Q5.out.below b8)
        replace Q6 := hide (Q6.out.below b8)
        replace X5 := hide (X5.out.below b8)
        replace X6 := hide (X6.out.below b8)
        clear b8 n6
        go_upto_region 17 with fail
        have HBW := hide (HB.out.trans (HV.out.mono HB.out.size))
        have HRW := hide (HR.out.at HV.out)
        generalize w4.heap.size = B8 at *
        generalize w6.heap.size = B12 at *
        generalize w7.heap.size = B13 at *
        have H1 : Hid (∀ V : World, Below w8.heap.size w8 V → Calls Tryd.prog 9 #[msgV xk xi xu xc xn (.slice a11 xs.length c11) (.slice a12 xt.length c12)] V fun e w' => e = .returned (.bool (mOk xk xi xu xc xn xs xt)) ∧ Below V.heap.size V w') := hide (fun V hb => msgImpl V xk xi xu xc xn _ _ xs xt ((X5.out.below hb).rd (Nat.le_refl _)) ((X6.out.below hb).rd (Nat.le_refl _)) (by omega) (by omega))
        have H2 : Hid (∀ V : World, Below w8.heap.size w8 V → Calls Tryd.prog 17 #[msgV xk xi xu xc xn (.slice a11 xs.length c11) (.slice a12 xt.length c12)] V fun e w' => e = .returned (.bool (mOk xk xi xu xc xn xs xt)) ∧ Below V.heap.size V w') := hide (fun V hb => (msgSpec V xk xi xu xc xn _ _ xs xt ((X5.out.below hb).rd (Nat.le_refl _)) ((X6.out.below hb).rd (Nat.le_refl _)) (by omega) (by omega)).mono (fun e w' h => ⟨by rw [h.1, mOk_spec], h.2⟩))
        have H3 : Hid (∀ V : World, Calls Tryd.prog 18 #[.agg #[.bool vb, .int .i64 vy]] V fun e w' => e = .returned (.bool (vOk vb vy)) ∧ Below V.heap.size V w') := hide (fun V => valImpl vb vy V)
        have H4 : Hid (∀ V : World, Calls Tryd.prog 19 #[.agg #[.bool vb, .int .i64 vy]] V fun e w' => e = .returned (.bool (vOk vb vy)) ∧ Below V.heap.size V w') := hide (fun V => valSpec vb vy V)
        have H5 : Hid (∀ V : World, Below w8.heap.size w8 V → Calls Tryd.prog 20 #[.slice an nt.length cn] V fun e w' => e = .returned (.bool (nOk nt)) ∧ Below V.heap.size V w') := hide (fun V hb => notesImpl V _ nt V.heap.size ((N6.out.below hb).rd (Nat.le_refl _)) (Nat.le_refl _) (by omega))
        have H6 : Hid (∀ V : World, Below w8.heap.size w8 V → Calls Tryd.prog 21 #[.slice an nt.length cn] V fun e w' => e = .returned (.bool (nOk nt)) ∧ Below V.heap.size V w') := hide (fun V hb => notesSpec V _ nt V.heap.size ((N6.out.below hb).rd (Nat.le_refl _)) (Nat.le_refl _) (by omega))
        have H7 : Hid (∀ V : World, Below w8.heap.size w8 V → Calls Tryd.prog 7 #[msgV qk qi qu qc qn (.slice a7 qcs.length c7) (.slice a8 qns.length c8)] V fun e w' => ∃ v, e = .returned v ∧ Own w' V.heap.size v (mBytes qk qi qu qc qn qcs qns) ∧ Below V.heap.size V w') := hide (fun V hb => msgBytesImpl V qk qi qu qc qn _ _ qcs qns ((Q5.out.below hb).rd (Nat.le_refl _)) ((Q6.out.below hb).rd (Nat.le_refl _)) (by omega) (by omega))
        have HS : Hid (∀ w', Below w8.heap.size w8 w' → (w'.cell? ⟨B12, 0, none⟩ = some (.int .i64 xk) ∧ w'.cell? ⟨B12, 1, none⟩ = some (.int .i64 xi) ∧ w'.cell? ⟨B12, 2, none⟩ = some (.int .i64 xu) ∧ w'.cell? ⟨B12, 3, none⟩ = some (.int .i64 xc) ∧ w'.cell? ⟨B12, 4, none⟩ = some (.int .i64 xn) ∧ w'.cell? ⟨B12, 5, none⟩ = some (.slice a11 xs.length c11) ∧ w'.cell? ⟨B12, 6, none⟩ = some (.slice a12 xt.length c12)) ∧ (w'.cell? ⟨B13, 0, none⟩ = some (.bool vb) ∧ w'.cell? ⟨B13, 1, none⟩ = some (.int .i64 vy)) ∧ (w'.cell? ⟨B8, 0, none⟩ = some (.int .i64 qk) ∧ w'.cell? ⟨B8, 1, none⟩ = some (.int .i64 qi) ∧ w'.cell? ⟨B8, 2, none⟩ = some (.int .i64 qu) ∧ w'.cell? ⟨B8, 3, none⟩ = some (.int .i64 qc) ∧ w'.cell? ⟨B8, 4, none⟩ = some (.int .i64 qn) ∧ w'.cell? ⟨B8, 5, none⟩ = some (.slice a7 qcs.length c7) ∧ w'.cell? ⟨B8, 6, none⟩ = some (.slice a8 qns.length c8))) := hide (fun w' hb => by
          have X := (box_of ((hb.block _ (Array.getElem?_eq_some_iff.1 E12.out).1).trans E12.out)).1
          have Y := (box_of ((hb.block _ (Array.getElem?_eq_some_iff.1 E13.out).1).trans E13.out)).1
          have Z := (box_of ((hb.block _ (Array.getElem?_eq_some_iff.1 E8.out).1).trans E8.out)).1
          exact ⟨⟨X 0 _ rfl, X 1 _ rfl, X 2 _ rfl, X 3 _ rfl, X 4 _ rfl, X 5 _ rfl, X 6 _ rfl⟩, ⟨Y 0 _ rfl, Y 1 _ rfl⟩, Z 0 _ rfl, Z 1 _ rfl, Z 2 _ rfl, Z 3 _ rfl, Z 4 _ rfl, Z 5 _ rfl, Z 6 _ rfl⟩)
        have HD0 : Hid (Below w8.heap.size w8 w8.drew) := hide (Below.refl _ _).drew
        generalize mOk xk xi xu xc xn xs xt = xB at *
        generalize vOk vb vy = vB at *
        generalize nOk nt = nB at *
        have hxB : (xB == xB) = true := by simp
        have hvB : (vB == vB) = true := by simp
        have hnB : (nB == nB) = true := by simp
        clear HB HR HV E8 E12 E13 HI HE X5 X6 N6 Q5 Q6
        rcases HCS.out with ⟨rfl, hM⟩ | ⟨rfl, hr⟩
        · simp only [M0, M.mk.injEq] at hM
          obtain ⟨rfl, rfl, rfl, rfl, rfl, rfl, rfl⟩ := hM
          clear HCS HRW H7
          refine wp_region_held_drew (S := fun w' => (w'.cell? ⟨B12, 0, none⟩ = some (.int .i64 xk) ∧ w'.cell? ⟨B12, 1, none⟩ = some (.int .i64 xi) ∧ w'.cell? ⟨B12, 2, none⟩ = some (.int .i64 xu) ∧ w'.cell? ⟨B12, 3, none⟩ = some (.int .i64 xc) ∧ w'.cell? ⟨B12, 4, none⟩ = some (.int .i64 xn) ∧ w'.cell? ⟨B12, 5, none⟩ = some (.slice a11 xs.length c11) ∧ w'.cell? ⟨B12, 6, none⟩ = some (.slice a12 xt.length c12)) ∧ (w'.cell? ⟨B13, 0, none⟩ = some (.bool vb) ∧ w'.cell? ⟨B13, 1, none⟩ = some (.int .i64 vy)) ∧ (w'.cell? ⟨B8, 0, none⟩ = some (.int .i64 0) ∧ w'.cell? ⟨B8, 1, none⟩ = some (.int .i64 0) ∧ w'.cell? ⟨B8, 2, none⟩ = some (.int .i64 0) ∧ w'.cell? ⟨B8, 3, none⟩ = some (.int .i64 0) ∧ w'.cell? ⟨B8, 4, none⟩ = some (.int .i64 0) ∧ w'.cell? ⟨B8, 5, none⟩ = some (.slice a7 ([] : List (Int × Bool × Int)).length c7) ∧ w'.cell? ⟨B8, 6, none⟩ = some (.slice a8 ([] : List (Int × Int)).length c8))) (by kernel_rfl) (HS.out _ HD0.out) (fun hHeld => ?_)
          refine wpAnyH_take (i := 0) (v := ?_) rfl (by kernel_rfl) (by kernel_rfl) (by kernel_rfl) (fun _ _ _ h => h) (Or.inl ⟨by rfl, ?_⟩) (by assumption) ?_
          rotate_left
          · intro w' hSw
            try dsimp only at hSw
            go_simp
            try rfl
          simp only [List.getElem_toArray, List.getElem_cons_zero, Act.put, List.setIfInBounds_toArray, List.set_cons_zero, List.set_cons_succ]
          refine wpAnyH_take (i := 2) (v := ?_) rfl (by kernel_rfl) (by kernel_rfl) (by kernel_rfl) (fun _ _ _ h => h) (Or.inl ⟨by rfl, ?_⟩) (by assumption) ?_
          rotate_left
          · intro w' hSw
            try dsimp only at hSw
            go_simp
            try rfl
          simp only [List.getElem_toArray, List.getElem_cons_succ, List.getElem_cons_zero, Act.put, List.setIfInBounds_toArray, List.set_cons_zero, List.set_cons_succ]
          refine wpAnyH_ready (rs := [1]) (by kernel_rfl) (by simp) (AllReadyH.cons rfl (fun K hK => ?_) AllReadyH.nil)
          refine step_callW (some 70) rfl (by kernel_rfl) 9 _ _ rfl #[msgV xk xi xu xc xn (.slice a11 xs.length c11) (.slice a12 xt.length c12)] (by kernel_rfl) (H1.out _ HD0.out) ?_; rintro e y1 ⟨rfl, bb⟩; refine ⟨_, rfl, ?_⟩; have HD1 : Hid (Below w8.heap.size w8 y1) := hide (HD0.out.trans (bb.mono HD0.out.size)); clear bb
          refine hK.out _ _ (HS.out _ HD1.out) (fun hHeld => ?_)
          clear hK K
          simp only [Act.put, List.setIfInBounds_toArray, List.set_cons_zero, List.set_cons_succ]
          refine wpAnyH_ready (rs := [3]) (by kernel_rfl) (by simp) (AllReadyH.cons rfl (fun K hK => ?_) AllReadyH.nil)
          refine step_callW (some 72) rfl (by kernel_rfl) 17 _ _ rfl #[msgV xk xi xu xc xn (.slice a11 xs.length c11) (.slice a12 xt.length c12)] (by kernel_rfl) (H2.out _ HD1.out) ?_; rintro e y2 ⟨rfl, bb⟩; refine ⟨_, rfl, ?_⟩; have HD2 : Hid (Below w8.heap.size w8 y2) := hide (HD1.out.trans (bb.mono HD1.out.size)); clear bb
          refine hK.out _ _ (HS.out _ HD2.out) (fun hHeld => ?_)
          clear hK K
          simp only [Act.put, List.setIfInBounds_toArray, List.set_cons_zero, List.set_cons_succ]
          refine wpAnyH_take (i := 4) (v := ?_) rfl (by kernel_rfl) (by kernel_rfl) (by kernel_rfl) (fun _ _ _ h => h) (Or.inl ⟨by rfl, ?_⟩) (by assumption) ?_
          rotate_left
          · intro w' hSw
            try dsimp only at hSw
            go_simp
            try rfl
          simp only [List.getElem_toArray, List.getElem_cons_succ, List.getElem_cons_zero, Act.put, List.setIfInBounds_toArray, List.set_cons_zero, List.set_cons_succ]
          refine wpAnyH_take (i := 5) (v := ?_) rfl (by kernel_rfl) (by kernel_rfl) (by kernel_rfl) (fun _ _ _ h => h) (Or.inl ⟨by rfl, ?_⟩) (by assumption) ?_
          rotate_left
          · intro w' hSw
            try dsimp only at hSw
            go_simp
            try rfl
          simp only [List.getElem_toArray, List.getElem_cons_succ, List.getElem_cons_zero, Act.put, List.setIfInBounds_toArray, List.set_cons_zero, List.set_cons_succ]
          refine wpAnyH_take (i := 6) (v := ?_) rfl (by kernel_rfl) (by kernel_rfl) (by kernel_rfl) (fun _ _ _ h => h) (Or.inl ⟨by rfl, ?_⟩) (by assumption) ?_
          rotate_left
          · intro w' hSw
            try dsimp only at hSw
            go_simp
            try rfl
          simp only [List.getElem_toArray, List.getElem_cons_succ, List.getElem_cons_zero, Act.put, List.setIfInBounds_toArray, List.set_cons_zero, List.set_cons_succ]
          refine wpAnyH_take (i := 8) (v := ?_) rfl (by kernel_rfl) (by kernel_rfl) (by kernel_rfl) (fun _ _ _ h => h) (Or.inl ⟨by rfl, ?_⟩) (by assumption) ?_
          rotate_left
          · intro w' hSw
            try dsimp only at hSw
            go_simp
            try rfl
          simp only [List.getElem_toArray, List.getElem_cons_succ, List.getElem_cons_zero, Act.put, List.setIfInBounds_toArray, List.set_cons_zero, List.set_cons_succ]
          refine wpAnyH_ready (rs := [7]) (by kernel_rfl) (by simp) (AllReadyH.cons rfl (fun K hK => ?_) AllReadyH.nil)
          refine step_callW (some 76) rfl (by kernel_rfl) 18 _ _ rfl #[.agg #[.bool vb, .int .i64 vy]] (by kernel_rfl) (H3.out _) ?_; rintro e y3 ⟨rfl, bb⟩; refine ⟨_, rfl, ?_⟩; have HD3 : Hid (Below w8.heap.size w8 y3) := hide (HD2.out.trans (bb.mono HD2.out.size)); clear bb
          refine hK.out _ _ (HS.out _ HD3.out) (fun hHeld => ?_)
          clear hK K
          simp only [Act.put, List.setIfInBounds_toArray, List.set_cons_zero, List.set_cons_succ]
          refine wpAnyH_ready (rs := [9]) (by kernel_rfl) (by simp) (AllReadyH.cons rfl (fun K hK => ?_) AllReadyH.nil)
          refine step_callW (some 78) rfl (by kernel_rfl) 19 _ _ rfl #[.agg #[.bool vb, .int .i64 vy]] (by kernel_rfl) (H4.out _) ?_; rintro e y4 ⟨rfl, bb⟩; refine ⟨_, rfl, ?_⟩; have HD4 : Hid (Below w8.heap.size w8 y4) := hide (HD3.out.trans (bb.mono HD3.out.size)); clear bb
          refine hK.out _ _ (HS.out _ HD4.out) (fun hHeld => ?_)
          clear hK K
          simp only [Act.put, List.setIfInBounds_toArray, List.set_cons_zero, List.set_cons_succ]
          refine wpAnyH_take (i := 10) (v := ?_) rfl (by kernel_rfl) (by kernel_rfl) (by kernel_rfl) (fun _ _ _ h => h) (Or.inl ⟨by rfl, ?_⟩) (by assumption) ?_
          rotate_left
          · intro w' hSw
            try dsimp only at hSw
            go_simp
            try rfl
          simp only [List.getElem_toArray, List.getElem_cons_succ, List.getElem_cons_zero, Act.put, List.setIfInBounds_toArray, List.set_cons_zero, List.set_cons_succ]
          refine wpAnyH_take (i := 11) (v := ?_) rfl (by kernel_rfl) (by kernel_rfl) (by kernel_rfl) (fun _ _ _ h => h) (Or.inl ⟨by rfl, ?_⟩) (by assumption) ?_
          rotate_left
          · intro w' hSw
            try dsimp only at hSw
            go_simp
            try rfl
          simp only [List.getElem_toArray, List.getElem_cons_succ, List.getElem_cons_zero, Act.put, List.setIfInBounds_toArray, List.set_cons_zero, List.set_cons_succ]
          refine wpAnyH_take (i := 12) (v := ?_) rfl (by kernel_rfl) (by kernel_rfl) (by kernel_rfl) (fun _ _ _ h => h) (Or.inl ⟨by rfl, ?_⟩) (by assumption) ?_
          rotate_left
          · intro w' hSw
            try dsimp only at hSw
            go_simp
            try rfl
          simp only [List.getElem_toArray, List.getElem_cons_succ, List.getElem_cons_zero, Act.put, List.setIfInBounds_toArray, List.set_cons_zero, List.set_cons_succ]
          refine wpAnyH_take (i := 13) (v := ?_) rfl (by kernel_rfl) (by kernel_rfl) (by kernel_rfl) (fun _ _ _ h => h) (Or.inl ⟨by rfl, ?_⟩) (by assumption) ?_
          rotate_left
          · intro w' hSw
            try dsimp only at hSw
            go_simp
            try rfl
          simp only [List.getElem_toArray, List.getElem_cons_succ, List.getElem_cons_zero, Act.put, List.setIfInBounds_toArray, List.set_cons_zero, List.set_cons_succ]
          refine wpAnyH_take (i := 15) (v := ?_) rfl (by kernel_rfl) (by kernel_rfl) (by kernel_rfl) (fun _ _ _ h => h) (Or.inl ⟨by rfl, ?_⟩) (by assumption) ?_
          rotate_left
          · intro w' hSw
            try dsimp only at hSw
            go_simp
            try rfl
          simp only [List.getElem_toArray, List.getElem_cons_succ, List.getElem_cons_zero, Act.put, List.setIfInBounds_toArray, List.set_cons_zero, List.set_cons_succ]
          refine wpAnyH_ready (rs := [14]) (by kernel_rfl) (by simp) (AllReadyH.cons rfl (fun K hK => ?_) AllReadyH.nil)
          refine step_callW (some 83) rfl (by kernel_rfl) 20 _ _ rfl #[.slice an nt.length cn] (by kernel_rfl) (H5.out _ HD4.out) ?_; rintro e y5 ⟨rfl, bb⟩; refine ⟨_, rfl, ?_⟩; have HD5 : Hid (Below w8.heap.size w8 y5) := hide (HD4.out.trans (bb.mono HD4.out.size)); clear bb
          refine hK.out _ _ (HS.out _ HD5.out) (fun hHeld => ?_)
          clear hK K
          simp only [Act.put, List.setIfInBounds_toArray, List.set_cons_zero, List.set_cons_succ]
          refine wpAnyH_ready (rs := [16]) (by kernel_rfl) (by simp) (AllReadyH.cons rfl (fun K hK => ?_) AllReadyH.nil)
          refine step_callW (some 85) rfl (by kernel_rfl) 21 _ _ rfl #[.slice an nt.length cn] (by kernel_rfl) (H6.out _ HD5.out) ?_; rintro e y6 ⟨rfl, bb⟩; refine ⟨_, rfl, ?_⟩; have HD6 : Hid (Below w8.heap.size w8 y6) := hide (HD5.out.trans (bb.mono HD5.out.size)); clear bb
          refine hK.out _ _ (HS.out _ HD6.out) (fun hHeld => ?_)
          clear hK K
          simp only [Act.put, List.setIfInBounds_toArray, List.set_cons_zero, List.set_cons_succ]
          refine wpAnyH_take (i := 17) (v := ?_) rfl (by kernel_rfl) (by kernel_rfl) (by kernel_rfl) (fun _ _ _ h => h) (Or.inl ⟨by rfl, ?_⟩) (by assumption) ?_
          rotate_left
          · intro w' hSw
            try dsimp only at hSw
            go_simp
            try rfl
          simp only [List.getElem_toArray, List.getElem_cons_succ, List.getElem_cons_zero, Act.put, List.setIfInBounds_toArray, List.set_cons_zero, List.set_cons_succ]
          refine wpAnyH_take (i := 18) (v := ?_) rfl (by kernel_rfl) (by kernel_rfl) (by kernel_rfl) (fun _ _ _ h => h) (Or.inl ⟨by rfl, ?_⟩) (by assumption) ?_
          rotate_left
          · intro w' hSw
            try dsimp only at hSw
            go_simp
            try rfl
          simp only [List.getElem_toArray, List.getElem_cons_succ, List.getElem_cons_zero, Act.put, List.setIfInBounds_toArray, List.set_cons_zero, List.set_cons_succ]
          refine wpAnyH_take (i := 19) (v := ?_) rfl (by kernel_rfl) (by kernel_rfl) (by kernel_rfl) (fun _ _ _ h => h) (Or.inl ⟨by rfl, ?_⟩) (by assumption) ?_
          rotate_left
          · intro w' hSw
            try dsimp only at hSw
            go_simp
            try rfl
          simp only [List.getElem_toArray, List.getElem_cons_succ, List.getElem_cons_zero, Act.put, List.setIfInBounds_toArray, List.set_cons_zero, List.set_cons_succ]
          refine wpAnyH_take (i := 20) (v := ?_) rfl (by kernel_rfl) (by kernel_rfl) (by kernel_rfl) (fun _ _ _ h => h) (Or.inl ⟨by rfl, ?_⟩) (by assumption) ?_
          rotate_left
          · intro w' hSw
            try dsimp only at hSw
            go_simp
            try rfl
          simp only [List.getElem_toArray, List.getElem_cons_succ, List.getElem_cons_zero, Act.put, List.setIfInBounds_toArray, List.set_cons_zero, List.set_cons_succ]
          refine wpAnyH_take (i := 21) (v := ?_) rfl (by kernel_rfl) (by kernel_rfl) (by kernel_rfl) (fun _ _ _ h => h) (Or.inl ⟨by rfl, ?_⟩) (by assumption) ?_
          rotate_left
          · intro w' hSw
            try dsimp only at hSw
            go_simp
            try rfl
          simp only [List.getElem_toArray, List.getElem_cons_succ, List.getElem_cons_zero, Act.put, List.setIfInBounds_toArray, List.set_cons_zero, List.set_cons_succ]
          refine wpAnyH_take (i := 22) (v := ?_) rfl (by kernel_rfl) (by kernel_rfl) (by kernel_rfl) (fun _ _ _ h => h) (Or.inl ⟨by rfl, ?_⟩) (by assumption) ?_
          rotate_left
          · intro w' hSw
            try dsimp only at hSw
            go_simp
            try rfl
          simp only [List.getElem_toArray, List.getElem_cons_succ, List.getElem_cons_zero, Act.put, List.setIfInBounds_toArray, List.set_cons_zero, List.set_cons_succ]
          refine wpAnyH_take (i := 23) (v := ?_) rfl (by kernel_rfl) (by kernel_rfl) (by kernel_rfl) (fun _ _ _ h => h) (Or.inl ⟨by rfl, ?_⟩) (by assumption) ?_
          rotate_left
          · intro w' hSw
            try dsimp only at hSw
            go_simp
            try rfl
          simp only [List.getElem_toArray, List.getElem_cons_succ, List.getElem_cons_zero, Act.put, List.setIfInBounds_toArray, List.set_cons_zero, List.set_cons_succ]
          refine wpAnyH_take (i := 24) (v := ?_) rfl (by kernel_rfl) (by kernel_rfl) (by kernel_rfl) (fun _ _ _ h => h) (Or.inl ⟨by rfl, ?_⟩) (by assumption) ?_
          rotate_left
          · intro w' hSw
            try dsimp only at hSw
            go_simp
            try rfl
          simp only [List.getElem_toArray, List.getElem_cons_succ, List.getElem_cons_zero, Act.put, List.setIfInBounds_toArray, List.set_cons_zero, List.set_cons_succ]
          refine wpAnyH_take (i := 25) (v := ?_) rfl (by kernel_rfl) (by kernel_rfl) (by kernel_rfl) (fun _ _ _ h => h) (Or.inl ⟨by rfl, ?_⟩) (by assumption) ?_
          rotate_left
          · intro w' hSw
            try dsimp only at hSw
            go_simp
            try rfl
          simp only [List.getElem_toArray, List.getElem_cons_succ, List.getElem_cons_zero, Act.put, List.setIfInBounds_toArray, List.set_cons_zero, List.set_cons_succ]
          refine wpAnyH_take (i := 26) (v := ?_) rfl (by kernel_rfl) (by kernel_rfl) (by kernel_rfl) (fun _ _ _ h => h) (Or.inl ⟨by rfl, ?_⟩) (by assumption) ?_
          rotate_left
          · intro w' hSw
            try dsimp only at hSw
            go_simp
            try rfl
          simp only [List.getElem_toArray, List.getElem_cons_succ, List.getElem_cons_zero, Act.put, List.setIfInBounds_toArray, List.set_cons_zero, List.set_cons_succ]
          refine wpAnyH_take (i := 27) (v := ?_) rfl (by kernel_rfl) (by kernel_rfl) (by kernel_rfl) (fun _ _ _ h => h) (Or.inl ⟨by rfl, ?_⟩) (by assumption) ?_
          rotate_left
          · intro w' hSw
            try dsimp only at hSw
            go_simp
            try rfl
          simp only [List.getElem_toArray, List.getElem_cons_succ, List.getElem_cons_zero, Act.put, List.setIfInBounds_toArray, List.set_cons_zero, List.set_cons_succ]
          refine wpAnyH_take (i := 28) (v := ?_) rfl (by kernel_rfl) (by kernel_rfl) (by kernel_rfl) (fun _ _ _ h => h) (Or.inl ⟨by rfl, ?_⟩) (by assumption) ?_
          rotate_left
          · intro w' hSw
            try dsimp only at hSw
            go_simp
            try rfl
          simp only [List.getElem_toArray, List.getElem_cons_succ, List.getElem_cons_zero, Act.put, List.setIfInBounds_toArray, List.set_cons_zero, List.set_cons_succ]
          refine wpAnyH_take (i := 29) (v := ?_) rfl (by kernel_rfl) (by kernel_rfl) (by kernel_rfl) (fun _ _ _ h => h) (Or.inl ⟨by rfl, ?_⟩) (by assumption) ?_
          rotate_left
          · intro w' hSw
            try dsimp only at hSw
            go_simp
            try rfl
          simp only [List.getElem_toArray, List.getElem_cons_succ, List.getElem_cons_zero, Act.put, List.setIfInBounds_toArray, List.set_cons_zero, List.set_cons_succ]
          refine wpAnyH_take (i := 30) (v := ?_) rfl (by kernel_rfl) (by kernel_rfl) (by kernel_rfl) (fun _ _ _ h => h) (Or.inl ⟨by rfl, ?_⟩) (by assumption) ?_
          rotate_left
          · intro w' hSw
            try dsimp only at hSw
            go_simp
            try rfl
          simp only [List.getElem_toArray, List.getElem_cons_succ, List.getElem_cons_zero, Act.put, List.setIfInBounds_toArray, List.set_cons_zero, List.set_cons_succ]
          refine wpAnyH_take (i := 31) (v := ?_) rfl (by kernel_rfl) (by kernel_rfl) (by kernel_rfl) (fun _ _ _ h => h) (Or.inl ⟨by rfl, ?_⟩) (by assumption) ?_
          rotate_left
          · intro w' hSw
            try dsimp only at hSw
            go_simp
            try rfl
          simp only [List.getElem_toArray, List.getElem_cons_succ, List.getElem_cons_zero, Act.put, List.setIfInBounds_toArray, List.set_cons_zero, List.set_cons_succ]
          refine wpAnyH_take (i := 32) (v := ?_) rfl (by kernel_rfl) (by kernel_rfl) (by kernel_rfl) (fun _ _ _ h => h) (Or.inl ⟨by rfl, ?_⟩) (by assumption) ?_
          rotate_left
          · intro w' hSw
            try dsimp only at hSw
            go_simp
            try rfl
          simp only [List.getElem_toArray, List.getElem_cons_succ, List.getElem_cons_zero, Act.put, List.setIfInBounds_toArray, List.set_cons_zero, List.set_cons_succ]
          refine wpAnyH_take (i := 33) (v := undef) rfl (by kernel_rfl) (by kernel_rfl) (by kernel_rfl) (fun _ _ _ h => h) (Or.inr ⟨by rfl, rfl⟩) (by assumption) ?_
          simp only [List.getElem_toArray, List.getElem_cons_succ, List.getElem_cons_zero, Act.put, List.setIfInBounds_toArray, List.set_cons_zero, List.set_cons_succ]
          refine wpAnyH_take (i := 34) (v := undef) rfl (by kernel_rfl) (by kernel_rfl) (by kernel_rfl) (fun _ _ _ h => h) (Or.inr ⟨by rfl, rfl⟩) (by assumption) ?_
          simp only [List.getElem_toArray, List.getElem_cons_succ, List.getElem_cons_zero, Act.put, List.setIfInBounds_toArray, List.set_cons_zero, List.set_cons_succ]
          refine wpAnyH_take (i := 35) (v := undef) rfl (by kernel_rfl) (by kernel_rfl) (by kernel_rfl) (fun _ _ _ h => h) (Or.inr ⟨by rfl, rfl⟩) (by assumption) ?_
          simp only [List.getElem_toArray, List.getElem_cons_succ, List.getElem_cons_zero, Act.put, List.setIfInBounds_toArray, List.set_cons_zero, List.set_cons_succ]
          refine wpAnyH_take (i := 36) (v := undef) rfl (by kernel_rfl) (by kernel_rfl) (by kernel_rfl) (fun _ _ _ h => h) (Or.inr ⟨by rfl, rfl⟩) (by assumption) ?_
          simp only [List.getElem_toArray, List.getElem_cons_succ, List.getElem_cons_zero, Act.put, List.setIfInBounds_toArray, List.set_cons_zero, List.set_cons_succ]
          refine wpAnyH_take (i := 37) (v := undef) rfl (by kernel_rfl) (by kernel_rfl) (by kernel_rfl) (fun _ _ _ h => h) (Or.inr ⟨by rfl, rfl⟩) (by assumption) ?_
          simp only [List.getElem_toArray, List.getElem_cons_succ, List.getElem_cons_zero, Act.put, List.setIfInBounds_toArray, List.set_cons_zero, List.set_cons_succ]
          refine wpAnyH_take (i := 38) (v := undef) rfl (by kernel_rfl) (by kernel_rfl) (by kernel_rfl) (fun _ _ _ h => h) (Or.inr ⟨by rfl, rfl⟩) (by assumption) ?_
          simp only [List.getElem_toArray, List.getElem_cons_succ, List.getElem_cons_zero, Act.put, List.setIfInBounds_toArray, List.set_cons_zero, List.set_cons_succ]
          refine wpAnyH_take (i := 39) (v := undef) rfl (by kernel_rfl) (by kernel_rfl) (by kernel_rfl) (fun _ _ _ h => h) (Or.inr ⟨by rfl, rfl⟩) (by assumption) ?_
          simp only [List.getElem_toArray, List.getElem_cons_succ, List.getElem_cons_zero, Act.put, List.setIfInBounds_toArray, List.set_cons_zero, List.set_cons_succ]
          refine wpAnyH_take (i := 40) (v := undef) rfl (by kernel_rfl) (by kernel_rfl) (by kernel_rfl) (fun _ _ _ h => h) (Or.inr ⟨by rfl, rfl⟩) (by assumption) ?_
          simp only [List.getElem_toArray, List.getElem_cons_succ, List.getElem_cons_zero, Act.put, List.setIfInBounds_toArray, List.set_cons_zero, List.set_cons_succ]
          refine wpAnyH_take (i := 41) (v := undef) rfl (by kernel_rfl) (by kernel_rfl) (by kernel_rfl) (fun _ _ _ h => h) (Or.inr ⟨by rfl, rfl⟩) (by assumption) ?_
          simp only [List.getElem_toArray, List.getElem_cons_succ, List.getElem_cons_zero, Act.put, List.setIfInBounds_toArray, List.set_cons_zero, List.set_cons_succ]
          refine wpAnyH_take (i := 42) (v := ?_) rfl (by kernel_rfl) (by kernel_rfl) (by kernel_rfl) (fun _ _ _ h => h) (Or.inl ⟨by rfl, ?_⟩) (by assumption) ?_
          rotate_left
          · intro w' hSw
            try dsimp only at hSw
            go_simp
            try rfl
          simp only [List.getElem_toArray, List.getElem_cons_succ, List.getElem_cons_zero, Act.put, List.setIfInBounds_toArray, List.set_cons_zero, List.set_cons_succ]
          refine wpAnyH_take (i := 43) (v := ?_) rfl (by kernel_rfl) (by kernel_rfl) (by kernel_rfl) (fun _ _ _ h => h) (Or.inl ⟨by rfl, ?_⟩) (by assumption) ?_
          rotate_left
          · intro w' hSw
            try dsimp only at hSw
            go_simp
            try rfl
          simp only [List.getElem_toArray, List.getElem_cons_succ, List.getElem_cons_zero, Act.put, List.setIfInBounds_toArray, List.set_cons_zero, List.set_cons_succ]
          refine wpAnyH_take (i := 44) (v := ?_) rfl (by kernel_rfl) (by kernel_rfl) (by kernel_rfl) (fun _ _ _ h => h) (Or.inl ⟨by rfl, ?_⟩) (by assumption) ?_
          rotate_left
          · intro w' hSw
            try dsimp only at hSw
            go_simp
            try rfl
          simp only [List.getElem_toArray, List.getElem_cons_succ, List.getElem_cons_zero, Act.put, List.setIfInBounds_toArray, List.set_cons_zero, List.set_cons_succ]
          refine wpAnyH_done (by kernel_rfl) ?_ _
          go_wp2
          go_ret
          exact ⟨rfl, HBW.out.trans (HD6.out.mono HBW.out.size)⟩
        · have hb := (mOf_iff (inByt HRW.out) _).1 hr
          have hok : mOk qk qi qu qc qn qcs qns = true := hb.1
          have hbs : mBytes qk qi qu qc qn qcs qns = ys := by
            unfold mBytes
            rw [hok]
            exact hb.2.symm
          have hpos := mB_pos hok
          rw [hbs] at hpos H7
          have hlr' := HRW.out.1
          obtain ⟨b, o, rfl, _, _⟩ := HRW.out.2.2.2 (by omega)
          have HCR : Hid (∀ w', Below w8.heap.size w8 w' → (convert 22 9 (.slice (some ⟨b, o, none⟩) lr cr)).run Tryd.prog w' = .ok (.string (strOfNums ys)) w') := hide (fun w' hb => in_str _ (HRW.out.at hb))
          generalize hS : strOfNums ys = SS at *
          have HSS := hide hS
          have hss : (SS.toList == SS.toList) = true := by simp
          clear hS hr hb hok hbs HCS HRW hpos hlr'
          refine wp_region_held_drew (S := fun w' => ((w'.cell? ⟨B12, 0, none⟩ = some (.int .i64 xk) ∧ w'.cell? ⟨B12, 1, none⟩ = some (.int .i64 xi) ∧ w'.cell? ⟨B12, 2, none⟩ = some (.int .i64 xu) ∧ w'.cell? ⟨B12, 3, none⟩ = some (.int .i64 xc) ∧ w'.cell? ⟨B12, 4, none⟩ = some (.int .i64 xn) ∧ w'.cell? ⟨B12, 5, none⟩ = some (.slice a11 xs.length c11) ∧ w'.cell? ⟨B12, 6, none⟩ = some (.slice a12 xt.length c12)) ∧ (w'.cell? ⟨B13, 0, none⟩ = some (.bool vb) ∧ w'.cell? ⟨B13, 1, none⟩ = some (.int .i64 vy)) ∧ (w'.cell? ⟨B8, 0, none⟩ = some (.int .i64 qk) ∧ w'.cell? ⟨B8, 1, none⟩ = some (.int .i64 qi) ∧ w'.cell? ⟨B8, 2, none⟩ = some (.int .i64 qu) ∧ w'.cell? ⟨B8, 3, none⟩ = some (.int .i64 qc) ∧ w'.cell? ⟨B8, 4, none⟩ = some (.int .i64 qn) ∧ w'.cell? ⟨B8, 5, none⟩ = some (.slice a7 qcs.length c7) ∧ w'.cell? ⟨B8, 6, none⟩ = some (.slice a8 qns.length c8))) ∧ (convert 22 9 (.slice (some ⟨b, o, none⟩) lr cr)).run Tryd.prog w' = .ok (.string SS) w') (by kernel_rfl) (⟨HS.out _ HD0.out, HCR.out _ HD0.out⟩) (fun hHeld => ?_)
          refine wpAnyH_take (i := 0) (v := ?_) rfl (by kernel_rfl) (by kernel_rfl) (by kernel_rfl) (fun _ _ _ h => h) (Or.inl ⟨by rfl, ?_⟩) (by assumption) ?_
          rotate_left
          · intro w' hSw
            try dsimp only at hSw
            go_simp
            try rfl
          simp only [List.getElem_toArray, List.getElem_cons_zero, Act.put, List.setIfInBounds_toArray, List.set_cons_zero, List.set_cons_succ]
          refine wpAnyH_take (i := 2) (v := ?_) rfl (by kernel_rfl) (by kernel_rfl) (by kernel_rfl) (fun _ _ _ h => h) (Or.inl ⟨by rfl, ?_⟩) (by assumption) ?_
          rotate_left
          · intro w' hSw
            try dsimp only at hSw
            go_simp
            try rfl
          simp only [List.getElem_toArray, List.getElem_cons_succ, List.getElem_cons_zero, Act.put, List.setIfInBounds_toArray, List.set_cons_zero, List.set_cons_succ]
          refine wpAnyH_ready (rs := [1]) (by kernel_rfl) (by simp) (AllReadyH.cons rfl (fun K hK => ?_) AllReadyH.nil)
          refine step_callW (some 70) rfl (by kernel_rfl) 9 _ _ rfl #[msgV xk xi xu xc xn (.slice a11 xs.length c11) (.slice a12 xt.length c12)] (by kernel_rfl) (H1.out _ HD0.out) ?_; rintro e y1 ⟨rfl, bb⟩; refine ⟨_, rfl, ?_⟩; have HD1 : Hid (Below w8.heap.size w8 y1) := hide (HD0.out.trans (bb.mono HD0.out.size)); clear bb
          refine hK.out _ _ (⟨HS.out _ HD1.out, HCR.out _ HD1.out⟩) (fun hHeld => ?_)
          clear hK K
          simp only [Act.put, List.setIfInBounds_toArray, List.set_cons_zero, List.set_cons_succ]
          refine wpAnyH_ready (rs := [3]) (by kernel_rfl) (by simp) (AllReadyH.cons rfl (fun K hK => ?_) AllReadyH.nil)
          refine step_callW (some 72) rfl (by kernel_rfl) 17 _ _ rfl #[msgV xk xi xu xc xn (.slice a11 xs.length c11) (.slice a12 xt.length c12)] (by kernel_rfl) (H2.out _ HD1.out) ?_; rintro e y2 ⟨rfl, bb⟩; refine ⟨_, rfl, ?_⟩; have HD2 : Hid (Below w8.heap.size w8 y2) := hide (HD1.out.trans (bb.mono HD1.out.size)); clear bb
          refine hK.out _ _ (⟨HS.out _ HD2.out, HCR.out _ HD2.out⟩) (fun hHeld => ?_)
          clear hK K
          simp only [Act.put, List.setIfInBounds_toArray, List.set_cons_zero, List.set_cons_succ]
          refine wpAnyH_take (i := 4) (v := ?_) rfl (by kernel_rfl) (by kernel_rfl) (by kernel_rfl) (fun _ _ _ h => h) (Or.inl ⟨by rfl, ?_⟩) (by assumption) ?_
          rotate_left
          · intro w' hSw
            try dsimp only at hSw
            go_simp
            try rfl
          simp only [List.getElem_toArray, List.getElem_cons_succ, List.getElem_cons_zero, Act.put, List.setIfInBounds_toArray, List.set_cons_zero, List.set_cons_succ]
          refine wpAnyH_take (i := 5) (v := ?_) rfl (by kernel_rfl) (by kernel_rfl) (by kernel_rfl) (fun _ _ _ h => h) (Or.inl ⟨by rfl, ?_⟩) (by assumption) ?_
          rotate_left
          · intro w' hSw
            try dsimp only at hSw
            go_simp
            try rfl
          simp only [List.getElem_toArray, List.getElem_cons_succ, List.getElem_cons_zero, Act.put, List.setIfInBounds_toArray, List.set_cons_zero, List.set_cons_succ]
          refine wpAnyH_take (i := 6) (v := ?_) rfl (by kernel_rfl) (by kernel_rfl) (by kernel_rfl) (fun _ _ _ h => h) (Or.inl ⟨by rfl, ?_⟩) (by assumption) ?_
          rotate_left
          · intro w' hSw
            try dsimp only at hSw
            go_simp
            try rfl
          simp only [List.getElem_toArray, List.getElem_cons_succ, List.getElem_cons_zero, Act.put, List.setIfInBounds_toArray, List.set_cons_zero, List.set_cons_succ]
          refine wpAnyH_take (i := 8) (v := ?_) rfl (by kernel_rfl) (by kernel_rfl) (by kernel_rfl) (fun _ _ _ h => h) (Or.inl ⟨by rfl, ?_⟩) (by assumption) ?_
          rotate_left
          · intro w' hSw
            try dsimp only at hSw
            go_simp
            try rfl
          simp only [List.getElem_toArray, List.getElem_cons_succ, List.getElem_cons_zero, Act.put, List.setIfInBounds_toArray, List.set_cons_zero, List.set_cons_succ]
          refine wpAnyH_ready (rs := [7]) (by kernel_rfl) (by simp) (AllReadyH.cons rfl (fun K hK => ?_) AllReadyH.nil)
          refine step_callW (some 76) rfl (by kernel_rfl) 18 _ _ rfl #[.agg #[.bool vb, .int .i64 vy]] (by kernel_rfl) (H3.out _) ?_; rintro e y3 ⟨rfl, bb⟩; refine ⟨_, rfl, ?_⟩; have HD3 : Hid (Below w8.heap.size w8 y3) := hide (HD2.out.trans (bb.mono HD2.out.size)); clear bb
          refine hK.out _ _ (⟨HS.out _ HD3.out, HCR.out _ HD3.out⟩) (fun hHeld => ?_)
          clear hK K
          simp only [Act.put, List.setIfInBounds_toArray, List.set_cons_zero, List.set_cons_succ]
          refine wpAnyH_ready (rs := [9]) (by kernel_rfl) (by simp) (AllReadyH.cons rfl (fun K hK => ?_) AllReadyH.nil)
          refine step_callW (some 78) rfl (by kernel_rfl) 19 _ _ rfl #[.agg #[.bool vb, .int .i64 vy]] (by kernel_rfl) (H4.out _) ?_; rintro e y4 ⟨rfl, bb⟩; refine ⟨_, rfl, ?_⟩; have HD4 : Hid (Below w8.heap.size w8 y4) := hide (HD3.out.trans (bb.mono HD3.out.size)); clear bb
          refine hK.out _ _ (⟨HS.out _ HD4.out, HCR.out _ HD4.out⟩) (fun hHeld => ?_)
          clear hK K
          simp only [Act.put, List.setIfInBounds_toArray, List.set_cons_zero, List.set_cons_succ]
          refine wpAnyH_take (i := 10) (v := ?_) rfl (by kernel_rfl) (by kernel_rfl) (by kernel_rfl) (fun _ _ _ h => h) (Or.inl ⟨by rfl, ?_⟩) (by assumption) ?_
          rotate_left
          · intro w' hSw
            try dsimp only at hSw
            go_simp
            try rfl
          simp only [List.getElem_toArray, List.getElem_cons_succ, List.getElem_cons_zero, Act.put, List.setIfInBounds_toArray, List.set_cons_zero, List.set_cons_succ]
          refine wpAnyH_take (i := 11) (v := ?_) rfl (by kernel_rfl) (by kernel_rfl) (by kernel_rfl) (fun _ _ _ h => h) (Or.inl ⟨by rfl, ?_⟩) (by assumption) ?_
          rotate_left
          · intro w' hSw
            try dsimp only at hSw
            go_simp
            try rfl
          simp only [List.getElem_toArray, List.getElem_cons_succ, List.getElem_cons_zero, Act.put, List.setIfInBounds_toArray, List.set_cons_zero, List.set_cons_succ]
          refine wpAnyH_take (i := 12) (v := ?_) rfl (by kernel_rfl) (by kernel_rfl) (by kernel_rfl) (fun _ _ _ h => h) (Or.inl ⟨by rfl, ?_⟩) (by assumption) ?_
          rotate_left
          · intro w' hSw
            try dsimp only at hSw
            go_simp
            try rfl
          simp only [List.getElem_toArray, List.getElem_cons_succ, List.getElem_cons_zero, Act.put, List.setIfInBounds_toArray, List.set_cons_zero, List.set_cons_succ]
          refine wpAnyH_take (i := 13) (v := ?_) rfl (by kernel_rfl) (by kernel_rfl) (by kernel_rfl) (fun _ _ _ h => h) (Or.inl ⟨by rfl, ?_⟩) (by assumption) ?_
          rotate_left
          · intro w' hSw
            try dsimp only at hSw
            go_simp
            try rfl
          simp only [List.getElem_toArray, List.getElem_cons_succ, List.getElem_cons_zero, Act.put, List.setIfInBounds_toArray, List.set_cons_zero, List.set_cons_succ]
          refine wpAnyH_take (i := 15) (v := ?_) rfl (by kernel_rfl) (by kernel_rfl) (by kernel_rfl) (fun _ _ _ h => h) (Or.inl ⟨by rfl, ?_⟩) (by assumption) ?_
          rotate_left
          · intro w' hSw
            try dsimp only at hSw
            go_simp
            try rfl
          simp only [List.getElem_toArray, List.getElem_cons_succ, List.getElem_cons_zero, Act.put, List.setIfInBounds_toArray, List.set_cons_zero, List.set_cons_succ]
          refine wpAnyH_ready (rs := [14]) (by kernel_rfl) (by simp) (AllReadyH.cons rfl (fun K hK => ?_) AllReadyH.nil)
          refine step_callW (some 83) rfl (by kernel_rfl) 20 _ _ rfl #[.slice an nt.length cn] (by kernel_rfl) (H5.out _ HD4.out) ?_; rintro e y5 ⟨rfl, bb⟩; refine ⟨_, rfl, ?_⟩; have HD5 : Hid (Below w8.heap.size w8 y5) := hide (HD4.out.trans (bb.mono HD4.out.size)); clear bb
          refine hK.out _ _ (⟨HS.out _ HD5.out, HCR.out _ HD5.out⟩) (fun hHeld => ?_)
          clear hK K
          simp only [Act.put, List.setIfInBounds_toArray, List.set_cons_zero, List.set_cons_succ]
          refine wpAnyH_ready (rs := [16]) (by kernel_rfl) (by simp) (AllReadyH.cons rfl (fun K hK => ?_) AllReadyH.nil)
          refine step_callW (some 85) rfl (by kernel_rfl) 21 _ _ rfl #[.slice an nt.length cn] (by kernel_rfl) (H6.out _ HD5.out) ?_; rintro e y6 ⟨rfl, bb⟩; refine ⟨_, rfl, ?_⟩; have HD6 : Hid (Below w8.heap.size w8 y6) := hide (HD5.out.trans (bb.mono HD5.out.size)); clear bb
          refine hK.out _ _ (⟨HS.out _ HD6.out, HCR.out _ HD6.out⟩) (fun hHeld => ?_)
          clear hK K
          simp only [Act.put, List.setIfInBounds_toArray, List.set_cons_zero, List.set_cons_succ]
          refine wpAnyH_take (i := 17) (v := ?_) rfl (by kernel_rfl) (by kernel_rfl) (by kernel_rfl) (fun _ _ _ h => h) (Or.inl ⟨by rfl, ?_⟩) (by assumption) ?_
          rotate_left
          · intro w' hSw
            try dsimp only at hSw
            go_simp
            try rfl
          simp only [List.getElem_toArray, List.getElem_cons_succ, List.getElem_cons_zero, Act.put, List.setIfInBounds_toArray, List.set_cons_zero, List.set_cons_succ]
          refine wpAnyH_take (i := 18) (v := ?_) rfl (by kernel_rfl) (by kernel_rfl) (by kernel_rfl) (fun _ _ _ h => h) (Or.inl ⟨by rfl, ?_⟩) (by assumption) ?_
          rotate_left
          · intro w' hSw
            try dsimp only at hSw
            go_simp
            try rfl
          simp only [List.getElem_toArray, List.getElem_cons_succ, List.getElem_cons_zero, Act.put, List.setIfInBounds_toArray, List.set_cons_zero, List.set_cons_succ]
          refine wpAnyH_take (i := 19) (v := ?_) rfl (by kernel_rfl) (by kernel_rfl) (by kernel_rfl) (fun _ _ _ h => h) (Or.inl ⟨by rfl, ?_⟩) (by assumption) ?_
          rotate_left
          · intro w' hSw
            try dsimp only at hSw
            go_simp
            try rfl
          simp only [List.getElem_toArray, List.getElem_cons_succ, List.getElem_cons_zero, Act.put, List.setIfInBounds_toArray, List.set_cons_zero, List.set_cons_succ]
          refine wpAnyH_take (i := 20) (v := ?_) rfl (by kernel_rfl) (by kernel_rfl) (by kernel_rfl) (fun _ _ _ h => h) (Or.inl ⟨by rfl, ?_⟩) (by assumption) ?_
          rotate_left
          · intro w' hSw
            try dsimp only at hSw
            go_simp
            try rfl
          simp only [List.getElem_toArray, List.getElem_cons_succ, List.getElem_cons_zero, Act.put, List.setIfInBounds_toArray, List.set_cons_zero, List.set_cons_succ]
          refine wpAnyH_take (i := 21) (v := ?_) rfl (by kernel_rfl) (by kernel_rfl) (by kernel_rfl) (fun _ _ _ h => h) (Or.inl ⟨by rfl, ?_⟩) (by assumption) ?_
          rotate_left
          · intro w' hSw
            try dsimp only at hSw
            go_simp
            try rfl
          simp only [List.getElem_toArray, List.getElem_cons_succ, List.getElem_cons_zero, Act.put, List.setIfInBounds_toArray, List.set_cons_zero, List.set_cons_succ]
          refine wpAnyH_take (i := 22) (v := ?_) rfl (by kernel_rfl) (by kernel_rfl) (by kernel_rfl) (fun _ _ _ h => h) (Or.inl ⟨by rfl, ?_⟩) (by assumption) ?_
          rotate_left
          · intro w' hSw
            try dsimp only at hSw
            go_simp
            try rfl
          simp only [List.getElem_toArray, List.getElem_cons_succ, List.getElem_cons_zero, Act.put, List.setIfInBounds_toArray, List.set_cons_zero, List.set_cons_succ]
          refine wpAnyH_take (i := 23) (v := ?_) rfl (by kernel_rfl) (by kernel_rfl) (by kernel_rfl) (fun _ _ _ h => h) (Or.inl ⟨by rfl, ?_⟩) (by assumption) ?_
          rotate_left
          · intro w' hSw
            try dsimp only at hSw
            go_simp
            try rfl
          simp only [List.getElem_toArray, List.getElem_cons_succ, List.getElem_cons_zero, Act.put, List.setIfInBounds_toArray, List.set_cons_zero, List.set_cons_succ]
          refine wpAnyH_take (i := 24) (v := ?_) rfl (by kernel_rfl) (by kernel_rfl) (by kernel_rfl) (fun _ _ _ h => h) (Or.inl ⟨by rfl, ?_⟩) (by assumption) ?_
          rotate_left
          · intro w' hSw
            try dsimp only at hSw
            go_simp
            try rfl
          simp only [List.getElem_toArray, List.getElem_cons_succ, List.getElem_cons_zero, Act.put, List.setIfInBounds_toArray, List.set_cons_zero, List.set_cons_succ]
          refine wpAnyH_take (i := 25) (v := ?_) rfl (by kernel_rfl) (by kernel_rfl) (by kernel_rfl) (fun _ _ _ h => h) (Or.inl ⟨by rfl, ?_⟩) (by assumption) ?_
          rotate_left
          · intro w' hSw
            try dsimp only at hSw
            go_simp
            try rfl
          simp only [List.getElem_toArray, List.getElem_cons_succ, List.getElem_cons_zero, Act.put, List.setIfInBounds_toArray, List.set_cons_zero, List.set_cons_succ]
          refine wpAnyH_take (i := 26) (v := ?_) rfl (by kernel_rfl) (by kernel_rfl) (by kernel_rfl) (fun _ _ _ h => h) (Or.inl ⟨by rfl, ?_⟩) (by assumption) ?_
          rotate_left
          · intro w' hSw
            try dsimp only at hSw
            go_simp
            try rfl
          simp only [List.getElem_toArray, List.getElem_cons_succ, List.getElem_cons_zero, Act.put, List.setIfInBounds_toArray, List.set_cons_zero, List.set_cons_succ]
          refine wpAnyH_take (i := 27) (v := ?_) rfl (by kernel_rfl) (by kernel_rfl) (by kernel_rfl) (fun _ _ _ h => h) (Or.inl ⟨by rfl, ?_⟩) (by assumption) ?_
          rotate_left
          · intro w' hSw
            try dsimp only at hSw
            go_simp
            try rfl
          simp only [List.getElem_toArray, List.getElem_cons_succ, List.getElem_cons_zero, Act.put, List.setIfInBounds_toArray, List.set_cons_zero, List.set_cons_succ]
          refine wpAnyH_take (i := 28) (v := undef) rfl (by kernel_rfl) (by kernel_rfl) (by kernel_rfl) (fun _ _ _ h => h) (Or.inr ⟨by rfl, rfl⟩) (by assumption) ?_
          simp only [List.getElem_toArray, List.getElem_cons_succ, List.getElem_cons_zero, Act.put, List.setIfInBounds_toArray, List.set_cons_zero, List.set_cons_succ]
          refine wpAnyH_take (i := 29) (v := undef) rfl (by kernel_rfl) (by kernel_rfl) (by kernel_rfl) (fun _ _ _ h => h) (Or.inr ⟨by rfl, rfl⟩) (by assumption) ?_
          simp only [List.getElem_toArray, List.getElem_cons_succ, List.getElem_cons_zero, Act.put, List.setIfInBounds_toArray, List.set_cons_zero, List.set_cons_succ]
          refine wpAnyH_take (i := 30) (v := undef) rfl (by kernel_rfl) (by kernel_rfl) (by kernel_rfl) (fun _ _ _ h => h) (Or.inr ⟨by rfl, rfl⟩) (by assumption) ?_
          simp only [List.getElem_toArray, List.getElem_cons_succ, List.getElem_cons_zero, Act.put, List.setIfInBounds_toArray, List.set_cons_zero, List.set_cons_succ]
          refine wpAnyH_take (i := 31) (v := ?_) rfl (by kernel_rfl) (by kernel_rfl) (by kernel_rfl) (fun _ _ _ h => h) (Or.inl ⟨by rfl, ?_⟩) (by assumption) ?_
          rotate_left
          · intro w' hSw
            try dsimp only at hSw
            go_simp
            try rfl
          simp only [List.getElem_toArray, List.getElem_cons_succ, List.getElem_cons_zero, Act.put, List.setIfInBounds_toArray, List.set_cons_zero, List.set_cons_succ]
          refine wpAnyH_take (i := 32) (v := ?_) rfl (by kernel_rfl) (by kernel_rfl) (by kernel_rfl) (fun _ _ _ h => h) (Or.inl ⟨by rfl, ?_⟩) (by assumption) ?_
          rotate_left
          · intro w' hSw
            try dsimp only at hSw
            go_simp
            try rfl
          simp only [List.getElem_toArray, List.getElem_cons_succ, List.getElem_cons_zero, Act.put, List.setIfInBounds_toArray, List.set_cons_zero, List.set_cons_succ]
          refine wpAnyH_take (i := 33) (v := ?_) rfl (by kernel_rfl) (by kernel_rfl) (by kernel_rfl) (fun _ _ _ h => h) (Or.inl ⟨by rfl, ?_⟩) (by assumption) ?_
          rotate_left
          · intro w' hSw
            try dsimp only at hSw
            go_simp
            try rfl
          simp only [List.getElem_toArray, List.getElem_cons_succ, List.getElem_cons_zero, Act.put, List.setIfInBounds_toArray, List.set_cons_zero, List.set_cons_succ]
          refine wpAnyH_take (i := 34) (v := ?_) rfl (by kernel_rfl) (by kernel_rfl) (by kernel_rfl) (fun _ _ _ h => h) (Or.inl ⟨by rfl, ?_⟩) (by assumption) ?_
          rotate_left
          · intro w' hSw
            try dsimp only at hSw
            go_simp
            try rfl
          simp only [List.getElem_toArray, List.getElem_cons_succ, List.getElem_cons_zero, Act.put, List.setIfInBounds_toArray, List.set_cons_zero, List.set_cons_succ]
          refine wpAnyH_take (i := 35) (v := ?_) rfl (by kernel_rfl) (by kernel_rfl) (by kernel_rfl) (fun _ _ _ h => h) (Or.inl ⟨by rfl, ?_⟩) (by assumption) ?_
          rotate_left
          · intro w' hSw
            try dsimp only at hSw
            go_simp
            try rfl
          simp only [List.getElem_toArray, List.getElem_cons_succ, List.getElem_cons_zero, Act.put, List.setIfInBounds_toArray, List.set_cons_zero, List.set_cons_succ]
          refine wpAnyH_take (i := 38) (v := ?_) rfl (by kernel_rfl) (by kernel_rfl) (by kernel_rfl) (fun _ _ _ h => h) (Or.inl ⟨by rfl, ?_⟩) (by assumption) ?_
          rotate_left
          · intro w' hSw
            try dsimp only at hSw
            go_simp
            try rfl
          simp only [List.getElem_toArray, List.getElem_cons_succ, List.getElem_cons_zero, Act.put, List.setIfInBounds_toArray, List.set_cons_zero, List.set_cons_succ]
          refine wpAnyH_take (i := 39) (v := ?_) rfl (by kernel_rfl) (by kernel_rfl) (by kernel_rfl) (fun _ _ _ h => h) (Or.inl ⟨by rfl, ?_⟩) (by assumption) ?_
          rotate_left
          · intro w' hSw
            try dsimp only at hSw
            go_simp
            try rfl
          simp only [List.getElem_toArray, List.getElem_cons_succ, List.getElem_cons_zero, Act.put, List.setIfInBounds_toArray, List.set_cons_zero, List.set_cons_succ]
          refine wpAnyH_ready (rs := [36]) (by kernel_rfl) (by simp) (AllReadyH.cons rfl (fun K hK => ?_) AllReadyH.nil)
          refine step_callW (some 105) rfl (by kernel_rfl) 7 _ _ rfl #[msgV qk qi qu qc qn (.slice a7 qcs.length c7) (.slice a8 qns.length c8)] (by kernel_rfl) (H7.out _ HD6.out) ?_; rintro e y7 ⟨v7, rfl, o7, bb⟩; refine ⟨_, rfl, ?_⟩; obtain ⟨a13, q13, rfl⟩ := own_shape o7; have hcv := own_str o7; rw [HSS.out] at hcv; have HD7 : Hid (Below w8.heap.size w8 y7) := hide (HD6.out.trans (bb.mono HD6.out.size)); clear bb o7
          refine hK.out _ _ (⟨HS.out _ HD7.out, HCR.out _ HD7.out⟩) (fun hHeld => ?_)
          clear hK K
          simp only [Act.put, List.setIfInBounds_toArray, List.set_cons_zero, List.set_cons_succ]
          refine wpAnyH_ready (rs := [37]) (by kernel_rfl) (by simp) (AllReadyH.cons rfl (fun K hK => ?_) AllReadyH.nil)
          go_simp
          refine hK.out _ _ (⟨HS.out _ HD7.out, HCR.out _ HD7.out⟩) (fun hHeld => ?_)
          clear hK K
          refine wpAnyH_take (i := 40) (v := ?_) rfl (by kernel_rfl) (by kernel_rfl) (by kernel_rfl) (fun _ _ _ h => h) (Or.inl ⟨by rfl, ?_⟩) (by assumption) ?_
          rotate_left
          · intro w' hSw
            try dsimp only at hSw
            go_simp
            try rfl
          simp only [List.getElem_toArray, List.getElem_cons_succ, List.getElem_cons_zero, Act.put, List.setIfInBounds_toArray, List.set_cons_zero, List.set_cons_succ]
          refine wpAnyH_take (i := 41) (v := ?_) rfl (by kernel_rfl) (by kernel_rfl) (by kernel_rfl) (fun _ _ _ h => h) (Or.inl ⟨by rfl, ?_⟩) (by assumption) ?_
          rotate_left
          · intro w' hSw
            try dsimp only at hSw
            go_simp
            try rfl
          simp only [List.getElem_toArray, List.getElem_cons_succ, List.getElem_cons_zero, Act.put, List.setIfInBounds_toArray, List.set_cons_zero, List.set_cons_succ]
          refine wpAnyH_take (i := 42) (v := ?_) rfl (by kernel_rfl) (by kernel_rfl) (by kernel_rfl) (fun _ _ _ h => h) (Or.inl ⟨by rfl, ?_⟩) (by assumption) ?_
          rotate_left
          · intro w' hSw
            try dsimp only at hSw
            go_simp
            try rfl
          simp only [List.getElem_toArray, List.getElem_cons_succ, List.getElem_cons_zero, Act.put, List.setIfInBounds_toArray, List.set_cons_zero, List.set_cons_succ]
          refine wpAnyH_take (i := 43) (v := ?_) rfl (by kernel_rfl) (by kernel_rfl) (by kernel_rfl) (fun _ _ _ h => h) (Or.inl ⟨by rfl, ?_⟩) (by assumption) ?_
          rotate_left
          · intro w' hSw
            try dsimp only at hSw
            go_simp
            try rfl
          simp only [List.getElem_toArray, List.getElem_cons_succ, List.getElem_cons_zero, Act.put, List.setIfInBounds_toArray, List.set_cons_zero, List.set_cons_succ]
          refine wpAnyH_take (i := 44) (v := ?_) rfl (by kernel_rfl) (by kernel_rfl) (by kernel_rfl) (fun _ _ _ h => h) (Or.inl ⟨by rfl, ?_⟩) (by assumption) ?_
          rotate_left
          · intro w' hSw
            try dsimp only at hSw
            go_simp
            try rfl
          simp only [List.getElem_toArray, List.getElem_cons_succ, List.getElem_cons_zero, Act.put, List.setIfInBounds_toArray, List.set_cons_zero, List.set_cons_succ]
          refine wpAnyH_done (by kernel_rfl) ?_ _
          go_wp2
          go_ret
          exact ⟨rfl, HBW.out.trans (HD7.out.mono HBW.out.size)⟩

set_option maxRecDepth 100000 in
set_option maxHeartbeats 1000000 in
theorem lifted (os : Os) (started : os.Started) (H : Type) (enc : TypeId × Value → H) :
    ReturnsInHanded {} Tryd.checked os 3 .any (fun w args => (Rows.fnMsgsSpec.pre enc Tryd.prog Tryd.f3 [] false w args ∧ laidMetH Tryd.prog laidL w) ∧ sizedMet enc Tryd.prog Tryd.f3 (OpenSpec.ofChange Rows.fnMsgsSpec) false w args)
      (Rows.fnMsgsSpec.post enc Tryd.prog Tryd.f3 false true false false) := by
  refine returnsInHanded_of_change_and (C := Tryd.checked) (X := fun w _ => laidMetH Tryd.prog laidL w) (fun _ _ _ hh h => h.of_heap hh) Tryd.own started (by kernel_rfl) Tryd.func3
    (ChangeSpec.witness_shaped (enc := enc) (C := Tryd.checked) (os := os) (X := fun w _ => laidMetH Tryd.prog laidL w) false (World.doorLaid Tryd.prog 28 os) #[.slice none 0 0] 8 rfl (World.shaped_of_RefB (by kernel_rfl) (by kernel_rfl)) (by kernel_rfl) (by kernel_rfl) (by kernel_rfl) (door_met os _)) ?_
  intro W base args ds gs before hval0 hW _ _ hL _
  have hval : ∀ (j : Nat) t v, Tryd.f3.params[j]? = some t → args[j]? = some v → Value.okWide Tryd.prog W .any base t v := hval0
  have hW' := hW
  obtain ⟨p, q, hA0, hV0, rfl, hfz, hnd⟩ := hW
  have hA : DataW.TrodAll enc Tryd.prog W 0 (fun _ => true) true Tryd.f3.params.toList args.toList ds p := hA0
  have hV : DataW.TrodVars enc Tryd.prog W (fun _ => true) ["loop.example/g00283/impl.errNone"] gs q := hV0
  rw [Tryd.params3] at hA hval
  obtain ⟨v0, vs0, d0, ds0, p0, q0, hargs, rfl, rfl, h0, r0⟩ := trodAll_cons hA
  obtain ⟨rfl, rfl, rfl⟩ := trodAll_nil r0
  obtain rfl : args = #[v0] := by cases args; simp_all
  obtain ⟨u, x, hv⟩ := err_of_laid hL
  obtain ⟨hE, hp⟩ := err_cell hv
  obtain ⟨rfl, rfl⟩ := hV.unique (vars_read enc hv _)
  obtain ⟨a0, len0, cap0, rfl⟩ := okWide_slice Tryd.underlying22 (hval 0 22 v0 rfl rfl)
  have k0 := h0
  have lt0 : ∀ x ∈ p0, x.block < W.heap.size := by obtain ⟨m, hm⟩ := k0; exact DataW.trod_lt m _ _ _ hm
  obtain ⟨z0, w0⟩ : ∃ zs, IsRow .u8 W a0 len0 cap0 zs := by
    obtain ⟨fuel, hf⟩ := h0
    rcases open_ints Tryd.underlying22 Tryd.underlying5 (by kernel_rfl) hf with ⟨hcs, _⟩ | ⟨x, l, c, zs, hcs, _, hl, hm, hz, _, hcell, hwz⟩
    · simp [Value.cells] at hcs
      obtain ⟨rfl, rfl, rfl⟩ := hcs
      exact ⟨[], .inl ⟨rfl, rfl, rfl, rfl⟩⟩
    · simp [Value.cells] at hcs
      obtain ⟨rfl, rfl, rfl⟩ := hcs
      exact ⟨zs, .inr ⟨_, rfl, hl, hm, by simpa using hz, hcell, hwz⟩⟩
  clear hA0 hval0 hV0
  refine (walk a0 len0 cap0 z0 u x W w0 hE hp).mono fun e W' ⟨he, bel⟩ => ?_
  subst he
  refine ⟨_, rfl, _, _, _, [], _, [.cell 0 0], hW', trodAll_mk1 (shut_bool Tryd.underlying4 _), (trodAll_cons_mk (Below.trod Tryd.laidOut (by kernel_rfl) (of_decide_eq_true (by kernel_rfl)) k0 bel lt0) trodAll_mk0), ?_, bel.frame _, fun h => by cases h⟩
  exact vars_read enc (var?_below bel gErr hp hv) _

theorem row : Rows.FnMsgsSaid :=
  OpenClaim.holds_of_wide 3 Tryd.f3 rfl rfl rfl rfl rfl rfl rfl ⟨rfl, rfl, rfl, rfl, rfl⟩ rfl rfl rfl rfl rfl (by kernel_rfl) Tryd.func3 (by kernel_rfl)
    (of_decide_eq_true (by kernel_rfl)) (by unfold Func.isWrapper; first | (rw [if_pos (by decide +kernel)]; kernel_rfl) | (rw [if_neg (by decide +kernel)]; exact ⟨rfl, rfl⟩))
    (fun os started H enc _ => lifted os started H enc)

theorem card : Rows.FnMsgsCardSaid :=
  Claim7.holds_tied_plain_at .later [] [.sentinel] true (true, "538a485812a6a3d5aceef88aed5fc0ea47d7b6dd046c151cfa56884d8a43551f") true
    row (fun _ h => by cases h) (by kernel_rfl) (fun _ h => by cases h) fnMsgs_row_tie rfl ⟨rfl, rfl⟩ (by kernel_rfl) rfl
    (fun f fn hf hfn => by
      obtain rfl : f = 3 := Option.some.inj ((show Tryd.prog.funcNamed "loop.example/g00283/laws.FnMsgs" = some 3 by kernel_rfl).symm.trans hf) |>.symm
      obtain rfl : fn = Tryd.f3 := (Option.some.inj (Tryd.func3.symm.trans hfn)).symm
      exact ⟨by kernel_rfl, fun j t ht => by
        rw [Tryd.params3] at ht
        have hm : t ∈ [22] := by simpa using Array.mem_of_getElem? ht
        have hall : ([22].all fun u => !Tryd.prog.wantsStandIn u) = true := by kernel_rfl
        exact (show Tryd.prog.wantsStandIn t = false by simpa using List.all_eq_true.1 hall t hm)⟩)
    (by kernel_rfl)
end Go.Proofs.YtbkhlaiifbdfoaaDoor.fnMsgs
namespace Go.Proofs.YtbkhlaiifbdfoaaDoor
theorem fnMsgs_holds : Rows.FnMsgsCardSaid := fnMsgs.card
#print axioms fnMsgs_holds
end Go.Proofs.YtbkhlaiifbdfoaaDoor
