/-
  Joined: MrgG, MrgK.
-/
import Derived.Test.YtllghgcancennaaJ22
import Derived.Test.YtllghgcancennaaJ23
import Derived.Test.YtllghgcancennaaJ14
import Derived.Test.YtllghgcancennaaJ4
import Derived.Test.YtllghgcancennaaJ2
/-
  What every merge of two rows wants: lengths, caps, a row that was made, a call of a function that is held.
-/
namespace Go.Proofs.Ytllghgcancennaa
open Go.RowKit

def slen : Value → Nat | .slice _ n _ => n | _ => 0
theorem row_cap {w : World} {B n cap k : Nat} {T : TypeId} {cs : List Dt} {ad : Option Addr} (h : Reads w B (.row T k n cs) (.slice ad n cap)) : n ≤ cap := by
  obtain ⟨a, c, e, h1, _⟩ := h.shape
  cases e
  exact h1
theorem two_ways {G P : Prop} (k : P → G) (h : P) : G := k h
theorem ownDL_made {w : World} {b T k c g : Nat} (h : w.ownsRow b T k (.slice (some ⟨g, 0, none⟩) 0 c) 0 []) : OwnDL w b w.heap.size [.row T k 0 []] [.slice (some ⟨g, 0, none⟩) 0 c] := by
  refine ⟨[g], ownsL_mk (F1 := [g]) (F2 := []) ?_ ownsL_nil, by simp, fun q hq => ?_⟩
  · unfold Owns
    exact ⟨[], [], h, ownsL_nil, rfl⟩
  · have hq' : q = g := by simpa using hq
    subst hq'
    exact (World.ownsRow.lt h _ rfl).2
theorem step_callF {P : Program} {ops : Array Oper} {o : Oper} {a : Act} {w : World} {K : Act → World → Prop} {Q : Exit → Act → World → Prop} {E : Prop} {R : Ending → World → Prop} (d : Option Tmp) (hd : o.dst = d) (hw : Region.wanted o (yielded ops a.tmps) = true)
    (f : FuncId) (args : Array Value) (hrun : (execOp a.eval o).run P w = .ok (.enter f args) w) (hc : Calls P f args w R) (h : ∀ e w', R e w' → ∃ v, e = .returned v ∧ K (a.put d v) w') :
    if Region.wanted o (yielded ops a.tmps) = true then Oper.wp P o a w K Q else E := by
  subst hd
  rw [if_pos hw]
  unfold Oper.wp
  rw [hrun, Oper.upon_enter]
  refine hc.mono fun e w' hh => ?_
  obtain ⟨v, rfl, hk⟩ := h e w' hh
  exact hk
end Go.Proofs.Ytllghgcancennaa
/-
  Clocks in the program: two are joined by the merge of any rows, both gone over at once.
-/
namespace Go.Proofs.Ytllghgcancennaa
open Go.RowKit

theorem smp_drop : ∀ (xs : List Smp), (xs.drop 1).flatMap smpD = (xs.flatMap smpD).drop 2
  | [] => rfl
  | x :: xs => by
    rw [List.drop_one, List.tail_cons, List.flatMap_cons]
    rfl
theorem flat_smpI (xs : List Smp) : ∀ d ∈ xs.flatMap smpD, ∃ u, d = .val u ∧ u.oneCell' = true := fun d hd => by
  obtain ⟨y, _, hy⟩ := List.mem_flatMap.1 hd
  unfold smpD at hy
  simp at hy
  rcases hy with rfl | rfl
  · exact ⟨_, rfl, rfl⟩
  · exact ⟨_, rfl, rfl⟩
theorem joinK_hd_a {a b : List Smp} (ha : 0 < a.length) (hb : 0 < b.length) (h : (a.getD 0 default).w < (b.getD 0 default).w) : joinK a b = a.getD 0 default :: joinK (a.drop 1) b := by
  have := joinK_a (i := 0) (k := 0) ha (.inr ⟨hb, h⟩)
  simpa using this
theorem joinK_hd_b {a b : List Smp} (ha : 0 < a.length) (hb : 0 < b.length) (h : (b.getD 0 default).w < (a.getD 0 default).w) : joinK a b = b.getD 0 default :: joinK a (b.drop 1) := by
  have := joinK_b (i := 0) (k := 0) hb (.inr ⟨ha, h⟩)
  simpa using this
theorem joinK_hd_c {a b : List Smp} (ha : 0 < a.length) (hb : 0 < b.length) (h1 : ¬ (a.getD 0 default).w < (b.getD 0 default).w) (h2 : ¬ (b.getD 0 default).w < (a.getD 0 default).w) : joinK a b = ⟨(a.getD 0 default).w, max (a.getD 0 default).n (b.getD 0 default).n⟩ :: joinK (a.drop 1) (b.drop 1) := by
  have := joinK_c (i := 0) (k := 0) ha hb h1 h2
  simpa using this
theorem joinK_out {a b : List Smp} (h : a.length = 0 ∨ b.length = 0) : joinK a b = a ++ b := by
  rcases h with h | h
  · rw [List.eq_nil_of_length_eq_zero h, joinK]; rfl
  · rw [List.eq_nil_of_length_eq_zero h, joinK_nil, List.append_nil]
set_option maxRecDepth 100000 in
set_option maxHeartbeats 4000000 in
theorem muchK (w : World) (y : Smp) :
    Calls Try.prog 71 #[.agg #[.int .i64 y.w, .int .i64 y.n]] w fun e w' => e = .returned (.int .i64 y.n) ∧ Below w.heap.size w w' := by
  go_enter Try.func71, Try.ntmps71
  go_wp2
  go_ret
  exact ⟨rfl, (Below.refl _ _).alloc (Nat.le_refl _) _⟩
set_option maxRecDepth 100000 in
set_option maxHeartbeats 8000000 in
theorem moreK (w : World) (y z : Smp) (heq : y.w = z.w) :
    Calls Try.prog 78 #[.agg #[.int .i64 y.w, .int .i64 y.n], .agg #[.int .i64 z.w, .int .i64 z.n], (.func (.func 71) #[] #[])] w fun e w' => e = .returned (.agg #[.int .i64 y.w, .int .i64 (max y.n z.n)]) ∧ Below w.heap.size w w' := by
  have HEQ := hide heq
  clear heq
  by_cases k : y.n < z.n
  · have k' : z.n > y.n := k
    have kd : decide (y.n < z.n) = true := decide_eq_true k
    go_enter Try.func78, Try.ntmps78
    go_upto_region 1 with fail
    have b1 := (Below.refl w.heap.size w).alloc (Nat.le_refl _) (.cells #[.int .i64 y.w, .int .i64 y.n] 72)
    have EX := hide (heap_alloc_new w (.cells #[.int .i64 y.w, .int .i64 y.n] 72))
    have HB := hide b1
    have hz1 : (w.alloc (.cells #[.int .i64 y.w, .int .i64 y.n] 72)).heap.size = w.heap.size + 1 := by simp
    clear b1
    generalize w.alloc (.cells #[.int .i64 y.w, .int .i64 y.n] 72) = V1 at *
    have b1 := (Below.refl V1.heap.size V1).alloc (Nat.le_refl _) (.cells #[.int .i64 z.w, .int .i64 z.n] 72)
    have EY := hide (heap_alloc_new V1 (.cells #[.int .i64 z.w, .int .i64 z.n] 72))
    have hz2 : (V1.alloc (.cells #[.int .i64 z.w, .int .i64 z.n] 72)).heap.size = w.heap.size + 1 + 1 := by simp [hz1]
    rw [hz1] at EY
    replace EX := hide ((b1.block _ (Array.getElem?_eq_some_iff.1 EX.out).1).trans EX.out)
    replace HB := hide (HB.out.trans (b1.mono HB.out.size))
    clear b1 hz1
    generalize V1.alloc (.cells #[.int .i64 z.w, .int .i64 z.n] 72) = V2 at *
    have b1 := (Below.refl V2.heap.size V2).alloc (Nat.le_refl _) (.cells #[.int .i64 0, .int .i64 0] 72)
    have ER := hide (heap_alloc_new V2 (.cells #[.int .i64 0, .int .i64 0] 72))
    rw [hz2] at ER
    replace EX := hide ((b1.block _ (Array.getElem?_eq_some_iff.1 EX.out).1).trans EX.out)
    replace EY := hide ((b1.block _ (Array.getElem?_eq_some_iff.1 EY.out).1).trans EY.out)
    replace HB := hide (HB.out.trans (b1.mono HB.out.size))
    clear b1 hz2
    generalize V2.alloc (.cells #[.int .i64 0, .int .i64 0] 72) = V at *
    obtain ⟨gr, hgr9⟩ : ∃ q, w.heap.size + 1 + 1 = q := ⟨_, rfl⟩
    rw [hgr9] at ER ⊢
    obtain ⟨gy, hgy9⟩ : ∃ q, w.heap.size + 1 = q := ⟨_, rfl⟩
    rw [hgy9] at EY ⊢
    have hgr : w.heap.size ≤ gr := by omega
    clear hgr9 hgy9
    have HCL : Hid (∀ w', Below V.heap.size V w' → w'.cell? ⟨w.heap.size, 0, none⟩ = some (.int .i64 y.w) ∧ w'.cell? ⟨w.heap.size, 1, none⟩ = some (.int .i64 y.n) ∧ w'.cell? ⟨gy, 0, none⟩ = some (.int .i64 z.w) ∧ w'.cell? ⟨gy, 1, none⟩ = some (.int .i64 z.n)) := hide (fun w' hb => by
      have e1 := (hb.block _ (Array.getElem?_eq_some_iff.1 EX.out).1).trans EX.out
      have e2 := (hb.block _ (Array.getElem?_eq_some_iff.1 EY.out).1).trans EY.out
      exact ⟨(box_of e1).1 0 _ rfl, (box_of e1).1 1 _ rfl, (box_of e2).1 0 _ rfl, (box_of e2).1 1 _ rfl⟩)
    apply two_ways
    · intro rest
      have HW := hide (Below.refl V.heap.size V).drew
      refine wp_region_held_drew (S := fun w' => w'.cell? ⟨w.heap.size, 0, none⟩ = some (.int .i64 y.w) ∧ w'.cell? ⟨w.heap.size, 1, none⟩ = some (.int .i64 y.n) ∧ w'.cell? ⟨gy, 0, none⟩ = some (.int .i64 z.w) ∧ w'.cell? ⟨gy, 1, none⟩ = some (.int .i64 z.n)) (by kernel_rfl) (HCL.out _ HW.out) (fun hHeld => ?_)
      generalize V.drew = Z0 at HW hHeld ⊢
      refine wpAnyH_take (i := 0) (v := ?_) rfl (by kernel_rfl) (by kernel_rfl) (by kernel_rfl) (fun _ _ _ h => h) (Or.inl ⟨by rfl, ?_⟩) (by assumption) ?_
      rotate_left
      · intro w' hSw
        try dsimp only at hSw
        go_simp; try rfl
      simp only [List.getElem_toArray, List.getElem_cons_zero, Act.put, List.setIfInBounds_toArray, List.set_cons_zero, List.set_cons_succ]
      refine wpAnyH_take (i := 1) (v := ?_) rfl (by kernel_rfl) (by kernel_rfl) (by kernel_rfl) (fun _ _ _ h => h) (Or.inl ⟨by rfl, ?_⟩) (by assumption) ?_
      rotate_left
      · intro w' hSw
        try dsimp only at hSw
        go_simp; try rfl
      simp only [List.getElem_toArray, List.getElem_cons_succ, List.getElem_cons_zero, Act.put, List.setIfInBounds_toArray, List.set_cons_zero, List.set_cons_succ]
      refine wpAnyH_take (i := 3) (v := ?_) rfl (by kernel_rfl) (by kernel_rfl) (by kernel_rfl) (fun _ _ _ h => h) (Or.inl ⟨by rfl, ?_⟩) (by assumption) ?_
      rotate_left
      · intro w' hSw
        try dsimp only at hSw
        go_simp; try rfl
      simp only [List.getElem_toArray, List.getElem_cons_succ, List.getElem_cons_zero, Act.put, List.setIfInBounds_toArray, List.set_cons_zero, List.set_cons_succ]
      refine wpAnyH_take (i := 4) (v := ?_) rfl (by kernel_rfl) (by kernel_rfl) (by kernel_rfl) (fun _ _ _ h => h) (Or.inl ⟨by rfl, ?_⟩) (by assumption) ?_
      rotate_left
      · intro w' hSw
        try dsimp only at hSw
        go_simp; try rfl
      simp only [List.getElem_toArray, List.getElem_cons_succ, List.getElem_cons_zero, Act.put, List.setIfInBounds_toArray, List.set_cons_zero, List.set_cons_succ]
      refine wpAnyH_ready (rs := [2]) (by kernel_rfl) (by simp) (AllReadyH.cons rfl (fun K hK => ?_) AllReadyH.nil)
      refine step_callF (some 9) (by kernel_rfl) (by kernel_rfl) 71 #[.agg #[.int .i64 z.w, .int .i64 z.n]] (by kernel_rfl) (muchK _ z) ?_
      rintro e Z1 ⟨rfl, b9⟩
      refine ⟨_, rfl, ?_⟩
      replace HW := hide (HW.out.trans (b9.mono HW.out.size))
      clear b9
      refine hK.out _ _ (HCL.out _ HW.out) (fun hHeld => ?_)
      clear hK K
      simp only [Act.put, List.setIfInBounds_toArray, List.set_cons_zero, List.set_cons_succ]
      refine wpAnyH_ready (rs := [5]) (by kernel_rfl) (by simp) (AllReadyH.cons rfl (fun K hK => ?_) AllReadyH.nil)
      refine step_callF (some 12) (by kernel_rfl) (by kernel_rfl) 71 #[.agg #[.int .i64 y.w, .int .i64 y.n]] (by kernel_rfl) (muchK _ y) ?_
      rintro e Z2 ⟨rfl, b9⟩
      refine ⟨_, rfl, ?_⟩
      replace HW := hide (HW.out.trans (b9.mono HW.out.size))
      clear b9
      refine hK.out _ _ (HCL.out _ HW.out) (fun hHeld => ?_)
      clear hK K
      simp only [Act.put, List.setIfInBounds_toArray, List.set_cons_zero, List.set_cons_succ]
      refine wpAnyH_take (i := 6) (v := ?_) rfl (by kernel_rfl) (by kernel_rfl) (by kernel_rfl) (fun _ _ _ h => h) (Or.inl ⟨by rfl, ?_⟩) (by assumption) ?_
      rotate_left
      · intro w' hSw
        try dsimp only at hSw
        go_simp; first | rfl | simp_all
      simp only [List.getElem_toArray, List.getElem_cons_succ, List.getElem_cons_zero, Act.put, List.setIfInBounds_toArray, List.set_cons_zero, List.set_cons_succ]
      refine wpAnyH_done (by kernel_rfl) ?_ _
      clear hHeld
      revert HW
      revert Z2
      exact rest
    · intro W HW
      replace EX := hide ((HW.out.block _ (Array.getElem?_eq_some_iff.1 EX.out).1).trans EX.out)
      replace EY := hide ((HW.out.block _ (Array.getElem?_eq_some_iff.1 EY.out).1).trans EY.out)
      replace ER := hide ((HW.out.block _ (Array.getElem?_eq_some_iff.1 ER.out).1).trans ER.out)
      replace HB := hide (HB.out.trans (HW.out.mono HB.out.size))
      clear HW HCL
      have s0 := (box_of ER.out).1 0 _ rfl
      have s1 := (box_of ER.out).1 1 _ rfl
      have sz := (box_of ER.out).2
      have d0 := (box_of EY.out).1 0 _ rfl
      have d1 := (box_of EY.out).1 1 _ rfl
      go_wp2
      refine bodyPost_ret (v := .agg #[.int .i64 z.w, .int .i64 z.n]) (results_one Try.results78 _ _ _ rfl (loadSmp (putN2 ER.out _ _))) rfl ⟨?_, ?_⟩
      · have := HEQ.out
        have h9 : max y.n z.n = z.n := by omega
        rw [h9, HEQ.out]
      · exact (HB.out.setCell (by simp <;> omega) _).setCell (by simp <;> omega) _
  · have k' : ¬ z.n > y.n := k
    have kd : decide (y.n < z.n) = false := decide_eq_false k
    go_enter Try.func78, Try.ntmps78
    go_upto_region 1 with fail
    have b1 := (Below.refl w.heap.size w).alloc (Nat.le_refl _) (.cells #[.int .i64 y.w, .int .i64 y.n] 72)
    have EX := hide (heap_alloc_new w (.cells #[.int .i64 y.w, .int .i64 y.n] 72))
    have HB := hide b1
    have hz1 : (w.alloc (.cells #[.int .i64 y.w, .int .i64 y.n] 72)).heap.size = w.heap.size + 1 := by simp
    clear b1
    generalize w.alloc (.cells #[.int .i64 y.w, .int .i64 y.n] 72) = V1 at *
    have b1 := (Below.refl V1.heap.size V1).alloc (Nat.le_refl _) (.cells #[.int .i64 z.w, .int .i64 z.n] 72)
    have EY := hide (heap_alloc_new V1 (.cells #[.int .i64 z.w, .int .i64 z.n] 72))
    have hz2 : (V1.alloc (.cells #[.int .i64 z.w, .int .i64 z.n] 72)).heap.size = w.heap.size + 1 + 1 := by simp [hz1]
    rw [hz1] at EY
    replace EX := hide ((b1.block _ (Array.getElem?_eq_some_iff.1 EX.out).1).trans EX.out)
    replace HB := hide (HB.out.trans (b1.mono HB.out.size))
    clear b1 hz1
    generalize V1.alloc (.cells #[.int .i64 z.w, .int .i64 z.n] 72) = V2 at *
    have b1 := (Below.refl V2.heap.size V2).alloc (Nat.le_refl _) (.cells #[.int .i64 0, .int .i64 0] 72)
    have ER := hide (heap_alloc_new V2 (.cells #[.int .i64 0, .int .i64 0] 72))
    rw [hz2] at ER
    replace EX := hide ((b1.block _ (Array.getElem?_eq_some_iff.1 EX.out).1).trans EX.out)
    replace EY := hide ((b1.block _ (Array.getElem?_eq_some_iff.1 EY.out).1).trans EY.out)
    replace HB := hide (HB.out.trans (b1.mono HB.out.size))
    clear b1 hz2
    generalize V2.alloc (.cells #[.int .i64 0, .int .i64 0] 72) = V at *
    obtain ⟨gr, hgr9⟩ : ∃ q, w.heap.size + 1 + 1 = q := ⟨_, rfl⟩
    rw [hgr9] at ER ⊢
    obtain ⟨gy, hgy9⟩ : ∃ q, w.heap.size + 1 = q := ⟨_, rfl⟩
    rw [hgy9] at EY ⊢
    have hgr : w.heap.size ≤ gr := by omega
    clear hgr9 hgy9
    have HCL : Hid (∀ w', Below V.heap.size V w' → w'.cell? ⟨w.heap.size, 0, none⟩ = some (.int .i64 y.w) ∧ w'.cell? ⟨w.heap.size, 1, none⟩ = some (.int .i64 y.n) ∧ w'.cell? ⟨gy, 0, none⟩ = some (.int .i64 z.w) ∧ w'.cell? ⟨gy, 1, none⟩ = some (.int .i64 z.n)) := hide (fun w' hb => by
      have e1 := (hb.block _ (Array.getElem?_eq_some_iff.1 EX.out).1).trans EX.out
      have e2 := (hb.block _ (Array.getElem?_eq_some_iff.1 EY.out).1).trans EY.out
      exact ⟨(box_of e1).1 0 _ rfl, (box_of e1).1 1 _ rfl, (box_of e2).1 0 _ rfl, (box_of e2).1 1 _ rfl⟩)
    apply two_ways
    · intro rest
      have HW := hide (Below.refl V.heap.size V).drew
      refine wp_region_held_drew (S := fun w' => w'.cell? ⟨w.heap.size, 0, none⟩ = some (.int .i64 y.w) ∧ w'.cell? ⟨w.heap.size, 1, none⟩ = some (.int .i64 y.n) ∧ w'.cell? ⟨gy, 0, none⟩ = some (.int .i64 z.w) ∧ w'.cell? ⟨gy, 1, none⟩ = some (.int .i64 z.n)) (by kernel_rfl) (HCL.out _ HW.out) (fun hHeld => ?_)
      generalize V.drew = Z0 at HW hHeld ⊢
      refine wpAnyH_take (i := 0) (v := ?_) rfl (by kernel_rfl) (by kernel_rfl) (by kernel_rfl) (fun _ _ _ h => h) (Or.inl ⟨by rfl, ?_⟩) (by assumption) ?_
      rotate_left
      · intro w' hSw
        try dsimp only at hSw
        go_simp; try rfl
      simp only [List.getElem_toArray, List.getElem_cons_zero, Act.put, List.setIfInBounds_toArray, List.set_cons_zero, List.set_cons_succ]
      refine wpAnyH_take (i := 1) (v := ?_) rfl (by kernel_rfl) (by kernel_rfl) (by kernel_rfl) (fun _ _ _ h => h) (Or.inl ⟨by rfl, ?_⟩) (by assumption) ?_
      rotate_left
      · intro w' hSw
        try dsimp only at hSw
        go_simp; try rfl
      simp only [List.getElem_toArray, List.getElem_cons_succ, List.getElem_cons_zero, Act.put, List.setIfInBounds_toArray, List.set_cons_zero, List.set_cons_succ]
      refine wpAnyH_take (i := 3) (v := ?_) rfl (by kernel_rfl) (by kernel_rfl) (by kernel_rfl) (fun _ _ _ h => h) (Or.inl ⟨by rfl, ?_⟩) (by assumption) ?_
      rotate_left
      · intro w' hSw
        try dsimp only at hSw
        go_simp; try rfl
      simp only [List.getElem_toArray, List.getElem_cons_succ, List.getElem_cons_zero, Act.put, List.setIfInBounds_toArray, List.set_cons_zero, List.set_cons_succ]
      refine wpAnyH_take (i := 4) (v := ?_) rfl (by kernel_rfl) (by kernel_rfl) (by kernel_rfl) (fun _ _ _ h => h) (Or.inl ⟨by rfl, ?_⟩) (by assumption) ?_
      rotate_left
      · intro w' hSw
        try dsimp only at hSw
        go_simp; try rfl
      simp only [List.getElem_toArray, List.getElem_cons_succ, List.getElem_cons_zero, Act.put, List.setIfInBounds_toArray, List.set_cons_zero, List.set_cons_succ]
      refine wpAnyH_ready (rs := [2]) (by kernel_rfl) (by simp) (AllReadyH.cons rfl (fun K hK => ?_) AllReadyH.nil)
      refine step_callF (some 9) (by kernel_rfl) (by kernel_rfl) 71 #[.agg #[.int .i64 z.w, .int .i64 z.n]] (by kernel_rfl) (muchK _ z) ?_
      rintro e Z1 ⟨rfl, b9⟩
      refine ⟨_, rfl, ?_⟩
      replace HW := hide (HW.out.trans (b9.mono HW.out.size))
      clear b9
      refine hK.out _ _ (HCL.out _ HW.out) (fun hHeld => ?_)
      clear hK K
      simp only [Act.put, List.setIfInBounds_toArray, List.set_cons_zero, List.set_cons_succ]
      refine wpAnyH_ready (rs := [5]) (by kernel_rfl) (by simp) (AllReadyH.cons rfl (fun K hK => ?_) AllReadyH.nil)
      refine step_callF (some 12) (by kernel_rfl) (by kernel_rfl) 71 #[.agg #[.int .i64 y.w, .int .i64 y.n]] (by kernel_rfl) (muchK _ y) ?_
      rintro e Z2 ⟨rfl, b9⟩
      refine ⟨_, rfl, ?_⟩
      replace HW := hide (HW.out.trans (b9.mono HW.out.size))
      clear b9
      refine hK.out _ _ (HCL.out _ HW.out) (fun hHeld => ?_)
      clear hK K
      simp only [Act.put, List.setIfInBounds_toArray, List.set_cons_zero, List.set_cons_succ]
      refine wpAnyH_take (i := 6) (v := ?_) rfl (by kernel_rfl) (by kernel_rfl) (by kernel_rfl) (fun _ _ _ h => h) (Or.inl ⟨by rfl, ?_⟩) (by assumption) ?_
      rotate_left
      · intro w' hSw
        try dsimp only at hSw
        go_simp; first | rfl | simp_all
      simp only [List.getElem_toArray, List.getElem_cons_succ, List.getElem_cons_zero, Act.put, List.setIfInBounds_toArray, List.set_cons_zero, List.set_cons_succ]
      refine wpAnyH_done (by kernel_rfl) ?_ _
      clear hHeld
      revert HW
      revert Z2
      exact rest
    · intro W HW
      replace EX := hide ((HW.out.block _ (Array.getElem?_eq_some_iff.1 EX.out).1).trans EX.out)
      replace EY := hide ((HW.out.block _ (Array.getElem?_eq_some_iff.1 EY.out).1).trans EY.out)
      replace ER := hide ((HW.out.block _ (Array.getElem?_eq_some_iff.1 ER.out).1).trans ER.out)
      replace HB := hide (HB.out.trans (HW.out.mono HB.out.size))
      clear HW HCL
      have s0 := (box_of ER.out).1 0 _ rfl
      have s1 := (box_of ER.out).1 1 _ rfl
      have sz := (box_of ER.out).2
      have d0 := (box_of EX.out).1 0 _ rfl
      have d1 := (box_of EX.out).1 1 _ rfl
      go_wp2
      refine bodyPost_ret (v := .agg #[.int .i64 y.w, .int .i64 y.n]) (results_one Try.results78 _ _ _ rfl (loadSmp (putN2 ER.out _ _))) rfl ⟨?_, ?_⟩
      · have := HEQ.out
        have h9 : max y.n z.n = y.n := by omega
        rw [h9]
      · exact (HB.out.setCell (by simp <;> omega) _).setCell (by simp <;> omega) _
set_option maxRecDepth 100000 in
set_option maxHeartbeats 16000000 in
theorem mergeK (w : World) (a b : List Smp) (v1 v2 : Value) (h1 : Reads w w.heap.size (smps a) v1) (h2 : Reads w w.heap.size (smps b) v2) (hlab : a.length + b.length ≤ 2000000) :
    Calls Try.prog 70 #[v1, v2, (.func (.func 51) #[] #[]), (.func (.func 71) #[] #[])] w fun e w' => rowP w w' (smps (joinK a b)) e := by
  obtain ⟨a1, c1, e1, _⟩ := h1.shape
  obtain ⟨a2, c2, e2, _⟩ := h2.shape
  subst e1 e2
  have HA0 := hide h1
  have HB0 := hide h2
  clear h1 h2
  obtain ⟨i0, hi, hz0, hz1, hz2⟩ := info_parts Try.infoSmp
  have HI := hide (And.intro hi (And.intro hz0 (And.intro hz1 hz2)))
  clear hi hz0 hz1 hz2
  have hwl : IntKind.i64.wrap ((a.length : Int) + (b.length : Int)) = ((a.length + b.length : Nat) : Int) := by rw [IntKind.wrap_i64]; omega
  go_enter Try.func70, Try.ntmps70
  go_wp2_with (first
    | (at_make; refine wpList_make_own _ rfl _ _ 44 rfl w.heap.size 72 i0 (.agg #[.int .i64 0, .int .i64 0]) 2 Try.underlying44 HI.out.1 HI.out.2.1 HI.out.2.2.1 _ _ _ (a.length + b.length) rfl rfl (by first | rfl | omega) (by rw [HI.out.2.2.2]; omega) (by unfold maxLen; omega) (Nat.le_refl _) ?_; intro w1 ho1 hg1; have HO := hide (ownDL_made ho1); have HB := hide ((Below.refl w.heap.size w).grown hg1 (Nat.le_refl _) (fun k hk => by cases hk)); clear ho1 hg1)
    | fail)
  clear hwl
  go_loopw [0, 1, 9] (fun A' B' out wr => ∃ (ps bs xs : List Smp) (aa ba : Option Addr) (ca cb g c : Nat), A' = .slice aa ps.length ca ∧ B' = .slice ba bs.length cb ∧ out = .slice (some ⟨g, 0, none⟩) xs.length c ∧ xs.length + ps.length + bs.length ≤ a.length + b.length ∧ Hid (Reads w w.heap.size (smps ps) (.slice aa ps.length ca)) ∧ Hid (Reads w w.heap.size (smps bs) (.slice ba bs.length cb)) ∧ Hid (OwnDL wr w.heap.size wr.heap.size [.row 72 2 xs.length (xs.flatMap smpD)] [.slice (some ⟨g, 0, none⟩) xs.length c]) ∧ Hid (Below w.heap.size w wr) ∧ Hid (xs ++ joinK ps bs = joinK a b)) (fun A' B' _ _ => slen A' + slen B')
  case atStart => exact ⟨a, b, [], _, _, _, _, _, _, rfl, rfl, rfl, by simp, HA0, HB0, HO, HB, hide (by simp)⟩
  case round =>
    clear HO HB
    obtain ⟨ps, bs, xs, aa, ba, ca, cb, g, c, rfl, rfl, rfl, hxl, HA, HB2, HO, HB, HQ⟩ := hrel
    by_cases ha : 0 < ps.length
    · have haI : (0 : Int) < (ps.length : Int) := by omega
      have haI' : (ps.length : Int) > 0 := by omega
      by_cases hb : 0 < bs.length
      · have hbI : (0 : Int) < (bs.length : Int) := by omega
        have hbI' : (bs.length : Int) > 0 := by omega
        have hca := row_cap HA.out
        have hcb := row_cap HB2.out
        have hg0 : g < wr.heap.size := by
          obtain ⟨_, _, hv, _⟩ := OwnDL.row (c1 := []) (v1 := []) HO.out rfl
          exact (hv g rfl).2
        obtain ⟨a', cap', ea, _, _, hc⟩ := stamp_at (HA.out.at HB.out)
        cases ea
        obtain ⟨pa, oa, eqy, hby, hcell⟩ := hc ha
        have dy := hcell 0 ha
        rw [Nat.zero_mul, Nat.add_zero, Nat.add_zero] at dy
        clear hcell hc
        obtain ⟨y, hyy⟩ : ∃ q, ps.getD 0 default = q := ⟨_, rfl⟩
        rw [hyy] at dy
        have HYy := hide hyy
        clear hyy
        subst eqy
        obtain ⟨a', cap', ea, _, _, hc⟩ := stamp_at (HB2.out.at HB.out)
        cases ea
        obtain ⟨pb, ob, eqz, hbz, hcell⟩ := hc hb
        have dz := hcell 0 hb
        rw [Nat.zero_mul, Nat.add_zero, Nat.add_zero] at dz
        clear hcell hc
        obtain ⟨z, hyz⟩ : ∃ q, bs.getD 0 default = q := ⟨_, rfl⟩
        rw [hyz] at dz
        have HYz := hide hyz
        clear hyz
        subst eqz
        go_upto_region 3 with fail
        have HCL : Hid (∀ w', Below wr.heap.size wr w' → w'.cell? ⟨pa, oa, none⟩ = some (.int .i64 y.w) ∧ w'.cell? ⟨pa, oa + 1, none⟩ = some (.int .i64 y.n) ∧ w'.cell? ⟨pb, ob, none⟩ = some (.int .i64 z.w) ∧ w'.cell? ⟨pb, ob + 1, none⟩ = some (.int .i64 z.n)) := hide (fun w' hb => ⟨(hb.cell (p := ⟨pa, oa, none⟩) hby).trans dy.1, (hb.cell (p := ⟨pa, oa + 1, none⟩) hby).trans dy.2, (hb.cell (p := ⟨pb, ob, none⟩) hbz).trans dz.1, (hb.cell (p := ⟨pb, ob + 1, none⟩) hbz).trans dz.2⟩)
        clear dy dz hby hbz
        apply two_ways
        · intro rest
          have HW := hide (Below.refl wr.heap.size wr).drew
          refine wp_region_held_drew (S := fun w' => w'.cell? ⟨pa, oa, none⟩ = some (.int .i64 y.w) ∧ w'.cell? ⟨pa, oa + 1, none⟩ = some (.int .i64 y.n) ∧ w'.cell? ⟨pb, ob, none⟩ = some (.int .i64 z.w) ∧ w'.cell? ⟨pb, ob + 1, none⟩ = some (.int .i64 z.n)) (by kernel_rfl) (HCL.out _ HW.out) (fun hHeld => ?_)
          generalize wr.drew = Z0 at HW hHeld ⊢
          refine wpAnyH_take (i := 0) (v := ?_) rfl (by kernel_rfl) (by kernel_rfl) (by kernel_rfl) (fun _ _ _ h => h) (Or.inl ⟨by rfl, ?_⟩) (by assumption) ?_
          rotate_left
          · intro w' hSw
            try dsimp only at hSw
            go_simp; try rfl
          simp only [List.getElem_toArray, List.getElem_cons_zero, Act.put, List.setIfInBounds_toArray, List.set_cons_zero, List.set_cons_succ]
          refine wpAnyH_take (i := 1) (v := ?_) rfl (by kernel_rfl) (by kernel_rfl) (by kernel_rfl) (fun _ _ _ h => h) (Or.inl ⟨by rfl, ?_⟩) (by assumption) ?_
          rotate_left
          · intro w' hSw
            try dsimp only at hSw
            go_simp; try rfl
          simp only [List.getElem_toArray, List.getElem_cons_succ, List.getElem_cons_zero, Act.put, List.setIfInBounds_toArray, List.set_cons_zero, List.set_cons_succ]
          refine wpAnyH_take (i := 2) (v := ?_) rfl (by kernel_rfl) (by kernel_rfl) (by kernel_rfl) (fun _ _ _ h => h) (Or.inl ⟨by rfl, ?_⟩) (by assumption) ?_
          rotate_left
          · intro w' hSw
            try dsimp only at hSw
            go_simp; try rfl
          simp only [List.getElem_toArray, List.getElem_cons_succ, List.getElem_cons_zero, Act.put, List.setIfInBounds_toArray, List.set_cons_zero, List.set_cons_succ]
          refine wpAnyH_take (i := 3) (v := ?_) rfl (by kernel_rfl) (by kernel_rfl) (by kernel_rfl) (fun _ _ _ h => h) (Or.inl ⟨by rfl, ?_⟩) (by assumption) ?_
          rotate_left
          · intro w' hSw
            try dsimp only at hSw
            go_simp; try rfl
          simp only [List.getElem_toArray, List.getElem_cons_succ, List.getElem_cons_zero, Act.put, List.setIfInBounds_toArray, List.set_cons_zero, List.set_cons_succ]
          refine wpAnyH_take (i := 4) (v := ?_) rfl (by kernel_rfl) (by kernel_rfl) (by kernel_rfl) (fun _ _ _ h => h) (Or.inl ⟨by rfl, ?_⟩) (by assumption) ?_
          rotate_left
          · intro w' hSw
            try dsimp only at hSw
            go_simp; try rfl
          simp only [List.getElem_toArray, List.getElem_cons_succ, List.getElem_cons_zero, Act.put, List.setIfInBounds_toArray, List.set_cons_zero, List.set_cons_succ]
          refine wpAnyH_take (i := 5) (v := ?_) rfl (by kernel_rfl) (by kernel_rfl) (by kernel_rfl) (fun _ _ _ h => h) (Or.inl ⟨by rfl, ?_⟩) (by assumption) ?_
          rotate_left
          · intro w' hSw
            try dsimp only at hSw
            go_simp; try rfl
          simp only [List.getElem_toArray, List.getElem_cons_succ, List.getElem_cons_zero, Act.put, List.setIfInBounds_toArray, List.set_cons_zero, List.set_cons_succ]
          refine wpAnyH_ready (rs := [6, 7]) (by kernel_rfl) (by simp) (AllReadyH.cons rfl (fun K hK => ?_) (AllReadyH.cons rfl (fun K hK => ?_) AllReadyH.nil))
          · skip
            refine step_runX (some 10) (by kernel_rfl) (by kernel_rfl) (v := .pointer (some ⟨Z0.heap.size, 0, none⟩)) (w' := Z0.alloc (.cells #[.int .i64 0, .int .i64 0] 72)) (by go_simp; try rfl) ?_
            have bX := (Below.refl Z0.heap.size Z0).alloc (Nat.le_refl _) (.cells #[.int .i64 0, .int .i64 0] 72)
            have Egx := hide (heap_alloc_new Z0 (.cells #[.int .i64 0, .int .i64 0] 72))
            have hqgx : Z0.heap.size < (Z0.alloc (.cells #[.int .i64 0, .int .i64 0] 72)).heap.size := by simp
            have hwgx := HW.out.size
            replace HW := hide (HW.out.trans (bX.mono HW.out.size))
            clear bX
            refine hK.out _ _ (HCL.out _ HW.out) (fun hHeld => ?_)
            clear hK K
            simp only [Act.put, List.setIfInBounds_toArray, List.set_cons_zero, List.set_cons_succ]
            generalize Z0.alloc (.cells #[.int .i64 0, .int .i64 0] 72) = Z1 at HW hHeld Egx hqgx ⊢
            obtain ⟨gx, hggx⟩ : ∃ q, Z0.heap.size = q := ⟨_, rfl⟩
            rw [hggx] at Egx hqgx hwgx ⊢
            clear hggx
            refine wpAnyH_ready (rs := [7]) (by kernel_rfl) (by simp) (AllReadyH.cons rfl (fun K hK => ?_) AllReadyH.nil)
            refine step_runX (some 11) (by kernel_rfl) (by kernel_rfl) (v := .pointer (some ⟨Z1.heap.size, 0, none⟩)) (w' := Z1.alloc (.cells #[.int .i64 0, .int .i64 0] 72)) (by go_simp; try rfl) ?_
            have bX := (Below.refl Z1.heap.size Z1).alloc (Nat.le_refl _) (.cells #[.int .i64 0, .int .i64 0] 72)
            have Egy := hide (heap_alloc_new Z1 (.cells #[.int .i64 0, .int .i64 0] 72))
            replace Egx := hide ((bX.block _ (Array.getElem?_eq_some_iff.1 Egx.out).1).trans Egx.out)
            have hne : gx < Z1.heap.size := hqgx
            have hltgx := (Array.getElem?_eq_some_iff.1 Egx.out).1
            have hqgy : Z1.heap.size < (Z1.alloc (.cells #[.int .i64 0, .int .i64 0] 72)).heap.size := by simp
            have hwgy := HW.out.size
            replace HW := hide (HW.out.trans (bX.mono HW.out.size))
            clear bX
            refine hK.out _ _ (HCL.out _ HW.out) (fun hHeld => ?_)
            clear hK K
            simp only [Act.put, List.setIfInBounds_toArray, List.set_cons_zero, List.set_cons_succ]
            generalize Z1.alloc (.cells #[.int .i64 0, .int .i64 0] 72) = Z2 at HW hHeld Egy hqgy Egx hltgx ⊢
            obtain ⟨gy, hggy⟩ : ∃ q, Z1.heap.size = q := ⟨_, rfl⟩
            rw [hggy] at Egy hqgy hwgy hne ⊢
            clear hggy
            have hxy : gx ≠ gy := by omega
            clear hltgx hqgx hqgy
            refine wpAnyH_ready (rs := [8]) (by kernel_rfl) (by simp) (AllReadyH.cons rfl (fun K hK => ?_) AllReadyH.nil)
            refine step_storeX (by kernel_rfl) (by kernel_rfl) 72 _ _ rfl gx #[.int .i64 y.w, .int .i64 y.n] (by kernel_rfl) (by kernel_rfl) _ _ Egx.out (by kernel_rfl) (by rfl) (by simp [Value.oneCell']) ?_
            have EX := hide (setRow_heap Z2 gx _ #[.int .i64 y.w, .int .i64 y.n] _ _ Egx.out)
            replace Egy := hide ((setRow_other Z2 gx gy #[.int .i64 y.w, .int .i64 y.n] (Ne.symm hxy)).trans Egy.out)
            replace HW := hide (below_setRow HW.out hwgx #[.int .i64 y.w, .int .i64 y.n])
            refine hK.out _ _ (HCL.out _ HW.out) (fun hHeld => ?_)
            clear hK K Egx
            try simp only [Act.put, List.setIfInBounds_toArray, List.set_cons_zero, List.set_cons_succ]
            generalize Z2.setRow gx #[.int .i64 y.w, .int .i64 y.n] = Z3 at HW hHeld EX Egy ⊢
            refine wpAnyH_ready (rs := [9]) (by kernel_rfl) (by simp) (AllReadyH.cons rfl (fun K hK => ?_) AllReadyH.nil)
            refine step_storeX (by kernel_rfl) (by kernel_rfl) 72 _ _ rfl gy #[.int .i64 z.w, .int .i64 z.n] (by kernel_rfl) (by kernel_rfl) _ _ Egy.out (by kernel_rfl) (by rfl) (by simp [Value.oneCell']) ?_
            have EY := hide (setRow_heap Z3 gy _ #[.int .i64 z.w, .int .i64 z.n] _ _ Egy.out)
            replace EX := hide ((setRow_other Z3 gy gx #[.int .i64 z.w, .int .i64 z.n] hxy).trans EX.out)
            replace HW := hide (below_setRow HW.out hwgy #[.int .i64 z.w, .int .i64 z.n])
            refine hK.out _ _ (HCL.out _ HW.out) (fun hHeld => ?_)
            clear hK K Egy
            try simp only [Act.put, List.setIfInBounds_toArray, List.set_cons_zero, List.set_cons_succ]
            generalize Z3.setRow gy #[.int .i64 z.w, .int .i64 z.n] = Z4 at HW hHeld EX EY ⊢
            refine wpAnyH_done (by kernel_rfl) ?_ _
            clear hHeld hxy hne
            revert hwgx hwgy EX EY HW
            revert gx gy Z4
            exact rest
          · skip
            refine step_runX (some 11) (by kernel_rfl) (by kernel_rfl) (v := .pointer (some ⟨Z0.heap.size, 0, none⟩)) (w' := Z0.alloc (.cells #[.int .i64 0, .int .i64 0] 72)) (by go_simp; try rfl) ?_
            have bX := (Below.refl Z0.heap.size Z0).alloc (Nat.le_refl _) (.cells #[.int .i64 0, .int .i64 0] 72)
            have Egy := hide (heap_alloc_new Z0 (.cells #[.int .i64 0, .int .i64 0] 72))
            have hqgy : Z0.heap.size < (Z0.alloc (.cells #[.int .i64 0, .int .i64 0] 72)).heap.size := by simp
            have hwgy := HW.out.size
            replace HW := hide (HW.out.trans (bX.mono HW.out.size))
            clear bX
            refine hK.out _ _ (HCL.out _ HW.out) (fun hHeld => ?_)
            clear hK K
            simp only [Act.put, List.setIfInBounds_toArray, List.set_cons_zero, List.set_cons_succ]
            generalize Z0.alloc (.cells #[.int .i64 0, .int .i64 0] 72) = Z1 at HW hHeld Egy hqgy ⊢
            obtain ⟨gy, hggy⟩ : ∃ q, Z0.heap.size = q := ⟨_, rfl⟩
            rw [hggy] at Egy hqgy hwgy ⊢
            clear hggy
            refine wpAnyH_ready (rs := [6]) (by kernel_rfl) (by simp) (AllReadyH.cons rfl (fun K hK => ?_) AllReadyH.nil)
            refine step_runX (some 10) (by kernel_rfl) (by kernel_rfl) (v := .pointer (some ⟨Z1.heap.size, 0, none⟩)) (w' := Z1.alloc (.cells #[.int .i64 0, .int .i64 0] 72)) (by go_simp; try rfl) ?_
            have bX := (Below.refl Z1.heap.size Z1).alloc (Nat.le_refl _) (.cells #[.int .i64 0, .int .i64 0] 72)
            have Egx := hide (heap_alloc_new Z1 (.cells #[.int .i64 0, .int .i64 0] 72))
            replace Egy := hide ((bX.block _ (Array.getElem?_eq_some_iff.1 Egy.out).1).trans Egy.out)
            have hne : gy < Z1.heap.size := hqgy
            have hltgy := (Array.getElem?_eq_some_iff.1 Egy.out).1
            have hqgx : Z1.heap.size < (Z1.alloc (.cells #[.int .i64 0, .int .i64 0] 72)).heap.size := by simp
            have hwgx := HW.out.size
            replace HW := hide (HW.out.trans (bX.mono HW.out.size))
            clear bX
            refine hK.out _ _ (HCL.out _ HW.out) (fun hHeld => ?_)
            clear hK K
            simp only [Act.put, List.setIfInBounds_toArray, List.set_cons_zero, List.set_cons_succ]
            generalize Z1.alloc (.cells #[.int .i64 0, .int .i64 0] 72) = Z2 at HW hHeld Egx hqgx Egy hltgy ⊢
            obtain ⟨gx, hggx⟩ : ∃ q, Z1.heap.size = q := ⟨_, rfl⟩
            rw [hggx] at Egx hqgx hwgx hne ⊢
            clear hggx
            have hxy : gx ≠ gy := by omega
            clear hltgy hqgx hqgy
            refine wpAnyH_ready (rs := [8]) (by kernel_rfl) (by simp) (AllReadyH.cons rfl (fun K hK => ?_) AllReadyH.nil)
            refine step_storeX (by kernel_rfl) (by kernel_rfl) 72 _ _ rfl gx #[.int .i64 y.w, .int .i64 y.n] (by kernel_rfl) (by kernel_rfl) _ _ Egx.out (by kernel_rfl) (by rfl) (by simp [Value.oneCell']) ?_
            have EX := hide (setRow_heap Z2 gx _ #[.int .i64 y.w, .int .i64 y.n] _ _ Egx.out)
            replace Egy := hide ((setRow_other Z2 gx gy #[.int .i64 y.w, .int .i64 y.n] (Ne.symm hxy)).trans Egy.out)
            replace HW := hide (below_setRow HW.out hwgx #[.int .i64 y.w, .int .i64 y.n])
            refine hK.out _ _ (HCL.out _ HW.out) (fun hHeld => ?_)
            clear hK K Egx
            try simp only [Act.put, List.setIfInBounds_toArray, List.set_cons_zero, List.set_cons_succ]
            generalize Z2.setRow gx #[.int .i64 y.w, .int .i64 y.n] = Z3 at HW hHeld EX Egy ⊢
            refine wpAnyH_ready (rs := [9]) (by kernel_rfl) (by simp) (AllReadyH.cons rfl (fun K hK => ?_) AllReadyH.nil)
            refine step_storeX (by kernel_rfl) (by kernel_rfl) 72 _ _ rfl gy #[.int .i64 z.w, .int .i64 z.n] (by kernel_rfl) (by kernel_rfl) _ _ Egy.out (by kernel_rfl) (by rfl) (by simp [Value.oneCell']) ?_
            have EY := hide (setRow_heap Z3 gy _ #[.int .i64 z.w, .int .i64 z.n] _ _ Egy.out)
            replace EX := hide ((setRow_other Z3 gy gx #[.int .i64 z.w, .int .i64 z.n] hxy).trans EX.out)
            replace HW := hide (below_setRow HW.out hwgy #[.int .i64 z.w, .int .i64 z.n])
            refine hK.out _ _ (HCL.out _ HW.out) (fun hHeld => ?_)
            clear hK K Egy
            try simp only [Act.put, List.setIfInBounds_toArray, List.set_cons_zero, List.set_cons_succ]
            generalize Z3.setRow gy #[.int .i64 z.w, .int .i64 z.n] = Z4 at HW hHeld EX EY ⊢
            refine wpAnyH_done (by kernel_rfl) ?_ _
            clear hHeld hxy hne
            exact rest _ _ _ hwgx hwgy HW EX EY
        · skip
          intro gx gy V hwgx hwgy HW EX EY
          have hsz := HB.out.size
          replace HB := hide (HB.out.trans (HW.out.mono hsz))
          replace HO := hide ((HO.out.below HW.out).up HW.out.size)
          have hgx : g < gx := by omega
          have hgy : g < gy := by omega
          clear HW HCL hsz hwgx hwgy hg0
          go_upto_region 4 with fail
          have HCL : Hid (∀ w', Below V.heap.size V w' → w'.cell? ⟨gx, 0, none⟩ = some (.int .i64 y.w) ∧ w'.cell? ⟨gx, 1, none⟩ = some (.int .i64 y.n) ∧ w'.cell? ⟨gy, 0, none⟩ = some (.int .i64 z.w) ∧ w'.cell? ⟨gy, 1, none⟩ = some (.int .i64 z.n)) := hide (fun w' hb => by
            have e1 := (hb.block _ (Array.getElem?_eq_some_iff.1 EX.out).1).trans EX.out
            have e2 := (hb.block _ (Array.getElem?_eq_some_iff.1 EY.out).1).trans EY.out
            exact ⟨(box_of e1).1 0 _ rfl, (box_of e1).1 1 _ rfl, (box_of e2).1 0 _ rfl, (box_of e2).1 1 _ rfl⟩)
          apply two_ways
          · intro rest
            have HW := hide (Below.refl V.heap.size V).drew
            refine wp_region_held_drew (S := fun w' => w'.cell? ⟨gx, 0, none⟩ = some (.int .i64 y.w) ∧ w'.cell? ⟨gx, 1, none⟩ = some (.int .i64 y.n) ∧ w'.cell? ⟨gy, 0, none⟩ = some (.int .i64 z.w) ∧ w'.cell? ⟨gy, 1, none⟩ = some (.int .i64 z.n)) (by kernel_rfl) (HCL.out _ HW.out) (fun hHeld => ?_)
            generalize V.drew = Z0 at HW hHeld ⊢
            refine wpAnyH_take (i := 0) (v := ?_) rfl (by kernel_rfl) (by kernel_rfl) (by kernel_rfl) (fun _ _ _ h => h) (Or.inl ⟨by rfl, ?_⟩) (by assumption) ?_
            rotate_left
            · intro w' hSw
              try dsimp only at hSw
              go_simp; try rfl
            simp only [List.getElem_toArray, List.getElem_cons_zero, Act.put, List.setIfInBounds_toArray, List.set_cons_zero, List.set_cons_succ]
            refine wpAnyH_take (i := 1) (v := ?_) rfl (by kernel_rfl) (by kernel_rfl) (by kernel_rfl) (fun _ _ _ h => h) (Or.inl ⟨by rfl, ?_⟩) (by assumption) ?_
            rotate_left
            · intro w' hSw
              try dsimp only at hSw
              go_simp; try rfl
            simp only [List.getElem_toArray, List.getElem_cons_succ, List.getElem_cons_zero, Act.put, List.setIfInBounds_toArray, List.set_cons_zero, List.set_cons_succ]
            refine wpAnyH_take (i := 3) (v := ?_) rfl (by kernel_rfl) (by kernel_rfl) (by kernel_rfl) (fun _ _ _ h => h) (Or.inl ⟨by rfl, ?_⟩) (by assumption) ?_
            rotate_left
            · intro w' hSw
              try dsimp only at hSw
              go_simp; try rfl
            simp only [List.getElem_toArray, List.getElem_cons_succ, List.getElem_cons_zero, Act.put, List.setIfInBounds_toArray, List.set_cons_zero, List.set_cons_succ]
            refine wpAnyH_take (i := 4) (v := ?_) rfl (by kernel_rfl) (by kernel_rfl) (by kernel_rfl) (fun _ _ _ h => h) (Or.inl ⟨by rfl, ?_⟩) (by assumption) ?_
            rotate_left
            · intro w' hSw
              try dsimp only at hSw
              go_simp; try rfl
            simp only [List.getElem_toArray, List.getElem_cons_succ, List.getElem_cons_zero, Act.put, List.setIfInBounds_toArray, List.set_cons_zero, List.set_cons_succ]
            refine wpAnyH_ready (rs := [2]) (by kernel_rfl) (by simp) (AllReadyH.cons rfl (fun K hK => ?_) AllReadyH.nil)
            refine step_callF (some 34) (by kernel_rfl) (by kernel_rfl) 51 #[.agg #[.int .i64 y.w, .int .i64 y.n]] (by kernel_rfl) (numberS _ y) ?_
            rintro e Z1 ⟨rfl, b9⟩
            refine ⟨_, rfl, ?_⟩
            replace HW := hide (HW.out.trans (b9.mono HW.out.size))
            clear b9
            refine hK.out _ _ (HCL.out _ HW.out) (fun hHeld => ?_)
            clear hK K
            simp only [Act.put, List.setIfInBounds_toArray, List.set_cons_zero, List.set_cons_succ]
            refine wpAnyH_ready (rs := [5]) (by kernel_rfl) (by simp) (AllReadyH.cons rfl (fun K hK => ?_) AllReadyH.nil)
            refine step_callF (some 37) (by kernel_rfl) (by kernel_rfl) 51 #[.agg #[.int .i64 z.w, .int .i64 z.n]] (by kernel_rfl) (numberS _ z) ?_
            rintro e Z2 ⟨rfl, b9⟩
            refine ⟨_, rfl, ?_⟩
            replace HW := hide (HW.out.trans (b9.mono HW.out.size))
            clear b9
            refine hK.out _ _ (HCL.out _ HW.out) (fun hHeld => ?_)
            clear hK K
            simp only [Act.put, List.setIfInBounds_toArray, List.set_cons_zero, List.set_cons_succ]
            refine wpAnyH_ready (rs := [6]) (by kernel_rfl) (by simp) (AllReadyH.cons rfl (fun K hK => ?_) AllReadyH.nil)
            refine step_callF (some 38) (by kernel_rfl) (by kernel_rfl) 77 #[.int .i64 y.w, .int .i64 z.w] (by kernel_rfl) (cmpI _ _ _) ?_
            rintro e Z3 ⟨rfl, hz9⟩
            rw [hz9]
            clear hz9 Z3 hHeld
            refine ⟨_, rfl, ?_⟩
            refine hK.out _ _ (HCL.out _ HW.out) (fun hHeld => ?_)
            clear hK K
            simp only [Act.put, List.setIfInBounds_toArray, List.set_cons_zero, List.set_cons_succ]
            refine wpAnyH_done (by kernel_rfl) ?_ _
            clear hHeld
            revert HW
            revert Z2
            exact rest
          · skip
            intro W HW
            have hsz := HB.out.size
            replace HB := hide (HB.out.trans (HW.out.mono hsz))
            replace HO := hide ((HO.out.below HW.out).up HW.out.size)
            replace EX := hide ((HW.out.block gx (Array.getElem?_eq_some_iff.1 EX.out).1).trans EX.out)
            replace EY := hide ((HW.out.block gy (Array.getElem?_eq_some_iff.1 EY.out).1).trans EY.out)
            clear HW HCL hsz
            by_cases t1 : y.w < z.w
            · have hc : cmpX y.w z.w = -1 := if_pos t1
              rw [hc]
              clear hc
              go_upto_region 7 with fail
              obtain ⟨aD, haD⟩ : ∃ x, (if ca = 1 then (some ⟨pa, oa, none⟩ : Option Addr) else ((some ⟨pa, oa, none⟩ : Option Addr)).map (·.add (1 * 2))) = x := ⟨_, rfl⟩
              have hSaD : ∀ W, (Instr.slice 44 (.slice (some ⟨pa, oa, none⟩ : Option Addr) ps.length ca) (some (.int .i64 1)) none none).run Try.prog W = .ok (.slice aD (ps.length - 1) (ca - 1)) W := fun W => by
                rw [← haD, run_slice_l W 44 ((some ⟨pa, oa, none⟩ : Option Addr)) ps.length ca Try.underlying44 .i64 1 (by omega) (by omega)]
                simp [go_sem, sliced]
              have HRaD : Hid (Reads w w.heap.size (smps (ps.drop 1)) (.slice aD (ps.drop 1).length (ca - 1))) := hide (by
                have h := Reads.suf (j := 1) HA.out ha
                rw [haD, Nat.one_mul, ← smp_drop ps] at h
                unfold smps
                rwa [List.length_drop])
              clear haD
              have bD := (Below.refl W.heap.size W).drew
              replace EX := hide ((bD.block gx (Array.getElem?_eq_some_iff.1 EX.out).1).trans EX.out)
              replace EY := hide ((bD.block gy (Array.getElem?_eq_some_iff.1 EY.out).1).trans EY.out)
              replace HB := hide (HB.out.trans (bD.mono HB.out.size))
              replace HO := hide ((HO.out.below bD).up bD.size)
              clear bD
              refine wp_region_held_drew (S := fun w' => w'.cell? ⟨gx, 0, none⟩ = some (.int .i64 y.w) ∧ w'.cell? ⟨gx, 1, none⟩ = some (.int .i64 y.n)) (by kernel_rfl) ⟨(box_of EX.out).1 0 _ rfl, (box_of EX.out).1 1 _ rfl⟩ (fun hHeld => ?_)
              generalize W.drew = Y1 at *
              refine wpAnyH_take (i := 0) (v := ?_) rfl (by kernel_rfl) (by kernel_rfl) (by kernel_rfl) (fun _ _ _ h => h) (Or.inl ⟨by rfl, ?_⟩) (by assumption) ?_
              rotate_left
              · intro w' hSw
                try dsimp only at hSw
                go_simp; try rfl
              simp only [List.getElem_toArray, List.getElem_cons_zero, Act.put, List.setIfInBounds_toArray, List.set_cons_zero, List.set_cons_succ]
              refine wpAnyH_take (i := 1) (v := ?_) rfl (by kernel_rfl) (by kernel_rfl) (by kernel_rfl) (fun _ _ _ h => h) (Or.inl ⟨by rfl, ?_⟩) (by assumption) ?_
              rotate_left
              · intro w' hSw
                try dsimp only at hSw
                go_simp; try rfl
              simp only [List.getElem_toArray, List.getElem_cons_succ, List.getElem_cons_zero, Act.put, List.setIfInBounds_toArray, List.set_cons_zero, List.set_cons_succ]
              refine wpAnyH_take (i := 4) (v := ?_) rfl (by kernel_rfl) (by kernel_rfl) (by kernel_rfl) (fun _ _ _ h => h) (Or.inl ⟨by rfl, ?_⟩) (by assumption) ?_
              rotate_left
              · intro w' hSw
                try dsimp only at hSw
                go_simp; try rfl
              simp only [List.getElem_toArray, List.getElem_cons_succ, List.getElem_cons_zero, Act.put, List.setIfInBounds_toArray, List.set_cons_zero, List.set_cons_succ]
              refine wpAnyH_take (i := 5) (v := ?_) rfl (by kernel_rfl) (by kernel_rfl) (by kernel_rfl) (fun _ _ _ h => h) (Or.inl ⟨by rfl, ?_⟩) (by assumption) ?_
              rotate_left
              · intro w' hSw
                try dsimp only at hSw
                go_simp; try rfl
              simp only [List.getElem_toArray, List.getElem_cons_succ, List.getElem_cons_zero, Act.put, List.setIfInBounds_toArray, List.set_cons_zero, List.set_cons_succ]
              refine wpAnyH_ready (rs := [2]) (by kernel_rfl) (by simp) (AllReadyH.cons rfl (fun K hK => ?_) AllReadyH.nil)
              refine step_runX (some 54) (by kernel_rfl) (by kernel_rfl) (v := .slice (some ⟨Y1.heap.size, 0, none⟩) 1 1) (w' := Y1.alloc (.cells #[.int .i64 y.w, .int .i64 y.n] 72)) (by go_simp; try rfl) ?_
              have bX := (Below.refl Y1.heap.size Y1).alloc (Nat.le_refl _) (.cells #[.int .i64 y.w, .int .i64 y.n] 72)
              have HBx := hide (Box.new Y1 #[.int .i64 y.w, .int .i64 y.n] 72)
              replace HO := hide (HO.out.below bX)
              have hsx : Y1.heap.size ≤ (Y1.alloc (.cells #[.int .i64 y.w, .int .i64 y.n] 72)).heap.size := bX.size
              replace HB := hide (HB.out.trans (bX.mono HB.out.size))
              replace EX := hide ((bX.block gx (Array.getElem?_eq_some_iff.1 EX.out).1).trans EX.out)
              replace EY := hide ((bX.block gy (Array.getElem?_eq_some_iff.1 EY.out).1).trans EY.out)
              clear bX
              refine hK.out _ _ ⟨(box_of EX.out).1 0 _ rfl, (box_of EX.out).1 1 _ rfl⟩ (fun hHeld => ?_)
              clear hK K
              simp only [Act.put, List.setIfInBounds_toArray, List.set_cons_zero, List.set_cons_succ]
              generalize Y1.alloc (.cells #[.int .i64 y.w, .int .i64 y.n] 72) = Y2 at *
              obtain ⟨gB, hgB⟩ : ∃ g, Y1.heap.size = g := ⟨_, rfl⟩
              rw [hgB] at HBx hsx HO ⊢
              clear hgB
              refine wpAnyH_ready (rs := [3]) (by kernel_rfl) (by simp) (AllReadyH.cons rfl (fun K hK => ?_) AllReadyH.nil)
              have HDs : Hid (OwnDL Y2 Y2.heap.size Y2.heap.size (smpD y) [.int .i64 y.w, .int .i64 y.n]) := hide (OwnDL.val (OwnDL.val (ownDL_nil _ _ _)))
              refine step_appL (by kernel_rfl) _ _ 44 rfl w.heap.size gB Y2.heap.size 72 i0 (.agg #[.int .i64 0, .int .i64 0]) 2 16 Try.underlying44 HI.out.1 HI.out.2.1 HI.out.2.2.1 HI.out.2.2.2 rfl (by decide) (.slice (some ⟨g, 0, none⟩) xs.length c) xs.length (xs.flatMap smpD) [] [] [] [] (by kernel_rfl) HO.out rfl gB 1 [.int .i64 y.w, .int .i64 y.n] (smpD y) (by kernel_rfl) HBx.out HDs.out rfl (by simp [Value.oneCell']) (by omega) (by decide) hsx HB.out.size (Nat.le_refl _) ?_
              intro g9 c9 Y3 o6 g6 q6
              have HO6 := hide o6
              have HB6 := hide (HB.out.grown g6 HB.out.size (fun q hq => (q6 q hq).1))
              replace EX := hide ((g6.block gx (Array.getElem?_eq_some_iff.1 EX.out).1 (fun e => by injection (show some gx = some g from e) with e3; omega)).trans EX.out)
              replace EY := hide ((g6.block gy (Array.getElem?_eq_some_iff.1 EY.out).1 (fun e => by injection (show some gy = some g from e) with e3; omega)).trans EY.out)
              clear o6 g6 q6
              refine hK.out _ _ ⟨(box_of EX.out).1 0 _ rfl, (box_of EX.out).1 1 _ rfl⟩ (fun hHeld => ?_)
              clear hK K
              simp only [Act.put, List.setIfInBounds_toArray]
              refine wpAnyH_take (i := 6) (v := ?_) rfl (by kernel_rfl) (by kernel_rfl) (by kernel_rfl) (fun _ _ _ h => h) (Or.inl ⟨by rfl, ?_⟩) (by assumption) ?_
              rotate_left
              · intro w' hSw
                try dsimp only at hSw
                go_simp; try rfl
              simp only [List.getElem_toArray, List.getElem_cons_succ, List.getElem_cons_zero, Act.put, List.setIfInBounds_toArray, List.set_cons_zero, List.set_cons_succ]
              refine wpAnyH_take (i := 7) (v := ?_) rfl (by kernel_rfl) (by kernel_rfl) (by kernel_rfl) (fun _ _ _ h => h) (Or.inl ⟨by rfl, ?_⟩) (by assumption) ?_
              rotate_left
              · intro w' hSw
                try dsimp only at hSw
                go_simp; try rfl
              simp only [List.getElem_toArray, List.getElem_cons_succ, List.getElem_cons_zero, Act.put, List.setIfInBounds_toArray, List.set_cons_zero]
              refine wpAnyH_done (by kernel_rfl) ?_ _
              go_wp2_with fail
              exact ⟨⟨ps.drop 1, bs, xs ++ [y], aD, some ⟨pb, ob, none⟩, ca - 1, cb, g9, c9, by rw [List.length_drop], rfl, by simp, by simp; omega, HRaD, HB2, hide (by rw [List.flatMap_append, List.length_append]; simpa using HO6.out), HB6, hide (app1 HQ.out (by rw [joinK_hd_a ha hb (by rw [HYy.out, HYz.out]; exact t1), HYy.out]))⟩, by simp [slen]; omega⟩
            · skip
              by_cases t2 : z.w < y.w
              · have hc : cmpX y.w z.w = 1 := (if_neg t1).trans (if_pos t2)
                rw [hc]
                clear hc
                go_upto_region 9 with fail
                obtain ⟨bD, hbD⟩ : ∃ x, (if cb = 1 then (some ⟨pb, ob, none⟩ : Option Addr) else ((some ⟨pb, ob, none⟩ : Option Addr)).map (·.add (1 * 2))) = x := ⟨_, rfl⟩
                have hSbD : ∀ W, (Instr.slice 44 (.slice (some ⟨pb, ob, none⟩ : Option Addr) bs.length cb) (some (.int .i64 1)) none none).run Try.prog W = .ok (.slice bD (bs.length - 1) (cb - 1)) W := fun W => by
                  rw [← hbD, run_slice_l W 44 ((some ⟨pb, ob, none⟩ : Option Addr)) bs.length cb Try.underlying44 .i64 1 (by omega) (by omega)]
                  simp [go_sem, sliced]
                have HRbD : Hid (Reads w w.heap.size (smps (bs.drop 1)) (.slice bD (bs.drop 1).length (cb - 1))) := hide (by
                  have h := Reads.suf (j := 1) HB2.out hb
                  rw [hbD, Nat.one_mul, ← smp_drop bs] at h
                  unfold smps
                  rwa [List.length_drop])
                clear hbD
                have bD := (Below.refl W.heap.size W).drew
                replace EX := hide ((bD.block gx (Array.getElem?_eq_some_iff.1 EX.out).1).trans EX.out)
                replace EY := hide ((bD.block gy (Array.getElem?_eq_some_iff.1 EY.out).1).trans EY.out)
                replace HB := hide (HB.out.trans (bD.mono HB.out.size))
                replace HO := hide ((HO.out.below bD).up bD.size)
                clear bD
                refine wp_region_held_drew (S := fun w' => w'.cell? ⟨gy, 0, none⟩ = some (.int .i64 z.w) ∧ w'.cell? ⟨gy, 1, none⟩ = some (.int .i64 z.n)) (by kernel_rfl) ⟨(box_of EY.out).1 0 _ rfl, (box_of EY.out).1 1 _ rfl⟩ (fun hHeld => ?_)
                generalize W.drew = Y1 at *
                refine wpAnyH_take (i := 0) (v := ?_) rfl (by kernel_rfl) (by kernel_rfl) (by kernel_rfl) (fun _ _ _ h => h) (Or.inl ⟨by rfl, ?_⟩) (by assumption) ?_
                rotate_left
                · intro w' hSw
                  try dsimp only at hSw
                  go_simp; try rfl
                simp only [List.getElem_toArray, List.getElem_cons_zero, Act.put, List.setIfInBounds_toArray, List.set_cons_zero, List.set_cons_succ]
                refine wpAnyH_take (i := 1) (v := ?_) rfl (by kernel_rfl) (by kernel_rfl) (by kernel_rfl) (fun _ _ _ h => h) (Or.inl ⟨by rfl, ?_⟩) (by assumption) ?_
                rotate_left
                · intro w' hSw
                  try dsimp only at hSw
                  go_simp; try rfl
                simp only [List.getElem_toArray, List.getElem_cons_succ, List.getElem_cons_zero, Act.put, List.setIfInBounds_toArray, List.set_cons_zero, List.set_cons_succ]
                refine wpAnyH_take (i := 4) (v := ?_) rfl (by kernel_rfl) (by kernel_rfl) (by kernel_rfl) (fun _ _ _ h => h) (Or.inl ⟨by rfl, ?_⟩) (by assumption) ?_
                rotate_left
                · intro w' hSw
                  try dsimp only at hSw
                  go_simp; try rfl
                simp only [List.getElem_toArray, List.getElem_cons_succ, List.getElem_cons_zero, Act.put, List.setIfInBounds_toArray, List.set_cons_zero, List.set_cons_succ]
                refine wpAnyH_take (i := 5) (v := ?_) rfl (by kernel_rfl) (by kernel_rfl) (by kernel_rfl) (fun _ _ _ h => h) (Or.inl ⟨by rfl, ?_⟩) (by assumption) ?_
                rotate_left
                · intro w' hSw
                  try dsimp only at hSw
                  go_simp; try rfl
                simp only [List.getElem_toArray, List.getElem_cons_succ, List.getElem_cons_zero, Act.put, List.setIfInBounds_toArray, List.set_cons_zero, List.set_cons_succ]
                refine wpAnyH_ready (rs := [2]) (by kernel_rfl) (by simp) (AllReadyH.cons rfl (fun K hK => ?_) AllReadyH.nil)
                refine step_runX (some 62) (by kernel_rfl) (by kernel_rfl) (v := .slice (some ⟨Y1.heap.size, 0, none⟩) 1 1) (w' := Y1.alloc (.cells #[.int .i64 z.w, .int .i64 z.n] 72)) (by go_simp; try rfl) ?_
                have bX := (Below.refl Y1.heap.size Y1).alloc (Nat.le_refl _) (.cells #[.int .i64 z.w, .int .i64 z.n] 72)
                have HBx := hide (Box.new Y1 #[.int .i64 z.w, .int .i64 z.n] 72)
                replace HO := hide (HO.out.below bX)
                have hsx : Y1.heap.size ≤ (Y1.alloc (.cells #[.int .i64 z.w, .int .i64 z.n] 72)).heap.size := bX.size
                replace HB := hide (HB.out.trans (bX.mono HB.out.size))
                replace EX := hide ((bX.block gx (Array.getElem?_eq_some_iff.1 EX.out).1).trans EX.out)
                replace EY := hide ((bX.block gy (Array.getElem?_eq_some_iff.1 EY.out).1).trans EY.out)
                clear bX
                refine hK.out _ _ ⟨(box_of EY.out).1 0 _ rfl, (box_of EY.out).1 1 _ rfl⟩ (fun hHeld => ?_)
                clear hK K
                simp only [Act.put, List.setIfInBounds_toArray, List.set_cons_zero, List.set_cons_succ]
                generalize Y1.alloc (.cells #[.int .i64 z.w, .int .i64 z.n] 72) = Y2 at *
                obtain ⟨gB, hgB⟩ : ∃ g, Y1.heap.size = g := ⟨_, rfl⟩
                rw [hgB] at HBx hsx HO ⊢
                clear hgB
                refine wpAnyH_ready (rs := [3]) (by kernel_rfl) (by simp) (AllReadyH.cons rfl (fun K hK => ?_) AllReadyH.nil)
                have HDs : Hid (OwnDL Y2 Y2.heap.size Y2.heap.size (smpD z) [.int .i64 z.w, .int .i64 z.n]) := hide (OwnDL.val (OwnDL.val (ownDL_nil _ _ _)))
                refine step_appL (by kernel_rfl) _ _ 44 rfl w.heap.size gB Y2.heap.size 72 i0 (.agg #[.int .i64 0, .int .i64 0]) 2 16 Try.underlying44 HI.out.1 HI.out.2.1 HI.out.2.2.1 HI.out.2.2.2 rfl (by decide) (.slice (some ⟨g, 0, none⟩) xs.length c) xs.length (xs.flatMap smpD) [] [] [] [] (by kernel_rfl) HO.out rfl gB 1 [.int .i64 z.w, .int .i64 z.n] (smpD z) (by kernel_rfl) HBx.out HDs.out rfl (by simp [Value.oneCell']) (by omega) (by decide) hsx HB.out.size (Nat.le_refl _) ?_
                intro g9 c9 Y3 o6 g6 q6
                have HO6 := hide o6
                have HB6 := hide (HB.out.grown g6 HB.out.size (fun q hq => (q6 q hq).1))
                replace EX := hide ((g6.block gx (Array.getElem?_eq_some_iff.1 EX.out).1 (fun e => by injection (show some gx = some g from e) with e3; omega)).trans EX.out)
                replace EY := hide ((g6.block gy (Array.getElem?_eq_some_iff.1 EY.out).1 (fun e => by injection (show some gy = some g from e) with e3; omega)).trans EY.out)
                clear o6 g6 q6
                refine hK.out _ _ ⟨(box_of EY.out).1 0 _ rfl, (box_of EY.out).1 1 _ rfl⟩ (fun hHeld => ?_)
                clear hK K
                simp only [Act.put, List.setIfInBounds_toArray]
                refine wpAnyH_take (i := 6) (v := ?_) rfl (by kernel_rfl) (by kernel_rfl) (by kernel_rfl) (fun _ _ _ h => h) (Or.inl ⟨by rfl, ?_⟩) (by assumption) ?_
                rotate_left
                · intro w' hSw
                  try dsimp only at hSw
                  go_simp; try rfl
                simp only [List.getElem_toArray, List.getElem_cons_succ, List.getElem_cons_zero, Act.put, List.setIfInBounds_toArray, List.set_cons_zero, List.set_cons_succ]
                refine wpAnyH_take (i := 7) (v := ?_) rfl (by kernel_rfl) (by kernel_rfl) (by kernel_rfl) (fun _ _ _ h => h) (Or.inl ⟨by rfl, ?_⟩) (by assumption) ?_
                rotate_left
                · intro w' hSw
                  try dsimp only at hSw
                  go_simp; try rfl
                simp only [List.getElem_toArray, List.getElem_cons_succ, List.getElem_cons_zero, Act.put, List.setIfInBounds_toArray, List.set_cons_zero, List.set_cons_succ]
                refine wpAnyH_done (by kernel_rfl) ?_ _
                go_wp2_with fail
                exact ⟨⟨ps, bs.drop 1, xs ++ [z], some ⟨pa, oa, none⟩, bD, ca, cb - 1, g9, c9, rfl, by rw [List.length_drop], by simp, by simp; omega, HA, HRbD, hide (by rw [List.flatMap_append, List.length_append]; simpa using HO6.out), HB6, hide (app1 HQ.out (by rw [joinK_hd_b ha hb (by rw [HYy.out, HYz.out]; exact t2), HYz.out]))⟩, by simp [slen]; omega⟩
              · have hc : cmpX y.w z.w = 0 := (if_neg t1).trans (if_neg t2)
                rw [hc]
                have HEQ : Hid (y.w = z.w) := hide (by omega)
                have HT1 := hide t1
                have HT2 := hide t2
                clear hc t1 t2
                go_upto_region 5 with fail
                obtain ⟨aD, haD⟩ : ∃ x, (if ca = 1 then (some ⟨pa, oa, none⟩ : Option Addr) else ((some ⟨pa, oa, none⟩ : Option Addr)).map (·.add (1 * 2))) = x := ⟨_, rfl⟩
                have hSaD : ∀ W, (Instr.slice 44 (.slice (some ⟨pa, oa, none⟩ : Option Addr) ps.length ca) (some (.int .i64 1)) none none).run Try.prog W = .ok (.slice aD (ps.length - 1) (ca - 1)) W := fun W => by
                  rw [← haD, run_slice_l W 44 ((some ⟨pa, oa, none⟩ : Option Addr)) ps.length ca Try.underlying44 .i64 1 (by omega) (by omega)]
                  simp [go_sem, sliced]
                have HRaD : Hid (Reads w w.heap.size (smps (ps.drop 1)) (.slice aD (ps.drop 1).length (ca - 1))) := hide (by
                  have h := Reads.suf (j := 1) HA.out ha
                  rw [haD, Nat.one_mul, ← smp_drop ps] at h
                  unfold smps
                  rwa [List.length_drop])
                clear haD
                obtain ⟨bD, hbD⟩ : ∃ x, (if cb = 1 then (some ⟨pb, ob, none⟩ : Option Addr) else ((some ⟨pb, ob, none⟩ : Option Addr)).map (·.add (1 * 2))) = x := ⟨_, rfl⟩
                have hSbD : ∀ W, (Instr.slice 44 (.slice (some ⟨pb, ob, none⟩ : Option Addr) bs.length cb) (some (.int .i64 1)) none none).run Try.prog W = .ok (.slice bD (bs.length - 1) (cb - 1)) W := fun W => by
                  rw [← hbD, run_slice_l W 44 ((some ⟨pb, ob, none⟩ : Option Addr)) bs.length cb Try.underlying44 .i64 1 (by omega) (by omega)]
                  simp [go_sem, sliced]
                have HRbD : Hid (Reads w w.heap.size (smps (bs.drop 1)) (.slice bD (bs.drop 1).length (cb - 1))) := hide (by
                  have h := Reads.suf (j := 1) HB2.out hb
                  rw [hbD, Nat.one_mul, ← smp_drop bs] at h
                  unfold smps
                  rwa [List.length_drop])
                clear hbD
                have bD := (Below.refl W.heap.size W).drew
                replace EX := hide ((bD.block gx (Array.getElem?_eq_some_iff.1 EX.out).1).trans EX.out)
                replace EY := hide ((bD.block gy (Array.getElem?_eq_some_iff.1 EY.out).1).trans EY.out)
                replace HB := hide (HB.out.trans (bD.mono HB.out.size))
                replace HO := hide ((HO.out.below bD).up bD.size)
                clear bD
                refine wp_region_held_drew (S := fun w' => w'.cell? ⟨gx, 0, none⟩ = some (.int .i64 y.w) ∧ w'.cell? ⟨gx, 1, none⟩ = some (.int .i64 y.n) ∧ w'.cell? ⟨gy, 0, none⟩ = some (.int .i64 z.w) ∧ w'.cell? ⟨gy, 1, none⟩ = some (.int .i64 z.n)) (by kernel_rfl) ⟨(box_of EX.out).1 0 _ rfl, (box_of EX.out).1 1 _ rfl, (box_of EY.out).1 0 _ rfl, (box_of EY.out).1 1 _ rfl⟩ (fun hHeld => ?_)
                generalize W.drew = Y0 at *
                refine wpAnyH_take (i := 0) (v := ?_) rfl (by kernel_rfl) (by kernel_rfl) (by kernel_rfl) (fun _ _ _ h => h) (Or.inl ⟨by rfl, ?_⟩) (by assumption) ?_
                rotate_left
                · intro w' hSw
                  try dsimp only at hSw
                  go_simp; try rfl
                simp only [List.getElem_toArray, List.getElem_cons_zero, Act.put, List.setIfInBounds_toArray, List.set_cons_zero, List.set_cons_succ]
                refine wpAnyH_take (i := 1) (v := ?_) rfl (by kernel_rfl) (by kernel_rfl) (by kernel_rfl) (fun _ _ _ h => h) (Or.inl ⟨by rfl, ?_⟩) (by assumption) ?_
                rotate_left
                · intro w' hSw
                  try dsimp only at hSw
                  go_simp; try rfl
                simp only [List.getElem_toArray, List.getElem_cons_succ, List.getElem_cons_zero, Act.put, List.setIfInBounds_toArray, List.set_cons_zero, List.set_cons_succ]
                refine wpAnyH_take (i := 2) (v := ?_) rfl (by kernel_rfl) (by kernel_rfl) (by kernel_rfl) (fun _ _ _ h => h) (Or.inl ⟨by rfl, ?_⟩) (by assumption) ?_
                rotate_left
                · intro w' hSw
                  try dsimp only at hSw
                  go_simp; try rfl
                simp only [List.getElem_toArray, List.getElem_cons_succ, List.getElem_cons_zero, Act.put, List.setIfInBounds_toArray, List.set_cons_zero, List.set_cons_succ]
                refine wpAnyH_take (i := 3) (v := ?_) rfl (by kernel_rfl) (by kernel_rfl) (by kernel_rfl) (fun _ _ _ h => h) (Or.inl ⟨by rfl, ?_⟩) (by assumption) ?_
                rotate_left
                · intro w' hSw
                  try dsimp only at hSw
                  go_simp; try rfl
                simp only [List.getElem_toArray, List.getElem_cons_succ, List.getElem_cons_zero, Act.put, List.setIfInBounds_toArray, List.set_cons_zero, List.set_cons_succ]
                refine wpAnyH_take (i := 7) (v := ?_) rfl (by kernel_rfl) (by kernel_rfl) (by kernel_rfl) (fun _ _ _ h => h) (Or.inl ⟨by rfl, ?_⟩) (by assumption) ?_
                rotate_left
                · intro w' hSw
                  try dsimp only at hSw
                  go_simp; try rfl
                simp only [List.getElem_toArray, List.getElem_cons_succ, List.getElem_cons_zero, Act.put, List.setIfInBounds_toArray, List.set_cons_zero, List.set_cons_succ]
                refine wpAnyH_take (i := 8) (v := ?_) rfl (by kernel_rfl) (by kernel_rfl) (by kernel_rfl) (fun _ _ _ h => h) (Or.inl ⟨by rfl, ?_⟩) (by assumption) ?_
                rotate_left
                · intro w' hSw
                  try dsimp only at hSw
                  go_simp; try rfl
                simp only [List.getElem_toArray, List.getElem_cons_succ, List.getElem_cons_zero, Act.put, List.setIfInBounds_toArray, List.set_cons_zero, List.set_cons_succ]
                refine wpAnyH_take (i := 9) (v := ?_) rfl (by kernel_rfl) (by kernel_rfl) (by kernel_rfl) (fun _ _ _ h => h) (Or.inl ⟨by rfl, ?_⟩) (by assumption) ?_
                rotate_left
                · intro w' hSw
                  try dsimp only at hSw
                  go_simp; try rfl
                simp only [List.getElem_toArray, List.getElem_cons_succ, List.getElem_cons_zero, Act.put, List.setIfInBounds_toArray, List.set_cons_zero, List.set_cons_succ]
                refine wpAnyH_take (i := 10) (v := ?_) rfl (by kernel_rfl) (by kernel_rfl) (by kernel_rfl) (fun _ _ _ h => h) (Or.inl ⟨by rfl, ?_⟩) (by assumption) ?_
                rotate_left
                · intro w' hSw
                  try dsimp only at hSw
                  go_simp; try rfl
                simp only [List.getElem_toArray, List.getElem_cons_succ, List.getElem_cons_zero, Act.put, List.setIfInBounds_toArray, List.set_cons_zero, List.set_cons_succ]
                refine wpAnyH_ready (rs := [4]) (by kernel_rfl) (by simp) (AllReadyH.cons rfl (fun K hK => ?_) AllReadyH.nil)
                refine step_callF (some 43) (by kernel_rfl) (by kernel_rfl) 78 #[.agg #[.int .i64 y.w, .int .i64 y.n], .agg #[.int .i64 z.w, .int .i64 z.n], (.func (.func 71) #[] #[])] (by kernel_rfl) (moreK _ y z HEQ.out) ?_
                rintro e Y1 ⟨rfl, b9⟩
                refine ⟨_, rfl, ?_⟩
                replace HO := hide ((HO.out.below b9).up b9.size)
                replace HB := hide (HB.out.trans (b9.mono HB.out.size))
                replace EX := hide ((b9.block gx (Array.getElem?_eq_some_iff.1 EX.out).1).trans EX.out)
                replace EY := hide ((b9.block gy (Array.getElem?_eq_some_iff.1 EY.out).1).trans EY.out)
                clear b9
                refine hK.out _ _ ⟨(box_of EX.out).1 0 _ rfl, (box_of EX.out).1 1 _ rfl, (box_of EY.out).1 0 _ rfl, (box_of EY.out).1 1 _ rfl⟩ (fun hHeld => ?_)
                clear hK K
                simp only [Act.put, List.setIfInBounds_toArray, List.set_cons_zero, List.set_cons_succ]
                refine wpAnyH_ready (rs := [5]) (by kernel_rfl) (by simp) (AllReadyH.cons rfl (fun K hK => ?_) AllReadyH.nil)
                refine step_runX (some 44) (by kernel_rfl) (by kernel_rfl) (v := .slice (some ⟨Y1.heap.size, 0, none⟩) 1 1) (w' := Y1.alloc (.cells #[.int .i64 y.w, .int .i64 (max y.n z.n)] 72)) (by go_simp; try rfl) ?_
                have bX := (Below.refl Y1.heap.size Y1).alloc (Nat.le_refl _) (.cells #[.int .i64 y.w, .int .i64 (max y.n z.n)] 72)
                have HBx := hide (Box.new Y1 #[.int .i64 y.w, .int .i64 (max y.n z.n)] 72)
                replace HO := hide (HO.out.below bX)
                have hsx : Y1.heap.size ≤ (Y1.alloc (.cells #[.int .i64 y.w, .int .i64 (max y.n z.n)] 72)).heap.size := bX.size
                replace HB := hide (HB.out.trans (bX.mono HB.out.size))
                replace EX := hide ((bX.block gx (Array.getElem?_eq_some_iff.1 EX.out).1).trans EX.out)
                replace EY := hide ((bX.block gy (Array.getElem?_eq_some_iff.1 EY.out).1).trans EY.out)
                clear bX
                refine hK.out _ _ ⟨(box_of EX.out).1 0 _ rfl, (box_of EX.out).1 1 _ rfl, (box_of EY.out).1 0 _ rfl, (box_of EY.out).1 1 _ rfl⟩ (fun hHeld => ?_)
                clear hK K
                simp only [Act.put, List.setIfInBounds_toArray, List.set_cons_zero, List.set_cons_succ]
                generalize Y1.alloc (.cells #[.int .i64 y.w, .int .i64 (max y.n z.n)] 72) = Y2 at *
                obtain ⟨gB, hgB⟩ : ∃ g, Y1.heap.size = g := ⟨_, rfl⟩
                rw [hgB] at HBx hsx HO ⊢
                clear hgB
                refine wpAnyH_ready (rs := [6]) (by kernel_rfl) (by simp) (AllReadyH.cons rfl (fun K hK => ?_) AllReadyH.nil)
                have HDs : Hid (OwnDL Y2 Y2.heap.size Y2.heap.size (smpD ⟨y.w, max y.n z.n⟩) [.int .i64 y.w, .int .i64 (max y.n z.n)]) := hide (OwnDL.val (OwnDL.val (ownDL_nil _ _ _)))
                refine step_appL (by kernel_rfl) _ _ 44 rfl w.heap.size gB Y2.heap.size 72 i0 (.agg #[.int .i64 0, .int .i64 0]) 2 16 Try.underlying44 HI.out.1 HI.out.2.1 HI.out.2.2.1 HI.out.2.2.2 rfl (by decide) (.slice (some ⟨g, 0, none⟩) xs.length c) xs.length (xs.flatMap smpD) [] [] [] [] (by kernel_rfl) HO.out rfl gB 1 [.int .i64 y.w, .int .i64 (max y.n z.n)] (smpD ⟨y.w, max y.n z.n⟩) (by kernel_rfl) HBx.out HDs.out rfl (by simp [Value.oneCell']) (by omega) (by decide) hsx HB.out.size (Nat.le_refl _) ?_
                intro g9 c9 Y3 o6 g6 q6
                have HO6 := hide o6
                have HB6 := hide (HB.out.grown g6 HB.out.size (fun q hq => (q6 q hq).1))
                replace EX := hide ((g6.block gx (Array.getElem?_eq_some_iff.1 EX.out).1 (fun e => by injection (show some gx = some g from e) with e3; omega)).trans EX.out)
                replace EY := hide ((g6.block gy (Array.getElem?_eq_some_iff.1 EY.out).1 (fun e => by injection (show some gy = some g from e) with e3; omega)).trans EY.out)
                clear o6 g6 q6
                refine hK.out _ _ ⟨(box_of EX.out).1 0 _ rfl, (box_of EX.out).1 1 _ rfl, (box_of EY.out).1 0 _ rfl, (box_of EY.out).1 1 _ rfl⟩ (fun hHeld => ?_)
                clear hK K
                simp only [Act.put, List.setIfInBounds_toArray]
                refine wpAnyH_take (i := 11) (v := ?_) rfl (by kernel_rfl) (by kernel_rfl) (by kernel_rfl) (fun _ _ _ h => h) (Or.inl ⟨by rfl, ?_⟩) (by assumption) ?_
                rotate_left
                · intro w' hSw
                  try dsimp only at hSw
                  go_simp; try rfl
                simp only [List.getElem_toArray, List.getElem_cons_succ, List.getElem_cons_zero, Act.put, List.setIfInBounds_toArray, List.set_cons_zero, List.set_cons_succ]
                refine wpAnyH_take (i := 12) (v := ?_) rfl (by kernel_rfl) (by kernel_rfl) (by kernel_rfl) (fun _ _ _ h => h) (Or.inl ⟨by rfl, ?_⟩) (by assumption) ?_
                rotate_left
                · intro w' hSw
                  try dsimp only at hSw
                  go_simp; try rfl
                simp only [List.getElem_toArray, List.getElem_cons_succ, List.getElem_cons_zero, Act.put, List.setIfInBounds_toArray, List.set_cons_zero]
                refine wpAnyH_take (i := 13) (v := ?_) rfl (by kernel_rfl) (by kernel_rfl) (by kernel_rfl) (fun _ _ _ h => h) (Or.inl ⟨by rfl, ?_⟩) (by assumption) ?_
                rotate_left
                · intro w' hSw
                  try dsimp only at hSw
                  go_simp; try rfl
                simp only [List.getElem_toArray, List.getElem_cons_succ, List.getElem_cons_zero, Act.put, List.setIfInBounds_toArray, List.set_cons_zero, List.set_cons_succ]
                refine wpAnyH_done (by kernel_rfl) ?_ _
                go_wp2_with fail
                exact ⟨⟨ps.drop 1, bs.drop 1, xs ++ [⟨y.w, max y.n z.n⟩], aD, bD, ca - 1, cb - 1, g9, c9, by rw [List.length_drop], by rw [List.length_drop], by simp, by simp; omega, HRaD, HRbD, hide (by rw [List.flatMap_append, List.length_append]; simpa using HO6.out), HB6, hide (app1 HQ.out (by rw [joinK_hd_c ha hb (by rw [HYy.out, HYz.out]; have := HT1.out; omega) (by rw [HYy.out, HYz.out]; have := HT2.out; omega), HYy.out, HYz.out]))⟩, by simp [slen]; omega⟩
      · have hbI : ¬ ((0 : Int) < (bs.length : Int)) := by omega
        have hbI' : ¬ ((bs.length : Int) > 0) := by omega
        have HX : Hid (xs ++ ps ++ bs = joinK a b) := hide (by rw [← HQ.out, joinK_out (.inr (by omega)), List.append_assoc])
        have HAx := hide (HA.out.at HB.out)
        have HO0 := hide (OwnDL.mid (c1 := []) (v1 := []) HO.out rfl)
        have hwr := HB.out.size
        go_wp2_with (first
          | (at_builtin; refine appM rfl _ _ 44 rfl w.heap.size wr.heap.size 72 i0 (.agg #[.int .i64 0, .int .i64 0]) 2 16 Try.underlying44 HI.out.1 HI.out.2.1 HI.out.2.2.1 HI.out.2.2.2 rfl (by decide) _ xs.length (xs.flatMap smpD) rfl HO0.out _ rfl ps.length 72 (ps.flatMap smpD) HAx.out (flat_smpI ps) (by omega) (by decide) hwr ?_; intro v9 w9 o9 g9 hb9; have HO9 := hide o9; have HB9 := hide (HB.out.grown g9 hwr (fun q hq => (hb9 q hq).1)); have HBx := hide (HB2.out.at HB9.out); have hw9 := HB9.out.size; clear o9 g9 hb9)
          | (at_builtin; refine appM rfl _ _ 44 rfl w.heap.size w9.heap.size 72 i0 (.agg #[.int .i64 0, .int .i64 0]) 2 16 Try.underlying44 HI.out.1 HI.out.2.1 HI.out.2.2.1 HI.out.2.2.2 rfl (by decide) v9 (xs.length + ps.length) (xs.flatMap smpD ++ ps.flatMap smpD) rfl HO9.out _ rfl bs.length 72 (bs.flatMap smpD) HBx.out (flat_smpI bs) (by omega) (by decide) hw9 ?_; intro v8 w8 o8 g8 hb8; have HO8 := hide o8; have HB8 := hide (HB9.out.grown g8 hw9 (fun q hq => (hb8 q hq).1)); clear o8 g8 hb8)
          | fail)
        go_ret
        rw [← HX.out]
        refine ⟨_, rfl, ?_, HB8.out⟩
        unfold smps
        rw [List.flatMap_append, List.flatMap_append, List.length_append, List.length_append]
        exact HO8.out
    · have haI : ¬ ((0 : Int) < (ps.length : Int)) := by omega
      have haI' : ¬ ((ps.length : Int) > 0) := by omega
      have HX : Hid (xs ++ ps ++ bs = joinK a b) := hide (by rw [← HQ.out, joinK_out (.inl (by omega)), List.append_assoc])
      have HAx := hide (HA.out.at HB.out)
      have HO0 := hide (OwnDL.mid (c1 := []) (v1 := []) HO.out rfl)
      have hwr := HB.out.size
      go_wp2_with (first
        | (at_builtin; refine appM rfl _ _ 44 rfl w.heap.size wr.heap.size 72 i0 (.agg #[.int .i64 0, .int .i64 0]) 2 16 Try.underlying44 HI.out.1 HI.out.2.1 HI.out.2.2.1 HI.out.2.2.2 rfl (by decide) _ xs.length (xs.flatMap smpD) rfl HO0.out _ rfl ps.length 72 (ps.flatMap smpD) HAx.out (flat_smpI ps) (by omega) (by decide) hwr ?_; intro v9 w9 o9 g9 hb9; have HO9 := hide o9; have HB9 := hide (HB.out.grown g9 hwr (fun q hq => (hb9 q hq).1)); have HBx := hide (HB2.out.at HB9.out); have hw9 := HB9.out.size; clear o9 g9 hb9)
        | (at_builtin; refine appM rfl _ _ 44 rfl w.heap.size w9.heap.size 72 i0 (.agg #[.int .i64 0, .int .i64 0]) 2 16 Try.underlying44 HI.out.1 HI.out.2.1 HI.out.2.2.1 HI.out.2.2.2 rfl (by decide) v9 (xs.length + ps.length) (xs.flatMap smpD ++ ps.flatMap smpD) rfl HO9.out _ rfl bs.length 72 (bs.flatMap smpD) HBx.out (flat_smpI bs) (by omega) (by decide) hw9 ?_; intro v8 w8 o8 g8 hb8; have HO8 := hide o8; have HB8 := hide (HB9.out.grown g8 hw9 (fun q hq => (hb8 q hq).1)); clear o8 g8 hb8)
        | fail)
      go_ret
      rw [← HX.out]
      refine ⟨_, rfl, ?_, HB8.out⟩
      unfold smps
      rw [List.flatMap_append, List.flatMap_append, List.length_append, List.length_append]
      exact HO8.out
end Go.Proofs.Ytllghgcancennaa
