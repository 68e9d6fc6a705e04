/-
  The bytes of a place, by the program.
-/
import Derived.Test.YtonkaomfahmchaaDoorInsOkK
namespace Go.Proofs.YtonkaomfahmchaaDoor
open Go.RowKit

theorem step_run {P : Program} {ops : Array Oper} {o : Oper} {a : Act} {w w' : World} {K : Act → World → Prop} {Q : Exit → Act → World → Prop} {E : Prop} {v : Value} (d : Option Tmp) (hd : o.dst = d) (hw : Region.wanted o (yielded ops a.tmps) = true)
    (hrun : (execOp a.eval o).run P w = .ok (.value v) w') (h : K (a.put d v) w') : if Region.wanted o (yielded ops a.tmps) = true then Oper.wp P o a w K Q else E := by
  subst hd
  rw [if_pos hw]
  unfold Oper.wp
  rw [hrun, Oper.upon_value]
  exact h
set_option maxRecDepth 100000 in
set_option maxHeartbeats 4000000 in
theorem insBImpl (w : World) (x : Isn) (xs : List Isn) (v : Value) (h : Reads w w.heap.size (ints (stL xs xs.length)) v) (hm : xs.length ≤ 90) : Calls Tryd.prog 33 #[inV x, v] w fun e w' => ∃ v', e = .returned (.tuple #[v', .bool (insB x xs.length)]) ∧ Hid (insB x xs.length = true → OwnD w' w.heap.size w'.heap.size (byts (encX xs x)) v') ∧ Below w.heap.size w w' := by
  have hl : (stL xs xs.length).length ≤ 1000 := by rw [stL_len]; omega
  have hs : ∀ j, j < (stL xs xs.length).length → 0 ≤ (stL xs xs.length).getD j default ∧ (stL xs xs.length).getD j default ≤ 255 := fun j hj => by
    rw [stL_len] at hj
    rw [stL_get xs _ j hj]
    have := stA_le xs j
    omega
  have hL := stL_len xs xs.length
  have HST : Hid (∀ (m z : Int), z = (stL xs xs.length).getD m.toNat default → inB m 0 ((xs.length : Int) - 1) = true → z = (stA xs m.toNat : Int)) := hide (fun m z h1 h2 => by
    have := inB_yes h2
    rw [h1, stL_get xs _ _ (by omega)])
  have hJ := hide (fun w x v h => jumpI w x v (stL xs xs.length) h hl hs)
  rw [hL] at hJ
  have bA := (Below.refl w.heap.size w).alloc (Nat.le_refl _) (.cells #[.int .i64 x.o, .int .i64 x.n] 33)
  have HX0 := hide (Box.new w #[.int .i64 x.o, .int .i64 x.n] 33)
  have HR0 := hide (h.at bA)
  have hg0 : w.heap.size < (w.alloc (.cells #[.int .i64 x.o, .int .i64 x.n] 33)).heap.size := by simp
  have HB0 := hide bA
  clear bA h hL
  generalize stL xs xs.length = st at *
  generalize hn : xs.length = n at *
  have f0 := HX0.out 0 _ rfl
  unfold inV
  go_enter Tryd.func33, Tryd.ntmps33
  go_wp2_with fail
  generalize w.alloc (.cells #[.int .i64 x.o, .int .i64 x.n] 33) = W at *
  refine (opImpl _ x.o).mono ?_
  rintro e w1 ⟨rfl, b1⟩
  have HX := hide (HX0.out.below hg0 b1)
  have HR := hide (HR0.out.at b1)
  have hg := Nat.lt_of_lt_of_le hg0 b1.size
  have HB := hide (HB0.out.trans (b1.mono HB0.out.size))
  have hsz := HB.out.size
  clear b1 HX0 HR0 HB0 hg0 f0
  have f0 := HX.out 0 _ rfl
  have f1 := HX.out 1 _ rfl
  by_cases k : x.o = 1
  · skip
    have hI : insB x n = inB x.n (-128) 127 := by unfold insB; rw [if_pos k]
    have hE : encX xs x = [x.o] ++ [x.n + 128] := encX_1 k
    have hF : opF x.o = .func (.func 36) #[] #[] := by unfold opF; rw [if_pos k]
    have HI := hide hI
    have HE := hide hE
    rw [hF]
    have q := eqlF1 w1 36
    have ho : 1 ≤ x.o ∧ x.o ≤ 14 := by omega
    clear hI hE hF k
    go_wp2_with (first
      | (go_at_call 36; refine (pushI _ x _).mono ?_; rintro e w2 ⟨z, rfl, hz, b2⟩; have HZ := hide hz; have HB2 := hide (HB.out.trans (b2.mono HB.out.size)); clear hz; have HX2 := HX.out.below hg b2; have y0 := HX2 0 _ rfl; have y1 := HX2 1 _ rfl; have hz2 := HB2.out.size; clear b2 HX2)
      | fail)
    go_ret2
    refine ⟨_, by rw [HI.out]; rfl, hide (fun h => ?_), HB2.out.alloc hz2 _⟩
    rw [HE.out, ← HZ.out (by rw [← HI.out]; exact h)]
    exact ownD_lit w2 w.heap.size hz2 5 1 2 #[.int .u8 x.o, .int .u8 z] (by omega) rfl
  by_cases k2 : x.o = 2 ∨ (9 ≤ x.o ∧ x.o ≤ 12)
  · have k := k2
    have hI : insB x n = inB x.n 0 23 := by unfold insB; rw [if_neg (by omega), if_pos k]
    have hE : encX xs x = [x.o] ++ [x.n] := encX_3 (by omega) (by omega) (hasB_t (by omega))
    have hF : opF x.o = .func (.func 37) #[] #[] := by unfold opF; rw [if_neg (by omega), if_pos k]
    have HI := hide hI
    have HE := hide hE
    rw [hF]
    have q := eqlF1 w1 37
    have ho : 1 ≤ x.o ∧ x.o ≤ 14 := by omega
    clear hI hE hF k k2
    go_wp2_with (first
      | (go_at_call 37; refine (poolI _ x _).mono ?_; rintro e w2 ⟨z, rfl, hz, b2⟩; have HZ := hide hz; have HB2 := hide (HB.out.trans (b2.mono HB.out.size)); clear hz; have HX2 := HX.out.below hg b2; have y0 := HX2 0 _ rfl; have y1 := HX2 1 _ rfl; have hz2 := HB2.out.size; clear b2 HX2)
      | fail)
    go_ret2
    refine ⟨_, by rw [HI.out]; rfl, hide (fun h => ?_), HB2.out.alloc hz2 _⟩
    rw [HE.out, ← HZ.out (by rw [← HI.out]; exact h)]
    exact ownD_lit w2 w.heap.size hz2 5 1 2 #[.int .u8 x.o, .int .u8 z] (by omega) rfl
  by_cases k3 : x.o = 3 ∨ x.o = 4
  · have k := k3
    have hI : insB x n = inB x.n 0 5 := by unfold insB; rw [if_neg (by omega), if_neg (by omega), if_pos k]
    have hE : encX xs x = [x.o] ++ [x.n] := encX_3 (by omega) (by omega) (hasB_t (by omega))
    have hF : opF x.o = .func (.func 38) #[] #[] := by unfold opF; rw [if_neg (by omega), if_neg (by omega), if_pos k]
    have HI := hide hI
    have HE := hide hE
    rw [hF]
    have q := eqlF1 w1 38
    have ho : 1 ≤ x.o ∧ x.o ≤ 14 := by omega
    clear hI hE hF k k2 k3
    go_wp2_with (first
      | (go_at_call 38; refine (localI _ x _).mono ?_; rintro e w2 ⟨z, rfl, hz, b2⟩; have HZ := hide hz; have HB2 := hide (HB.out.trans (b2.mono HB.out.size)); clear hz; have HX2 := HX.out.below hg b2; have y0 := HX2 0 _ rfl; have y1 := HX2 1 _ rfl; have hz2 := HB2.out.size; clear b2 HX2)
      | fail)
    go_ret2
    refine ⟨_, by rw [HI.out]; rfl, hide (fun h => ?_), HB2.out.alloc hz2 _⟩
    rw [HE.out, ← HZ.out (by rw [← HI.out]; exact h)]
    exact ownD_lit w2 w.heap.size hz2 5 1 2 #[.int .u8 x.o, .int .u8 z] (by omega) rfl
  by_cases k4 : x.o = 13 ∨ x.o = 14
  · have k := k4
    have hI : insB x n = inB x.n 0 ((n : Int) - 1) := by unfold insB; rw [if_neg (by omega), if_neg (by omega), if_neg (by omega), if_pos k]
    have hE : encX xs x = [x.o] ++ [(stA xs x.n.toNat : Int)] := encX_2 k
    have hF : opF x.o = .func (.func 39) #[] #[] := by unfold opF; rw [if_neg (by omega), if_neg (by omega), if_neg (by omega), if_pos k]
    have HI := hide hI
    have HE := hide hE
    rw [hF]
    have q := eqlF1 w1 39
    have ho : 1 ≤ x.o ∧ x.o ≤ 14 := by omega
    clear hI hE hF k k2 k3 k4
    go_wp2_with (first
      | (go_at_call 39; refine (hJ.out _ x _ HR.out).mono ?_; rintro e w2 ⟨z, rfl, hz, b2⟩; have HZ := hide hz; have HB2 := hide (HB.out.trans (b2.mono HB.out.size)); clear hz; have HX2 := HX.out.below hg b2; have y0 := HX2 0 _ rfl; have y1 := HX2 1 _ rfl; have hz2 := HB2.out.size; clear b2 HX2)
      | fail)
    go_ret2
    refine ⟨_, by rw [HI.out]; rfl, hide (fun h => ?_), HB2.out.alloc hz2 _⟩
    rw [HE.out, ← HST.out x.n z (HZ.out (by rw [← HI.out]; exact h)) (by rw [← HI.out]; exact h)]
    exact ownD_lit w2 w.heap.size hz2 5 1 2 #[.int .u8 x.o, .int .u8 z] (by omega) rfl
  have kh : hasB x.o = false := hasB_f (by omega)
  have HI := hide (Ins8.other (x := x) (m := n) (by rw [kh]; simp))
  have HE := hide (encX_4 (xs := xs) kh)
  rw [opF_no kh]
  have q := eqlF0 w1
  clear k k2 k3 k4 kh hJ HST
  go_upto_region 3 with fail
  have g0 : w1.drew.cell? ⟨w.heap.size, 0, none⟩ = some (.int .i64 x.o) := f0
  have g1 : w1.drew.cell? ⟨w.heap.size, 1, none⟩ = some (.int .i64 x.n) := f1
  have HS : Hid (∀ w', Below w1.heap.size w1 w' → w'.cell? ⟨w.heap.size, 0, none⟩ = some (.int .i64 x.o) ∧ w'.cell? ⟨w.heap.size, 1, none⟩ = some (.int .i64 x.n)) := hide (fun w' hw => ⟨(hw.cell (p := ⟨w.heap.size, 0, none⟩) hg).trans f0, (hw.cell (p := ⟨w.heap.size, 1, none⟩) hg).trans f1⟩)
  have HD0 : Hid (Below w1.heap.size w1 w1.drew) := hide (Below.refl w1.heap.size w1).drew
  have HD1 : Hid (∀ z, Below w1.heap.size w1 (w1.drew.alloc (.cells #[.int .u8 z] 5))) := hide (fun z => (Below.refl w1.heap.size w1).drew.alloc (by simp) _)
  cases c1 : inB x.o 1 24 with
  | false =>
    refine wp_region_held_drew (S := fun w' => w'.cell? ⟨w.heap.size, 0, none⟩ = some (.int .i64 x.o) ∧ w'.cell? ⟨w.heap.size, 1, none⟩ = some (.int .i64 x.n)) (by kernel_rfl) (HS.out _ HD0.out) (fun hHeld => ?_)
    refine wpAnyH_take (i := 0) (v := ?_) rfl (by kernel_rfl) (by kernel_rfl) (by kernel_rfl) (fun _ _ _ h => h) (Or.inl ⟨by rfl, ?_⟩) (by assumption) ?_
    rotate_left
    · intro w' hSw
      try dsimp only at hSw
      go_simp; try rfl
    simp only [List.getElem_toArray, List.getElem_cons_zero, Act.put, List.setIfInBounds_toArray, List.set_cons_zero, List.set_cons_succ]
    refine wpAnyH_take (i := 1) (v := ?_) rfl (by kernel_rfl) (by kernel_rfl) (by kernel_rfl) (fun _ _ _ h => h) (Or.inl ⟨by rfl, ?_⟩) (by assumption) ?_
    rotate_left
    · intro w' hSw
      try dsimp only at hSw
      go_simp; try rfl
    simp only [List.getElem_toArray, List.getElem_cons_succ, List.getElem_cons_zero, Act.put, List.setIfInBounds_toArray, List.set_cons_zero, List.set_cons_succ]
    refine wpAnyH_take (i := 2) (v := ?_) rfl (by kernel_rfl) (by kernel_rfl) (by kernel_rfl) (fun _ _ _ h => h) (Or.inl ⟨by rfl, ?_⟩) (by assumption) ?_
    rotate_left
    · intro w' hSw
      try dsimp only at hSw
      go_simp; try rfl
    simp only [List.getElem_toArray, List.getElem_cons_succ, List.getElem_cons_zero, Act.put, List.setIfInBounds_toArray, List.set_cons_zero, List.set_cons_succ]
    refine wpAnyH_take (i := 4) (v := ?_) rfl (by kernel_rfl) (by kernel_rfl) (by kernel_rfl) (fun _ _ _ h => h) (Or.inl ⟨by rfl, ?_⟩) (by assumption) ?_
    rotate_left
    · intro w' hSw
      try dsimp only at hSw
      go_simp; try rfl
    simp only [List.getElem_toArray, List.getElem_cons_succ, List.getElem_cons_zero, Act.put, List.setIfInBounds_toArray, List.set_cons_zero, List.set_cons_succ]
    refine wpAnyH_take (i := 5) (v := ?_) rfl (by kernel_rfl) (by kernel_rfl) (by kernel_rfl) (fun _ _ _ h => h) (Or.inl ⟨by rfl, ?_⟩) (by assumption) ?_
    rotate_left
    · intro w' hSw
      try dsimp only at hSw
      go_simp; try rfl
    simp only [List.getElem_toArray, List.getElem_cons_succ, List.getElem_cons_zero, Act.put, List.setIfInBounds_toArray, List.set_cons_zero, List.set_cons_succ]
    refine wpAnyH_ready (rs := [3, 6]) (by kernel_rfl) (by simp) (AllReadyH.cons rfl (fun K hK => ?_) (AllReadyH.cons rfl (fun K hK => ?_) AllReadyH.nil))
    · skip
      refine step_run (some 17) rfl (by kernel_rfl) (v := .slice (some ⟨w1.heap.size, 0, none⟩) 1 1) (w' := w1.drew.alloc (.cells #[.int .u8 (IntKind.u8.wrap x.o)] 5)) (by go_simp; try rfl) ?_
      refine hK.out _ _ (HS.out _ (HD1.out _)) (fun hHeld => ?_)
      clear hK K
      simp only [Act.put, List.setIfInBounds_toArray, List.set_cons_zero, List.set_cons_succ]
      refine wpAnyH_ready (rs := [6]) (by kernel_rfl) (by simp) (AllReadyH.cons rfl (fun K hK => ?_) AllReadyH.nil)
      refine step_callW (some 20) rfl (by kernel_rfl) 35 _ _ rfl #[.int .i64 x.o] (by kernel_rfl) (isOpImpl _ _) ?_; rintro e y ⟨rfl, hy⟩; rw [hy, c1]; clear hy y; refine ⟨_, rfl, ?_⟩
      refine hK.out _ _ (HS.out _ (HD1.out _)) (fun hHeld => ?_)
      clear hK K
      simp only [Act.put, List.setIfInBounds_toArray, List.set_cons_zero, List.set_cons_succ]
      refine wpAnyH_take (i := 7) (v := ?_) rfl (by kernel_rfl) (by kernel_rfl) (by kernel_rfl) (fun _ _ _ h => h) (Or.inl ⟨by rfl, ?_⟩) (by assumption) ?_
      rotate_left
      · intro w' hSw
        try dsimp only at hSw
        go_simp; try rfl
      simp only [List.getElem_toArray, List.getElem_cons_succ, List.getElem_cons_zero, Act.put, List.setIfInBounds_toArray, List.set_cons_zero, List.set_cons_succ]
      refine wpAnyH_take (i := 8) (v := undef) rfl (by kernel_rfl) (by kernel_rfl) (by kernel_rfl) (fun _ _ _ h => h) (Or.inr ⟨by rfl, rfl⟩) (by assumption) ?_
      simp only [List.getElem_toArray, List.getElem_cons_succ, List.getElem_cons_zero, Act.put, List.setIfInBounds_toArray, List.set_cons_zero, List.set_cons_succ]
      refine wpAnyH_take (i := 9) (v := undef) rfl (by kernel_rfl) (by kernel_rfl) (by kernel_rfl) (fun _ _ _ h => h) (Or.inr ⟨by rfl, rfl⟩) (by assumption) ?_
      simp only [List.getElem_toArray, List.getElem_cons_succ, List.getElem_cons_zero, Act.put, List.setIfInBounds_toArray, List.set_cons_zero, List.set_cons_succ]
      refine wpAnyH_take (i := 10) (v := undef) rfl (by kernel_rfl) (by kernel_rfl) (by kernel_rfl) (fun _ _ _ h => h) (Or.inr ⟨by rfl, rfl⟩) (by assumption) ?_
      simp only [List.getElem_toArray, List.getElem_cons_succ, List.getElem_cons_zero, Act.put, List.setIfInBounds_toArray, List.set_cons_zero, List.set_cons_succ]
      refine wpAnyH_take (i := 11) (v := ?_) rfl (by kernel_rfl) (by kernel_rfl) (by kernel_rfl) (fun _ _ _ h => h) (Or.inl ⟨by rfl, ?_⟩) (by assumption) ?_
      rotate_left
      · intro w' hSw
        try dsimp only at hSw
        go_simp; try rfl
      simp only [List.getElem_toArray, List.getElem_cons_succ, List.getElem_cons_zero, Act.put, List.setIfInBounds_toArray, List.set_cons_zero, List.set_cons_succ]
      refine wpAnyH_take (i := 12) (v := ?_) rfl (by kernel_rfl) (by kernel_rfl) (by kernel_rfl) (fun _ _ _ h => h) (Or.inl ⟨by rfl, ?_⟩) (by assumption) ?_
      rotate_left
      · intro w' hSw
        try dsimp only at hSw
        go_simp; try rfl
      simp only [List.getElem_toArray, List.getElem_cons_succ, List.getElem_cons_zero, Act.put, List.setIfInBounds_toArray, List.set_cons_zero, List.set_cons_succ]
      refine wpAnyH_take (i := 13) (v := ?_) rfl (by kernel_rfl) (by kernel_rfl) (by kernel_rfl) (fun _ _ _ h => h) (Or.inl ⟨by rfl, ?_⟩) (by assumption) ?_
      rotate_left
      · intro w' hSw
        try dsimp only at hSw
        go_simp; try rfl
      simp only [List.getElem_toArray, List.getElem_cons_succ, List.getElem_cons_zero, Act.put, List.setIfInBounds_toArray, List.set_cons_zero, List.set_cons_succ]
      refine wpAnyH_done (by kernel_rfl) ?_ _
      go_wp2_with fail
      go_ret2
      exact ⟨_, by rw [HI.out, c1]; rfl, hide (fun h => by rw [HI.out, c1] at h; cases h), HB.out.trans ((HD1.out _).mono hsz)⟩
    · skip
      refine step_callW (some 20) rfl (by kernel_rfl) 35 _ _ rfl #[.int .i64 x.o] (by kernel_rfl) (isOpImpl _ _) ?_; rintro e y ⟨rfl, hy⟩; rw [hy, c1]; clear hy y; refine ⟨_, rfl, ?_⟩
      refine hK.out _ _ (HS.out _ HD0.out) (fun hHeld => ?_)
      clear hK K
      simp only [Act.put, List.setIfInBounds_toArray, List.set_cons_zero, List.set_cons_succ]
      refine wpAnyH_take (i := 7) (v := ?_) rfl (by kernel_rfl) (by kernel_rfl) (by kernel_rfl) (fun _ _ _ h => h) (Or.inl ⟨by rfl, ?_⟩) (by assumption) ?_
      rotate_left
      · intro w' hSw
        try dsimp only at hSw
        go_simp; try rfl
      simp only [List.getElem_toArray, List.getElem_cons_succ, List.getElem_cons_zero, Act.put, List.setIfInBounds_toArray, List.set_cons_zero, List.set_cons_succ]
      refine wpAnyH_take (i := 8) (v := undef) rfl (by kernel_rfl) (by kernel_rfl) (by kernel_rfl) (fun _ _ _ h => h) (Or.inr ⟨by rfl, rfl⟩) (by assumption) ?_
      simp only [List.getElem_toArray, List.getElem_cons_succ, List.getElem_cons_zero, Act.put, List.setIfInBounds_toArray, List.set_cons_zero, List.set_cons_succ]
      refine wpAnyH_take (i := 9) (v := undef) rfl (by kernel_rfl) (by kernel_rfl) (by kernel_rfl) (fun _ _ _ h => h) (Or.inr ⟨by rfl, rfl⟩) (by assumption) ?_
      simp only [List.getElem_toArray, List.getElem_cons_succ, List.getElem_cons_zero, Act.put, List.setIfInBounds_toArray, List.set_cons_zero, List.set_cons_succ]
      refine wpAnyH_take (i := 10) (v := undef) rfl (by kernel_rfl) (by kernel_rfl) (by kernel_rfl) (fun _ _ _ h => h) (Or.inr ⟨by rfl, rfl⟩) (by assumption) ?_
      simp only [List.getElem_toArray, List.getElem_cons_succ, List.getElem_cons_zero, Act.put, List.setIfInBounds_toArray, List.set_cons_zero, List.set_cons_succ]
      refine wpAnyH_take (i := 11) (v := ?_) rfl (by kernel_rfl) (by kernel_rfl) (by kernel_rfl) (fun _ _ _ h => h) (Or.inl ⟨by rfl, ?_⟩) (by assumption) ?_
      rotate_left
      · intro w' hSw
        try dsimp only at hSw
        go_simp; try rfl
      simp only [List.getElem_toArray, List.getElem_cons_succ, List.getElem_cons_zero, Act.put, List.setIfInBounds_toArray, List.set_cons_zero, List.set_cons_succ]
      refine wpAnyH_ready (rs := [3]) (by kernel_rfl) (by simp) (AllReadyH.cons rfl (fun K hK => ?_) AllReadyH.nil)
      refine step_run (some 17) rfl (by kernel_rfl) (v := .slice (some ⟨w1.heap.size, 0, none⟩) 1 1) (w' := w1.drew.alloc (.cells #[.int .u8 (IntKind.u8.wrap x.o)] 5)) (by go_simp; try rfl) ?_
      refine hK.out _ _ (HS.out _ (HD1.out _)) (fun hHeld => ?_)
      clear hK K
      simp only [Act.put, List.setIfInBounds_toArray, List.set_cons_zero, List.set_cons_succ]
      refine wpAnyH_take (i := 12) (v := ?_) rfl (by kernel_rfl) (by kernel_rfl) (by kernel_rfl) (fun _ _ _ h => h) (Or.inl ⟨by rfl, ?_⟩) (by assumption) ?_
      rotate_left
      · intro w' hSw
        try dsimp only at hSw
        go_simp; try rfl
      simp only [List.getElem_toArray, List.getElem_cons_succ, List.getElem_cons_zero, Act.put, List.setIfInBounds_toArray, List.set_cons_zero, List.set_cons_succ]
      refine wpAnyH_take (i := 13) (v := ?_) rfl (by kernel_rfl) (by kernel_rfl) (by kernel_rfl) (fun _ _ _ h => h) (Or.inl ⟨by rfl, ?_⟩) (by assumption) ?_
      rotate_left
      · intro w' hSw
        try dsimp only at hSw
        go_simp; try rfl
      simp only [List.getElem_toArray, List.getElem_cons_succ, List.getElem_cons_zero, Act.put, List.setIfInBounds_toArray, List.set_cons_zero, List.set_cons_succ]
      refine wpAnyH_done (by kernel_rfl) ?_ _
      go_wp2_with fail
      go_ret2
      exact ⟨_, by rw [HI.out, c1]; rfl, hide (fun h => by rw [HI.out, c1] at h; cases h), HB.out.trans ((HD1.out _).mono hsz)⟩
  | true =>
    have hr := inB_yes c1
    have HF : Hid (∀ z, x.o = z → OwnD (w1.drew.alloc (.cells #[.int .u8 z] 5)) w.heap.size (w1.drew.alloc (.cells #[.int .u8 z] 5)).heap.size (byts [x.o]) (.slice (some ⟨w1.heap.size, 0, none⟩) 1 1)) := hide (fun z hz => by subst hz; exact ownD_lit w1.drew w.heap.size (by simpa using hsz) 5 1 1 #[.int .u8 x.o] (by omega) rfl)
    cases c2 : (x.n == 0) with
    | false =>
      go_region_held_law (fun w' => w'.cell? ⟨w.heap.size, 0, none⟩ = some (.int .i64 x.o) ∧ w'.cell? ⟨w.heap.size, 1, none⟩ = some (.int .i64 x.n))
        (first | exact HS.out _ HD0.out | exact HS.out _ (HD1.out _))
        (first
          | (refine step_callW (some 20) rfl (by kernel_rfl) 35 _ _ rfl #[.int .i64 x.o] (by kernel_rfl) (isOpImpl _ _) ?_; rintro e y ⟨rfl, hy⟩; rw [hy, c1]; clear hy y; refine ⟨_, rfl, ?_⟩)
          | fail)
      all_goals (
       go_wp2_with fail
       go_ret2
       exact ⟨_, by rw [HI.out, c1, c2]; rfl, hide (fun h => by rw [HI.out, c1, c2] at h; cases h), HB.out.trans ((HD1.out _).mono hsz)⟩)
    | true =>
      go_region_held_law (fun w' => w'.cell? ⟨w.heap.size, 0, none⟩ = some (.int .i64 x.o) ∧ w'.cell? ⟨w.heap.size, 1, none⟩ = some (.int .i64 x.n))
        (first | exact HS.out _ HD0.out | exact HS.out _ (HD1.out _))
        (first
          | (refine step_callW (some 20) rfl (by kernel_rfl) 35 _ _ rfl #[.int .i64 x.o] (by kernel_rfl) (isOpImpl _ _) ?_; rintro e y ⟨rfl, hy⟩; rw [hy, c1]; clear hy y; refine ⟨_, rfl, ?_⟩)
          | fail)
      all_goals (
       go_wp2_with fail
       go_ret2
       exact ⟨_, by rw [HI.out, c1, c2]; rfl, hide (fun _ => by rw [HE.out]; exact HF.out _ (by first | rfl | exact (IntWalk.u8_in _ (by omega)).symm)), HB.out.trans ((HD1.out _).mono hsz)⟩)
end Go.Proofs.YtonkaomfahmchaaDoor
