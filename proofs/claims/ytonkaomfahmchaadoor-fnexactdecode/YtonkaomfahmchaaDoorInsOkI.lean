/-
  Code, by the program: ops and what makes their bytes.
-/
import Derived.Test.YtonkaomfahmchaaDoorInsM
import Derived.Test.YtonkaomfahmchaaDoorDeepF
import Derived.Test.YtonkaomfahmchaaDoorStepW
import Derived.Deep.RegionWith
import Derived.Deep.CutRange
import Derived.Great.BuildSlice
import Derived.Laws.CopyOwn
namespace Go.Proofs.YtonkaomfahmchaaDoor
open Go.RowKit

def opF (o : Int) : Value :=
  if o = 1 then .func (.func 36) #[] #[] else if o = 2 ∨ (9 ≤ o ∧ o ≤ 12) then .func (.func 37) #[] #[] else if o = 3 ∨ o = 4 then .func (.func 38) #[] #[] else if o = 13 ∨ o = 14 then .func (.func 39) #[] #[] else .nilFunc
theorem heap_new (w : World) (o : Obj) : (w.alloc o).heap[w.heap.size]? = some o := by show (w.heap.push o)[w.heap.size]? = some o; simp
def opsA : Array Value := #[.nilFunc, .func (.func 36) #[] #[], .func (.func 37) #[] #[], .func (.func 38) #[] #[], .func (.func 38) #[] #[], .nilFunc, .nilFunc, .nilFunc, .nilFunc, .func (.func 37) #[] #[], .func (.func 37) #[] #[], .func (.func 37) #[] #[], .func (.func 37) #[] #[], .func (.func 39) #[] #[], .func (.func 39) #[] #[]]
set_option maxRecDepth 100000 in
set_option maxHeartbeats 4000000 in
theorem opImpl (w : World) (o : Int) : Calls Tryd.prog 34 #[.int .i64 o] w fun e w' => e = .returned (opF o) ∧ Below w.heap.size w w' := by
  have hi : (Tryd.prog.info? 60).map (·.size) = some opsA.size := by kernel_rfl
  have hone : opsA.all (·.oneCell') = true := by simp [opsA, Value.oneCell']
  have HE : Hid (((w.alloc (.cells #[.nilFunc, .nilFunc, .nilFunc, .nilFunc, .nilFunc, .nilFunc, .nilFunc, .nilFunc, .nilFunc, .nilFunc, .nilFunc, .nilFunc, .nilFunc, .nilFunc, .nilFunc] 60)).setRow w.heap.size opsA).heap[w.heap.size]? = some (.cells opsA 60 (0, 0))) := hide (setRow_heap _ w.heap.size _ _ _ _ (heap_new w _))
  have HB : Hid (Below w.heap.size w ((w.alloc (.cells #[.nilFunc, .nilFunc, .nilFunc, .nilFunc, .nilFunc, .nilFunc, .nilFunc, .nilFunc, .nilFunc, .nilFunc, .nilFunc, .nilFunc, .nilFunc, .nilFunc, .nilFunc] 60)).setRow w.heap.size opsA)) := hide (below_setRow ((Below.refl w.heap.size w).alloc (Nat.le_refl _) _) (Nat.le_refl _) _)
  have HA : Hid ((w.alloc (.cells #[.nilFunc, .nilFunc, .nilFunc, .nilFunc, .nilFunc, .nilFunc, .nilFunc, .nilFunc, .nilFunc, .nilFunc, .nilFunc, .nilFunc, .nilFunc, .nilFunc, .nilFunc] 60)).heap[w.heap.size]? = some (.cells #[.nilFunc, .nilFunc, .nilFunc, .nilFunc, .nilFunc, .nilFunc, .nilFunc, .nilFunc, .nilFunc, .nilFunc, .nilFunc, .nilFunc, .nilFunc, .nilFunc, .nilFunc] 60 (0, 0))) := hide (heap_new w _)
  obtain ⟨W, hW⟩ : ∃ W, (w.alloc (.cells #[.nilFunc, .nilFunc, .nilFunc, .nilFunc, .nilFunc, .nilFunc, .nilFunc, .nilFunc, .nilFunc, .nilFunc, .nilFunc, .nilFunc, .nilFunc, .nilFunc, .nilFunc] 60)).setRow w.heap.size opsA = W := ⟨_, rfl⟩
  rw [hW] at HE HB
  have HX := (box_of HE.out).1
  by_cases h0 : o = 0
  · subst h0
    rw [show opF 0 = .nilFunc from rfl]
    have c : inB 0 0 14 = true := rfl
    have f := HX 0 _ rfl
    clear HX
    go_enter Tryd.func34, Tryd.ntmps34
    go_wp2_with (first
      | (refine wpList_store_rowTo rfl 60 (.tmp 3) (.tmp 4) rfl rfl w.heap.size opsA rfl rfl _ _ HA.out hi rfl hone ?_; rw [hW]; clear hW)
      | (go_at_call 31; refine (inImpl _ _ _ _).mono ?_; rintro e y ⟨rfl, hy⟩; rw [hy, c]; clear hy y)
      | fail)
    go_ret
    exact ⟨rfl, HB.out⟩
  by_cases h1 : o = 1
  · subst h1
    rw [show opF 1 = .func (.func 36) #[] #[] from rfl]
    have c : inB 1 0 14 = true := rfl
    have f := HX 1 _ rfl
    clear HX
    go_enter Tryd.func34, Tryd.ntmps34
    go_wp2_with (first
      | (refine wpList_store_rowTo rfl 60 (.tmp 3) (.tmp 4) rfl rfl w.heap.size opsA rfl rfl _ _ HA.out hi rfl hone ?_; rw [hW]; clear hW)
      | (go_at_call 31; refine (inImpl _ _ _ _).mono ?_; rintro e y ⟨rfl, hy⟩; rw [hy, c]; clear hy y)
      | fail)
    go_ret
    exact ⟨rfl, HB.out⟩
  by_cases h2 : o = 2
  · subst h2
    rw [show opF 2 = .func (.func 37) #[] #[] from rfl]
    have c : inB 2 0 14 = true := rfl
    have f := HX 2 _ rfl
    clear HX
    go_enter Tryd.func34, Tryd.ntmps34
    go_wp2_with (first
      | (refine wpList_store_rowTo rfl 60 (.tmp 3) (.tmp 4) rfl rfl w.heap.size opsA rfl rfl _ _ HA.out hi rfl hone ?_; rw [hW]; clear hW)
      | (go_at_call 31; refine (inImpl _ _ _ _).mono ?_; rintro e y ⟨rfl, hy⟩; rw [hy, c]; clear hy y)
      | fail)
    go_ret
    exact ⟨rfl, HB.out⟩
  by_cases h3 : o = 3
  · subst h3
    rw [show opF 3 = .func (.func 38) #[] #[] from rfl]
    have c : inB 3 0 14 = true := rfl
    have f := HX 3 _ rfl
    clear HX
    go_enter Tryd.func34, Tryd.ntmps34
    go_wp2_with (first
      | (refine wpList_store_rowTo rfl 60 (.tmp 3) (.tmp 4) rfl rfl w.heap.size opsA rfl rfl _ _ HA.out hi rfl hone ?_; rw [hW]; clear hW)
      | (go_at_call 31; refine (inImpl _ _ _ _).mono ?_; rintro e y ⟨rfl, hy⟩; rw [hy, c]; clear hy y)
      | fail)
    go_ret
    exact ⟨rfl, HB.out⟩
  by_cases h4 : o = 4
  · subst h4
    rw [show opF 4 = .func (.func 38) #[] #[] from rfl]
    have c : inB 4 0 14 = true := rfl
    have f := HX 4 _ rfl
    clear HX
    go_enter Tryd.func34, Tryd.ntmps34
    go_wp2_with (first
      | (refine wpList_store_rowTo rfl 60 (.tmp 3) (.tmp 4) rfl rfl w.heap.size opsA rfl rfl _ _ HA.out hi rfl hone ?_; rw [hW]; clear hW)
      | (go_at_call 31; refine (inImpl _ _ _ _).mono ?_; rintro e y ⟨rfl, hy⟩; rw [hy, c]; clear hy y)
      | fail)
    go_ret
    exact ⟨rfl, HB.out⟩
  by_cases h5 : o = 5
  · subst h5
    rw [show opF 5 = .nilFunc from rfl]
    have c : inB 5 0 14 = true := rfl
    have f := HX 5 _ rfl
    clear HX
    go_enter Tryd.func34, Tryd.ntmps34
    go_wp2_with (first
      | (refine wpList_store_rowTo rfl 60 (.tmp 3) (.tmp 4) rfl rfl w.heap.size opsA rfl rfl _ _ HA.out hi rfl hone ?_; rw [hW]; clear hW)
      | (go_at_call 31; refine (inImpl _ _ _ _).mono ?_; rintro e y ⟨rfl, hy⟩; rw [hy, c]; clear hy y)
      | fail)
    go_ret
    exact ⟨rfl, HB.out⟩
  by_cases h6 : o = 6
  · subst h6
    rw [show opF 6 = .nilFunc from rfl]
    have c : inB 6 0 14 = true := rfl
    have f := HX 6 _ rfl
    clear HX
    go_enter Tryd.func34, Tryd.ntmps34
    go_wp2_with (first
      | (refine wpList_store_rowTo rfl 60 (.tmp 3) (.tmp 4) rfl rfl w.heap.size opsA rfl rfl _ _ HA.out hi rfl hone ?_; rw [hW]; clear hW)
      | (go_at_call 31; refine (inImpl _ _ _ _).mono ?_; rintro e y ⟨rfl, hy⟩; rw [hy, c]; clear hy y)
      | fail)
    go_ret
    exact ⟨rfl, HB.out⟩
  by_cases h7 : o = 7
  · subst h7
    rw [show opF 7 = .nilFunc from rfl]
    have c : inB 7 0 14 = true := rfl
    have f := HX 7 _ rfl
    clear HX
    go_enter Tryd.func34, Tryd.ntmps34
    go_wp2_with (first
      | (refine wpList_store_rowTo rfl 60 (.tmp 3) (.tmp 4) rfl rfl w.heap.size opsA rfl rfl _ _ HA.out hi rfl hone ?_; rw [hW]; clear hW)
      | (go_at_call 31; refine (inImpl _ _ _ _).mono ?_; rintro e y ⟨rfl, hy⟩; rw [hy, c]; clear hy y)
      | fail)
    go_ret
    exact ⟨rfl, HB.out⟩
  by_cases h8 : o = 8
  · subst h8
    rw [show opF 8 = .nilFunc from rfl]
    have c : inB 8 0 14 = true := rfl
    have f := HX 8 _ rfl
    clear HX
    go_enter Tryd.func34, Tryd.ntmps34
    go_wp2_with (first
      | (refine wpList_store_rowTo rfl 60 (.tmp 3) (.tmp 4) rfl rfl w.heap.size opsA rfl rfl _ _ HA.out hi rfl hone ?_; rw [hW]; clear hW)
      | (go_at_call 31; refine (inImpl _ _ _ _).mono ?_; rintro e y ⟨rfl, hy⟩; rw [hy, c]; clear hy y)
      | fail)
    go_ret
    exact ⟨rfl, HB.out⟩
  by_cases h9 : o = 9
  · subst h9
    rw [show opF 9 = .func (.func 37) #[] #[] from rfl]
    have c : inB 9 0 14 = true := rfl
    have f := HX 9 _ rfl
    clear HX
    go_enter Tryd.func34, Tryd.ntmps34
    go_wp2_with (first
      | (refine wpList_store_rowTo rfl 60 (.tmp 3) (.tmp 4) rfl rfl w.heap.size opsA rfl rfl _ _ HA.out hi rfl hone ?_; rw [hW]; clear hW)
      | (go_at_call 31; refine (inImpl _ _ _ _).mono ?_; rintro e y ⟨rfl, hy⟩; rw [hy, c]; clear hy y)
      | fail)
    go_ret
    exact ⟨rfl, HB.out⟩
  by_cases h10 : o = 10
  · subst h10
    rw [show opF 10 = .func (.func 37) #[] #[] from rfl]
    have c : inB 10 0 14 = true := rfl
    have f := HX 10 _ rfl
    clear HX
    go_enter Tryd.func34, Tryd.ntmps34
    go_wp2_with (first
      | (refine wpList_store_rowTo rfl 60 (.tmp 3) (.tmp 4) rfl rfl w.heap.size opsA rfl rfl _ _ HA.out hi rfl hone ?_; rw [hW]; clear hW)
      | (go_at_call 31; refine (inImpl _ _ _ _).mono ?_; rintro e y ⟨rfl, hy⟩; rw [hy, c]; clear hy y)
      | fail)
    go_ret
    exact ⟨rfl, HB.out⟩
  by_cases h11 : o = 11
  · subst h11
    rw [show opF 11 = .func (.func 37) #[] #[] from rfl]
    have c : inB 11 0 14 = true := rfl
    have f := HX 11 _ rfl
    clear HX
    go_enter Tryd.func34, Tryd.ntmps34
    go_wp2_with (first
      | (refine wpList_store_rowTo rfl 60 (.tmp 3) (.tmp 4) rfl rfl w.heap.size opsA rfl rfl _ _ HA.out hi rfl hone ?_; rw [hW]; clear hW)
      | (go_at_call 31; refine (inImpl _ _ _ _).mono ?_; rintro e y ⟨rfl, hy⟩; rw [hy, c]; clear hy y)
      | fail)
    go_ret
    exact ⟨rfl, HB.out⟩
  by_cases h12 : o = 12
  · subst h12
    rw [show opF 12 = .func (.func 37) #[] #[] from rfl]
    have c : inB 12 0 14 = true := rfl
    have f := HX 12 _ rfl
    clear HX
    go_enter Tryd.func34, Tryd.ntmps34
    go_wp2_with (first
      | (refine wpList_store_rowTo rfl 60 (.tmp 3) (.tmp 4) rfl rfl w.heap.size opsA rfl rfl _ _ HA.out hi rfl hone ?_; rw [hW]; clear hW)
      | (go_at_call 31; refine (inImpl _ _ _ _).mono ?_; rintro e y ⟨rfl, hy⟩; rw [hy, c]; clear hy y)
      | fail)
    go_ret
    exact ⟨rfl, HB.out⟩
  by_cases h13 : o = 13
  · subst h13
    rw [show opF 13 = .func (.func 39) #[] #[] from rfl]
    have c : inB 13 0 14 = true := rfl
    have f := HX 13 _ rfl
    clear HX
    go_enter Tryd.func34, Tryd.ntmps34
    go_wp2_with (first
      | (refine wpList_store_rowTo rfl 60 (.tmp 3) (.tmp 4) rfl rfl w.heap.size opsA rfl rfl _ _ HA.out hi rfl hone ?_; rw [hW]; clear hW)
      | (go_at_call 31; refine (inImpl _ _ _ _).mono ?_; rintro e y ⟨rfl, hy⟩; rw [hy, c]; clear hy y)
      | fail)
    go_ret
    exact ⟨rfl, HB.out⟩
  by_cases h14 : o = 14
  · subst h14
    rw [show opF 14 = .func (.func 39) #[] #[] from rfl]
    have c : inB 14 0 14 = true := rfl
    have f := HX 14 _ rfl
    clear HX
    go_enter Tryd.func34, Tryd.ntmps34
    go_wp2_with (first
      | (refine wpList_store_rowTo rfl 60 (.tmp 3) (.tmp 4) rfl rfl w.heap.size opsA rfl rfl _ _ HA.out hi rfl hone ?_; rw [hW]; clear hW)
      | (go_at_call 31; refine (inImpl _ _ _ _).mono ?_; rintro e y ⟨rfl, hy⟩; rw [hy, c]; clear hy y)
      | fail)
    go_ret
    exact ⟨rfl, HB.out⟩
  have c : inB o 0 14 = false := inB_not (by omega)
  rw [show opF o = .nilFunc by unfold opF; rw [if_neg (by omega), if_neg (by omega), if_neg (by omega), if_neg (by omega)]]
  clear h0 h1 h2 h3 h4 h5 h6 h7 h8 h9 h10 h11 h12 h13 h14
  go_enter Tryd.func34, Tryd.ntmps34
  go_wp2_with (first
    | (refine wpList_store_rowTo rfl 60 (.tmp 3) (.tmp 4) rfl rfl w.heap.size opsA rfl rfl _ _ HA.out hi rfl hone ?_; rw [hW]; clear hW)
    | (go_at_call 31; refine (inImpl _ _ _ _).mono ?_; rintro e y ⟨rfl, hy⟩; rw [hy, c]; clear hy y)
    | fail)
  go_ret
  exact ⟨rfl, HB.out⟩
theorem opF_no {o : Int} (h : hasB o = false) : opF o = .nilFunc := by
  have h' : ¬ ((1 ≤ o ∧ o ≤ 4) ∨ (9 ≤ o ∧ o ≤ 14)) := by unfold hasB at h; exact of_decide_eq_false h
  unfold opF
  rw [if_neg (by omega), if_neg (by omega), if_neg (by omega), if_neg (by omega)]
theorem opF_yes {o : Int} (h : hasB o = true) : ∃ k, opF o = .func (.func k) #[] #[] := by
  have h' : ((1 ≤ o ∧ o ≤ 4) ∨ (9 ≤ o ∧ o ≤ 14)) := by unfold hasB at h; exact of_decide_eq_true h
  unfold opF
  split
  · exact ⟨_, rfl⟩
  · split
    · exact ⟨_, rfl⟩
    · split
      · exact ⟨_, rfl⟩
      · split
        · exact ⟨_, rfl⟩
        · omega
set_option maxRecDepth 100000 in
theorem neqF0 (w : World) : (binOp .neq 56 .nilFunc .nilFunc).run Tryd.prog w = .ok (.bool false) w := by kernel_rfl
set_option maxRecDepth 100000 in
theorem neqF1 (w : World) (k : FuncId) : (binOp .neq 56 (.func (.func k) #[] #[]) .nilFunc).run Tryd.prog w = .ok (.bool true) w := by kernel_rfl
set_option maxRecDepth 100000 in
theorem eqlF0 (w : World) : (binOp .eql 56 .nilFunc .nilFunc).run Tryd.prog w = .ok (.bool true) w := by kernel_rfl
set_option maxRecDepth 100000 in
theorem eqlF1 (w : World) (k : FuncId) : (binOp .eql 56 (.func (.func k) #[] #[]) .nilFunc).run Tryd.prog w = .ok (.bool false) w := by kernel_rfl
end Go.Proofs.YtonkaomfahmchaaDoor
