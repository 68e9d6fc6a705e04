/-
  Proved: whatever bytes they are drawn from, accesses of one field that are each within the same monitor never race, in the program as in the model (the law FnGuarded returns true), without any condition.
-/
import Derived.Test.YtllghgcancennaaRows
import Derived.Test.YtllghgcancennaaJ30
import Derived.Test.YtllghgcancennaaJ31
import Derived.Test.YtllghgcancennaaJ32
import Derived.Test.YtllghgcancennaaJ19
import Derived.Test.YtllghgcancennaaJ34
import Derived.WalkKit
import Derived.ProofKit
import Derived.OpenShut
import Derived.ShutString
import Derived.ChangeOld
import Derived.Below
namespace Go.Proofs.Ytllghgcancennaa.fnGuarded
open Go.ChangeShapes Go.WideShapes Go.ChangeAt Go.RowKit
open Go.ChangeMaps (open_string shut_string)
set_option linter.unusedVariables false

theorem own : ownKnob Try.prog.godebug = none := by kernel_rfl
theorem laidOut : laidOutB Try.prog = true := by kernel_rfl
set_option maxRecDepth 100000 in
set_option maxHeartbeats 8000000 in
theorem walk (a0 : Option Addr) (len0 cap0 : Nat) (z0 : List Int) (w : World) (w0 : IsRow .u8 w a0 len0 cap0 z0) :
    Calls Try.prog 6 #[.slice a0 len0 cap0] w fun e w' => e = .returned (.bool true) ∧ Below w.heap.size w w' := by
  by_cases hbig : (1048576 : Int) < (len0 : Int)
  · clear w0
    go_enter Try.func6, Try.ntmps6
    go_wp2_with (go_at_call 22; refine (bigYes _ _ _ _ hbig).mono ?_; rintro e wb ⟨rfl, rfl⟩)
    go_ret
    exact ⟨rfl, Below.refl _ _⟩
  · have hin := in_of w0 (by omega)
    clear w0
    generalize z0.take len0 = zs at hin
    have HIN := hide hin
    have HBY : Hid (∀ i, 0 ≤ atF zs i ∧ atF zs i ≤ 255) := hide (fun i => by
      unfold atF
      split
      · exact hin.2.2.1 i (by have := hin.1; omega)
      · omega)
    clear hin
    obtain ⟨i0, hi, hz0, hz1, hz2⟩ := info_parts Try.infoEvt
    have HI := hide (And.intro hi (And.intro hz0 (And.intro hz1 hz2)))
    clear hi hz0 hz1 hz2
    go_enter Try.func6, Try.ntmps6
    go_wp2_with fail
    refine (bigNo _ _ _ _ (by omega)).mono ?_
    rintro e wb ⟨rfl, hw⟩
    subst wb
    have HB := hide ((Below.refl w.heap.size w).alloc (Nat.le_refl _) (.cells #[] 40))
    have HO := hide (ownD_litC w w.heap.size (Nat.le_refl _) 40 4 0 #[] (by decide) rfl)
    go_upto_region 4 with fail
    generalize w.alloc (.cells #[] 40) = W1 at *
    go_wp2
    go_loopw [3, 4] (fun out i wr => ∃ (l : List (Int × Int)) (va : Option Addr) (vc : Nat), out = .slice va (gd l).length vc ∧ i = .int .i64 (l.length : Int) ∧ l.length ≤ 12 ∧ Hid (gdOk l) ∧ Hid (OwnD wr w.heap.size wr.heap.size (evts (gd l)) (.slice va (gd l).length vc)) ∧ Hid (Below w.heap.size w wr)) (fun _ i _ => (12 - intOf i).toNat)
    case atStart => exact ⟨[], _, _, rfl, rfl, by simp, hide (fun x hx => by cases hx), HO, HB⟩
    case round =>
      clear HB HO
      obtain ⟨l, va, vc, rfl, rfl, hl, HOK, HO, HB⟩ := hrel
      by_cases hlt : l.length < 12
      · have hltI : (l.length : Int) < 12 := by omega
        have hat := HBY.out l.length
        go_wp2_with fail
        refine (atB _ _ _ _ _ zs l.length (by omega) (HIN.out.at HB.out)).mono ?_
        rintro e x1 ⟨rfl, hx1⟩
        subst hx1
        obtain ⟨x, hx⟩ : ∃ x, atF zs l.length = x := ⟨_, rfl⟩
        rw [hx] at hat ⊢
        clear hx
        obtain ⟨n0, hn0⟩ : ∃ n, (gd l).length = n := ⟨_, rfl⟩
        have hnb : n0 ≤ 36 := by rw [← hn0, gd_len]; omega
        rw [hn0] at HO ⊢
        replace HO : Hid (OwnD x1 w.heap.size x1.heap.size (.row 40 4 n0 ((gd l).flatMap evtD)) (.slice va n0 vc)) := hide (by have h := HO.out; unfold evts at h; rw [hn0] at h; exact h)
        go_upto_region 9 with fail
        have hsb : 1 ≤ 1 + x % 3 ∧ 1 + x % 3 ≤ 3 := by omega
        have hqq : x / 3 % 2 = 0 ∨ x / 3 % 2 = 1 := by omega
        obtain ⟨s, hs⟩ : ∃ s, 1 + x % 3 = s := ⟨_, rfl⟩
        rw [hs] at hsb ⊢
        clear hs
        have bX := (Below.refl x1.heap.size x1).alloc (Nat.le_refl _) (.cells #[.int .i64 s, .int .i64 3, .int .i64 9, .int .i64 0] 40)
        have hbx0 := (box_of (heap_alloc_new x1 (.cells #[.int .i64 s, .int .i64 3, .int .i64 9, .int .i64 0] 40))).1
        try rw [World.size_alloc] at hbx0
        have hbx := hide hbx0
        clear hbx0
        have hsX := bX.size
        have hsW := HB.out.size
        have hown := hide (OwnDL.cons (HO.out.below bX) (ownDL_nil _ x1.heap.size x1.heap.size) hsW (Nat.le_refl _))
        have HBx := hide (HB.out.trans (bX.mono hsW))
        clear bX HB HO
        go_upto_region 10 with (first
          | (at_builtin; refine appL rfl _ _ 25 rfl w.heap.size x1.heap.size x1.heap.size 40 i0 (.agg #[.int .i64 0, .int .i64 0, .int .i64 0, .int .i64 0]) 4 32 Try.underlying25 HI.out.1 HI.out.2.1 HI.out.2.2.1 HI.out.2.2.2 rfl (by decide) _ (n0) ((gd l).flatMap evtD) [] [] [] [] rfl hown.out rfl _ _ [.int .i64 s, .int .i64 3, .int .i64 9, .int .i64 0] (evtD (Evt.mk s 3 9 0)) rfl hbx.out (ownDL_valsC _ _ _ [.int .i64 s, .int .i64 3, .int .i64 9, .int .i64 0]) rfl (one4E _ _ _ _) (Nat.le_trans hnb (by decide)) (by decide) (Nat.le_refl _) hsW hsX ?_; intro g9 vc9 x2 o9 gr9 hq9; have HO : Hid (OwnD x2 w.heap.size x2.heap.size (.row 40 4 (n0 + 1) ((gd l ++ [(Evt.mk s 3 9 0)]).flatMap evtD)) (.slice (some ⟨g9, 0, none⟩) (n0 + 1) vc9)) := hide (by rw [fm_snocE]; exact OwnDL.mid (c1 := []) (v1 := []) o9 rfl); have HB := hide (HBx.out.grown gr9 (Nat.le_trans hsW hsX) (fun q hq => (hq9 q hq).1)); clear o9 gr9 hq9)
          | fail)
        clear hbx hsX hown HBx hsW
        rcases hqq with hq | hq
        · have c0 := (box_of (heap_alloc_new x2 (.cells #[.int .i64 1, .int .i64 2] 3))).1 0 _ rfl
          have c1 := (box_of (heap_alloc_new x2 (.cells #[.int .i64 1, .int .i64 2] 3))).1 1 _ rfl
          have bL := (Below.refl x2.heap.size x2).alloc (Nat.le_refl _) (.cells #[.int .i64 1, .int .i64 2] 3)
          replace HO := hide ((HO.out.below bL).up bL.size)
          replace HB := hide (HB.out.trans (bL.mono HB.out.size))
          clear bL
          have bX := (Below.refl (x2.alloc (.cells #[.int .i64 1, .int .i64 2] 3)).heap.size (x2.alloc (.cells #[.int .i64 1, .int .i64 2] 3))).alloc (Nat.le_refl _) (.cells #[.int .i64 s, .int .i64 1, .int .i64 4, .int .i64 1] 40)
          have hbx0 := (box_of (heap_alloc_new (x2.alloc (.cells #[.int .i64 1, .int .i64 2] 3)) (.cells #[.int .i64 s, .int .i64 1, .int .i64 4, .int .i64 1] 40))).1
          try rw [World.size_alloc] at hbx0
          have hbx := hide hbx0
          clear hbx0
          have hsX := bX.size
          have hsW := HB.out.size
          have hown := hide (OwnDL.cons (HO.out.below bX) (ownDL_nil _ (x2.alloc (.cells #[.int .i64 1, .int .i64 2] 3)).heap.size (x2.alloc (.cells #[.int .i64 1, .int .i64 2] 3)).heap.size) hsW (Nat.le_refl _))
          have HBx := hide (HB.out.trans (bX.mono hsW))
          clear bX HB HO
          go_upto_region 11 with (first
            | (at_builtin; refine appL rfl _ _ 25 rfl w.heap.size (x2.alloc (.cells #[.int .i64 1, .int .i64 2] 3)).heap.size (x2.alloc (.cells #[.int .i64 1, .int .i64 2] 3)).heap.size 40 i0 (.agg #[.int .i64 0, .int .i64 0, .int .i64 0, .int .i64 0]) 4 32 Try.underlying25 HI.out.1 HI.out.2.1 HI.out.2.2.1 HI.out.2.2.2 rfl (by decide) _ (n0 + 1) ((gd l ++ [Evt.mk s 3 9 0]).flatMap evtD) [] [] [] [] rfl hown.out rfl _ _ [.int .i64 s, .int .i64 1, .int .i64 4, .int .i64 1] (evtD (Evt.mk s 1 4 1)) rfl hbx.out (ownDL_valsC _ _ _ [.int .i64 s, .int .i64 1, .int .i64 4, .int .i64 1]) rfl (one4E _ _ _ _) (Nat.le_trans (Nat.add_le_add_right hnb 1) (by decide)) (by decide) (Nat.le_refl _) hsW hsX ?_; intro g9 vc9 x3 o9 gr9 hq9; have HO : Hid (OwnD x3 w.heap.size x3.heap.size (.row 40 4 (n0 + 1 + 1) ((gd l ++ [Evt.mk s 3 9 0] ++ [(Evt.mk s 1 4 1)]).flatMap evtD)) (.slice (some ⟨g9, 0, none⟩) (n0 + 1 + 1) vc9)) := hide (by rw [fm_snocE]; exact OwnDL.mid (c1 := []) (v1 := []) o9 rfl); have HB := hide (HBx.out.grown gr9 (Nat.le_trans hsW hsX) (fun q hq => (hq9 q hq).1)); clear o9 gr9 hq9)
            | fail)
          clear hbx hsX hown HBx hsW
          clear c0 c1
          have bD := True.intro
          have bX := (Below.refl x3.heap.size x3).alloc (Nat.le_refl _) (.cells #[.int .i64 s, .int .i64 4, .int .i64 9, .int .i64 0] 40)
          have hbx0 := (box_of (heap_alloc_new x3 (.cells #[.int .i64 s, .int .i64 4, .int .i64 9, .int .i64 0] 40))).1
          try rw [World.size_alloc] at hbx0
          have hbx := hide hbx0
          clear hbx0
          have hsX := bX.size
          have hsW := HB.out.size
          have hown := hide (OwnDL.cons (HO.out.below bX) (ownDL_nil _ x3.heap.size x3.heap.size) hsW (Nat.le_refl _))
          have HBx := hide (HB.out.trans (bX.mono hsW))
          clear bX HB HO
          go_upto_region 6 with (first
            | (at_builtin; refine appL rfl _ _ 25 rfl w.heap.size x3.heap.size x3.heap.size 40 i0 (.agg #[.int .i64 0, .int .i64 0, .int .i64 0, .int .i64 0]) 4 32 Try.underlying25 HI.out.1 HI.out.2.1 HI.out.2.2.1 HI.out.2.2.2 rfl (by decide) _ (n0 + 1 + 1) (((gd l ++ [Evt.mk s 3 9 0]) ++ [Evt.mk s 1 4 1]).flatMap evtD) [] [] [] [] rfl hown.out rfl _ _ [.int .i64 s, .int .i64 4, .int .i64 9, .int .i64 0] (evtD (Evt.mk s 4 9 0)) rfl hbx.out (ownDL_valsC _ _ _ [.int .i64 s, .int .i64 4, .int .i64 9, .int .i64 0]) rfl (one4E _ _ _ _) (Nat.le_trans (Nat.add_le_add_right hnb 2) (by decide)) (by decide) (Nat.le_refl _) hsW hsX ?_; intro g9 vc9 x4 o9 gr9 hq9; have HO : Hid (OwnD x4 w.heap.size x4.heap.size (.row 40 4 (n0 + 1 + 1 + 1) (((gd l ++ [Evt.mk s 3 9 0]) ++ [Evt.mk s 1 4 1] ++ [(Evt.mk s 4 9 0)]).flatMap evtD)) (.slice (some ⟨g9, 0, none⟩) (n0 + 1 + 1 + 1) vc9)) := hide (by rw [fm_snocE]; exact OwnDL.mid (c1 := []) (v1 := []) o9 rfl); have HB := hide (HBx.out.grown gr9 (Nat.le_trans hsW hsX) (fun q hq => (hq9 q hq).1)); clear o9 gr9 hq9)
            | fail)
          clear hbx hsX hown HBx hsW
          have hgd : gd (l ++ [(s, 1)]) = ((gd l ++ [Evt.mk s 3 9 0]) ++ [Evt.mk s 1 4 1]) ++ [Evt.mk s 4 9 0] := by
            unfold gd
            rw [List.flatMap_append]
            simp [gdD]
          have hlen9 : (gd (l ++ [(s, 1)])).length = n0 + 1 + 1 + 1 := by rw [gd_len, ← hn0, gd_len, List.length_append]; simp only [List.length_cons, List.length_nil]; omega
          have HO9 : Hid (OwnD x4 w.heap.size x4.heap.size (evts (gd (l ++ [(s, 1)]))) (.slice (some ⟨g9, 0, none⟩) (gd (l ++ [(s, 1)])).length vc9)) := hide (by unfold evts; rw [hlen9, hgd]; exact HO.out)
          have HOK9 : Hid (gdOk (l ++ [(s, 1)])) := hide (fun z hz => by
            rcases List.mem_append.1 hz with hz | hz
            · exact HOK.out z hz
            · simp at hz
              subst hz
              exact ⟨hsb, by show (1 : Int) ≤ 1 ∧ (1 : Int) ≤ 2; omega⟩)
          go_wp2
          exact ⟨⟨l ++ [(s, 1)], some ⟨g9, 0, none⟩, vc9, by rw [hlen9], by rw [List.length_append]; simp only [List.length_cons, List.length_nil]; go_num, by rw [List.length_append]; simp only [List.length_cons, List.length_nil]; omega, HOK9, HO9, HB⟩, by simp [intOf]; omega⟩
        · have c0 := (box_of (heap_alloc_new x2 (.cells #[.int .i64 1, .int .i64 2] 3))).1 0 _ rfl
          have c1 := (box_of (heap_alloc_new x2 (.cells #[.int .i64 1, .int .i64 2] 3))).1 1 _ rfl
          have bL := (Below.refl x2.heap.size x2).alloc (Nat.le_refl _) (.cells #[.int .i64 1, .int .i64 2] 3)
          replace HO := hide ((HO.out.below bL).up bL.size)
          replace HB := hide (HB.out.trans (bL.mono HB.out.size))
          clear bL
          have bX := (Below.refl (x2.alloc (.cells #[.int .i64 1, .int .i64 2] 3)).heap.size (x2.alloc (.cells #[.int .i64 1, .int .i64 2] 3))).alloc (Nat.le_refl _) (.cells #[.int .i64 s, .int .i64 2, .int .i64 4, .int .i64 1] 40)
          have hbx0 := (box_of (heap_alloc_new (x2.alloc (.cells #[.int .i64 1, .int .i64 2] 3)) (.cells #[.int .i64 s, .int .i64 2, .int .i64 4, .int .i64 1] 40))).1
          try rw [World.size_alloc] at hbx0
          have hbx := hide hbx0
          clear hbx0
          have hsX := bX.size
          have hsW := HB.out.size
          have hown := hide (OwnDL.cons (HO.out.below bX) (ownDL_nil _ (x2.alloc (.cells #[.int .i64 1, .int .i64 2] 3)).heap.size (x2.alloc (.cells #[.int .i64 1, .int .i64 2] 3)).heap.size) hsW (Nat.le_refl _))
          have HBx := hide (HB.out.trans (bX.mono hsW))
          clear bX HB HO
          go_upto_region 11 with (first
            | (at_builtin; refine appL rfl _ _ 25 rfl w.heap.size (x2.alloc (.cells #[.int .i64 1, .int .i64 2] 3)).heap.size (x2.alloc (.cells #[.int .i64 1, .int .i64 2] 3)).heap.size 40 i0 (.agg #[.int .i64 0, .int .i64 0, .int .i64 0, .int .i64 0]) 4 32 Try.underlying25 HI.out.1 HI.out.2.1 HI.out.2.2.1 HI.out.2.2.2 rfl (by decide) _ (n0 + 1) ((gd l ++ [Evt.mk s 3 9 0]).flatMap evtD) [] [] [] [] rfl hown.out rfl _ _ [.int .i64 s, .int .i64 2, .int .i64 4, .int .i64 1] (evtD (Evt.mk s 2 4 1)) rfl hbx.out (ownDL_valsC _ _ _ [.int .i64 s, .int .i64 2, .int .i64 4, .int .i64 1]) rfl (one4E _ _ _ _) (Nat.le_trans (Nat.add_le_add_right hnb 1) (by decide)) (by decide) (Nat.le_refl _) hsW hsX ?_; intro g9 vc9 x3 o9 gr9 hq9; have HO : Hid (OwnD x3 w.heap.size x3.heap.size (.row 40 4 (n0 + 1 + 1) ((gd l ++ [Evt.mk s 3 9 0] ++ [(Evt.mk s 2 4 1)]).flatMap evtD)) (.slice (some ⟨g9, 0, none⟩) (n0 + 1 + 1) vc9)) := hide (by rw [fm_snocE]; exact OwnDL.mid (c1 := []) (v1 := []) o9 rfl); have HB := hide (HBx.out.grown gr9 (Nat.le_trans hsW hsX) (fun q hq => (hq9 q hq).1)); clear o9 gr9 hq9)
            | fail)
          clear hbx hsX hown HBx hsW
          clear c0 c1
          have bD := True.intro
          have bX := (Below.refl x3.heap.size x3).alloc (Nat.le_refl _) (.cells #[.int .i64 s, .int .i64 4, .int .i64 9, .int .i64 0] 40)
          have hbx0 := (box_of (heap_alloc_new x3 (.cells #[.int .i64 s, .int .i64 4, .int .i64 9, .int .i64 0] 40))).1
          try rw [World.size_alloc] at hbx0
          have hbx := hide hbx0
          clear hbx0
          have hsX := bX.size
          have hsW := HB.out.size
          have hown := hide (OwnDL.cons (HO.out.below bX) (ownDL_nil _ x3.heap.size x3.heap.size) hsW (Nat.le_refl _))
          have HBx := hide (HB.out.trans (bX.mono hsW))
          clear bX HB HO
          go_upto_region 6 with (first
            | (at_builtin; refine appL rfl _ _ 25 rfl w.heap.size x3.heap.size x3.heap.size 40 i0 (.agg #[.int .i64 0, .int .i64 0, .int .i64 0, .int .i64 0]) 4 32 Try.underlying25 HI.out.1 HI.out.2.1 HI.out.2.2.1 HI.out.2.2.2 rfl (by decide) _ (n0 + 1 + 1) (((gd l ++ [Evt.mk s 3 9 0]) ++ [Evt.mk s 2 4 1]).flatMap evtD) [] [] [] [] rfl hown.out rfl _ _ [.int .i64 s, .int .i64 4, .int .i64 9, .int .i64 0] (evtD (Evt.mk s 4 9 0)) rfl hbx.out (ownDL_valsC _ _ _ [.int .i64 s, .int .i64 4, .int .i64 9, .int .i64 0]) rfl (one4E _ _ _ _) (Nat.le_trans (Nat.add_le_add_right hnb 2) (by decide)) (by decide) (Nat.le_refl _) hsW hsX ?_; intro g9 vc9 x4 o9 gr9 hq9; have HO : Hid (OwnD x4 w.heap.size x4.heap.size (.row 40 4 (n0 + 1 + 1 + 1) (((gd l ++ [Evt.mk s 3 9 0]) ++ [Evt.mk s 2 4 1] ++ [(Evt.mk s 4 9 0)]).flatMap evtD)) (.slice (some ⟨g9, 0, none⟩) (n0 + 1 + 1 + 1) vc9)) := hide (by rw [fm_snocE]; exact OwnDL.mid (c1 := []) (v1 := []) o9 rfl); have HB := hide (HBx.out.grown gr9 (Nat.le_trans hsW hsX) (fun q hq => (hq9 q hq).1)); clear o9 gr9 hq9)
            | fail)
          clear hbx hsX hown HBx hsW
          have hgd : gd (l ++ [(s, 2)]) = ((gd l ++ [Evt.mk s 3 9 0]) ++ [Evt.mk s 2 4 1]) ++ [Evt.mk s 4 9 0] := by
            unfold gd
            rw [List.flatMap_append]
            simp [gdD]
          have hlen9 : (gd (l ++ [(s, 2)])).length = n0 + 1 + 1 + 1 := by rw [gd_len, ← hn0, gd_len, List.length_append]; simp only [List.length_cons, List.length_nil]; omega
          have HO9 : Hid (OwnD x4 w.heap.size x4.heap.size (evts (gd (l ++ [(s, 2)]))) (.slice (some ⟨g9, 0, none⟩) (gd (l ++ [(s, 2)])).length vc9)) := hide (by unfold evts; rw [hlen9, hgd]; exact HO.out)
          have HOK9 : Hid (gdOk (l ++ [(s, 2)])) := hide (fun z hz => by
            rcases List.mem_append.1 hz with hz | hz
            · exact HOK.out z hz
            · simp at hz
              subst hz
              exact ⟨hsb, by show (1 : Int) ≤ 2 ∧ (2 : Int) ≤ 2; omega⟩)
          go_wp2
          exact ⟨⟨l ++ [(s, 2)], some ⟨g9, 0, none⟩, vc9, by rw [hlen9], by rw [List.length_append]; simp only [List.length_cons, List.length_nil]; go_num, by rw [List.length_append]; simp only [List.length_cons, List.length_nil]; omega, HOK9, HO9, HB⟩, by simp [intOf]; omega⟩
      · have hl12 : l.length = 12 := by omega
        have hnl : ¬ (l.length : Int) < 12 := by omega
        have HV := hide (gd_race HOK.out (by omega))
        have HC := hide (gd_clocks HOK.out (by omega))
        have HR := hide (HO.out.rd (Nat.le_refl _))
        have hgl : (gd l).length ≤ 1048576 := by rw [gd_len]; omega
        clear HO
        go_wp2_with fail
        refine (raceI _ (gd l) _ HR.out hgl).mono ?_
        rintro e x1 ⟨rfl, b1⟩
        rw [HV.out]
        replace HR := hide (HR.out.at b1)
        replace HB := hide (HB.out.trans (b1.mono HB.out.size))
        clear b1
        go_wp2_with fail
        refine (raceS _ (gd l) _ HR.out hgl).mono ?_
        rintro e x2 ⟨rfl, b1⟩
        rw [HV.out]
        replace HR := hide (HR.out.at b1)
        replace HB := hide (HB.out.trans (b1.mono HB.out.size))
        clear b1
        go_wp2_with fail
        refine (raceI _ (gd l) _ HR.out hgl).mono ?_
        rintro e x3 ⟨rfl, b1⟩
        rw [HV.out]
        replace HR := hide (HR.out.at b1)
        replace HB := hide (HB.out.trans (b1.mono HB.out.size))
        clear b1
        go_wp2_with fail
        refine (clocksI _ (gd l) _ HR.out hgl).mono ?_
        rintro e x4 ⟨u, rfl, o4, b1⟩
        obtain ⟨ua, uc, ue⟩ := o4.shape
        subst ue
        rw [HC.out]
        replace HB := hide (HB.out.trans (b1.mono HB.out.size))
        clear b1 o4
        go_wp2
        go_ret
        exact ⟨rfl, HB.out⟩

set_option maxRecDepth 100000 in
theorem lifted (os : Os) (started : os.Started) (H : Type) (enc : TypeId × Value → H) :
    ReturnsInHanded {} Try.checked os 6 .any (Rows.fnGuardedSpec.pre6 enc Try.prog Try.f6 Rows.fnGuardedRow.domain false) (Rows.fnGuardedSpec.post enc Try.prog Try.f6 false true false false) := by
  refine returnsInHanded_of_change (C := Try.checked) own started (by kernel_rfl) Try.func6
    (ChangeSpec.witness6 (enc := enc) (C := Try.checked) false ⟨#[], #[.slice none 0 0], []⟩ 8 (by kernel_rfl) (by kernel_rfl) (by kernel_rfl) (by kernel_rfl)) ?_
  intro W base args ds gs before hval0 hW hcnd _
  have hval : ∀ (j : Nat) t v, Try.f6.params[j]? = some t → args[j]? = some v → Value.okWide Try.prog W .any base t v := hval0
  have hW' := hW
  obtain ⟨p, q, hA0, hV, rfl, hfz, hnd⟩ := hW
  have hA : DataW.TrodAll enc Try.prog W 0 (fun _ => true) true Try.f6.params.toList args.toList ds p := hA0
  rw [Try.params6] at hA hval
  obtain ⟨v0, vs0, d0, ds0, p0, q0, hargs, rfl, rfl, h0, r0⟩ := trodAll_cons hA
  obtain ⟨rfl, rfl, rfl⟩ := trodAll_nil r0
  obtain rfl : args = #[v0] := by cases args; simp_all
  obtain ⟨rfl, rfl⟩ := trodVars_none hV
  obtain ⟨a0, len0, cap0, rfl⟩ := okWide_slice Try.underlying36 (hval 0 36 v0 rfl rfl)
  have k0 := h0
  have lt0 : ∀ x ∈ p0, x.block < W.heap.size := by obtain ⟨m, hm⟩ := k0; exact DataW.trod_lt m _ _ _ hm
  obtain ⟨z0, w0⟩ : ∃ zs, IsRow .u8 W a0 len0 cap0 zs := by
    obtain ⟨fuel, hf⟩ := h0
    rcases open_ints Try.underlying36 Try.underlying5 (by kernel_rfl) hf with ⟨hcs, _⟩ | ⟨x, l, c, zs, hcs, _, hl, hm, hz, _, hcell, hwz⟩
    · simp [Value.cells] at hcs
      obtain ⟨rfl, rfl, rfl⟩ := hcs
      exact ⟨[], .inl ⟨rfl, rfl, rfl, rfl⟩⟩
    · simp [Value.cells] at hcs
      obtain ⟨rfl, rfl, rfl⟩ := hcs
      exact ⟨zs, .inr ⟨_, rfl, hl, hm, by simpa using hz, hcell, hwz⟩⟩
  clear hA0 hval0
  refine (walk a0 len0 cap0 z0 W w0).mono fun e W' ⟨he, bel⟩ => ?_
  subst he
  exact ⟨_, rfl, _, _, _, [], _, [], hW', trodAll_mk1 (shut_bool Try.underlying4 _), (trodAll_cons_mk (Below.trod laidOut (by kernel_rfl) (of_decide_eq_true (by kernel_rfl)) k0 bel lt0) trodAll_mk0), rfl, bel.frame _, fun h => by cases h⟩

theorem over : Rows.fnGuardedRow.holds Try.pinned (OpenSpec.ofChange Rows.fnGuardedSpec) :=
  OpenClaim.holds_of_wide 6 Try.f6 rfl rfl rfl rfl rfl rfl rfl ⟨rfl, rfl, rfl, rfl, rfl⟩ rfl rfl rfl rfl rfl (by kernel_rfl) Try.func6 (by kernel_rfl)
    (of_decide_eq_true (by kernel_rfl)) (by unfold Func.isWrapper; first | (rw [if_pos (by decide +kernel)]; kernel_rfl) | (rw [if_neg (by decide +kernel)]; exact ⟨rfl, rfl⟩))
    (fun os started H enc _ => lifted os started H enc)

end Go.Proofs.Ytllghgcancennaa.fnGuarded
namespace Go.Proofs.Ytllghgcancennaa
theorem fnGuarded_holds : Rows.FnGuardedSaid := fnGuarded.over
#print axioms fnGuarded_holds
end Go.Proofs.Ytllghgcancennaa
