/-
  Proved: whatever bytes events are drawn from, their clocks are as the model's, each is right, and one event is Before another one just if the other one's clock knows its clock (the law FnKnowing returns true), without any condition.
-/
import Derived.Test.YtllghgcancennaaRows
import Derived.Test.YtllghgcancennaaJ30
import Derived.Test.YtllghgcancennaaJ31
import Derived.Test.YtllghgcancennaaJ32
import Derived.Test.YtllghgcancennaaJ33
import Derived.Test.YtllghgcancennaaKClcT
import Derived.Test.YtllghgcancennaaJ11
import Derived.Test.YtllghgcancennaaJ26
import Derived.WalkKit
import Derived.ProofKit
import Derived.OpenShut
import Derived.ShutString
import Derived.ChangeOld
import Derived.Below
namespace Go.Proofs.Ytllghgcancennaa.fnKnowing
open Go.ChangeShapes Go.WideShapes Go.ChangeAt Go.RowKit
open Go.ChangeMaps (open_string shut_string)
set_option linter.unusedVariables false

theorem own : ownKnob Try.prog.godebug = none := by kernel_rfl
theorem laidOut : laidOutB Try.prog = true := by kernel_rfl
set_option maxRecDepth 100000 in
set_option maxHeartbeats 8000000 in
theorem walk (a0 : Option Addr) (len0 cap0 : Nat) (z0 : List Int) (w : World) (w0 : IsRow .u8 w a0 len0 cap0 z0) :
    Calls Try.prog 7 #[.slice a0 len0 cap0] w fun e w' => e = .returned (.bool true) ∧ Below w.heap.size w w' := by
  by_cases hbig : (1048576 : Int) < (len0 : Int)
  · clear w0
    go_enter Try.func7, Try.ntmps7
    go_wp2_with (go_at_call 22; refine (bigYes _ _ _ _ hbig).mono ?_; rintro e wb ⟨rfl, rfl⟩)
    go_ret
    exact ⟨rfl, Below.refl _ _⟩
  · have hin := in_of w0 (by omega)
    clear w0
    generalize z0.take len0 = zs at hin
    have HIN := hide hin
    clear hin
    go_enter Try.func7, Try.ntmps7
    go_wp2_with fail
    refine (bigNo _ _ _ _ (by omega)).mono ?_
    rintro e wb ⟨rfl, hw⟩
    subst wb
    go_wp2_with fail
    refine (drawClocksE _ _ _ _ _ HIN.out).mono ?_
    rintro e x1 ⟨xs, v1, rfl, r1, hxl, b1⟩
    obtain ⟨a1, c1, e1, _⟩ := r1.shape
    subst e1
    have HR := hide r1
    have HBw := hide b1
    clear r1 b1
    go_wp2_with fail
    refine (clocksI _ xs _ HR.out (by omega)).mono ?_
    rintro e x2 ⟨u2, rfl, p2, b2⟩
    replace HR := hide (HR.out.at b2)
    replace HBw := hide (HBw.out.trans (b2.mono HBw.out.size))
    have HP2 := hide (p2.rd (Nat.le_refl _))
    obtain ⟨a2, c2, ee2⟩ := p2.shape
    subst ee2
    clear p2 b2
    go_wp2_with fail
    refine (clocksS _ xs _ HR.out (by omega)).mono ?_
    rintro e x3 ⟨u3, rfl, p3, b3⟩
    replace HR := hide (HR.out.at b3)
    replace HBw := hide (HBw.out.trans (b3.mono HBw.out.size))
    replace HP2 := hide (HP2.out.at b3)
    have HP3 := hide (p3.rd (Nat.le_refl _))
    obtain ⟨a3, c3, ee3⟩ := p3.shape
    subst ee3
    clear p3 b3
    have HX2 : Hid (0 < (clocksX xs).length → ∃ b o, a2 = some ⟨b, o, none⟩ ∧ b < x3.heap.size ∧ ∀ j, j < (clocksX xs).length → ∃ u, x3.cell? ⟨b, o + j, none⟩ = some u ∧ Reads x3 x3.heap.size (smps ((clocksX xs).getD j [])) u) := hide (fun h => by
      obtain ⟨a, c, e, _, h2⟩ := rws_at HP2.out
      cases e
      exact h2 h)
    have HX3 : Hid (0 < (clocksX xs).length → ∃ b o, a3 = some ⟨b, o, none⟩ ∧ b < x3.heap.size ∧ ∀ j, j < (clocksX xs).length → ∃ u, x3.cell? ⟨b, o + j, none⟩ = some u ∧ Reads x3 x3.heap.size (smps ((clocksX xs).getD j [])) u) := hide (fun h => by
      obtain ⟨a, c, e, _, h2⟩ := rws_at HP3.out
      cases e
      exact h2 h)
    have HEV : Hid (0 < (clocksX xs).length → evB xs = true) := hide (fun h => by
      unfold clocksX at h
      split at h
      · assumption
      · simp at h)
    have HLX : Hid (0 < (clocksX xs).length → (clocksX xs).length = xs.length) := hide (fun h => by
      have he := HEV.out h
      unfold clocksX
      rw [if_pos he, clkN_len])
    have HCE : Hid (∀ j, j < (clocksX xs).length → (clocksX xs).getD j [] = clk xs j) := hide (fun j hj => by
      have he := HEV.out (by omega)
      have hl := HLX.out (by omega)
      rw [hl] at hj
      unfold clocksX
      rw [if_pos he]
      exact clkN_clk xs hj)
    have hLb : (clocksX xs).length ≤ 15 := by
      by_cases h : 0 < (clocksX xs).length
      · have := HLX.out h
        omega
      · omega
    clear HP2 HP3
    generalize hLe : (clocksX xs).length = L at *
    generalize clocksX xs = CS at *
    have hne : ((L : Int) != (L : Int)) = false := by simp
    go_wp2
    go_loopw [6] (fun i wr => ∃ j : Nat, j ≤ L ∧ i = .int .i64 (j : Int) ∧ Hid (Below x3.heap.size x3 wr)) (fun i _ => L - (intOf i).toNat)
    case atStart => exact ⟨0, Nat.zero_le _, rfl, hide (Below.refl _ _)⟩
    case round =>
      obtain ⟨j, hj, rfl, HB⟩ := hrel
      by_cases hlt : j < L
      · have hL : 0 < L := by omega
        obtain ⟨b2, o2, rfl, hb2, hc2⟩ := HX2.out hL
        obtain ⟨b3, o3, rfl, hb3, hc3⟩ := HX3.out hL
        have hcE := HCE.out j hlt
        obtain ⟨u, e2, r2⟩ := hc2 j hlt
        obtain ⟨v, e3, r3⟩ := hc3 j hlt
        rw [hcE] at r2 r3
        obtain ⟨pu, qu, su, _⟩ := r2.shape
        obtain ⟨pv, qv, sv, _⟩ := r3.shape
        subst su sv
        have HC2 := hide hc2
        have hjx : j < xs.length := by have := HLX.out hL; omega
        have hcl : (clk xs j).length ≤ 1048576 := by have := (clk_good hjx).len; omega
        have HCK := hide (srt_clkB (clk_good hjx).1)
        have HU := hide (r2.at HB.out)
        have HV := hide (r3.at HB.out)
        have HU3 := hide r2
        have hw3 := HB.out.size
        have hltI : (j : Int) < (L : Int) := by omega
        have E2 := hide e2
        clear r2 r3 hc2 hc3 hcE
        go_upto_region 11 with fail
        have HS : Hid (∀ w', Below wr.heap.size wr w' → w'.cell? ⟨b2, o2 + j, none⟩ = some (.slice pu (clk xs j).length qu) ∧ w'.cell? ⟨b3, o3 + j, none⟩ = some (.slice pv (clk xs j).length qv)) := hide (fun w' hb => ⟨((HB.out.trans (hb.mono HB.out.size)).cell (p := ⟨b2, o2 + j, none⟩) hb2).trans e2, ((HB.out.trans (hb.mono HB.out.size)).cell (p := ⟨b3, o3 + j, none⟩) hb3).trans e3⟩)
        have HD : Hid (Below wr.heap.size wr wr.drew) := hide (Below.refl wr.heap.size wr).drew
        refine wp_region_held_drew (S := fun w' => w'.cell? ⟨b2, o2 + j, none⟩ = some (.slice pu (clk xs j).length qu) ∧ w'.cell? ⟨b3, o3 + j, none⟩ = some (.slice pv (clk xs j).length qv)) (by kernel_rfl) (HS.out _ HD.out) (fun hHeld => ?_)
        generalize wr.drew = x0 at HD hHeld ⊢
        clear e2 e3
        refine wpAnyH_take (i := 0) (v := ?_) rfl (by kernel_rfl) (by kernel_rfl) (by kernel_rfl) (fun _ _ _ h => h) (Or.inl ⟨by rfl, ?_⟩) (by assumption) ?_
        rotate_left
        · intro w' hSw
          try dsimp only at hSw
          go_simp; try rfl
        simp only [List.getElem_toArray, List.getElem_cons_zero, Act.put, List.setIfInBounds_toArray, List.set_cons_zero, List.set_cons_succ]
        refine wpAnyH_take (i := 1) (v := ?_) rfl (by kernel_rfl) (by kernel_rfl) (by kernel_rfl) (fun _ _ _ h => h) (Or.inl ⟨by rfl, ?_⟩) (by assumption) ?_
        rotate_left
        · intro w' hSw
          try dsimp only at hSw
          go_simp; try rfl
        simp only [List.getElem_toArray, List.getElem_cons_succ, List.getElem_cons_zero, Act.put, List.setIfInBounds_toArray, List.set_cons_zero, List.set_cons_succ]
        refine wpAnyH_take (i := 2) (v := ?_) rfl (by kernel_rfl) (by kernel_rfl) (by kernel_rfl) (fun _ _ _ h => h) (Or.inl ⟨by rfl, ?_⟩) (by assumption) ?_
        rotate_left
        · intro w' hSw
          try dsimp only at hSw
          go_simp; try rfl
        simp only [List.getElem_toArray, List.getElem_cons_succ, List.getElem_cons_zero, Act.put, List.setIfInBounds_toArray, List.set_cons_zero, List.set_cons_succ]
        refine wpAnyH_take (i := 3) (v := ?_) rfl (by kernel_rfl) (by kernel_rfl) (by kernel_rfl) (fun _ _ _ h => h) (Or.inl ⟨by rfl, ?_⟩) (by assumption) ?_
        rotate_left
        · intro w' hSw
          try dsimp only at hSw
          go_simp; try rfl
        simp only [List.getElem_toArray, List.getElem_cons_succ, List.getElem_cons_zero, Act.put, List.setIfInBounds_toArray, List.set_cons_zero, List.set_cons_succ]
        refine wpAnyH_take (i := 4) (v := ?_) rfl (by kernel_rfl) (by kernel_rfl) (by kernel_rfl) (fun _ _ _ h => h) (Or.inl ⟨by rfl, ?_⟩) (by assumption) ?_
        rotate_left
        · intro w' hSw
          try dsimp only at hSw
          go_simp; try rfl
        simp only [List.getElem_toArray, List.getElem_cons_succ, List.getElem_cons_zero, Act.put, List.setIfInBounds_toArray, List.set_cons_zero, List.set_cons_succ]
        refine wpAnyH_take (i := 5) (v := ?_) rfl (by kernel_rfl) (by kernel_rfl) (by kernel_rfl) (fun _ _ _ h => h) (Or.inl ⟨by rfl, ?_⟩) (by assumption) ?_
        rotate_left
        · intro w' hSw
          try dsimp only at hSw
          go_simp; try rfl
        simp only [List.getElem_toArray, List.getElem_cons_succ, List.getElem_cons_zero, Act.put, List.setIfInBounds_toArray, List.set_cons_zero, List.set_cons_succ]
        refine wpAnyH_take (i := 6) (v := ?_) rfl (by kernel_rfl) (by kernel_rfl) (by kernel_rfl) (fun _ _ _ h => h) (Or.inl ⟨by rfl, ?_⟩) (by assumption) ?_
        rotate_left
        · intro w' hSw
          try dsimp only at hSw
          go_simp; try rfl
        simp only [List.getElem_toArray, List.getElem_cons_succ, List.getElem_cons_zero, Act.put, List.setIfInBounds_toArray, List.set_cons_zero, List.set_cons_succ]
        refine wpAnyH_take (i := 7) (v := ?_) rfl (by kernel_rfl) (by kernel_rfl) (by kernel_rfl) (fun _ _ _ h => h) (Or.inl ⟨by rfl, ?_⟩) (by assumption) ?_
        rotate_left
        · intro w' hSw
          try dsimp only at hSw
          go_simp; try rfl
        simp only [List.getElem_toArray, List.getElem_cons_succ, List.getElem_cons_zero, Act.put, List.setIfInBounds_toArray, List.set_cons_zero, List.set_cons_succ]
        refine wpAnyH_ready (rs := [8]) (by kernel_rfl) (by simp) (AllReadyH.cons rfl (fun K hK => ?_) AllReadyH.nil)
        refine step_callW (some 35) rfl (by kernel_rfl) 25 _ _ rfl #[.slice pu (clk xs j).length qu, .slice pv (clk xs j).length qv] (by kernel_rfl) (sameK _ _ _ (clk xs j) (HU.out.at HD.out) (HV.out.at HD.out) hcl) ?_
        rintro e x35 ⟨he, b1⟩
        subst he
        refine ⟨_, rfl, ?_⟩
        replace HD := hide (HD.out.trans (b1.mono HD.out.size))
        clear b1
        refine hK.out _ _ (HS.out _ HD.out) (fun hHeld => ?_)
        clear hK K
        simp only [Act.put, List.setIfInBounds_toArray, List.set_cons_zero, List.set_cons_succ]
        refine wpAnyH_take (i := 9) (v := ?_) rfl (by kernel_rfl) (by kernel_rfl) (by kernel_rfl) (fun _ _ _ h => h) (Or.inl ⟨by rfl, ?_⟩) (by assumption) ?_
        rotate_left
        · intro w' hSw
          try dsimp only at hSw
          go_simp; try rfl
        simp only [List.getElem_toArray, List.getElem_cons_succ, List.getElem_cons_zero, Act.put, List.setIfInBounds_toArray, List.set_cons_zero, List.set_cons_succ]
        refine wpAnyH_take (i := 10) (v := ?_) rfl (by kernel_rfl) (by kernel_rfl) (by kernel_rfl) (fun _ _ _ h => h) (Or.inl ⟨by rfl, ?_⟩) (by assumption) ?_
        rotate_left
        · intro w' hSw
          try dsimp only at hSw
          go_simp; try rfl
        simp only [List.getElem_toArray, List.getElem_cons_succ, List.getElem_cons_zero, Act.put, List.setIfInBounds_toArray, List.set_cons_zero, List.set_cons_succ]
        refine wpAnyH_take (i := 11) (v := ?_) rfl (by kernel_rfl) (by kernel_rfl) (by kernel_rfl) (fun _ _ _ h => h) (Or.inl ⟨by rfl, ?_⟩) (by assumption) ?_
        rotate_left
        · intro w' hSw
          try dsimp only at hSw
          go_simp; try rfl
        simp only [List.getElem_toArray, List.getElem_cons_succ, List.getElem_cons_zero, Act.put, List.setIfInBounds_toArray, List.set_cons_zero, List.set_cons_succ]
        refine wpAnyH_take (i := 12) (v := ?_) rfl (by kernel_rfl) (by kernel_rfl) (by kernel_rfl) (fun _ _ _ h => h) (Or.inl ⟨by rfl, ?_⟩) (by assumption) ?_
        rotate_left
        · intro w' hSw
          try dsimp only at hSw
          go_simp; try rfl
        simp only [List.getElem_toArray, List.getElem_cons_succ, List.getElem_cons_zero, Act.put, List.setIfInBounds_toArray, List.set_cons_zero, List.set_cons_succ]
        refine wpAnyH_take (i := 13) (v := ?_) rfl (by kernel_rfl) (by kernel_rfl) (by kernel_rfl) (fun _ _ _ h => h) (Or.inl ⟨by rfl, ?_⟩) (by assumption) ?_
        rotate_left
        · intro w' hSw
          try dsimp only at hSw
          go_simp; try rfl
        simp only [List.getElem_toArray, List.getElem_cons_succ, List.getElem_cons_zero, Act.put, List.setIfInBounds_toArray, List.set_cons_zero, List.set_cons_succ]
        refine wpAnyH_take (i := 14) (v := ?_) rfl (by kernel_rfl) (by kernel_rfl) (by kernel_rfl) (fun _ _ _ h => h) (Or.inl ⟨by rfl, ?_⟩) (by assumption) ?_
        rotate_left
        · intro w' hSw
          try dsimp only at hSw
          go_simp; try rfl
        simp only [List.getElem_toArray, List.getElem_cons_succ, List.getElem_cons_zero, Act.put, List.setIfInBounds_toArray, List.set_cons_zero, List.set_cons_succ]
        refine wpAnyH_ready (rs := [15]) (by kernel_rfl) (by simp) (AllReadyH.cons rfl (fun K hK => ?_) AllReadyH.nil)
        refine step_callW (some 42) rfl (by kernel_rfl) 26 _ _ rfl #[.slice pu (clk xs j).length qu] (by kernel_rfl) (clockOkI _ (clk xs j) _ (HU.out.at HD.out) hcl) ?_
        rintro e x42 ⟨he, b1⟩
        rw [HCK.out] at he
        subst he
        refine ⟨_, rfl, ?_⟩
        replace HD := hide (HD.out.trans (b1.mono HD.out.size))
        clear b1
        refine hK.out _ _ (HS.out _ HD.out) (fun hHeld => ?_)
        clear hK K
        simp only [Act.put, List.setIfInBounds_toArray, List.set_cons_zero, List.set_cons_succ]
        refine wpAnyH_take (i := 16) (v := ?_) rfl (by kernel_rfl) (by kernel_rfl) (by kernel_rfl) (fun _ _ _ h => h) (Or.inl ⟨by rfl, ?_⟩) (by assumption) ?_
        rotate_left
        · intro w' hSw
          try dsimp only at hSw
          go_simp; try rfl
        simp only [List.getElem_toArray, List.getElem_cons_succ, List.getElem_cons_zero, Act.put, List.setIfInBounds_toArray, List.set_cons_zero, List.set_cons_succ]
        refine wpAnyH_take (i := 17) (v := ?_) rfl (by kernel_rfl) (by kernel_rfl) (by kernel_rfl) (fun _ _ _ h => h) (Or.inl ⟨by rfl, ?_⟩) (by assumption) ?_
        rotate_left
        · intro w' hSw
          try dsimp only at hSw
          go_simp; try rfl
        simp only [List.getElem_toArray, List.getElem_cons_succ, List.getElem_cons_zero, Act.put, List.setIfInBounds_toArray, List.set_cons_zero, List.set_cons_succ]
        refine wpAnyH_done (by kernel_rfl) ?_ _
        have HB2 := hide (HB.out.trans (HD.out.mono HB.out.size))
        clear HS HD hHeld HU HV HB
        go_wp2
        go_loopw [7] (fun k wr => ∃ p : Nat, p ≤ j ∧ k = .int .i64 (p : Int) ∧ Hid (Below x3.heap.size x3 wr)) (fun k _ => j - (intOf k).toNat)
        case atStart => exact ⟨0, Nat.zero_le _, rfl, HB2⟩
        case round =>
          clear HB2
          obtain ⟨p, hp, rfl, HBq⟩ := hrel
          by_cases hlp : p < j
          · obtain ⟨t, et, rt⟩ := HC2.out p (by omega)
            rw [HCE.out p (by omega)] at rt
            obtain ⟨pt, qt, st, _⟩ := rt.shape
            subst st
            have hcp : (clk xs p).length ≤ 1048576 := by have := (clk_good (xs := xs) (j := p) (by omega)).len; omega
            have HT := hide (rt.at HBq.out)
            have HUq := hide (HU3.out.at HBq.out)
            have hltp : (p : Int) < (j : Int) := by omega
            have hpL : p < L := by omega
            have hpLI : (p : Int) < (L : Int) := by omega
            obtain ⟨Bv, hBv⟩ : ∃ b, beforeX xs (p : Int) (j : Int) = b := ⟨_, rfl⟩
            have HBV := hide hBv
            have HKV : Hid (knowsB (clk xs j) (clk xs p) = Bv) := hide (by rw [before_knows (HEV.out hL) hlp hjx]; exact hBv)
            have hnb : (Bv != Bv) = false := by simp
            clear rt hBv
            go_upto_region 16 with fail
            have HS : Hid (∀ w', Below wr.heap.size wr w' → w'.cell? ⟨b2, o2 + j, none⟩ = some (.slice pu (clk xs j).length qu) ∧ w'.cell? ⟨b2, o2 + p, none⟩ = some (.slice pt (clk xs p).length qt)) := hide (fun w' hb => ⟨((HBq.out.trans (hb.mono HBq.out.size)).cell (p := ⟨b2, o2 + j, none⟩) hb2).trans E2.out, ((HBq.out.trans (hb.mono HBq.out.size)).cell (p := ⟨b2, o2 + p, none⟩) hb2).trans et⟩)
            have HD : Hid (Below wr.heap.size wr wr.drew) := hide (Below.refl wr.heap.size wr).drew
            refine wp_region_held_drew (S := fun w' => w'.cell? ⟨b2, o2 + j, none⟩ = some (.slice pu (clk xs j).length qu) ∧ w'.cell? ⟨b2, o2 + p, none⟩ = some (.slice pt (clk xs p).length qt)) (by kernel_rfl) (HS.out _ HD.out) (fun hHeld => ?_)
            generalize wr.drew = x0 at HD hHeld ⊢
            clear et
            refine wpAnyH_take (i := 0) (v := ?_) rfl (by kernel_rfl) (by kernel_rfl) (by kernel_rfl) (fun _ _ _ h => h) (Or.inl ⟨by rfl, ?_⟩) (by assumption) ?_
            rotate_left
            · intro w' hSw
              try dsimp only at hSw
              go_simp; try rfl
            simp only [List.getElem_toArray, List.getElem_cons_zero, Act.put, List.setIfInBounds_toArray, List.set_cons_zero, List.set_cons_succ]
            refine wpAnyH_take (i := 1) (v := ?_) rfl (by kernel_rfl) (by kernel_rfl) (by kernel_rfl) (fun _ _ _ h => h) (Or.inl ⟨by rfl, ?_⟩) (by assumption) ?_
            rotate_left
            · intro w' hSw
              try dsimp only at hSw
              go_simp; try rfl
            simp only [List.getElem_toArray, List.getElem_cons_succ, List.getElem_cons_zero, Act.put, List.setIfInBounds_toArray, List.set_cons_zero, List.set_cons_succ]
            refine wpAnyH_take (i := 2) (v := ?_) rfl (by kernel_rfl) (by kernel_rfl) (by kernel_rfl) (fun _ _ _ h => h) (Or.inl ⟨by rfl, ?_⟩) (by assumption) ?_
            rotate_left
            · intro w' hSw
              try dsimp only at hSw
              go_simp; try rfl
            simp only [List.getElem_toArray, List.getElem_cons_succ, List.getElem_cons_zero, Act.put, List.setIfInBounds_toArray, List.set_cons_zero, List.set_cons_succ]
            refine wpAnyH_take (i := 4) (v := ?_) rfl (by kernel_rfl) (by kernel_rfl) (by kernel_rfl) (fun _ _ _ h => h) (Or.inl ⟨by rfl, ?_⟩) (by assumption) ?_
            rotate_left
            · intro w' hSw
              try dsimp only at hSw
              go_simp; try rfl
            simp only [List.getElem_toArray, List.getElem_cons_succ, List.getElem_cons_zero, Act.put, List.setIfInBounds_toArray, List.set_cons_zero, List.set_cons_succ]
            refine wpAnyH_take (i := 5) (v := ?_) rfl (by kernel_rfl) (by kernel_rfl) (by kernel_rfl) (fun _ _ _ h => h) (Or.inl ⟨by rfl, ?_⟩) (by assumption) ?_
            rotate_left
            · intro w' hSw
              try dsimp only at hSw
              go_simp; try rfl
            simp only [List.getElem_toArray, List.getElem_cons_succ, List.getElem_cons_zero, Act.put, List.setIfInBounds_toArray, List.set_cons_zero, List.set_cons_succ]
            refine wpAnyH_take (i := 6) (v := ?_) rfl (by kernel_rfl) (by kernel_rfl) (by kernel_rfl) (fun _ _ _ h => h) (Or.inl ⟨by rfl, ?_⟩) (by assumption) ?_
            rotate_left
            · intro w' hSw
              try dsimp only at hSw
              go_simp; try rfl
            simp only [List.getElem_toArray, List.getElem_cons_succ, List.getElem_cons_zero, Act.put, List.setIfInBounds_toArray, List.set_cons_zero, List.set_cons_succ]
            refine wpAnyH_take (i := 7) (v := ?_) rfl (by kernel_rfl) (by kernel_rfl) (by kernel_rfl) (fun _ _ _ h => h) (Or.inl ⟨by rfl, ?_⟩) (by assumption) ?_
            rotate_left
            · intro w' hSw
              try dsimp only at hSw
              go_simp; try rfl
            simp only [List.getElem_toArray, List.getElem_cons_succ, List.getElem_cons_zero, Act.put, List.setIfInBounds_toArray, List.set_cons_zero, List.set_cons_succ]
            refine wpAnyH_take (i := 8) (v := ?_) rfl (by kernel_rfl) (by kernel_rfl) (by kernel_rfl) (fun _ _ _ h => h) (Or.inl ⟨by rfl, ?_⟩) (by assumption) ?_
            rotate_left
            · intro w' hSw
              try dsimp only at hSw
              go_simp; try rfl
            simp only [List.getElem_toArray, List.getElem_cons_succ, List.getElem_cons_zero, Act.put, List.setIfInBounds_toArray, List.set_cons_zero, List.set_cons_succ]
            refine wpAnyH_take (i := 9) (v := ?_) rfl (by kernel_rfl) (by kernel_rfl) (by kernel_rfl) (fun _ _ _ h => h) (Or.inl ⟨by rfl, ?_⟩) (by assumption) ?_
            rotate_left
            · intro w' hSw
              try dsimp only at hSw
              go_simp; try rfl
            simp only [List.getElem_toArray, List.getElem_cons_succ, List.getElem_cons_zero, Act.put, List.setIfInBounds_toArray, List.set_cons_zero, List.set_cons_succ]
            refine wpAnyH_take (i := 10) (v := ?_) rfl (by kernel_rfl) (by kernel_rfl) (by kernel_rfl) (fun _ _ _ h => h) (Or.inl ⟨by rfl, ?_⟩) (by assumption) ?_
            rotate_left
            · intro w' hSw
              try dsimp only at hSw
              go_simp; try rfl
            simp only [List.getElem_toArray, List.getElem_cons_succ, List.getElem_cons_zero, Act.put, List.setIfInBounds_toArray, List.set_cons_zero, List.set_cons_succ]
            refine wpAnyH_take (i := 11) (v := ?_) rfl (by kernel_rfl) (by kernel_rfl) (by kernel_rfl) (fun _ _ _ h => h) (Or.inl ⟨by rfl, ?_⟩) (by assumption) ?_
            rotate_left
            · intro w' hSw
              try dsimp only at hSw
              go_simp; try rfl
            simp only [List.getElem_toArray, List.getElem_cons_succ, List.getElem_cons_zero, Act.put, List.setIfInBounds_toArray, List.set_cons_zero, List.set_cons_succ]
            refine wpAnyH_ready (rs := [3]) (by kernel_rfl) (by simp) (AllReadyH.cons rfl (fun K hK => ?_) AllReadyH.nil)
            refine step_callW (some 53) rfl (by kernel_rfl) 12 _ _ rfl #[.slice a1 xs.length c1, .int .i64 (p : Int), .int .i64 (j : Int)] (by kernel_rfl) (beforeI _ xs _ (p : Int) (j : Int) (HR.out.at (HBq.out.trans (HD.out.mono HBq.out.size))) (by omega)) ?_
            rintro e x53 ⟨he, b1⟩
            rw [HBV.out] at he
            subst he
            refine ⟨_, rfl, ?_⟩
            replace HD := hide (HD.out.trans (b1.mono HD.out.size))
            clear b1
            refine hK.out _ _ (HS.out _ HD.out) (fun hHeld => ?_)
            clear hK K
            simp only [Act.put, List.setIfInBounds_toArray, List.set_cons_zero, List.set_cons_succ]
            refine wpAnyH_ready (rs := [12]) (by kernel_rfl) (by simp) (AllReadyH.cons rfl (fun K hK => ?_) AllReadyH.nil)
            refine step_callW (some 62) rfl (by kernel_rfl) 27 _ _ rfl #[.slice pu (clk xs j).length qu, .slice pt (clk xs p).length qt] (by kernel_rfl) (knowsI _ (clk xs j) (clk xs p) _ _ (HUq.out.at HD.out) (HT.out.at HD.out) hcl hcp) ?_
            rintro e x62 ⟨he, b1⟩
            rw [HKV.out] at he
            subst he
            refine ⟨_, rfl, ?_⟩
            replace HD := hide (HD.out.trans (b1.mono HD.out.size))
            clear b1
            refine hK.out _ _ (HS.out _ HD.out) (fun hHeld => ?_)
            clear hK K
            simp only [Act.put, List.setIfInBounds_toArray, List.set_cons_zero, List.set_cons_succ]
            refine wpAnyH_take (i := 13) (v := ?_) rfl (by kernel_rfl) (by kernel_rfl) (by kernel_rfl) (fun _ _ _ h => h) (Or.inl ⟨by rfl, ?_⟩) (by assumption) ?_
            rotate_left
            · intro w' hSw
              try dsimp only at hSw
              go_simp; try rfl
            simp only [List.getElem_toArray, List.getElem_cons_succ, List.getElem_cons_zero, Act.put, List.setIfInBounds_toArray, List.set_cons_zero, List.set_cons_succ]
            refine wpAnyH_done (by kernel_rfl) ?_ _
            have HBn := hide (HBq.out.trans (HD.out.mono HBq.out.size))
            go_wp2
            exact ⟨⟨p + 1, by omega, by go_num, HBn⟩, by simp [intOf]; omega⟩
          · obtain rfl : p = j := by omega
            have hnl : ¬ (p : Int) < (p : Int) := by omega
            go_wp2
            exact ⟨⟨p + 1, by omega, by go_num, HBq⟩, by simp [intOf]; omega⟩
      · obtain rfl : j = L := by omega
        have hnl : ¬ (j : Int) < (j : Int) := by omega
        go_wp2
        go_ret
        exact ⟨rfl, HBw.out.trans (HB.out.mono HBw.out.size)⟩

set_option maxRecDepth 100000 in
theorem lifted (os : Os) (started : os.Started) (H : Type) (enc : TypeId × Value → H) :
    ReturnsInHanded {} Try.checked os 7 .any (Rows.fnKnowingSpec.pre6 enc Try.prog Try.f7 Rows.fnKnowingRow.domain false) (Rows.fnKnowingSpec.post enc Try.prog Try.f7 false true false false) := by
  refine returnsInHanded_of_change (C := Try.checked) own started (by kernel_rfl) Try.func7
    (ChangeSpec.witness6 (enc := enc) (C := Try.checked) false ⟨#[], #[.slice none 0 0], []⟩ 8 (by kernel_rfl) (by kernel_rfl) (by kernel_rfl) (by kernel_rfl)) ?_
  intro W base args ds gs before hval0 hW hcnd _
  have hval : ∀ (j : Nat) t v, Try.f7.params[j]? = some t → args[j]? = some v → Value.okWide Try.prog W .any base t v := hval0
  have hW' := hW
  obtain ⟨p, q, hA0, hV, rfl, hfz, hnd⟩ := hW
  have hA : DataW.TrodAll enc Try.prog W 0 (fun _ => true) true Try.f7.params.toList args.toList ds p := hA0
  rw [Try.params7] at hA hval
  obtain ⟨v0, vs0, d0, ds0, p0, q0, hargs, rfl, rfl, h0, r0⟩ := trodAll_cons hA
  obtain ⟨rfl, rfl, rfl⟩ := trodAll_nil r0
  obtain rfl : args = #[v0] := by cases args; simp_all
  obtain ⟨rfl, rfl⟩ := trodVars_none hV
  obtain ⟨a0, len0, cap0, rfl⟩ := okWide_slice Try.underlying36 (hval 0 36 v0 rfl rfl)
  have k0 := h0
  have lt0 : ∀ x ∈ p0, x.block < W.heap.size := by obtain ⟨m, hm⟩ := k0; exact DataW.trod_lt m _ _ _ hm
  obtain ⟨z0, w0⟩ : ∃ zs, IsRow .u8 W a0 len0 cap0 zs := by
    obtain ⟨fuel, hf⟩ := h0
    rcases open_ints Try.underlying36 Try.underlying5 (by kernel_rfl) hf with ⟨hcs, _⟩ | ⟨x, l, c, zs, hcs, _, hl, hm, hz, _, hcell, hwz⟩
    · simp [Value.cells] at hcs
      obtain ⟨rfl, rfl, rfl⟩ := hcs
      exact ⟨[], .inl ⟨rfl, rfl, rfl, rfl⟩⟩
    · simp [Value.cells] at hcs
      obtain ⟨rfl, rfl, rfl⟩ := hcs
      exact ⟨zs, .inr ⟨_, rfl, hl, hm, by simpa using hz, hcell, hwz⟩⟩
  clear hA0 hval0
  refine (walk a0 len0 cap0 z0 W w0).mono fun e W' ⟨he, bel⟩ => ?_
  subst he
  exact ⟨_, rfl, _, _, _, [], _, [], hW', trodAll_mk1 (shut_bool Try.underlying4 _), (trodAll_cons_mk (Below.trod laidOut (by kernel_rfl) (of_decide_eq_true (by kernel_rfl)) k0 bel lt0) trodAll_mk0), rfl, bel.frame _, fun h => by cases h⟩

theorem over : Rows.fnKnowingRow.holds Try.pinned (OpenSpec.ofChange Rows.fnKnowingSpec) :=
  OpenClaim.holds_of_wide 7 Try.f7 rfl rfl rfl rfl rfl rfl rfl ⟨rfl, rfl, rfl, rfl, rfl⟩ rfl rfl rfl rfl rfl (by kernel_rfl) Try.func7 (by kernel_rfl)
    (of_decide_eq_true (by kernel_rfl)) (by unfold Func.isWrapper; first | (rw [if_pos (by decide +kernel)]; kernel_rfl) | (rw [if_neg (by decide +kernel)]; exact ⟨rfl, rfl⟩))
    (fun os started H enc _ => lifted os started H enc)

end Go.Proofs.Ytllghgcancennaa.fnKnowing
namespace Go.Proofs.Ytllghgcancennaa
theorem fnKnowing_holds : Rows.FnKnowingSaid := fnKnowing.over
#print axioms fnKnowing_holds
end Go.Proofs.Ytllghgcancennaa
