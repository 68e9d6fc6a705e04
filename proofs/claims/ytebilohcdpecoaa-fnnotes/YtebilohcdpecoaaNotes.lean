/-
  Proved: whatever bytes notes are drawn from, they are merged, added, asked for and compared as their model does it; who merged covers both, where that is not too much, and no more than both; merged again nothing turns (the law FnNotes returns true), without any condition.
-/
import Derived.Test.YtebilohcdpecoaaRows
import Derived.Test.YtebilohcdpecoaaRowIn
import Derived.Test.YtebilohcdpecoaaAtW
import Derived.Test.YtebilohcdpecoaaDrawNt
import Derived.Test.YtebilohcdpecoaaSameN
import Derived.Test.YtebilohcdpecoaaNteP
import Derived.Test.YtebilohcdpecoaaNteQ
import Derived.Test.YtebilohcdpecoaaNteT
import Derived.Test.YtebilohcdpecoaaStepW
import Derived.WalkKit
import Derived.ProofKit
import Derived.OpenShut
import Derived.ShutString
import Derived.ChangeOld
import Derived.Below
namespace Go.Proofs.Ytebilohcdpecoaa.fnNotes
open Go.ChangeShapes Go.WideShapes Go.ChangeAt Go.RowKit
open Go.ChangeMaps (open_string shut_string)
set_option linter.unusedVariables false

theorem own : ownKnob Try.prog.godebug = none := by kernel_rfl
theorem laidOut : laidOutB Try.prog = true := by kernel_rfl
set_option maxRecDepth 100000 in
set_option maxHeartbeats 8000000 in
theorem walk (a0 : Option Addr) (len0 cap0 : Nat) (z0 : List Int) (w : World) (w0 : IsRow .u8 w a0 len0 cap0 z0) :
    Calls Try.prog 7 #[.slice a0 len0 cap0] w fun e w' => e = .returned (.bool true) ∧ Below w.heap.size w w' := by
  by_cases hbig : (1048576 : Int) < (len0 : Int)
  · clear w0
    go_enter Try.func7, Try.ntmps7
    go_wp2_with (go_at_call 22; refine (bigYes _ _ _ _ hbig).mono ?_; rintro e wb ⟨rfl, rfl⟩)
    go_ret
    exact ⟨rfl, Below.refl _ _⟩
  · have hin := in_of w0 (by omega)
    clear w0
    generalize z0.take len0 = zs at hin
    have HIN := hide hin
    clear hin
    have HBw := hide (Below.refl w.heap.size w)
    go_enter Try.func7, Try.ntmps7
    go_wp2_with fail
    refine (bigNo _ _ _ _ (by omega)).mono ?_
    rintro e wb ⟨rfl, hw⟩
    subst wb
    go_wp2_with fail
    refine (drawMergeNt _ _ _ _ _ HIN.out).mono ?_
    rintro e k1 ⟨a, b, v9, v8, rfl, r1, r2, hla, hlb, b9⟩
    obtain ⟨p1, q1, f1, _⟩ := r1.shape
    obtain ⟨p1x, q1x, f1x, _⟩ := r2.shape
    subst f1 f1x
    replace HIN := hide (HIN.out.at b9)
    replace HBw := hide (HBw.out.trans (b9.mono HBw.out.size))
    clear b9
    have HA := hide r1
    have HB := hide r2
    clear r1 r2
    go_wp2_with fail
    refine (mergeI _ a b _ _ HA.out HB.out (by omega) (by omega) (by omega)).mono ?_
    rintro e k2 ⟨u9, rfl, o9, b9⟩
    obtain ⟨p2, q2, f2⟩ := o9.shape
    subst f2
    replace HIN := hide (HIN.out.at b9)
    replace HA := hide (HA.out.at b9)
    replace HB := hide (HB.out.at b9)
    replace HBw := hide (HBw.out.trans (b9.mono HBw.out.size))
    clear b9
    have HM := hide (o9.rd (Nat.le_refl _))
    clear o9
    have hml : (mergeX a b).length ≤ 540 := by
      have := mergeX_len (a := a) (b := b)
      omega
    go_wp2_with fail
    refine (drawCoversNt _ _ _ _ _ HIN.out).mono ?_
    rintro e k3 ⟨cs, ds, v9, v8, rfl, r1, r2, hlcs, hlds, b9⟩
    obtain ⟨p3, q3, f3, _⟩ := r1.shape
    obtain ⟨p3x, q3x, f3x, _⟩ := r2.shape
    subst f3 f3x
    replace HIN := hide (HIN.out.at b9)
    replace HA := hide (HA.out.at b9)
    replace HB := hide (HB.out.at b9)
    replace HM := hide (HM.out.at b9)
    replace HBw := hide (HBw.out.trans (b9.mono HBw.out.size))
    clear b9
    have HC := hide r1
    have HD := hide r2
    clear r1 r2
    go_wp2_with fail
    refine (drawAddNt _ _ _ _ _ HIN.out).mono ?_
    rintro e k4 ⟨es, v9, q, n, rfl, o9, hles, hq0, hq1, hn0, hn1, b9⟩
    obtain ⟨p4, q4, f4⟩ := o9.shape
    subst f4
    replace HIN := hide (HIN.out.at b9)
    replace HA := hide (HA.out.at b9)
    replace HB := hide (HB.out.at b9)
    replace HM := hide (HM.out.at b9)
    replace HC := hide (HC.out.at b9)
    replace HD := hide (HD.out.at b9)
    replace HBw := hide (HBw.out.trans (b9.mono HBw.out.size))
    clear b9
    have HE := hide (o9.rd (Nat.le_refl _))
    clear o9
    go_wp2_with fail
    refine (addNoteI _ es _ q n HE.out (by omega)).mono ?_
    rintro e k5 ⟨u9, rfl, o9, b9⟩
    obtain ⟨p5, q5, f5⟩ := o9.shape
    subst f5
    replace HIN := hide (HIN.out.at b9)
    replace HA := hide (HA.out.at b9)
    replace HB := hide (HB.out.at b9)
    replace HM := hide (HM.out.at b9)
    replace HC := hide (HC.out.at b9)
    replace HD := hide (HD.out.at b9)
    replace HE := hide (HE.out.at b9)
    replace HBw := hide (HBw.out.trans (b9.mono HBw.out.size))
    clear b9
    have HF := hide (o9.rd (Nat.le_refl _))
    clear o9
    have hfl : (mergeX es [⟨q, n⟩]).length ≤ 540 := by
      have := mergeX_len (a := es) (b := [⟨q, n⟩])
      simp at this
      omega
    go_wp2_with fail
    refine (drawNoteOfNt _ _ _ _ _ HIN.out).mono ?_
    rintro e k6 ⟨gs, v9, u, rfl, o9, hlgs, hu0, hu1, b9⟩
    obtain ⟨p6, q6, f6⟩ := o9.shape
    subst f6
    replace HIN := hide (HIN.out.at b9)
    replace HA := hide (HA.out.at b9)
    replace HB := hide (HB.out.at b9)
    replace HM := hide (HM.out.at b9)
    replace HC := hide (HC.out.at b9)
    replace HD := hide (HD.out.at b9)
    replace HE := hide (HE.out.at b9)
    replace HF := hide (HF.out.at b9)
    replace HBw := hide (HBw.out.trans (b9.mono HBw.out.size))
    clear b9
    have HG := hide (o9.rd (Nat.le_refl _))
    clear o9
    clear HIN
    have e2 : (covB cs ds != covB cs ds) = false := by simp
    have e3 : (nvX gs u != nvX gs u) = false := by simp
    go_wp2_with fail
    refine (mergeS _ a b _ _ HA.out HB.out (by omega) (by omega) (by omega)).mono ?_
    rintro e k7 ⟨u9, rfl, o9, b9⟩
    obtain ⟨p7, q7, f7⟩ := o9.shape
    subst f7
    replace HA := hide (HA.out.at b9)
    replace HB := hide (HB.out.at b9)
    replace HM := hide (HM.out.at b9)
    replace HC := hide (HC.out.at b9)
    replace HD := hide (HD.out.at b9)
    replace HE := hide (HE.out.at b9)
    replace HF := hide (HF.out.at b9)
    replace HG := hide (HG.out.at b9)
    replace HBw := hide (HBw.out.trans (b9.mono HBw.out.size))
    clear b9
    have HX := hide (o9.rd (Nat.le_refl _))
    clear o9
    go_wp2_with fail
    refine (sameNt _ _ _ (mergeX a b) HM.out HX.out (by omega)).mono ?_
    rintro e k8 ⟨he, b9⟩
    subst he
    replace HA := hide (HA.out.at b9)
    replace HB := hide (HB.out.at b9)
    replace HM := hide (HM.out.at b9)
    replace HC := hide (HC.out.at b9)
    replace HD := hide (HD.out.at b9)
    replace HE := hide (HE.out.at b9)
    replace HF := hide (HF.out.at b9)
    replace HG := hide (HG.out.at b9)
    replace HX := hide (HX.out.at b9)
    replace HBw := hide (HBw.out.trans (b9.mono HBw.out.size))
    clear b9
    clear HX
    go_wp2_with fail
    refine (coversI _ cs ds _ _ HC.out HD.out (by omega) (by omega)).mono ?_
    rintro e k9 ⟨he, b9⟩
    subst he
    replace HA := hide (HA.out.at b9)
    replace HB := hide (HB.out.at b9)
    replace HM := hide (HM.out.at b9)
    replace HC := hide (HC.out.at b9)
    replace HD := hide (HD.out.at b9)
    replace HE := hide (HE.out.at b9)
    replace HF := hide (HF.out.at b9)
    replace HG := hide (HG.out.at b9)
    replace HBw := hide (HBw.out.trans (b9.mono HBw.out.size))
    clear b9
    go_wp2_with fail
    refine (coversS _ cs ds _ _ HC.out HD.out (by omega) (by omega)).mono ?_
    rintro e k10 ⟨he, b9⟩
    subst he
    replace HA := hide (HA.out.at b9)
    replace HB := hide (HB.out.at b9)
    replace HM := hide (HM.out.at b9)
    replace HC := hide (HC.out.at b9)
    replace HD := hide (HD.out.at b9)
    replace HE := hide (HE.out.at b9)
    replace HF := hide (HF.out.at b9)
    replace HG := hide (HG.out.at b9)
    replace HBw := hide (HBw.out.trans (b9.mono HBw.out.size))
    clear b9
    go_wp2_with fail
    refine (addNoteS _ es _ q n HE.out (by omega)).mono ?_
    rintro e k11 ⟨u9, rfl, o9, b9⟩
    obtain ⟨p11, q11, f11⟩ := o9.shape
    subst f11
    replace HA := hide (HA.out.at b9)
    replace HB := hide (HB.out.at b9)
    replace HM := hide (HM.out.at b9)
    replace HC := hide (HC.out.at b9)
    replace HD := hide (HD.out.at b9)
    replace HE := hide (HE.out.at b9)
    replace HF := hide (HF.out.at b9)
    replace HG := hide (HG.out.at b9)
    replace HBw := hide (HBw.out.trans (b9.mono HBw.out.size))
    clear b9
    have HX := hide (o9.rd (Nat.le_refl _))
    clear o9
    go_wp2_with fail
    refine (sameNt _ _ _ (mergeX es [⟨q, n⟩]) HF.out HX.out (by omega)).mono ?_
    rintro e k12 ⟨he, b9⟩
    subst he
    replace HA := hide (HA.out.at b9)
    replace HB := hide (HB.out.at b9)
    replace HM := hide (HM.out.at b9)
    replace HC := hide (HC.out.at b9)
    replace HD := hide (HD.out.at b9)
    replace HE := hide (HE.out.at b9)
    replace HF := hide (HF.out.at b9)
    replace HG := hide (HG.out.at b9)
    replace HX := hide (HX.out.at b9)
    replace HBw := hide (HBw.out.trans (b9.mono HBw.out.size))
    clear b9
    clear HX
    go_wp2_with fail
    refine (noteOfI _ gs _ u HG.out (by omega)).mono ?_
    rintro e k13 ⟨he, b9⟩
    subst he
    replace HA := hide (HA.out.at b9)
    replace HB := hide (HB.out.at b9)
    replace HM := hide (HM.out.at b9)
    replace HC := hide (HC.out.at b9)
    replace HD := hide (HD.out.at b9)
    replace HE := hide (HE.out.at b9)
    replace HF := hide (HF.out.at b9)
    replace HG := hide (HG.out.at b9)
    replace HBw := hide (HBw.out.trans (b9.mono HBw.out.size))
    clear b9
    go_wp2_with fail
    refine (noteOfS _ gs _ u HG.out (by omega)).mono ?_
    rintro e k14 ⟨rfl, hw9⟩
    subst hw9
    clear HC HD HE HF HG
    cases kaa : ntkB a with
    | false =>
      go_wp2_with fail
      refine (notesOkI _ a _ HA.out (by omega)).mono ?_
      rintro e k15 ⟨he, b9⟩
      rw [kaa] at he
      subst he
      replace HA := hide (HA.out.at b9)
      replace HB := hide (HB.out.at b9)
      replace HM := hide (HM.out.at b9)
      replace HBw := hide (HBw.out.trans (b9.mono HBw.out.size))
      clear b9
      have HM2 : Hid (Reads k15 k15.heap.size (ntes a) (.slice p2 (mergeX a b).length q2)) := hide (by
        have h := HM.out
        have e9 : ntes (mergeX a b) = ntes a := congrArg ntes (mergeX_no (fun h => by simp [kaa] at h))
        rw [e9] at h
        exact h)
      go_wp2_with fail
      refine (sameNt _ _ _ a HM2.out HA.out (by omega)).mono ?_
      rintro e k16 ⟨he, b9⟩
      subst he
      replace HA := hide (HA.out.at b9)
      replace HB := hide (HB.out.at b9)
      replace HM := hide (HM.out.at b9)
      replace HBw := hide (HBw.out.trans (b9.mono HBw.out.size))
      clear b9
      go_wp2
      go_ret
      exact ⟨rfl, HBw.out⟩
    | true =>
      go_wp2_with fail
      refine (notesOkI _ a _ HA.out (by omega)).mono ?_
      rintro e k17 ⟨he, b9⟩
      rw [kaa] at he
      subst he
      replace HA := hide (HA.out.at b9)
      replace HB := hide (HB.out.at b9)
      replace HM := hide (HM.out.at b9)
      replace HBw := hide (HBw.out.trans (b9.mono HBw.out.size))
      clear b9
      cases kbb : ntkB b with
      | false =>
        go_wp2_with fail
        refine (notesOkI _ b _ HB.out (by omega)).mono ?_
        rintro e k18 ⟨he, b9⟩
        rw [kbb] at he
        subst he
        replace HA := hide (HA.out.at b9)
        replace HB := hide (HB.out.at b9)
        replace HM := hide (HM.out.at b9)
        replace HBw := hide (HBw.out.trans (b9.mono HBw.out.size))
        clear b9
        have HM2 : Hid (Reads k18 k18.heap.size (ntes a) (.slice p2 (mergeX a b).length q2)) := hide (by
          have h := HM.out
          have e9 : ntes (mergeX a b) = ntes a := congrArg ntes (mergeX_no (fun h => by simp [kbb] at h))
          rw [e9] at h
          exact h)
        go_wp2_with fail
        refine (sameNt _ _ _ a HM2.out HA.out (by omega)).mono ?_
        rintro e k19 ⟨he, b9⟩
        subst he
        replace HA := hide (HA.out.at b9)
        replace HB := hide (HB.out.at b9)
        replace HM := hide (HM.out.at b9)
        replace HBw := hide (HBw.out.trans (b9.mono HBw.out.size))
        clear b9
        go_wp2
        go_ret
        exact ⟨rfl, HBw.out⟩
      | true =>
        go_wp2_with fail
        refine (notesOkI _ b _ HB.out (by omega)).mono ?_
        rintro e k20 ⟨he, b9⟩
        rw [kbb] at he
        subst he
        replace HA := hide (HA.out.at b9)
        replace HB := hide (HB.out.at b9)
        replace HM := hide (HM.out.at b9)
        replace HBw := hide (HBw.out.trans (b9.mono HBw.out.size))
        clear b9
        cases kcov : covB (mergeX a b) b with
        | false =>
          go_wp2_with fail
          refine (coversI _ (mergeX a b) b _ _ HM.out HB.out (by omega) (by omega)).mono ?_
          rintro e k21 ⟨he, b9⟩
          rw [kcov] at he
          subst he
          replace HA := hide (HA.out.at b9)
          replace HB := hide (HB.out.at b9)
          replace HM := hide (HM.out.at b9)
          replace HBw := hide (HBw.out.trans (b9.mono HBw.out.size))
          clear b9
          have HM2 : Hid (Reads k21 k21.heap.size (ntes a) (.slice p2 (mergeX a b).length q2)) := hide (by
            have h := HM.out
            have e9 : ntes (mergeX a b) = ntes a := congrArg ntes (mergeX_cov2 kaa kbb kcov)
            rw [e9] at h
            exact h)
          go_wp2_with fail
          refine (sameNt _ _ _ a HM2.out HA.out (by omega)).mono ?_
          rintro e k22 ⟨he, b9⟩
          subst he
          replace HA := hide (HA.out.at b9)
          replace HB := hide (HB.out.at b9)
          replace HM := hide (HM.out.at b9)
          replace HBw := hide (HBw.out.trans (b9.mono HBw.out.size))
          clear b9
          go_wp2
          go_ret
          exact ⟨rfl, HBw.out⟩
        | true =>
          go_wp2_with fail
          refine (coversI _ (mergeX a b) b _ _ HM.out HB.out (by omega) (by omega)).mono ?_
          rintro e k23 ⟨he, b9⟩
          rw [kcov] at he
          subst he
          replace HA := hide (HA.out.at b9)
          replace HB := hide (HB.out.at b9)
          replace HM := hide (HM.out.at b9)
          replace HBw := hide (HBw.out.trans (b9.mono HBw.out.size))
          clear b9
          have hM := mergeX_ntk kaa kbb
          go_wp2
          go_loopw [14] (fun i wr => ∃ j : Nat, j ≤ (mergeX a b).length ∧ i = .int .i64 (j : Int) ∧ Hid (Below k23.heap.size k23 wr)) (fun i _ => (mergeX a b).length - (intOf i).toNat)
          case atStart => exact ⟨0, Nat.zero_le _, rfl, hide (Below.refl _ _)⟩
          case round =>
            obtain ⟨j, hj, rfl, HBr⟩ := hrel
            replace HA := hide (HA.out.at HBr.out)
            replace HB := hide (HB.out.at HBr.out)
            replace HM := hide (HM.out.at HBr.out)
            have hsz := HBr.out.size
            by_cases hlt : j < (mergeX a b).length
            · have hltI : (j : Int) < ((mergeX a b).length : Int) := by omega
              obtain ⟨a', cap', ea, _, _, hc⟩ := nte_at HM.out
              cases ea
              obtain ⟨pb, po, rfl, hbb, hcell⟩ := hc (by omega)
              obtain ⟨d0, d1⟩ := hcell j hlt
              have hmem : (mergeX a b).getD j default ∈ mergeX a b := by
                rw [List.getD_eq_getElem?_getD, List.getElem?_eq_getElem hlt]
                exact List.getElem_mem hlt
              have hnv := (nv_mem (ntk_nrt hM) hmem).1
              have hmx := mergeX_nv kaa kbb ((mergeX a b).getD j default).w
              rw [hnv] at hmx
              clear hmem hnv hcell hc
              generalize (mergeX a b).getD j default = y at *
              have HS : Hid (∀ w', Below wr.heap.size wr w' → w'.cell? ⟨pb, po + j * 2, none⟩ = some (.int .i64 y.w) ∧ w'.cell? ⟨pb, po + j * 2 + 1, none⟩ = some (.int .i64 y.n)) := hide (fun w' hb => ⟨(hb.cell (p := ⟨pb, po + j * 2, none⟩) hbb).trans d0, (hb.cell (p := ⟨pb, po + j * 2 + 1, none⟩) hbb).trans d1⟩)
              clear d0 d1 hbb
              by_cases t1 : nvX a y.w < y.n
              · have t2 : ¬ nvX b y.w < y.n := by omega
                have t1' : y.n > nvX a y.w := t1
                have t2' : ¬ y.n > nvX b y.w := t2
                clear hmx
                go_upto_region 18 with fail
                have HD : Hid (Below wr.heap.size wr wr.drew) := hide (Below.refl wr.heap.size wr).drew
                refine wp_region_held_drew (S := fun w' => w'.cell? ⟨pb, po + j * 2, none⟩ = some (.int .i64 y.w) ∧ w'.cell? ⟨pb, po + j * 2 + 1, none⟩ = some (.int .i64 y.n)) (by kernel_rfl) (HS.out _ HD.out) (fun hHeld => ?_)
                generalize wr.drew = x0 at HD hHeld ⊢
                refine wpAnyH_take (i := 0) (v := ?_) rfl (by kernel_rfl) (by kernel_rfl) (by kernel_rfl) (fun _ _ _ h => h) (Or.inl ⟨by rfl, ?_⟩) (by assumption) ?_
                rotate_left
                · intro w' hSw
                  try dsimp only at hSw
                  go_simp; try rfl
                simp only [List.getElem_toArray, List.getElem_cons_zero, Act.put, List.setIfInBounds_toArray, List.set_cons_zero, List.set_cons_succ]
                refine wpAnyH_take (i := 1) (v := ?_) rfl (by kernel_rfl) (by kernel_rfl) (by kernel_rfl) (fun _ _ _ h => h) (Or.inl ⟨by rfl, ?_⟩) (by assumption) ?_
                rotate_left
                · intro w' hSw
                  try dsimp only at hSw
                  go_simp; try rfl
                simp only [List.getElem_toArray, List.getElem_cons_succ, List.getElem_cons_zero, Act.put, List.setIfInBounds_toArray, List.set_cons_zero, List.set_cons_succ]
                refine wpAnyH_take (i := 2) (v := ?_) rfl (by kernel_rfl) (by kernel_rfl) (by kernel_rfl) (fun _ _ _ h => h) (Or.inl ⟨by rfl, ?_⟩) (by assumption) ?_
                rotate_left
                · intro w' hSw
                  try dsimp only at hSw
                  go_simp; try rfl
                simp only [List.getElem_toArray, List.getElem_cons_succ, List.getElem_cons_zero, Act.put, List.setIfInBounds_toArray, List.set_cons_zero, List.set_cons_succ]
                refine wpAnyH_take (i := 3) (v := ?_) rfl (by kernel_rfl) (by kernel_rfl) (by kernel_rfl) (fun _ _ _ h => h) (Or.inl ⟨by rfl, ?_⟩) (by assumption) ?_
                rotate_left
                · intro w' hSw
                  try dsimp only at hSw
                  go_simp; try rfl
                simp only [List.getElem_toArray, List.getElem_cons_succ, List.getElem_cons_zero, Act.put, List.setIfInBounds_toArray, List.set_cons_zero, List.set_cons_succ]
                refine wpAnyH_take (i := 4) (v := ?_) rfl (by kernel_rfl) (by kernel_rfl) (by kernel_rfl) (fun _ _ _ h => h) (Or.inl ⟨by rfl, ?_⟩) (by assumption) ?_
                rotate_left
                · intro w' hSw
                  try dsimp only at hSw
                  go_simp; try rfl
                simp only [List.getElem_toArray, List.getElem_cons_succ, List.getElem_cons_zero, Act.put, List.setIfInBounds_toArray, List.set_cons_zero, List.set_cons_succ]
                refine wpAnyH_take (i := 5) (v := ?_) rfl (by kernel_rfl) (by kernel_rfl) (by kernel_rfl) (fun _ _ _ h => h) (Or.inl ⟨by rfl, ?_⟩) (by assumption) ?_
                rotate_left
                · intro w' hSw
                  try dsimp only at hSw
                  go_simp; try rfl
                simp only [List.getElem_toArray, List.getElem_cons_succ, List.getElem_cons_zero, Act.put, List.setIfInBounds_toArray, List.set_cons_zero, List.set_cons_succ]
                refine wpAnyH_take (i := 6) (v := ?_) rfl (by kernel_rfl) (by kernel_rfl) (by kernel_rfl) (fun _ _ _ h => h) (Or.inl ⟨by rfl, ?_⟩) (by assumption) ?_
                rotate_left
                · intro w' hSw
                  try dsimp only at hSw
                  go_simp; try rfl
                simp only [List.getElem_toArray, List.getElem_cons_succ, List.getElem_cons_zero, Act.put, List.setIfInBounds_toArray, List.set_cons_zero, List.set_cons_succ]
                refine wpAnyH_take (i := 7) (v := ?_) rfl (by kernel_rfl) (by kernel_rfl) (by kernel_rfl) (fun _ _ _ h => h) (Or.inl ⟨by rfl, ?_⟩) (by assumption) ?_
                rotate_left
                · intro w' hSw
                  try dsimp only at hSw
                  go_simp; try rfl
                simp only [List.getElem_toArray, List.getElem_cons_succ, List.getElem_cons_zero, Act.put, List.setIfInBounds_toArray, List.set_cons_zero, List.set_cons_succ]
                refine wpAnyH_take (i := 8) (v := ?_) rfl (by kernel_rfl) (by kernel_rfl) (by kernel_rfl) (fun _ _ _ h => h) (Or.inl ⟨by rfl, ?_⟩) (by assumption) ?_
                rotate_left
                · intro w' hSw
                  try dsimp only at hSw
                  go_simp; try rfl
                simp only [List.getElem_toArray, List.getElem_cons_succ, List.getElem_cons_zero, Act.put, List.setIfInBounds_toArray, List.set_cons_zero, List.set_cons_succ]
                refine wpAnyH_take (i := 9) (v := ?_) rfl (by kernel_rfl) (by kernel_rfl) (by kernel_rfl) (fun _ _ _ h => h) (Or.inl ⟨by rfl, ?_⟩) (by assumption) ?_
                rotate_left
                · intro w' hSw
                  try dsimp only at hSw
                  go_simp; try rfl
                simp only [List.getElem_toArray, List.getElem_cons_succ, List.getElem_cons_zero, Act.put, List.setIfInBounds_toArray, List.set_cons_zero, List.set_cons_succ]
                refine wpAnyH_take (i := 10) (v := ?_) rfl (by kernel_rfl) (by kernel_rfl) (by kernel_rfl) (fun _ _ _ h => h) (Or.inl ⟨by rfl, ?_⟩) (by assumption) ?_
                rotate_left
                · intro w' hSw
                  try dsimp only at hSw
                  go_simp; try rfl
                simp only [List.getElem_toArray, List.getElem_cons_succ, List.getElem_cons_zero, Act.put, List.setIfInBounds_toArray, List.set_cons_zero, List.set_cons_succ]
                refine wpAnyH_ready (rs := [11]) (by kernel_rfl) (by simp) (AllReadyH.cons rfl (fun K hK => ?_) AllReadyH.nil)
                refine step_callW (some 113) rfl (by kernel_rfl) 12 _ _ rfl #[.slice p1 a.length q1, .int .i64 y.w] (by kernel_rfl) (noteOfI _ a _ y.w (HA.out.at HD.out) (by omega)) ?_
                rintro e x113 ⟨rfl, b1⟩
                refine ⟨_, rfl, ?_⟩
                replace HD := hide (HD.out.trans (b1.mono HD.out.size))
                clear b1
                refine hK.out _ _ (HS.out _ HD.out) (fun hHeld => ?_)
                clear hK K
                simp only [Act.put, List.setIfInBounds_toArray, List.set_cons_zero, List.set_cons_succ]
                refine wpAnyH_take (i := 12) (v := ?_) rfl (by kernel_rfl) (by kernel_rfl) (by kernel_rfl) (fun _ _ _ h => h) (Or.inl ⟨by rfl, ?_⟩) (by assumption) ?_
                rotate_left
                · intro w' hSw
                  try dsimp only at hSw
                  go_simp; try rfl
                simp only [List.getElem_toArray, List.getElem_cons_succ, List.getElem_cons_zero, Act.put, List.setIfInBounds_toArray, List.set_cons_zero, List.set_cons_succ]
                refine wpAnyH_take (i := 13) (v := ?_) rfl (by kernel_rfl) (by kernel_rfl) (by kernel_rfl) (fun _ _ _ h => h) (Or.inl ⟨by rfl, ?_⟩) (by assumption) ?_
                rotate_left
                · intro w' hSw
                  try dsimp only at hSw
                  go_simp; try rfl
                simp only [List.getElem_toArray, List.getElem_cons_succ, List.getElem_cons_zero, Act.put, List.setIfInBounds_toArray, List.set_cons_zero, List.set_cons_succ]
                refine wpAnyH_take (i := 14) (v := ?_) rfl (by kernel_rfl) (by kernel_rfl) (by kernel_rfl) (fun _ _ _ h => h) (Or.inl ⟨by rfl, ?_⟩) (by assumption) ?_
                rotate_left
                · intro w' hSw
                  try dsimp only at hSw
                  go_simp; try rfl
                simp only [List.getElem_toArray, List.getElem_cons_succ, List.getElem_cons_zero, Act.put, List.setIfInBounds_toArray, List.set_cons_zero, List.set_cons_succ]
                refine wpAnyH_take (i := 15) (v := ?_) rfl (by kernel_rfl) (by kernel_rfl) (by kernel_rfl) (fun _ _ _ h => h) (Or.inl ⟨by rfl, ?_⟩) (by assumption) ?_
                rotate_left
                · intro w' hSw
                  try dsimp only at hSw
                  go_simp; try rfl
                simp only [List.getElem_toArray, List.getElem_cons_succ, List.getElem_cons_zero, Act.put, List.setIfInBounds_toArray, List.set_cons_zero, List.set_cons_succ]
                refine wpAnyH_take (i := 16) (v := ?_) rfl (by kernel_rfl) (by kernel_rfl) (by kernel_rfl) (fun _ _ _ h => h) (Or.inl ⟨by rfl, ?_⟩) (by assumption) ?_
                rotate_left
                · intro w' hSw
                  try dsimp only at hSw
                  go_simp; try rfl
                simp only [List.getElem_toArray, List.getElem_cons_succ, List.getElem_cons_zero, Act.put, List.setIfInBounds_toArray, List.set_cons_zero, List.set_cons_succ]
                refine wpAnyH_take (i := 17) (v := ?_) rfl (by kernel_rfl) (by kernel_rfl) (by kernel_rfl) (fun _ _ _ h => h) (Or.inl ⟨by rfl, ?_⟩) (by assumption) ?_
                rotate_left
                · intro w' hSw
                  try dsimp only at hSw
                  go_simp; try rfl
                simp only [List.getElem_toArray, List.getElem_cons_succ, List.getElem_cons_zero, Act.put, List.setIfInBounds_toArray, List.set_cons_zero, List.set_cons_succ]
                refine wpAnyH_take (i := 18) (v := ?_) rfl (by kernel_rfl) (by kernel_rfl) (by kernel_rfl) (fun _ _ _ h => h) (Or.inl ⟨by rfl, ?_⟩) (by assumption) ?_
                rotate_left
                · intro w' hSw
                  try dsimp only at hSw
                  go_simp; try rfl
                simp only [List.getElem_toArray, List.getElem_cons_succ, List.getElem_cons_zero, Act.put, List.setIfInBounds_toArray, List.set_cons_zero, List.set_cons_succ]
                refine wpAnyH_take (i := 19) (v := ?_) rfl (by kernel_rfl) (by kernel_rfl) (by kernel_rfl) (fun _ _ _ h => h) (Or.inl ⟨by rfl, ?_⟩) (by assumption) ?_
                rotate_left
                · intro w' hSw
                  try dsimp only at hSw
                  go_simp; try rfl
                simp only [List.getElem_toArray, List.getElem_cons_succ, List.getElem_cons_zero, Act.put, List.setIfInBounds_toArray, List.set_cons_zero, List.set_cons_succ]
                refine wpAnyH_take (i := 20) (v := ?_) rfl (by kernel_rfl) (by kernel_rfl) (by kernel_rfl) (fun _ _ _ h => h) (Or.inl ⟨by rfl, ?_⟩) (by assumption) ?_
                rotate_left
                · intro w' hSw
                  try dsimp only at hSw
                  go_simp; try rfl
                simp only [List.getElem_toArray, List.getElem_cons_succ, List.getElem_cons_zero, Act.put, List.setIfInBounds_toArray, List.set_cons_zero, List.set_cons_succ]
                refine wpAnyH_take (i := 21) (v := ?_) rfl (by kernel_rfl) (by kernel_rfl) (by kernel_rfl) (fun _ _ _ h => h) (Or.inl ⟨by rfl, ?_⟩) (by assumption) ?_
                rotate_left
                · intro w' hSw
                  try dsimp only at hSw
                  go_simp; try rfl
                simp only [List.getElem_toArray, List.getElem_cons_succ, List.getElem_cons_zero, Act.put, List.setIfInBounds_toArray, List.set_cons_zero, List.set_cons_succ]
                refine wpAnyH_take (i := 22) (v := ?_) rfl (by kernel_rfl) (by kernel_rfl) (by kernel_rfl) (fun _ _ _ h => h) (Or.inl ⟨by rfl, ?_⟩) (by assumption) ?_
                rotate_left
                · intro w' hSw
                  try dsimp only at hSw
                  go_simp; try rfl
                simp only [List.getElem_toArray, List.getElem_cons_succ, List.getElem_cons_zero, Act.put, List.setIfInBounds_toArray, List.set_cons_zero, List.set_cons_succ]
                refine wpAnyH_take (i := 23) (v := ?_) rfl (by kernel_rfl) (by kernel_rfl) (by kernel_rfl) (fun _ _ _ h => h) (Or.inl ⟨by rfl, ?_⟩) (by assumption) ?_
                rotate_left
                · intro w' hSw
                  try dsimp only at hSw
                  go_simp; try rfl
                simp only [List.getElem_toArray, List.getElem_cons_succ, List.getElem_cons_zero, Act.put, List.setIfInBounds_toArray, List.set_cons_zero, List.set_cons_succ]
                refine wpAnyH_take (i := 24) (v := ?_) rfl (by kernel_rfl) (by kernel_rfl) (by kernel_rfl) (fun _ _ _ h => h) (Or.inl ⟨by rfl, ?_⟩) (by assumption) ?_
                rotate_left
                · intro w' hSw
                  try dsimp only at hSw
                  go_simp; try rfl
                simp only [List.getElem_toArray, List.getElem_cons_succ, List.getElem_cons_zero, Act.put, List.setIfInBounds_toArray, List.set_cons_zero, List.set_cons_succ]
                refine wpAnyH_ready (rs := [25]) (by kernel_rfl) (by simp) (AllReadyH.cons rfl (fun K hK => ?_) AllReadyH.nil)
                refine step_callW (some 127) rfl (by kernel_rfl) 12 _ _ rfl #[.slice p1x b.length q1x, .int .i64 y.w] (by kernel_rfl) (noteOfI _ b _ y.w (HB.out.at HD.out) (by omega)) ?_
                rintro e x127 ⟨rfl, b1⟩
                refine ⟨_, rfl, ?_⟩
                replace HD := hide (HD.out.trans (b1.mono HD.out.size))
                clear b1
                refine hK.out _ _ (HS.out _ HD.out) (fun hHeld => ?_)
                clear hK K
                simp only [Act.put, List.setIfInBounds_toArray, List.set_cons_zero, List.set_cons_succ]
                refine wpAnyH_take (i := 26) (v := ?_) rfl (by kernel_rfl) (by kernel_rfl) (by kernel_rfl) (fun _ _ _ h => h) (Or.inl ⟨by rfl, ?_⟩) (by assumption) ?_
                rotate_left
                · intro w' hSw
                  try dsimp only at hSw
                  go_simp; try rfl
                simp only [List.getElem_toArray, List.getElem_cons_succ, List.getElem_cons_zero, Act.put, List.setIfInBounds_toArray, List.set_cons_zero, List.set_cons_succ]
                refine wpAnyH_take (i := 27) (v := ?_) rfl (by kernel_rfl) (by kernel_rfl) (by kernel_rfl) (fun _ _ _ h => h) (Or.inl ⟨by rfl, ?_⟩) (by assumption) ?_
                rotate_left
                · intro w' hSw
                  try dsimp only at hSw
                  go_simp; try rfl
                simp only [List.getElem_toArray, List.getElem_cons_succ, List.getElem_cons_zero, Act.put, List.setIfInBounds_toArray, List.set_cons_zero, List.set_cons_succ]
                refine wpAnyH_done (by kernel_rfl) ?_ _
                have HBn := hide (HBr.out.trans (HD.out.mono hsz))
                go_wp2
                exact ⟨⟨j + 1, by omega, by go_num, HBn⟩, by simp [intOf]; omega⟩
              · have t1' : ¬ y.n > nvX a y.w := t1
                clear hmx
                go_upto_region 18 with fail
                have HD : Hid (Below wr.heap.size wr wr.drew) := hide (Below.refl wr.heap.size wr).drew
                refine wp_region_held_drew (S := fun w' => w'.cell? ⟨pb, po + j * 2, none⟩ = some (.int .i64 y.w) ∧ w'.cell? ⟨pb, po + j * 2 + 1, none⟩ = some (.int .i64 y.n)) (by kernel_rfl) (HS.out _ HD.out) (fun hHeld => ?_)
                generalize wr.drew = x0 at HD hHeld ⊢
                refine wpAnyH_take (i := 0) (v := ?_) rfl (by kernel_rfl) (by kernel_rfl) (by kernel_rfl) (fun _ _ _ h => h) (Or.inl ⟨by rfl, ?_⟩) (by assumption) ?_
                rotate_left
                · intro w' hSw
                  try dsimp only at hSw
                  go_simp; try rfl
                simp only [List.getElem_toArray, List.getElem_cons_zero, Act.put, List.setIfInBounds_toArray, List.set_cons_zero, List.set_cons_succ]
                refine wpAnyH_take (i := 1) (v := ?_) rfl (by kernel_rfl) (by kernel_rfl) (by kernel_rfl) (fun _ _ _ h => h) (Or.inl ⟨by rfl, ?_⟩) (by assumption) ?_
                rotate_left
                · intro w' hSw
                  try dsimp only at hSw
                  go_simp; try rfl
                simp only [List.getElem_toArray, List.getElem_cons_succ, List.getElem_cons_zero, Act.put, List.setIfInBounds_toArray, List.set_cons_zero, List.set_cons_succ]
                refine wpAnyH_take (i := 2) (v := ?_) rfl (by kernel_rfl) (by kernel_rfl) (by kernel_rfl) (fun _ _ _ h => h) (Or.inl ⟨by rfl, ?_⟩) (by assumption) ?_
                rotate_left
                · intro w' hSw
                  try dsimp only at hSw
                  go_simp; try rfl
                simp only [List.getElem_toArray, List.getElem_cons_succ, List.getElem_cons_zero, Act.put, List.setIfInBounds_toArray, List.set_cons_zero, List.set_cons_succ]
                refine wpAnyH_take (i := 3) (v := ?_) rfl (by kernel_rfl) (by kernel_rfl) (by kernel_rfl) (fun _ _ _ h => h) (Or.inl ⟨by rfl, ?_⟩) (by assumption) ?_
                rotate_left
                · intro w' hSw
                  try dsimp only at hSw
                  go_simp; try rfl
                simp only [List.getElem_toArray, List.getElem_cons_succ, List.getElem_cons_zero, Act.put, List.setIfInBounds_toArray, List.set_cons_zero, List.set_cons_succ]
                refine wpAnyH_take (i := 4) (v := ?_) rfl (by kernel_rfl) (by kernel_rfl) (by kernel_rfl) (fun _ _ _ h => h) (Or.inl ⟨by rfl, ?_⟩) (by assumption) ?_
                rotate_left
                · intro w' hSw
                  try dsimp only at hSw
                  go_simp; try rfl
                simp only [List.getElem_toArray, List.getElem_cons_succ, List.getElem_cons_zero, Act.put, List.setIfInBounds_toArray, List.set_cons_zero, List.set_cons_succ]
                refine wpAnyH_take (i := 5) (v := ?_) rfl (by kernel_rfl) (by kernel_rfl) (by kernel_rfl) (fun _ _ _ h => h) (Or.inl ⟨by rfl, ?_⟩) (by assumption) ?_
                rotate_left
                · intro w' hSw
                  try dsimp only at hSw
                  go_simp; try rfl
                simp only [List.getElem_toArray, List.getElem_cons_succ, List.getElem_cons_zero, Act.put, List.setIfInBounds_toArray, List.set_cons_zero, List.set_cons_succ]
                refine wpAnyH_take (i := 6) (v := ?_) rfl (by kernel_rfl) (by kernel_rfl) (by kernel_rfl) (fun _ _ _ h => h) (Or.inl ⟨by rfl, ?_⟩) (by assumption) ?_
                rotate_left
                · intro w' hSw
                  try dsimp only at hSw
                  go_simp; try rfl
                simp only [List.getElem_toArray, List.getElem_cons_succ, List.getElem_cons_zero, Act.put, List.setIfInBounds_toArray, List.set_cons_zero, List.set_cons_succ]
                refine wpAnyH_take (i := 7) (v := ?_) rfl (by kernel_rfl) (by kernel_rfl) (by kernel_rfl) (fun _ _ _ h => h) (Or.inl ⟨by rfl, ?_⟩) (by assumption) ?_
                rotate_left
                · intro w' hSw
                  try dsimp only at hSw
                  go_simp; try rfl
                simp only [List.getElem_toArray, List.getElem_cons_succ, List.getElem_cons_zero, Act.put, List.setIfInBounds_toArray, List.set_cons_zero, List.set_cons_succ]
                refine wpAnyH_take (i := 8) (v := ?_) rfl (by kernel_rfl) (by kernel_rfl) (by kernel_rfl) (fun _ _ _ h => h) (Or.inl ⟨by rfl, ?_⟩) (by assumption) ?_
                rotate_left
                · intro w' hSw
                  try dsimp only at hSw
                  go_simp; try rfl
                simp only [List.getElem_toArray, List.getElem_cons_succ, List.getElem_cons_zero, Act.put, List.setIfInBounds_toArray, List.set_cons_zero, List.set_cons_succ]
                refine wpAnyH_take (i := 9) (v := ?_) rfl (by kernel_rfl) (by kernel_rfl) (by kernel_rfl) (fun _ _ _ h => h) (Or.inl ⟨by rfl, ?_⟩) (by assumption) ?_
                rotate_left
                · intro w' hSw
                  try dsimp only at hSw
                  go_simp; try rfl
                simp only [List.getElem_toArray, List.getElem_cons_succ, List.getElem_cons_zero, Act.put, List.setIfInBounds_toArray, List.set_cons_zero, List.set_cons_succ]
                refine wpAnyH_take (i := 10) (v := ?_) rfl (by kernel_rfl) (by kernel_rfl) (by kernel_rfl) (fun _ _ _ h => h) (Or.inl ⟨by rfl, ?_⟩) (by assumption) ?_
                rotate_left
                · intro w' hSw
                  try dsimp only at hSw
                  go_simp; try rfl
                simp only [List.getElem_toArray, List.getElem_cons_succ, List.getElem_cons_zero, Act.put, List.setIfInBounds_toArray, List.set_cons_zero, List.set_cons_succ]
                refine wpAnyH_ready (rs := [11]) (by kernel_rfl) (by simp) (AllReadyH.cons rfl (fun K hK => ?_) AllReadyH.nil)
                refine step_callW (some 113) rfl (by kernel_rfl) 12 _ _ rfl #[.slice p1 a.length q1, .int .i64 y.w] (by kernel_rfl) (noteOfI _ a _ y.w (HA.out.at HD.out) (by omega)) ?_
                rintro e x113 ⟨rfl, b1⟩
                refine ⟨_, rfl, ?_⟩
                replace HD := hide (HD.out.trans (b1.mono HD.out.size))
                clear b1
                refine hK.out _ _ (HS.out _ HD.out) (fun hHeld => ?_)
                clear hK K
                simp only [Act.put, List.setIfInBounds_toArray, List.set_cons_zero, List.set_cons_succ]
                refine wpAnyH_take (i := 12) (v := ?_) rfl (by kernel_rfl) (by kernel_rfl) (by kernel_rfl) (fun _ _ _ h => h) (Or.inl ⟨by rfl, ?_⟩) (by assumption) ?_
                rotate_left
                · intro w' hSw
                  try dsimp only at hSw
                  go_simp; try rfl
                simp only [List.getElem_toArray, List.getElem_cons_succ, List.getElem_cons_zero, Act.put, List.setIfInBounds_toArray, List.set_cons_zero, List.set_cons_succ]
                refine wpAnyH_take (i := 13) (v := ?_) rfl (by kernel_rfl) (by kernel_rfl) (by kernel_rfl) (fun _ _ _ h => h) (Or.inl ⟨by rfl, ?_⟩) (by assumption) ?_
                rotate_left
                · intro w' hSw
                  try dsimp only at hSw
                  go_simp; try rfl
                simp only [List.getElem_toArray, List.getElem_cons_succ, List.getElem_cons_zero, Act.put, List.setIfInBounds_toArray, List.set_cons_zero, List.set_cons_succ]
                refine wpAnyH_take (i := 14) (v := undef) rfl (by kernel_rfl) (by kernel_rfl) (by kernel_rfl) (fun _ _ _ h => h) (Or.inr ⟨by rfl, rfl⟩) (by assumption) ?_
                simp only [List.getElem_toArray, List.getElem_cons_succ, List.getElem_cons_zero, Act.put, List.setIfInBounds_toArray, List.set_cons_zero, List.set_cons_succ]
                refine wpAnyH_take (i := 15) (v := undef) rfl (by kernel_rfl) (by kernel_rfl) (by kernel_rfl) (fun _ _ _ h => h) (Or.inr ⟨by rfl, rfl⟩) (by assumption) ?_
                simp only [List.getElem_toArray, List.getElem_cons_succ, List.getElem_cons_zero, Act.put, List.setIfInBounds_toArray, List.set_cons_zero, List.set_cons_succ]
                refine wpAnyH_take (i := 16) (v := undef) rfl (by kernel_rfl) (by kernel_rfl) (by kernel_rfl) (fun _ _ _ h => h) (Or.inr ⟨by rfl, rfl⟩) (by assumption) ?_
                simp only [List.getElem_toArray, List.getElem_cons_succ, List.getElem_cons_zero, Act.put, List.setIfInBounds_toArray, List.set_cons_zero, List.set_cons_succ]
                refine wpAnyH_take (i := 17) (v := undef) rfl (by kernel_rfl) (by kernel_rfl) (by kernel_rfl) (fun _ _ _ h => h) (Or.inr ⟨by rfl, rfl⟩) (by assumption) ?_
                simp only [List.getElem_toArray, List.getElem_cons_succ, List.getElem_cons_zero, Act.put, List.setIfInBounds_toArray, List.set_cons_zero, List.set_cons_succ]
                refine wpAnyH_take (i := 18) (v := undef) rfl (by kernel_rfl) (by kernel_rfl) (by kernel_rfl) (fun _ _ _ h => h) (Or.inr ⟨by rfl, rfl⟩) (by assumption) ?_
                simp only [List.getElem_toArray, List.getElem_cons_succ, List.getElem_cons_zero, Act.put, List.setIfInBounds_toArray, List.set_cons_zero, List.set_cons_succ]
                refine wpAnyH_take (i := 19) (v := undef) rfl (by kernel_rfl) (by kernel_rfl) (by kernel_rfl) (fun _ _ _ h => h) (Or.inr ⟨by rfl, rfl⟩) (by assumption) ?_
                simp only [List.getElem_toArray, List.getElem_cons_succ, List.getElem_cons_zero, Act.put, List.setIfInBounds_toArray, List.set_cons_zero, List.set_cons_succ]
                refine wpAnyH_take (i := 20) (v := undef) rfl (by kernel_rfl) (by kernel_rfl) (by kernel_rfl) (fun _ _ _ h => h) (Or.inr ⟨by rfl, rfl⟩) (by assumption) ?_
                simp only [List.getElem_toArray, List.getElem_cons_succ, List.getElem_cons_zero, Act.put, List.setIfInBounds_toArray, List.set_cons_zero, List.set_cons_succ]
                refine wpAnyH_take (i := 21) (v := undef) rfl (by kernel_rfl) (by kernel_rfl) (by kernel_rfl) (fun _ _ _ h => h) (Or.inr ⟨by rfl, rfl⟩) (by assumption) ?_
                simp only [List.getElem_toArray, List.getElem_cons_succ, List.getElem_cons_zero, Act.put, List.setIfInBounds_toArray, List.set_cons_zero, List.set_cons_succ]
                refine wpAnyH_take (i := 22) (v := undef) rfl (by kernel_rfl) (by kernel_rfl) (by kernel_rfl) (fun _ _ _ h => h) (Or.inr ⟨by rfl, rfl⟩) (by assumption) ?_
                simp only [List.getElem_toArray, List.getElem_cons_succ, List.getElem_cons_zero, Act.put, List.setIfInBounds_toArray, List.set_cons_zero, List.set_cons_succ]
                refine wpAnyH_take (i := 23) (v := undef) rfl (by kernel_rfl) (by kernel_rfl) (by kernel_rfl) (fun _ _ _ h => h) (Or.inr ⟨by rfl, rfl⟩) (by assumption) ?_
                simp only [List.getElem_toArray, List.getElem_cons_succ, List.getElem_cons_zero, Act.put, List.setIfInBounds_toArray, List.set_cons_zero, List.set_cons_succ]
                refine wpAnyH_take (i := 24) (v := undef) rfl (by kernel_rfl) (by kernel_rfl) (by kernel_rfl) (fun _ _ _ h => h) (Or.inr ⟨by rfl, rfl⟩) (by assumption) ?_
                simp only [List.getElem_toArray, List.getElem_cons_succ, List.getElem_cons_zero, Act.put, List.setIfInBounds_toArray, List.set_cons_zero, List.set_cons_succ]
                refine wpAnyH_take (i := 25) (v := undef) rfl (by kernel_rfl) (by kernel_rfl) (by kernel_rfl) (fun _ _ _ h => h) (Or.inr ⟨by rfl, rfl⟩) (by assumption) ?_
                simp only [List.getElem_toArray, List.getElem_cons_succ, List.getElem_cons_zero, Act.put, List.setIfInBounds_toArray, List.set_cons_zero, List.set_cons_succ]
                refine wpAnyH_take (i := 26) (v := undef) rfl (by kernel_rfl) (by kernel_rfl) (by kernel_rfl) (fun _ _ _ h => h) (Or.inr ⟨by rfl, rfl⟩) (by assumption) ?_
                simp only [List.getElem_toArray, List.getElem_cons_succ, List.getElem_cons_zero, Act.put, List.setIfInBounds_toArray, List.set_cons_zero, List.set_cons_succ]
                refine wpAnyH_take (i := 27) (v := ?_) rfl (by kernel_rfl) (by kernel_rfl) (by kernel_rfl) (fun _ _ _ h => h) (Or.inl ⟨by rfl, ?_⟩) (by assumption) ?_
                rotate_left
                · intro w' hSw
                  try dsimp only at hSw
                  go_simp; try rfl
                simp only [List.getElem_toArray, List.getElem_cons_succ, List.getElem_cons_zero, Act.put, List.setIfInBounds_toArray, List.set_cons_zero, List.set_cons_succ]
                refine wpAnyH_done (by kernel_rfl) ?_ _
                have HBn := hide (HBr.out.trans (HD.out.mono hsz))
                go_wp2
                exact ⟨⟨j + 1, by omega, by go_num, HBn⟩, by simp [intOf]; omega⟩
            · replace HBw := hide (HBw.out.trans (HBr.out.mono HBw.out.size))
              clear HBr hsz
              go_wp2_with fail
              refine (coversI _ (mergeX a b) a _ _ HM.out HA.out (by omega) (by omega)).mono ?_
              rintro e k24 ⟨he, b9⟩
              rw [mergeX_cov1 kaa kbb] at he
              subst he
              replace HA := hide (HA.out.at b9)
              replace HB := hide (HB.out.at b9)
              replace HM := hide (HM.out.at b9)
              replace HBw := hide (HBw.out.trans (b9.mono HBw.out.size))
              clear b9
              go_wp2_with fail
              refine (mergeI _ (mergeX a b) b _ _ HM.out HB.out (by omega) (by omega) (by omega)).mono ?_
              rintro e k25 ⟨u9, rfl, o9, b9⟩
              obtain ⟨p25, q25, f25⟩ := o9.shape
              subst f25
              replace HA := hide (HA.out.at b9)
              replace HB := hide (HB.out.at b9)
              replace HM := hide (HM.out.at b9)
              replace HBw := hide (HBw.out.trans (b9.mono HBw.out.size))
              clear b9
              have HX := hide (o9.rd (Nat.le_refl _))
              clear o9
              have HX2 : Hid (Reads k25 k25.heap.size (ntes (mergeX a b)) (.slice p25 (mergeX (mergeX a b) b).length q25)) := hide (by
                have h := HX.out
                have e9 : ntes (mergeX (mergeX a b) b) = ntes (mergeX a b) := congrArg ntes (mergeX_again kaa kbb kcov)
                rw [e9] at h
                exact h)
              clear HX
              go_wp2_with fail
              refine (sameNt _ _ _ (mergeX a b) HX2.out HM.out (by omega)).mono ?_
              rintro e k26 ⟨he, b9⟩
              subst he
              replace HA := hide (HA.out.at b9)
              replace HB := hide (HB.out.at b9)
              replace HM := hide (HM.out.at b9)
              replace HBw := hide (HBw.out.trans (b9.mono HBw.out.size))
              clear b9
              clear HX2
              go_wp2_with fail
              refine (mergeI _ a a _ _ HA.out HA.out (by omega) (by omega) (by omega)).mono ?_
              rintro e k27 ⟨u9, rfl, o9, b9⟩
              obtain ⟨p27, q27, f27⟩ := o9.shape
              subst f27
              replace HA := hide (HA.out.at b9)
              replace HB := hide (HB.out.at b9)
              replace HM := hide (HM.out.at b9)
              replace HBw := hide (HBw.out.trans (b9.mono HBw.out.size))
              clear b9
              have HX := hide (o9.rd (Nat.le_refl _))
              clear o9
              have HX2 : Hid (Reads k27 k27.heap.size (ntes (a)) (.slice p27 (mergeX a a).length q27)) := hide (by
                have h := HX.out
                have e9 : ntes (mergeX a a) = ntes (a) := congrArg ntes (mergeX_self kaa)
                rw [e9] at h
                exact h)
              clear HX
              go_wp2_with fail
              refine (sameNt _ _ _ a HX2.out HA.out (by omega)).mono ?_
              rintro e k28 ⟨he, b9⟩
              subst he
              replace HA := hide (HA.out.at b9)
              replace HB := hide (HB.out.at b9)
              replace HM := hide (HM.out.at b9)
              replace HBw := hide (HBw.out.trans (b9.mono HBw.out.size))
              clear b9
              go_wp2
              go_ret
              exact ⟨rfl, HBw.out⟩

set_option maxRecDepth 100000 in
theorem lifted (os : Os) (started : os.Started) (H : Type) (enc : TypeId × Value → H) :
    ReturnsInHanded {} Try.checked os 7 .any (Rows.fnNotesSpec.pre6 enc Try.prog Try.f7 Rows.fnNotesRow.domain false) (Rows.fnNotesSpec.post enc Try.prog Try.f7 false true false false) := by
  refine returnsInHanded_of_change (C := Try.checked) own started (by kernel_rfl) Try.func7
    (ChangeSpec.witness6 (enc := enc) (C := Try.checked) false ⟨#[], #[.slice none 0 0], []⟩ 8 (by kernel_rfl) (by kernel_rfl) (by kernel_rfl) (by kernel_rfl)) ?_
  intro W base args ds gs before hval0 hW hcnd _
  have hval : ∀ (j : Nat) t v, Try.f7.params[j]? = some t → args[j]? = some v → Value.okWide Try.prog W .any base t v := hval0
  have hW' := hW
  obtain ⟨p, q, hA0, hV, rfl, hfz, hnd⟩ := hW
  have hA : DataW.TrodAll enc Try.prog W 0 (fun _ => true) true Try.f7.params.toList args.toList ds p := hA0
  rw [Try.params7] at hA hval
  obtain ⟨v0, vs0, d0, ds0, p0, q0, hargs, rfl, rfl, h0, r0⟩ := trodAll_cons hA
  obtain ⟨rfl, rfl, rfl⟩ := trodAll_nil r0
  obtain rfl : args = #[v0] := by cases args; simp_all
  obtain ⟨rfl, rfl⟩ := trodVars_none hV
  obtain ⟨a0, len0, cap0, rfl⟩ := okWide_slice Try.underlying33 (hval 0 33 v0 rfl rfl)
  have k0 := h0
  have lt0 : ∀ x ∈ p0, x.block < W.heap.size := by obtain ⟨m, hm⟩ := k0; exact DataW.trod_lt m _ _ _ hm
  obtain ⟨z0, w0⟩ : ∃ zs, IsRow .u8 W a0 len0 cap0 zs := by
    obtain ⟨fuel, hf⟩ := h0
    rcases open_ints Try.underlying33 Try.underlying5 (by kernel_rfl) hf with ⟨hcs, _⟩ | ⟨x, l, c, zs, hcs, _, hl, hm, hz, _, hcell, hwz⟩
    · simp [Value.cells] at hcs
      obtain ⟨rfl, rfl, rfl⟩ := hcs
      exact ⟨[], .inl ⟨rfl, rfl, rfl, rfl⟩⟩
    · simp [Value.cells] at hcs
      obtain ⟨rfl, rfl, rfl⟩ := hcs
      exact ⟨zs, .inr ⟨_, rfl, hl, hm, by simpa using hz, hcell, hwz⟩⟩
  clear hA0 hval0
  refine (walk a0 len0 cap0 z0 W w0).mono fun e W' ⟨he, bel⟩ => ?_
  subst he
  exact ⟨_, rfl, _, _, _, [], _, [], hW', trodAll_mk1 (shut_bool Try.underlying4 _), (trodAll_cons_mk (Below.trod laidOut (by kernel_rfl) (of_decide_eq_true (by kernel_rfl)) k0 bel lt0) trodAll_mk0), rfl, bel.frame _, fun h => by cases h⟩

theorem over : Rows.fnNotesRow.holds Try.pinned (OpenSpec.ofChange Rows.fnNotesSpec) :=
  OpenClaim.holds_of_wide 7 Try.f7 rfl rfl rfl rfl rfl rfl rfl ⟨rfl, rfl, rfl, rfl, rfl⟩ rfl rfl rfl rfl rfl (by kernel_rfl) Try.func7 (by kernel_rfl)
    (of_decide_eq_true (by kernel_rfl)) (by unfold Func.isWrapper; first | (rw [if_pos (by decide +kernel)]; kernel_rfl) | (rw [if_neg (by decide +kernel)]; exact ⟨rfl, rfl⟩))
    (fun os started H enc _ => lifted os started H enc)

end Go.Proofs.Ytebilohcdpecoaa.fnNotes
namespace Go.Proofs.Ytebilohcdpecoaa
theorem fnNotes_holds : Rows.FnNotesSaid := fnNotes.over
#print axioms fnNotes_holds
end Go.Proofs.Ytebilohcdpecoaa
