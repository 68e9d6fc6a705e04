/-
  Proved: at every sender and every number the program's Forget answers as its model does, in memory of its own, and writes into no argument (the law FnExactForget returns true), without any condition.
-/
import Derived.Test.YtoaenoakdbieaabRows
import Derived.Test.YtoaenoakdbieaabSndForg
import Derived.Test.YtoaenoakdbieaabSndLaw
import Derived.Deep.CutRange
import Derived.Deep.RegionWith
import Derived.BigRegion
import Derived.WalkKit
import Derived.ProofKit
import Derived.OpenShut
import Derived.ShutString
import Derived.ChangeOld
import Derived.Below
namespace Go.Proofs.Ytoaenoakdbieaab.fnExactForget
open Go.ChangeShapes Go.WideShapes Go.ChangeAt Go.RowKit
open Go.ChangeMaps (open_string shut_string)
set_option linter.unusedVariables false

theorem own : ownKnob Try.prog.godebug = none := by kernel_rfl
theorem laidOut : laidOutB Try.prog = true := by kernel_rfl
set_option maxRecDepth 100000 in
set_option maxHeartbeats 8000000 in
theorem walk (v0 : Value) (a1 : Int) (w : World) (h0 : IsSnd w v0) (ha1 : -9223372036854775808 ≤ a1 ∧ a1 ≤ 9223372036854775807) :
    Calls Try.prog 3 #[v0, .int .i64 a1] w fun e w' => e = .returned (.bool true) ∧ Below w.heap.size w w' := by
  obtain ⟨size, lv, xs, rfl, _, hrd, hml, hraw⟩ := h0
  have HR := hide (And.intro hrd hraw)
  obtain ⟨_, a, cap, rfl, _⟩ := hrd
  clear hraw
  generalize hn : xs.length = n at *
  have HN := hide hn
  clear hn
  have HX := hide (Bx.new w #[.int .i64 size, .slice a n cap] 24)
  have bA := (Below.refl w.heap.size w).alloc (Nat.le_refl _) (.cells #[.int .i64 size, .slice a n cap] 24)
  have HB := hide bA
  go_enter Try.func3, Try.ntmps3
  go_wp2_with fail
  refine (szSnd _ size _ xs (by rw [HN.out]; exact HR.out.1.at bA) (fun x hx => (HR.out.2 x hx).below bA) (by rw [HN.out]; exact hml)).mono ?_
  rintro e w1 ⟨r, rfl, hr, b1⟩
  have HRD : Hid (0 ≤ r → r = 1048576 - (totS (xs.map Prod.fst) : Int) ∧ RdS w w.heap.size (.slice a n cap) (xs.map Prod.fst)) := hide (fun h => ⟨(hr h).1, ⟨xs, rfl, by rw [HN.out]; exact HR.out.1, fun x hx => (HR.out.2 x hx).1⟩⟩)
  replace HB := hide (HB.out.trans (b1.mono HB.out.size))
  replace HX := hide (HX.out.below b1)
  clear b1 bA hr HR
  by_cases hr0 : r < 0
  · go_wp2
    go_ret
    exact ⟨rfl, HB.out⟩
  · obtain ⟨ht, hrd⟩ := HRD.out (by omega)
    have hlen : n = (xs.map Prod.fst).length := by rw [← HN.out]; simp
    have htl := totS_len (xs.map Prod.fst)
    clear HRD HN
    generalize xs.map Prod.fst = ps at *
    subst hlen
    have hm2 : ps.length ≤ 1048576 := by omega
    have HT3 : Hid (1 + 5 * totS ps ≤ 50000000) := hide (by omega)
    have HI := hide hrd
    have HGD : Hid (GoodS ps) := hide (goodS (by omega))
    obtain ⟨R, hR⟩ : ∃ R, fgR size a1 ps = R := ⟨_, rfl⟩
    have HS : Hid (∀ (W : World) (V : Value), RdS W W.heap.size V ps → Calls Try.prog 7 #[sndV size V, .int .i64 a1] W (ansF W R)) := hide (fun W V h => hR ▸ forgetSpec W size a1 V ps h ha1 hm2 HGD.out)
    have HM : Hid (∀ (W : World) (V : Value), RdS W W.heap.size V ps → Calls Try.prog 9 #[sndV size V, .int .i64 a1] W (ansF W R)) := hide (fun W V h => hR ▸ forgetImpl W size a1 V ps h ha1 hm2 HGD.out)
    have HSM : Hid (GoodS R.2 ∧ totS R.2 ≤ totS ps ∧ R.2.length ≤ ps.length) := hide (hR ▸ fgR_good HGD.out)
    obtain ⟨sR, pR⟩ := R
    simp only at HSM
    have hl60 : pR.length ≤ 1048576 := by have := HSM.out.2.2; omega
    have HTR : Hid (1 + 5 * totS pR ≤ 50000000) := hide (by have := HSM.out.2.1; omega)
    clear hR hrd ht htl hml
    have hlt0 := HX.out.lt
    have f0 := (box_of HX.out).1 0 _ rfl
    have f1 := (box_of HX.out).1 1 _ rfl
    go_wp2_with fail
    refine (toSnd _ size _ ps (HI.out.at HB.out) hm2 HGD.out).mono ?_
    rintro e w2 ⟨v2, rfl, o2, b2⟩
    have hs2 := b2.size
    have HO := hide (o2.rd (Nat.le_refl _))
    replace HB := hide (HB.out.trans (b2.mono HB.out.size))
    replace HX := hide (HX.out.below b2)
    clear b2 o2 f0 f1
    go_wp2_with fail
    refine (HS.out _ _ HO.out).mono ?_
    rintro e w3 ⟨vW, rfl, oW, b3⟩
    obtain ⟨aW, cW, rfl⟩ := oW.shape
    have HW := hide oW
    have hs3 := b3.size
    replace HB := hide (HB.out.trans (b3.mono HB.out.size))
    replace HX := hide (HX.out.below b3)
    clear b3 HO oW
    unfold sndV
    simp only at HW ⊢
    have bD := (Below.refl w3.heap.size w3).alloc (Nat.le_refl _) (.cells #[.int .i64 sR, .slice aW pR.length cW] 28)
    have H6 := hide (Bx.new w3 #[.int .i64 sR, .slice aW pR.length cW] 28)
    have hs3' : (w3.alloc (.cells #[.int .i64 sR, .slice aW pR.length cW] 28)).heap.size = w3.heap.size + 1 := by simp
    replace HB := hide (HB.out.trans (bD.mono HB.out.size))
    replace HX := hide (HX.out.below bD)
    replace HW := hide (HW.out.below bD)
    clear bD
    have f0 := (box_of HX.out).1 0 _ rfl
    have f1 := (box_of HX.out).1 1 _ rfl
    go_wp2_with fail
    clear f0 f1
    generalize w3.alloc (.cells #[.int .i64 sR, .slice aW pR.length cW] 28) = w3a at *
    refine (toSnd _ size _ ps (HI.out.at HB.out) hm2 HGD.out).mono ?_
    rintro e w4 ⟨vX, rfl, oX, b4⟩
    obtain ⟨aX, cX, rfl⟩ := oX.shape
    have HXO := hide oX
    have hs4 := b4.size
    replace HB := hide (HB.out.trans (b4.mono HB.out.size))
    replace HX := hide (HX.out.below b4)
    replace HW := hide (HW.out.below b4)
    replace H6 := hide (H6.out.below b4)
    clear b4 oX
    unfold sndV
    go_wp2_with fail
    have bD := (Below.refl w4.heap.size w4).alloc (Nat.le_refl _) (.cells #[.int .i64 size, .slice aX ps.length cX] 28)
    have H8 := hide (Bx.new w4 #[.int .i64 size, .slice aX ps.length cX] 28)
    have hs4' : (w4.alloc (.cells #[.int .i64 size, .slice aX ps.length cX] 28)).heap.size = w4.heap.size + 1 := by simp
    replace HB := hide (HB.out.trans (bD.mono HB.out.size))
    replace HX := hide (HX.out.below bD)
    replace HW := hide (HW.out.below bD)
    replace H6 := hide (H6.out.below bD)
    replace HXO := hide (HXO.out.below bD)
    clear bD
    generalize w4.alloc (.cells #[.int .i64 size, .slice aX ps.length cX] 28) = w4a at *
    refine (HM.out _ _ (HXO.out.rd (Nat.le_refl _))).mono ?_
    rintro e w5 ⟨vG, rfl, oG, b5⟩
    obtain ⟨aG, cG, rfl⟩ := oG.shape
    have HG := hide oG
    have hs5 := b5.size
    replace HB := hide (HB.out.trans (b5.mono HB.out.size))
    replace HX := hide (HX.out.below b5)
    replace HW := hide (HW.out.below b5)
    replace H6 := hide (H6.out.below b5)
    replace HXO := hide (HXO.out.below b5)
    replace H8 := hide (H8.out.below b5)
    clear b5 oG
    unfold sndV
    simp only at HG ⊢
    have bD := (Below.refl w5.heap.size w5).alloc (Nat.le_refl _) (.cells #[.int .i64 sR, .slice aG pR.length cG] 28)
    have H9 := hide (Bx.new w5 #[.int .i64 sR, .slice aG pR.length cG] 28)
    have hs5' : (w5.alloc (.cells #[.int .i64 sR, .slice aG pR.length cG] 28)).heap.size = w5.heap.size + 1 := by simp
    replace HB := hide (HB.out.trans (bD.mono HB.out.size))
    replace HX := hide (HX.out.below bD)
    replace HW := hide (HW.out.below bD)
    replace H6 := hide (H6.out.below bD)
    replace HXO := hide (HXO.out.below bD)
    replace H8 := hide (H8.out.below bD)
    replace HG := hide (HG.out.below bD)
    clear bD
    have p0 := (box_of H6.out).1 0 _ rfl
    have p1 := (box_of H6.out).1 1 _ rfl
    go_wp2_with fail
    generalize w5.alloc (.cells #[.int .i64 sR, .slice aG pR.length cG] 28) = w5a at *
    refine (eqSnd _ sR _ _ pR _ _ (HG.out.rd (Nat.le_refl _)) (HW.out.rd (Nat.le_refl _)) (Nat.le_refl _) (Nat.le_refl _) hl60 HSM.out.1).mono ?_
    rintro e w6 ⟨rfl, b6⟩
    have hs6 := b6.size
    replace HB := hide (HB.out.trans (b6.mono HB.out.size))
    replace HX := hide (HX.out.below b6)
    replace HW := hide (HW.out.below b6)
    replace H6 := hide (H6.out.below b6)
    replace HXO := hide (HXO.out.below b6)
    replace H8 := hide (H8.out.below b6)
    replace HG := hide (HG.out.below b6)
    replace H9 := hide (H9.out.below b6)
    clear b6 p0 p1
    have f0 := (box_of HX.out).1 0 _ rfl
    have f1 := (box_of HX.out).1 1 _ rfl
    have g0 := (box_of H8.out).1 0 _ rfl
    have g1 := (box_of H8.out).1 1 _ rfl
    have hg8 := H8.out.lt
    go_wp2_with fail
    go_cut [35] from 31 to 35 (fun s wq => s = .bool false ∧ Below w6.heap.size w6 wq)
    case first =>
      have HQ : Hid (RdS w6.drew w6.drew.heap.size (.slice a ps.length cap) ps) := hide ((HI.out.at HB.out).drewN 1)
      go_region_with (first
        | (go_at_call 8; refine (toSnd _ size _ ps HQ.out hm2 HGD.out).mono ?_; rintro e w7 ⟨v7, rfl, o7, b7⟩; have HO7 := hide (o7.rd (Nat.le_refl _)); have HY7 := hide (H8.out.below (below_of_drew b7)); have y0 := (box_of HY7.out).1 0 _ rfl; have y1 := (box_of HY7.out).1 1 _ rfl; have HB7 := hide (below_of_drew b7); have K7 := hide ((HXO.out.below (below_of_drew b7)).rd (Nat.le_refl _)); obtain ⟨a7, c7, rfl⟩ := o7.shape; clear b7 o7; unfold sndV)
        | (go_at_call 10; refine (eqSnd _ size _ _ ps _ _ K7.out HO7.out (Nat.le_refl _) (Nat.le_refl _) hm2 HGD.out).mono ?_; rintro e w8 ⟨rfl, b8⟩; have HB8 := hide (HB7.out.trans (b8.mono HB7.out.size)); clear b8))
      all_goals (go_wp2_with fail; go_meet; exact ⟨rfl, HB8.out⟩)
    case rest =>
      obtain ⟨rfl, b9⟩ := hcut
      have hs9 := b9.size
      replace HB := hide (HB.out.trans (b9.mono HB.out.size))
      replace HX := hide (HX.out.below b9)
      replace HW := hide (HW.out.below b9)
      replace H6 := hide (H6.out.below b9)
      replace HXO := hide (HXO.out.below b9)
      replace H8 := hide (H8.out.below b9)
      replace HG := hide (HG.out.below b9)
      replace H9 := hide (H9.out.below b9)
      clear b9 f0 f1 g0 g1 hg8
      have g0 := (box_of H8.out).1 0 _ rfl
      have g1 := (box_of H8.out).1 1 _ rfl
      go_wp2_with fail
      refine (markSnd1 _ _ _ size _ ps HXO.out HGD.out HT3.out).mono ?_
      rintro e w10 ⟨rfl, _, ob⟩
      have hsB := HB.out.size
      have hsA := ob.size
      replace HB := hide (HB.out.trans (ob.below (by omega) HB.out.size))
      replace HX := hide (HX.out.out ob (by omega))
      replace HW := hide (HW.out.out ob (by omega))
      replace H6 := hide (H6.out.out ob (by omega))
      replace H8 := hide (H8.out.out ob (by omega))
      replace HG := hide (HG.out.out ob (by omega))
      replace H9 := hide (H9.out.out ob (by omega))
      clear ob g0 g1 HXO H8
      have hk0 : ¬ (((endS 1 ps : Nat) : Int) < 0) := by omega
      have p0 := (box_of H6.out).1 0 _ rfl
      have p1 := (box_of H6.out).1 1 _ rfl
      have k0 := (box_of H9.out).1 0 _ rfl
      have k1 := (box_of H9.out).1 1 _ rfl
      go_wp2_with fail
      refine (eqSnd _ sR _ _ pR _ _ (HG.out.rd (Nat.le_refl _)) (HW.out.rd (Nat.le_refl _)) (Nat.le_refl _) (Nat.le_refl _) hl60 HSM.out.1).mono ?_
      rintro e w11 ⟨rfl, b11⟩
      have hs11 := b11.size
      replace HB := hide (HB.out.trans (b11.mono HB.out.size))
      replace HX := hide (HX.out.below b11)
      replace HW := hide (HW.out.below b11)
      replace H6 := hide (H6.out.below b11)
      replace HG := hide (HG.out.below b11)
      replace H9 := hide (H9.out.below b11)
      clear b11 p0 p1 k0 k1 hk0
      have k0 := (box_of H9.out).1 0 _ rfl
      have k1 := (box_of H9.out).1 1 _ rfl
      go_wp2_with fail
      refine (markSnd1 _ _ _ sR _ pR HG.out HSM.out.1 HTR.out).mono ?_
      rintro e w12 ⟨rfl, oG, ob⟩
      have hsB := HB.out.size
      have hsC := ob.size
      replace HB := hide (HB.out.trans (ob.below (by omega) HB.out.size))
      replace HX := hide (HX.out.out ob (by omega))
      replace HW := hide (HW.out.out ob (by omega))
      replace H6 := hide (H6.out.out ob (by omega))
      replace H9 := hide (H9.out.out ob (by omega))
      replace HG := hide oG
      clear ob oG k0 k1
      have hk1 : ¬ (((endS 1 pR : Nat) : Int) < 0) := by omega
      have hk2 : (((endS 1 pR : Nat) : Int) != ((endS 1 pR : Nat) : Int)) = false := by simp
      have k0 := (box_of H9.out).1 0 _ rfl
      have k1 := (box_of H9.out).1 1 _ rfl
      go_wp2_with fail
      refine (heldSnd1 _ _ _ sR _ pR HG.out HSM.out.1 HTR.out).mono ?_
      rintro e w13 ⟨rfl, b13⟩
      have hs13 := b13.size
      replace HB := hide (HB.out.trans (b13.mono HB.out.size))
      replace HX := hide (HX.out.below b13)
      replace HW := hide (HW.out.below b13)
      replace H6 := hide (H6.out.below b13)
      replace HG := hide (HG.out.below b13)
      replace H9 := hide (H9.out.below b13)
      clear b13 k0 k1
      have f0 := (box_of HX.out).1 0 _ rfl
      have f1 := (box_of HX.out).1 1 _ rfl
      go_wp2_with fail
      refine (toSnd _ size _ ps (HI.out.at HB.out) hm2 HGD.out).mono ?_
      rintro e w14 ⟨v14, rfl, o14, b14⟩
      have HO := hide (o14.rd (Nat.le_refl _))
      replace HB := hide (HB.out.trans (b14.mono HB.out.size))
      replace HX := hide (HX.out.below b14)
      replace HW := hide (HW.out.below b14)
      replace H6 := hide (H6.out.below b14)
      replace HG := hide (HG.out.below b14)
      replace H9 := hide (H9.out.below b14)
      clear b14 o14 f0 f1
      go_wp2_with fail
      refine (HM.out _ _ HO.out).mono ?_
      rintro e w15 ⟨vH, rfl, oH, b15⟩
      obtain ⟨aH, cH, rfl⟩ := oH.shape
      have HH := hide oH
      replace HB := hide (HB.out.trans (b15.mono HB.out.size))
      replace HX := hide (HX.out.below b15)
      replace HW := hide (HW.out.below b15)
      replace H6 := hide (H6.out.below b15)
      replace HG := hide (HG.out.below b15)
      replace H9 := hide (H9.out.below b15)
      clear b15 oH HO
      unfold sndV
      simp only at HH ⊢
      have bD := (Below.refl w15.heap.size w15).alloc (Nat.le_refl _) (.cells #[.int .i64 sR, .slice aH pR.length cH] 28)
      replace HB := hide (HB.out.trans (bD.mono HB.out.size))
      replace HX := hide (HX.out.below bD)
      replace HW := hide (HW.out.below bD)
      replace H6 := hide (H6.out.below bD)
      replace HG := hide (HG.out.below bD)
      replace H9 := hide (H9.out.below bD)
      replace HH := hide (HH.out.below bD)
      clear bD
      have p0 := (box_of H6.out).1 0 _ rfl
      have p1 := (box_of H6.out).1 1 _ rfl
      go_wp2_with fail
      generalize w15.alloc (.cells #[.int .i64 sR, .slice aH pR.length cH] 28) = w15a at *
      refine (eqSnd _ sR _ _ pR _ _ (HH.out.rd (Nat.le_refl _)) (HW.out.rd (Nat.le_refl _)) (Nat.le_refl _) (Nat.le_refl _) hl60 HSM.out.1).mono ?_
      rintro e w16 ⟨rfl, b16⟩
      replace HB := hide (HB.out.trans (b16.mono HB.out.size))
      replace HG := hide (HG.out.below b16)
      replace H9 := hide (H9.out.below b16)
      clear b16 p0 p1
      have k0 := (box_of H9.out).1 0 _ rfl
      have k1 := (box_of H9.out).1 1 _ rfl
      go_wp2_with fail
      refine (heldSnd1 _ _ _ sR _ pR HG.out HSM.out.1 HTR.out).mono ?_
      rintro e w17 ⟨rfl, b17⟩
      replace HB := hide (HB.out.trans (b17.mono HB.out.size))
      clear b17 k0 k1
      go_wp2
      go_ret
      exact ⟨rfl, HB.out⟩

set_option maxRecDepth 100000 in
theorem lifted (os : Os) (started : os.Started) (H : Type) (enc : TypeId × Value → H) :
    ReturnsInHanded {} Try.checked os 3 .any (Rows.fnExactForgetSpec.pre6 enc Try.prog Try.f3 Rows.fnExactForgetRow.domain false) (Rows.fnExactForgetSpec.post enc Try.prog Try.f3 false true false false) := by
  refine returnsInHanded_of_change (C := Try.checked) own started (by kernel_rfl) Try.func3
    (ChangeSpec.witness6 (enc := enc) (C := Try.checked) false ⟨#[], #[.agg #[.int .i64 0, .slice none 0 0], .int .i64 0], []⟩ 8 (by kernel_rfl) (by kernel_rfl) (by kernel_rfl) (by kernel_rfl)) ?_
  intro W base args ds gs before hval0 hW hcnd _
  have hval : ∀ (j : Nat) t v, Try.f3.params[j]? = some t → args[j]? = some v → Value.okWide Try.prog W .any base t v := hval0
  have hW' := hW
  obtain ⟨p, q, hA0, hV, rfl, hfz, hnd⟩ := hW
  have hA : DataW.TrodAll enc Try.prog W 0 (fun _ => true) true Try.f3.params.toList args.toList ds p := hA0
  rw [Try.params3] at hA hval
  obtain ⟨v0, vs0, d0, ds0, p0, q0, hargs, rfl, rfl, h0, r0⟩ := trodAll_cons hA
  obtain ⟨v1, vs1, d1, ds1, p1, q1, rfl, rfl, rfl, h1, r1⟩ := trodAll_cons r0
  obtain ⟨rfl, rfl, rfl⟩ := trodAll_nil r1
  obtain rfl : args = #[v0, v1] := by cases args; simp_all
  obtain ⟨rfl, rfl⟩ := trodVars_none hV
  have k0 := h0
  have lt0 : ∀ x ∈ p0, x.block < W.heap.size := by obtain ⟨m, hm⟩ := k0; exact DataW.trod_lt m _ _ _ hm
  have w0 := openSnd (hval 0 24 v0 rfl rfl) h0
  obtain ⟨a1, rfl, rfl, rfl, w1⟩ := open_int Try.underlying3 (hval 1 3 v1 rfl rfl) h1
  clear hA0 hval0
  refine (walk v0 a1 W w0 (bounds_i64 w1)).mono fun e W' ⟨he, bel⟩ => ?_
  subst he
  exact ⟨_, rfl, _, _, _, [], _, [], hW', trodAll_mk1 (shut_bool Try.underlying4 _), (trodAll_cons_mk (Below.trod laidOut (by kernel_rfl) (of_decide_eq_true (by kernel_rfl)) k0 bel lt0) (trodAll_cons_mk (shut_int Try.underlying3 w1) trodAll_mk0)), rfl, bel.frame _, fun h => by cases h⟩

theorem over : Rows.fnExactForgetRow.holds Try.pinned (OpenSpec.ofChange Rows.fnExactForgetSpec) :=
  OpenClaim.holds_of_wide 3 Try.f3 rfl rfl rfl rfl rfl rfl rfl ⟨rfl, rfl, rfl, rfl, rfl⟩ rfl rfl rfl rfl rfl (by kernel_rfl) Try.func3 (by kernel_rfl)
    (of_decide_eq_true (by kernel_rfl)) (by unfold Func.isWrapper; first | (rw [if_pos (by decide +kernel)]; kernel_rfl) | (rw [if_neg (by decide +kernel)]; exact ⟨rfl, rfl⟩))
    (fun os started H enc _ => lifted os started H enc)

end Go.Proofs.Ytoaenoakdbieaab.fnExactForget
namespace Go.Proofs.Ytoaenoakdbieaab
theorem fnExactForget_holds : Rows.FnExactForgetSaid := fnExactForget.over
#print axioms fnExactForget_holds
end Go.Proofs.Ytoaenoakdbieaab
