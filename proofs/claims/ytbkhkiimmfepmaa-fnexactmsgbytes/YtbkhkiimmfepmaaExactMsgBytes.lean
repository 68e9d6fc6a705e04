/-
  Proved: at every message the program's MsgBytes answers as its model does, in memory of its own, and writes into no argument (the law FnExactMsgBytes returns true), without any condition.
-/
import Derived.Test.YtbkhkiimmfepmaaRows
import Derived.Test.YtbkhkiimmfepmaaMsgBS
import Derived.Test.YtbkhkiimmfepmaaMarks
import Derived.Test.YtbkhkiimmfepmaaEq
import Derived.Deep.CutRange
import Derived.Deep.RegionWith
import Derived.BigRegion
import Derived.WalkKit
import Derived.ProofKit
import Derived.OpenShut
import Derived.ShutString
import Derived.ChangeOld
import Derived.Below
namespace Go.Proofs.Ytbkhkiimmfepmaa.fnExactMsgBytes
open Go.ChangeShapes Go.WideShapes Go.ChangeAt Go.RowKit
open Go.ChangeMaps (open_string shut_string)
set_option linter.unusedVariables false

theorem own : ownKnob Try.prog.godebug = none := by kernel_rfl
theorem laidOut : laidOutB Try.prog = true := by kernel_rfl
theorem boxDrewN {w : World} {g : Nat} {vs : List Value} (h : Box w g vs) (q : Nat) : Box (w.drewN q) g vs := h
theorem ownKept {w w' : World} {b : Nat} {v : Value} {row : Option Nat} {zs : List Int} (h : Own w b v zs) (hg : w.grownBy w' row) (hne : ∀ q, v.ownBlock = some q → row ≠ some q) : Own w' b v zs := by
  refine World.ownsRow.kept h hg ?_
  cases hv : v.ownBlock with
  | none => exact .inl rfl
  | some q => exact .inr (fun e => hne q hv e.symm)

set_option maxRecDepth 100000 in
set_option maxHeartbeats 8000000 in
theorem walk (v0 : Value) (w : World) (h0 : IsMsg w v0) :
    Calls Try.prog 6 #[v0] w fun e w' => e = .returned (.bool true) ∧ Below w.heap.size w w' := by
  obtain ⟨k, i, u, c, n, cv, nv, cs, ns, rfl, hc, hml5, hn, hml6⟩ := h0
  have HC := hide hc
  have HN := hide hn
  obtain ⟨a5, cap5, rfl, _⟩ := cells_at hc
  obtain ⟨a6, cap6, rfl, _⟩ := notes_at hn
  clear hc hn
  have hbl := mBytes_len k i u c n cs ns
  have HX := hide (Box.new w #[.int .i64 k, .int .i64 i, .int .i64 u, .int .i64 c, .int .i64 n, .slice a5 cs.length cap5, .slice a6 ns.length cap6] 37)
  have HB := hide ((Below.refl w.heap.size w).alloc (Nat.le_refl _) (.cells #[.int .i64 k, .int .i64 i, .int .i64 u, .int .i64 c, .int .i64 n, .slice a5 cs.length cap5, .slice a6 ns.length cap6] 37))
  have hg : Hid (w.heap.size < (w.alloc (.cells #[.int .i64 k, .int .i64 i, .int .i64 u, .int .i64 c, .int .i64 n, .slice a5 cs.length cap5, .slice a6 ns.length cap6] 37)).heap.size) := hide (by simp)
  go_enter Try.func6, Try.ntmps6
  go_wp2_with fail
  refine (szMsg k i u c n a5 a6 cs.length cap5 ns.length cap6 _ hml5 hml6).mono ?_
  rintro e w1 ⟨r, rfl, hr, b1⟩
  replace HX := hide (HX.out.below hg.out b1)
  replace hg := hide (Nat.lt_of_lt_of_le hg.out b1.size)
  replace HB := hide (HB.out.trans (b1.mono HB.out.size))
  clear b1
  by_cases hr0 : r < 0
  · clear hr
    go_wp2
    go_ret
    exact ⟨rfl, HB.out⟩
  · obtain ⟨hmc, hmn⟩ := hr (by omega)
    clear hr
    have f0 := HX.out 0 _ rfl
    have f1 := HX.out 1 _ rfl
    have f2 := HX.out 2 _ rfl
    have f3 := HX.out 3 _ rfl
    have f4 := HX.out 4 _ rfl
    have f5 := HX.out 5 _ rfl
    have f6 := HX.out 6 _ rfl
    go_wp2_with fail
    refine (toMsg _ k i u c n _ _ cs ns (HC.out.at HB.out) (HN.out.at HB.out) hmc hmn).mono ?_
    rintro e w2 ⟨v5, v6, rfl, o5, o6, b2, _⟩
    have H5 := hide o5
    have H6 := hide o6
    replace HX := hide (HX.out.below hg.out b2)
    replace hg := hide (Nat.lt_of_lt_of_le hg.out b2.size)
    replace HB := hide (HB.out.trans (b2.mono HB.out.size))
    clear b2 o5 o6 f0 f1 f2 f3 f4 f5 f6
    go_wp2_with fail
    refine (msgBytesSpec _ k i u c n _ _ cs ns (H5.out.rd (Nat.le_refl _)) (H6.out.rd (Nat.le_refl _)) hmc hmn).mono ?_
    rintro e w3 ⟨vW, rfl, oW, b3⟩
    have HW := hide oW
    have LW := hide (fun q hq => (oW.lt q hq).2)
    replace HX := hide (HX.out.below hg.out b3)
    replace hg := hide (Nat.lt_of_lt_of_le hg.out b3.size)
    replace HB := hide (HB.out.trans (b3.mono HB.out.size))
    have s3 := HB.out.size
    clear b3 H5 H6 oW
    have f0 := HX.out 0 _ rfl
    have f1 := HX.out 1 _ rfl
    have f2 := HX.out 2 _ rfl
    have f3 := HX.out 3 _ rfl
    have f4 := HX.out 4 _ rfl
    have f5 := HX.out 5 _ rfl
    have f6 := HX.out 6 _ rfl
    go_wp2_with fail
    refine (toMsg _ k i u c n _ _ cs ns (HC.out.at HB.out) (HN.out.at HB.out) hmc hmn).mono ?_
    rintro e w4 ⟨v5, v6, rfl, o5, o6, b4, hne⟩
    have H5 := hide o5
    have H6 := hide o6
    have HNE := hide hne
    obtain ⟨a7, c7, rfl, _⟩ := cells_at (o5.rd (Nat.le_refl _))
    obtain ⟨a8, c8, rfl, _⟩ := notes_at (o6.rd (Nat.le_refl _))
    have L5 := hide o5.lt
    have L6 := hide o6.lt
    have hg3 := hg.out
    replace HX := hide (HX.out.below hg.out b4)
    replace hg := hide (Nat.lt_of_lt_of_le hg.out b4.size)
    replace HB := hide (HB.out.trans (b4.mono HB.out.size))
    replace HW := hide (HW.out.below b4)
    have s34 := b4.size
    clear b4 o5 o6 hne f0 f1 f2 f3 f4 f5 f6
    unfold msgV
    go_wp2_with fail
    have HY := hide (Box.new w4 #[.int .i64 k, .int .i64 i, .int .i64 u, .int .i64 c, .int .i64 n, .slice a7 cs.length c7, .slice a8 ns.length c8] 42)
    have hs4 := HB.out.size
    have bA := (Below.refl w4.heap.size w4).alloc (Nat.le_refl _) (.cells #[.int .i64 k, .int .i64 i, .int .i64 u, .int .i64 c, .int .i64 n, .slice a7 cs.length c7, .slice a8 ns.length c8] 42)
    refine (msgBytesImpl _ k i u c n _ _ cs ns ((H5.out.below bA).rd (Nat.le_refl _)) ((H6.out.below bA).rd (Nat.le_refl _)) hmc hmn).mono ?_
    rintro e w5 ⟨vG, rfl, oG, b5⟩
    have LG : Hid (∀ q, vG.ownBlock = some q → w4.heap.size ≤ q) := hide (fun q hq => by have := (oG.lt q hq).1; simp at this; omega)
    have HG := hide oG
    replace HX := hide ((HX.out.below hg.out bA).below (Nat.lt_of_lt_of_le hg.out bA.size) b5)
    replace HY := hide (HY.out.below (by simp) b5)
    replace H5 := hide ((H5.out.below bA).below b5)
    replace H6 := hide ((H6.out.below bA).below b5)
    replace HW := hide ((HW.out.below bA).below b5)
    have hg5 : w.heap.size < w5.heap.size := Nat.lt_of_lt_of_le hg.out (Nat.le_trans bA.size b5.size)
    have hg4 : w4.heap.size < w5.heap.size := Nat.lt_of_lt_of_le (by simp) b5.size
    replace HB := hide ((HB.out.trans (bA.mono hs4)).trans (b5.mono (Nat.le_trans hs4 bA.size)))
    clear b5 bA hg oG
    go_wp2_with fail
    refine (eqB _ _ _ _ _ _ HG.out HW.out (by omega)).mono ?_
    rintro e w6 ⟨rfl, q6, rfl⟩
    replace HX := hide (boxDrewN HX.out q6)
    replace HY := hide (boxDrewN HY.out q6)
    have hg5 : w.heap.size < (w5.drewN q6).heap.size := hg5
    have hg4 : w4.heap.size < (w5.drewN q6).heap.size := hg4
    replace HB := hide (below_drewN HB.out q6)
    replace HW := hide (HW.out.drewN q6)
    replace HG := hide (HG.out.drewN q6)
    replace H5 := hide (H5.out.drewN q6)
    replace H6 := hide (H6.out.drewN q6)
    generalize w5.drewN q6 = w6 at *
    have f0 := HX.out 0 _ rfl
    have f1 := HX.out 1 _ rfl
    have f2 := HX.out 2 _ rfl
    have f3 := HX.out 3 _ rfl
    have f4 := HX.out 4 _ rfl
    have f5 := HX.out 5 _ rfl
    have f6 := HX.out 6 _ rfl
    have g0 := HY.out 0 _ rfl
    have g1 := HY.out 1 _ rfl
    have g2 := HY.out 2 _ rfl
    have g3 := HY.out 3 _ rfl
    have g4 := HY.out 4 _ rfl
    have g5 := HY.out 5 _ rfl
    have g6 := HY.out 6 _ rfl
    go_wp2_with fail
    go_cut [31] from 27 to 31 (fun s wq => s = .bool false ∧ Below w6.heap.size w6 wq)
    case first =>
      have HQ0 := hide (HC.out.at HB.out)
      have HP0 := hide (HN.out.at HB.out)
      have HQ : Hid (Rd w6.drew w6.drew.heap.size 3 (.slice a5 cs.length cap5) cs.length (cs.flatMap cellC)) := HQ0
      have HP : Hid (Rd w6.drew w6.drew.heap.size 2 (.slice a6 ns.length cap6) ns.length (ns.flatMap noteC)) := HP0
      go_region_with (first
        | (go_at_call 17; refine (toMsg _ k i u c n _ _ cs ns HQ.out HP.out hmc hmn).mono ?_; rintro e w7 ⟨v5, v6, rfl, o5, o6, b7, _⟩; have J5 := hide o5; have J6 := hide o6; obtain ⟨a9, c9, rfl, _⟩ := cells_at (o5.rd (Nat.le_refl _)); obtain ⟨a10, c10, rfl, _⟩ := notes_at (o6.rd (Nat.le_refl _)); clear o5 o6; have HY6 := hide (HY.out.below hg4 (below_of_drew b7)); have y0 := HY6.out 0 _ rfl; have y1 := HY6.out 1 _ rfl; have y2 := HY6.out 2 _ rfl; have y3 := HY6.out 3 _ rfl; have y4 := HY6.out 4 _ rfl; have y5 := HY6.out 5 _ rfl; have y6 := HY6.out 6 _ rfl; have HB7 := hide (below_of_drew b7); have K5 := hide (H5.out.below (below_of_drew b7)); have K6 := hide (H6.out.below (below_of_drew b7)); clear b7; unfold msgV)
        | (go_at_call 19; refine (eqMsg _ k i u c n _ _ _ _ cs ns (K5.out.rd (Nat.le_refl _)) (K6.out.rd (Nat.le_refl _)) (J5.out.rd (Nat.le_refl _)) (J6.out.rd (Nat.le_refl _)) hmc hmn).mono ?_; rintro e w8 ⟨rfl, b8⟩; have HB8 := hide (HB7.out.trans (b8.mono HB7.out.size)); clear b8))
      all_goals (go_wp2_with fail; go_meet; exact ⟨rfl, HB8.out⟩)
    case rest =>
      obtain ⟨rfl, b9⟩ := hcut
      clear f0 f1 f2 f3 f4 f5 f6 g0 g1 g2 g3 g4 g5 g6
      replace HX := hide (HX.out.below hg5 b9)
      replace HY := hide (HY.out.below hg4 b9)
      have s9 := b9.size
      replace HB := hide (HB.out.trans (b9.mono HB.out.size))
      replace HW := hide (HW.out.below b9)
      replace HG := hide (HG.out.below b9)
      replace H5 := hide (H5.out.below b9)
      replace H6 := hide (H6.out.below b9)
      clear b9
      have hgx : w.heap.size < wc.heap.size := by omega
      have g0 := HY.out 0 _ rfl
      have g1 := HY.out 1 _ rfl
      have g2 := HY.out 2 _ rfl
      have g3 := HY.out 3 _ rfl
      have g4 := HY.out 4 _ rfl
      have g5 := HY.out 5 _ rfl
      have g6 := HY.out 6 _ rfl
      go_wp2_with fail
      clear g0 g1 g2 g3 g4 g5 g6 HY
      refine (markMsg _ _ _ k i u c n _ _ cs ns H5.out H6.out HNE.out hmc hmn).mono ?_
      rintro e w10 ⟨rfl, _, _, wm, gA, gB⟩
      have hsB := HB.out.size
      replace HX := hide (Box.apart (Box.apart HX.out hgx gA (fun e => by have := (L5.out _ e).1; omega)) (Nat.lt_of_lt_of_le hgx gA.size) gB (fun e => by have := (L6.out _ e).1; omega))
      have hgx10 : w.heap.size < w10.heap.size := Nat.lt_of_lt_of_le hgx (Nat.le_trans gA.size gB.size)
      replace HW := hide (ownKept (ownKept HW.out gA (fun q hq e => by have := LW.out q hq; have := (L5.out q e).1; omega)) gB (fun q hq e => by have := LW.out q hq; have := (L6.out q e).1; omega))
      replace HG := hide (ownKept (ownKept HG.out gA (fun q hq e => by have := LG.out q hq; have := (L5.out q e).2; omega)) gB (fun q hq e => by have := LG.out q hq; have := (L6.out q e).2; omega))
      replace HB := hide ((HB.out.grown gA hsB (fun q hq => by have := (L5.out q hq).1; omega)).grown gB (Nat.le_trans hsB gA.size) (fun q hq => by have := (L6.out q hq).1; omega))
      have hk0 : ¬ (1 + 3 * (cs.length : Int) + 2 * (ns.length : Int)) < 0 := by omega
      clear gA gB H5 H6 hgx
      go_wp2_with fail
      refine (eqB _ _ _ _ _ _ HG.out HW.out (by omega)).mono ?_
      rintro e w11 ⟨rfl, q11, rfl⟩
      replace HX := hide (boxDrewN HX.out q11)
      have hgx11 : w.heap.size < (w10.drewN q11).heap.size := hgx10
      replace HB := hide (below_drewN HB.out q11)
      replace HW := hide (HW.out.drewN q11)
      replace HG := hide (HG.out.drewN q11)
      generalize w10.drewN q11 = w11 at *
      have s4g : w.heap.size ≤ w4.heap.size := hs4
      go_wp2_with fail
      refine (mark1 _ _ _ _ HG.out (by omega)).mono ?_
      rintro e w12 ⟨rfl, oG, g12⟩
      have hs11 := HB.out.size
      replace HX := hide (Box.apart HX.out hgx11 g12 (fun e => by have := LG.out _ e; omega))
      have hgx12 : w.heap.size < w12.heap.size := Nat.lt_of_lt_of_le hgx11 g12.size
      replace HB := hide (HB.out.grown g12 hs11 (fun q hq => by have := LG.out q hq; omega))
      replace HW := hide (ownKept HW.out g12 (fun q hq e => by have := LW.out q hq; have := LG.out q e; omega))
      replace HG := hide oG
      clear oG g12
      go_wp2_with fail
      refine (held1 _ _ _ _ HG.out (by omega)).mono ?_
      rintro e w13 ⟨rfl, rfl⟩
      have en : ((1 + (((mBytes k i u c n cs ns).length : Nat) : Int)) != (1 + (((mBytes k i u c n cs ns).length : Nat) : Int))) = false := by simp
      have f0 := HX.out 0 _ rfl
      have f1 := HX.out 1 _ rfl
      have f2 := HX.out 2 _ rfl
      have f3 := HX.out 3 _ rfl
      have f4 := HX.out 4 _ rfl
      have f5 := HX.out 5 _ rfl
      have f6 := HX.out 6 _ rfl
      go_wp2_with fail
      refine (toMsg _ k i u c n _ _ cs ns (HC.out.at HB.out) (HN.out.at HB.out) hmc hmn).mono ?_
      rintro e w14 ⟨v5, v6, rfl, o5, o6, b14, _⟩
      replace HB := hide (HB.out.trans (b14.mono HB.out.size))
      replace HW := hide (HW.out.below b14)
      replace HG := hide (HG.out.below b14)
      have H5 := hide o5
      have H6 := hide o6
      clear b14 o5 o6 f0 f1 f2 f3 f4 f5 f6
      go_wp2_with fail
      refine (msgBytesImpl _ k i u c n _ _ cs ns (H5.out.rd (Nat.le_refl _)) (H6.out.rd (Nat.le_refl _)) hmc hmn).mono ?_
      rintro e w15 ⟨vH, rfl, oH, b15⟩
      replace HB := hide (HB.out.trans (b15.mono HB.out.size))
      replace HW := hide (HW.out.below b15)
      replace HG := hide (HG.out.below b15)
      clear b15 H5 H6
      go_wp2_with fail
      refine (eqB _ _ _ _ _ _ oH HW.out (by omega)).mono ?_
      rintro e w16 ⟨rfl, q16, rfl⟩
      clear oH
      replace HB := hide (below_drewN HB.out q16)
      replace HG := hide (HG.out.drewN q16)
      generalize w15.drewN q16 = w16 at *
      go_wp2_with fail
      refine (held1 _ _ _ _ HG.out (by omega)).mono ?_
      rintro e w17 ⟨rfl, rfl⟩
      go_wp2
      go_ret
      exact ⟨rfl, HB.out⟩

set_option maxRecDepth 100000 in
theorem lifted (os : Os) (started : os.Started) (H : Type) (enc : TypeId × Value → H) :
    ReturnsInHanded {} Try.checked os 6 .any (Rows.fnExactMsgBytesSpec.pre6 enc Try.prog Try.f6 Rows.fnExactMsgBytesRow.domain false) (Rows.fnExactMsgBytesSpec.post enc Try.prog Try.f6 false true false false) := by
  refine returnsInHanded_of_change (C := Try.checked) own started (by kernel_rfl) Try.func6
    (ChangeSpec.witness6 (enc := enc) (C := Try.checked) false ⟨#[], #[.agg #[.int .i64 0, .int .i64 0, .int .i64 0, .int .i64 0, .int .i64 0, .slice none 0 0, .slice none 0 0]], []⟩ 8 (by kernel_rfl) (by kernel_rfl) (by kernel_rfl) (by kernel_rfl)) ?_
  intro W base args ds gs before hval0 hW hcnd _
  have hval : ∀ (j : Nat) t v, Try.f6.params[j]? = some t → args[j]? = some v → Value.okWide Try.prog W .any base t v := hval0
  have hW' := hW
  obtain ⟨p, q, hA0, hV, rfl, hfz, hnd⟩ := hW
  have hA : DataW.TrodAll enc Try.prog W 0 (fun _ => true) true Try.f6.params.toList args.toList ds p := hA0
  rw [Try.params6] at hA hval
  obtain ⟨v0, vs0, d0, ds0, p0, q0, hargs, rfl, rfl, h0, r0⟩ := trodAll_cons hA
  obtain ⟨rfl, rfl, rfl⟩ := trodAll_nil r0
  obtain rfl : args = #[v0] := by cases args; simp_all
  obtain ⟨rfl, rfl⟩ := trodVars_none hV
  have k0 := h0
  have lt0 : ∀ x ∈ p0, x.block < W.heap.size := by obtain ⟨m, hm⟩ := k0; exact DataW.trod_lt m _ _ _ hm
  have w0 := openMsg (hval 0 37 v0 rfl rfl) h0
  clear hA0 hval0
  refine (walk v0 W w0).mono fun e W' ⟨he, bel⟩ => ?_
  subst he
  exact ⟨_, rfl, _, _, _, [], _, [], hW', trodAll_mk1 (shut_bool Try.underlying4 _), (trodAll_cons_mk (Below.trod laidOut (by kernel_rfl) (of_decide_eq_true (by kernel_rfl)) k0 bel lt0) trodAll_mk0), rfl, bel.frame _, fun h => by cases h⟩

theorem over : Rows.fnExactMsgBytesRow.holds Try.pinned (OpenSpec.ofChange Rows.fnExactMsgBytesSpec) :=
  OpenClaim.holds_of_wide 6 Try.f6 rfl rfl rfl rfl rfl rfl rfl ⟨rfl, rfl, rfl, rfl, rfl⟩ rfl rfl rfl rfl rfl (by kernel_rfl) Try.func6 (by kernel_rfl)
    (of_decide_eq_true (by kernel_rfl)) (by unfold Func.isWrapper; first | (rw [if_pos (by decide +kernel)]; kernel_rfl) | (rw [if_neg (by decide +kernel)]; exact ⟨rfl, rfl⟩))
    (fun os started H enc _ => lifted os started H enc)

end Go.Proofs.Ytbkhkiimmfepmaa.fnExactMsgBytes
namespace Go.Proofs.Ytbkhkiimmfepmaa
theorem fnExactMsgBytes_holds : Rows.FnExactMsgBytesSaid := fnExactMsgBytes.over
#print axioms fnExactMsgBytes_holds
end Go.Proofs.Ytbkhkiimmfepmaa
