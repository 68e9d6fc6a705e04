/-
  Proved: at every message the program's MsgOk answers as its model does and writes into no argument (the law FnExactMsgOk returns true), without any condition.
-/
import Derived.Test.YtbkhkiimmfepmaaRows
import Derived.Test.YtbkhkiimmfepmaaMsgRows
import Derived.Deep.CutRange
import Derived.Deep.RegionWith
import Derived.BigRegion
import Derived.WalkKit
import Derived.ProofKit
import Derived.OpenShut
import Derived.ShutString
import Derived.ChangeOld
import Derived.Below
namespace Go.Proofs.Ytbkhkiimmfepmaa.fnExactMsgOk
open Go.ChangeShapes Go.WideShapes Go.ChangeAt Go.RowKit
open Go.ChangeMaps (open_string shut_string)
set_option linter.unusedVariables false

theorem own : ownKnob Try.prog.godebug = none := by kernel_rfl
theorem laidOut : laidOutB Try.prog = true := by kernel_rfl
set_option maxRecDepth 100000 in
set_option maxHeartbeats 4000000 in
theorem walk (v0 : Value) (w : World) (h0 : IsMsg w v0) :
    Calls Try.prog 5 #[v0] w fun e w' => e = .returned (.bool true) ∧ Below w.heap.size w w' := by
  obtain ⟨k, i, u, c, n, cv, nv, cs, ns, rfl, hc, hml5, hn, hml6⟩ := h0
  have hne : (mOk k i u c n cs ns != mOk k i u c n cs ns) = false := by simp
  have HC := hide hc
  have HN := hide hn
  obtain ⟨a5, cap5, rfl, _⟩ := cells_at hc
  obtain ⟨a6, cap6, rfl, _⟩ := notes_at hn
  clear hc hn
  have HX := hide (Box.new w #[.int .i64 k, .int .i64 i, .int .i64 u, .int .i64 c, .int .i64 n, .slice a5 cs.length cap5, .slice a6 ns.length cap6] 37)
  have HB := hide ((Below.refl w.heap.size w).alloc (Nat.le_refl _) (.cells #[.int .i64 k, .int .i64 i, .int .i64 u, .int .i64 c, .int .i64 n, .slice a5 cs.length cap5, .slice a6 ns.length cap6] 37))
  have hg : Hid (w.heap.size < (w.alloc (.cells #[.int .i64 k, .int .i64 i, .int .i64 u, .int .i64 c, .int .i64 n, .slice a5 cs.length cap5, .slice a6 ns.length cap6] 37)).heap.size) := hide (by simp)
  go_enter Try.func5, Try.ntmps5
  go_wp2_with fail
  refine (szMsg k i u c n a5 a6 cs.length cap5 ns.length cap6 _ hml5 hml6).mono ?_
  rintro e w1 ⟨r, rfl, hr, b1⟩
  replace HX := hide (HX.out.below hg.out b1)
  replace hg := hide (Nat.lt_of_lt_of_le hg.out b1.size)
  replace HB := hide (HB.out.trans (b1.mono HB.out.size))
  clear b1
  by_cases hr0 : r < 0
  · clear hr
    go_wp2
    go_ret
    exact ⟨rfl, HB.out⟩
  · obtain ⟨hmc, hmn⟩ := hr (by omega)
    clear hr
    have f0 := HX.out 0 _ rfl
    have f1 := HX.out 1 _ rfl
    have f2 := HX.out 2 _ rfl
    have f3 := HX.out 3 _ rfl
    have f4 := HX.out 4 _ rfl
    have f5 := HX.out 5 _ rfl
    have f6 := HX.out 6 _ rfl
    go_wp2_with fail
    refine (toMsg _ k i u c n _ _ cs ns (HC.out.at HB.out) (HN.out.at HB.out) hmc hmn).mono ?_
    rintro e w2 ⟨v5, v6, rfl, o5, o6, b2, _⟩
    have H5 := hide o5
    have H6 := hide o6
    replace HX := hide (HX.out.below hg.out b2)
    replace hg := hide (Nat.lt_of_lt_of_le hg.out b2.size)
    replace HB := hide (HB.out.trans (b2.mono HB.out.size))
    clear b2 o5 o6 f0 f1 f2 f3 f4 f5 f6
    go_wp2_with fail
    refine (msgSpec _ k i u c n _ _ cs ns (H5.out.rd (Nat.le_refl _)) (H6.out.rd (Nat.le_refl _)) hmc hmn).mono ?_
    rintro e w3 ⟨rfl, b3⟩
    rw [mOk_spec]
    replace HX := hide (HX.out.below hg.out b3)
    replace hg := hide (Nat.lt_of_lt_of_le hg.out b3.size)
    replace HB := hide (HB.out.trans (b3.mono HB.out.size))
    clear b3 H5 H6
    have f0 := HX.out 0 _ rfl
    have f1 := HX.out 1 _ rfl
    have f2 := HX.out 2 _ rfl
    have f3 := HX.out 3 _ rfl
    have f4 := HX.out 4 _ rfl
    have f5 := HX.out 5 _ rfl
    have f6 := HX.out 6 _ rfl
    go_wp2_with fail
    refine (toMsg _ k i u c n _ _ cs ns (HC.out.at HB.out) (HN.out.at HB.out) hmc hmn).mono ?_
    rintro e w4 ⟨v5, v6, rfl, o5, o6, b4, _⟩
    have H5 := hide o5
    have H6 := hide o6
    obtain ⟨a7, c7, rfl, _⟩ := cells_at (o5.rd (Nat.le_refl _))
    obtain ⟨a8, c8, rfl, _⟩ := notes_at (o6.rd (Nat.le_refl _))
    replace HX := hide (HX.out.below hg.out b4)
    replace hg := hide (Nat.lt_of_lt_of_le hg.out b4.size)
    replace HB := hide (HB.out.trans (b4.mono HB.out.size))
    clear b4 o5 o6 f0 f1 f2 f3 f4 f5 f6
    unfold msgV
    go_wp2_with fail
    have HY := hide (Box.new w4 #[.int .i64 k, .int .i64 i, .int .i64 u, .int .i64 c, .int .i64 n, .slice a7 cs.length c7, .slice a8 ns.length c8] 42)
    have hs4 := HB.out.size
    have bA := (Below.refl w4.heap.size w4).alloc (Nat.le_refl _) (.cells #[.int .i64 k, .int .i64 i, .int .i64 u, .int .i64 c, .int .i64 n, .slice a7 cs.length c7, .slice a8 ns.length c8] 42)
    refine (msgImpl _ k i u c n _ _ cs ns ((H5.out.below bA).rd (Nat.le_refl _)) ((H6.out.below bA).rd (Nat.le_refl _)) hmc hmn).mono ?_
    rintro e w5 ⟨rfl, b5⟩
    replace HX := hide ((HX.out.below hg.out bA).below (Nat.lt_of_lt_of_le hg.out bA.size) b5)
    replace HY := hide (HY.out.below (by simp) b5)
    replace H5 := hide ((H5.out.below bA).below b5)
    replace H6 := hide ((H6.out.below bA).below b5)
    have hg5 : w.heap.size < w5.heap.size := Nat.lt_of_lt_of_le hg.out (Nat.le_trans bA.size b5.size)
    have hg4 : w4.heap.size < w5.heap.size := Nat.lt_of_lt_of_le (by simp) b5.size
    replace HB := hide ((HB.out.trans (bA.mono hs4)).trans (b5.mono (Nat.le_trans hs4 bA.size)))
    clear b5 bA hg
    have f0 := HX.out 0 _ rfl
    have f1 := HX.out 1 _ rfl
    have f2 := HX.out 2 _ rfl
    have f3 := HX.out 3 _ rfl
    have f4 := HX.out 4 _ rfl
    have f5 := HX.out 5 _ rfl
    have f6 := HX.out 6 _ rfl
    have g0 := HY.out 0 _ rfl
    have g1 := HY.out 1 _ rfl
    have g2 := HY.out 2 _ rfl
    have g3 := HY.out 3 _ rfl
    have g4 := HY.out 4 _ rfl
    have g5 := HY.out 5 _ rfl
    have g6 := HY.out 6 _ rfl
    go_wp2_with fail
    go_cut [26] from 22 to 26 (fun s wq => s = .bool false ∧ Below w.heap.size w wq)
    case first =>
      have HQ0 := hide (HC.out.at HB.out)
      have HP0 := hide (HN.out.at HB.out)
      have HQ : Hid (Rd w5.drew w5.drew.heap.size 3 (.slice a5 cs.length cap5) cs.length (cs.flatMap cellC))   := HQ0
      have HP : Hid (Rd w5.drew w5.drew.heap.size 2 (.slice a6 ns.length cap6) ns.length (ns.flatMap noteC)) := HP0
      go_region_with (first
        | (go_at_call 17; refine (toMsg _ k i u c n _ _ cs ns HQ.out HP.out hmc hmn).mono ?_; rintro e w6 ⟨v5, v6, rfl, o5, o6, b6, _⟩; have J5 := hide o5; have J6 := hide o6; obtain ⟨a9, c9, rfl, _⟩ := cells_at (o5.rd (Nat.le_refl _)); obtain ⟨a10, c10, rfl, _⟩ := notes_at (o6.rd (Nat.le_refl _)); clear o5 o6; have HY6 := hide (HY.out.below hg4 (below_of_drew b6)); have y0 := HY6.out 0 _ rfl; have y1 := HY6.out 1 _ rfl; have y2 := HY6.out 2 _ rfl; have y3 := HY6.out 3 _ rfl; have y4 := HY6.out 4 _ rfl; have y5 := HY6.out 5 _ rfl; have y6 := HY6.out 6 _ rfl; have HB6 := hide (HB.out.trans ((below_of_drew b6).mono HB.out.size)); have K5 := hide (H5.out.below (below_of_drew b6)); have K6 := hide (H6.out.below (below_of_drew b6)); clear b6; unfold msgV)
        | (go_at_call 19; refine (eqMsg _ k i u c n _ _ _ _ cs ns (K5.out.rd (Nat.le_refl _)) (K6.out.rd (Nat.le_refl _)) (J5.out.rd (Nat.le_refl _)) (J6.out.rd (Nat.le_refl _)) hmc hmn).mono ?_; rintro e w7 ⟨rfl, b7⟩; have HB7 := hide (HB6.out.trans (b7.mono HB6.out.size)); clear b7))
      all_goals (go_wp2_with fail; go_meet; exact ⟨rfl, HB7.out⟩)
    case rest =>
      obtain ⟨rfl, hB⟩ := hcut
      have HZ := hide hB
      clear hB f0 f1 f2 f3 f4 f5 f6 g0 g1 g2 g3 g4 g5 g6
      go_wp2
      go_ret
      exact ⟨rfl, HZ.out⟩

set_option maxRecDepth 100000 in
theorem lifted (os : Os) (started : os.Started) (H : Type) (enc : TypeId × Value → H) :
    ReturnsInHanded {} Try.checked os 5 .any (Rows.fnExactMsgOkSpec.pre6 enc Try.prog Try.f5 Rows.fnExactMsgOkRow.domain false) (Rows.fnExactMsgOkSpec.post enc Try.prog Try.f5 false true false false) := by
  refine returnsInHanded_of_change (C := Try.checked) own started (by kernel_rfl) Try.func5
    (ChangeSpec.witness6 (enc := enc) (C := Try.checked) false ⟨#[], #[.agg #[.int .i64 0, .int .i64 0, .int .i64 0, .int .i64 0, .int .i64 0, .slice none 0 0, .slice none 0 0]], []⟩ 8 (by kernel_rfl) (by kernel_rfl) (by kernel_rfl) (by kernel_rfl)) ?_
  intro W base args ds gs before hval0 hW hcnd _
  have hval : ∀ (j : Nat) t v, Try.f5.params[j]? = some t → args[j]? = some v → Value.okWide Try.prog W .any base t v := hval0
  have hW' := hW
  obtain ⟨p, q, hA0, hV, rfl, hfz, hnd⟩ := hW
  have hA : DataW.TrodAll enc Try.prog W 0 (fun _ => true) true Try.f5.params.toList args.toList ds p := hA0
  rw [Try.params5] at hA hval
  obtain ⟨v0, vs0, d0, ds0, p0, q0, hargs, rfl, rfl, h0, r0⟩ := trodAll_cons hA
  obtain ⟨rfl, rfl, rfl⟩ := trodAll_nil r0
  obtain rfl : args = #[v0] := by cases args; simp_all
  obtain ⟨rfl, rfl⟩ := trodVars_none hV
  have k0 := h0
  have lt0 : ∀ x ∈ p0, x.block < W.heap.size := by obtain ⟨m, hm⟩ := k0; exact DataW.trod_lt m _ _ _ hm
  have w0 := openMsg (hval 0 37 v0 rfl rfl) h0
  clear hA0 hval0
  refine (walk v0 W w0).mono fun e W' ⟨he, bel⟩ => ?_
  subst he
  exact ⟨_, rfl, _, _, _, [], _, [], hW', trodAll_mk1 (shut_bool Try.underlying4 _), (trodAll_cons_mk (Below.trod laidOut (by kernel_rfl) (of_decide_eq_true (by kernel_rfl)) k0 bel lt0) trodAll_mk0), rfl, bel.frame _, fun h => by cases h⟩

theorem over : Rows.fnExactMsgOkRow.holds Try.pinned (OpenSpec.ofChange Rows.fnExactMsgOkSpec) :=
  OpenClaim.holds_of_wide 5 Try.f5 rfl rfl rfl rfl rfl rfl rfl ⟨rfl, rfl, rfl, rfl, rfl⟩ rfl rfl rfl rfl rfl (by kernel_rfl) Try.func5 (by kernel_rfl)
    (of_decide_eq_true (by kernel_rfl)) (by unfold Func.isWrapper; first | (rw [if_pos (by decide +kernel)]; kernel_rfl) | (rw [if_neg (by decide +kernel)]; exact ⟨rfl, rfl⟩))
    (fun os started H enc _ => lifted os started H enc)

end Go.Proofs.Ytbkhkiimmfepmaa.fnExactMsgOk
namespace Go.Proofs.Ytbkhkiimmfepmaa
theorem fnExactMsgOk_holds : Rows.FnExactMsgOkSaid := fnExactMsgOk.over
#print axioms fnExactMsgOk_holds
end Go.Proofs.Ytbkhkiimmfepmaa
