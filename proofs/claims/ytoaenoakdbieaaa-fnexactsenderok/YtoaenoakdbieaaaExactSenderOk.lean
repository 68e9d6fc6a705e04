/-
  Proved: at every sender the program's SenderOk answers as its model does and writes into no argument (the law FnExactSenderOk returns true), without any condition.
-/
import Derived.Test.YtoaenoakdbieaaaRows
import Derived.Test.YtoaenoakdbieaaaSndW
import Derived.Deep.CutRange
import Derived.Deep.RegionWith
import Derived.BigRegion
import Derived.WalkKit
import Derived.ProofKit
import Derived.OpenShut
import Derived.ShutString
import Derived.ChangeOld
import Derived.Below
namespace Go.Proofs.Ytoaenoakdbieaaa.fnExactSenderOk
open Go.ChangeShapes Go.WideShapes Go.ChangeAt Go.RowKit
open Go.ChangeMaps (open_string shut_string)
set_option linter.unusedVariables false

theorem own : ownKnob Try.prog.godebug = none := by kernel_rfl
theorem laidOut : laidOutB Try.prog = true := by kernel_rfl
set_option maxRecDepth 100000 in
set_option maxHeartbeats 4000000 in
theorem walk (v0 : Value) (w : World) (h0 : IsSnd w v0) :
    Calls Try.prog 5 #[v0] w fun e w' => e = .returned (.bool true) ∧ Below w.heap.size w w' := by
  obtain ⟨size, lv, xs, rfl, _, hrd, hml, hraw⟩ := h0
  have HR := hide (And.intro hrd hraw)
  obtain ⟨_, a, cap, rfl, _⟩ := hrd
  clear hraw
  generalize hn : xs.length = n at *
  have HN := hide hn
  clear hn
  have HX := hide (Box.new w #[.int .i64 size, .slice a n cap] 46)
  have bA := (Below.refl w.heap.size w).alloc (Nat.le_refl _) (.cells #[.int .i64 size, .slice a n cap] 46)
  have HB := hide bA
  have hg : Hid (w.heap.size < (w.alloc (.cells #[.int .i64 size, .slice a n cap] 46)).heap.size) := hide (by simp)
  go_enter Try.func5, Try.ntmps5
  go_wp2_with fail
  refine (szSnd _ size _ xs (by rw [HN.out]; exact HR.out.1.at bA) (fun x hx => (HR.out.2 x hx).below bA) (by rw [HN.out]; exact hml)).mono ?_
  rintro e w1 ⟨r, rfl, hr, b1⟩
  have HRD : Hid (0 ≤ r → r = 1048576 - (totS (xs.map Prod.fst) : Int) ∧ RdS w1 w1.heap.size (.slice a n cap) (xs.map Prod.fst)) := hide (fun h => ⟨(hr h).1, (hr h).2.at b1⟩)
  replace HX := hide (HX.out.below hg.out b1)
  replace hg := hide (Nat.lt_of_lt_of_le hg.out b1.size)
  replace HB := hide (HB.out.trans (b1.mono HB.out.size))
  clear b1 bA hr HR
  by_cases hr0 : r < 0
  · go_wp2
    go_ret
    exact ⟨rfl, HB.out⟩
  · obtain ⟨ht, hrd⟩ := HRD.out (by omega)
    have hlen : n = (xs.map Prod.fst).length := by rw [← HN.out]; simp
    have htl := totS_len (xs.map Prod.fst)
    clear HRD HN
    generalize xs.map Prod.fst = ps at *
    subst hlen
    have hm : ps.length ≤ 1048576 := by omega
    have HI := hide hrd
    have HGD : Hid (GoodS ps) := hide (goodS (by omega))
    have hne : (sOk size ps != sOk size ps) = false := by simp
    clear hrd ht htl hml
    have f0 := HX.out 0 _ rfl
    have f1 := HX.out 1 _ rfl
    go_wp2_with fail
    refine (toSnd _ size _ ps HI.out hm HGD.out).mono ?_
    rintro e w2 ⟨v2, rfl, o2, b2⟩
    have HO := hide (o2.rd (Nat.le_refl _))
    replace HI := hide (HI.out.at b2)
    replace HX := hide (HX.out.below hg.out b2)
    replace hg := hide (Nat.lt_of_lt_of_le hg.out b2.size)
    replace HB := hide (HB.out.trans (b2.mono HB.out.size))
    clear b2 o2 f0 f1
    go_wp2_with fail
    refine (sndSpec _ size _ ps _ HO.out (Nat.le_refl _) (by omega) HGD.out).mono ?_
    rintro e w3 ⟨rfl, b3⟩
    replace HI := hide (HI.out.at b3)
    replace HX := hide (HX.out.below hg.out b3)
    replace hg := hide (Nat.lt_of_lt_of_le hg.out b3.size)
    replace HB := hide (HB.out.trans (b3.mono HB.out.size))
    clear b3 HO
    have f0 := HX.out 0 _ rfl
    have f1 := HX.out 1 _ rfl
    go_wp2_with fail
    refine (toSnd _ size _ ps HI.out hm HGD.out).mono ?_
    rintro e w4 ⟨v4, rfl, o4, b4⟩
    obtain ⟨a4, c4, rfl⟩ := o4.shape
    have HO := hide (o4.rd (Nat.le_refl _))
    replace HI := hide (HI.out.at b4)
    replace HX := hide (HX.out.below hg.out b4)
    replace hg := hide (Nat.lt_of_lt_of_le hg.out b4.size)
    replace HB := hide (HB.out.trans (b4.mono HB.out.size))
    clear b4 o4 f0 f1
    unfold sndV
    go_wp2_with fail
    have HY := hide (Box.new w4 #[.int .i64 size, .slice a4 ps.length c4] 51)
    have bA := (Below.refl w4.heap.size w4).alloc (Nat.le_refl _) (.cells #[.int .i64 size, .slice a4 ps.length c4] 51)
    have hs4 := HB.out.size
    refine (sndImpl _ size _ ps _ (HO.out.at bA) (Nat.le_refl _) (by omega) HGD.out).mono ?_
    rintro e w5 ⟨rfl, b5⟩
    replace HX := hide ((HX.out.below hg.out bA).below (Nat.lt_of_lt_of_le hg.out bA.size) b5)
    replace HY := hide (HY.out.below (by simp) b5)
    replace HO := hide ((HO.out.at bA).at b5)
    replace HI := hide ((HI.out.at bA).at b5)
    have hg5 : w.heap.size < w5.heap.size := Nat.lt_of_lt_of_le hg.out (Nat.le_trans bA.size b5.size)
    have hg4 : w4.heap.size < w5.heap.size := Nat.lt_of_lt_of_le (by simp) b5.size
    replace HB := hide ((HB.out.trans (bA.mono hs4)).trans (b5.mono (Nat.le_trans hs4 bA.size)))
    clear b5 bA hg
    have f0 := HX.out 0 _ rfl
    have f1 := HX.out 1 _ rfl
    have g0 := HY.out 0 _ rfl
    have g1 := HY.out 1 _ rfl
    go_wp2_with fail
    go_cut [26] from 22 to 26 (fun s wq => s = .bool false ∧ Below w.heap.size w wq)
    case first =>
      have HQ : Hid (RdS w5.drew w5.drew.heap.size (.slice a ps.length cap) ps) := HI
      go_region_with (first
        | (go_at_call 25; refine (toSnd _ size _ ps HQ.out hm HGD.out).mono ?_; rintro e w6 ⟨v6, rfl, o6, b6⟩; have HO6 := hide (o6.rd (Nat.le_refl _)); have HY6 := hide (HY.out.below hg4 (below_of_drew b6)); have y0 := HY6.out 0 _ rfl; have y1 := HY6.out 1 _ rfl; have HB6 := hide (HB.out.trans ((below_of_drew b6).mono HB.out.size)); have K6 := hide (HO.out.at (below_of_drew b6)); obtain ⟨a6, c6, rfl⟩ := o6.shape; clear b6 o6; unfold sndV)
        | (go_at_call 27; refine (eqSnd _ size _ _ ps _ _ K6.out HO6.out (Nat.le_refl _) (Nat.le_refl _) hm HGD.out).mono ?_; rintro e w7 ⟨rfl, b7⟩; have HB7 := hide (HB6.out.trans (b7.mono HB6.out.size)); clear b7))
      all_goals (go_wp2_with fail; go_meet; exact ⟨rfl, HB7.out⟩)
    case rest =>
      obtain ⟨rfl, hB⟩ := hcut
      have HZ := hide hB
      clear hB f0 f1 g0 g1
      go_wp2
      go_ret
      exact ⟨rfl, HZ.out⟩

set_option maxRecDepth 100000 in
theorem lifted (os : Os) (started : os.Started) (H : Type) (enc : TypeId × Value → H) :
    ReturnsInHanded {} Try.checked os 5 .any (Rows.fnExactSenderOkSpec.pre6 enc Try.prog Try.f5 Rows.fnExactSenderOkRow.domain false) (Rows.fnExactSenderOkSpec.post enc Try.prog Try.f5 false true false false) := by
  refine returnsInHanded_of_change (C := Try.checked) own started (by kernel_rfl) Try.func5
    (ChangeSpec.witness6 (enc := enc) (C := Try.checked) false ⟨#[], #[.agg #[.int .i64 0, .slice none 0 0]], []⟩ 8 (by kernel_rfl) (by kernel_rfl) (by kernel_rfl) (by kernel_rfl)) ?_
  intro W base args ds gs before hval0 hW hcnd _
  have hval : ∀ (j : Nat) t v, Try.f5.params[j]? = some t → args[j]? = some v → Value.okWide Try.prog W .any base t v := hval0
  have hW' := hW
  obtain ⟨p, q, hA0, hV, rfl, hfz, hnd⟩ := hW
  have hA : DataW.TrodAll enc Try.prog W 0 (fun _ => true) true Try.f5.params.toList args.toList ds p := hA0
  rw [Try.params5] at hA hval
  obtain ⟨v0, vs0, d0, ds0, p0, q0, hargs, rfl, rfl, h0, r0⟩ := trodAll_cons hA
  obtain ⟨rfl, rfl, rfl⟩ := trodAll_nil r0
  obtain rfl : args = #[v0] := by cases args; simp_all
  obtain ⟨rfl, rfl⟩ := trodVars_none hV
  have k0 := h0
  have lt0 : ∀ x ∈ p0, x.block < W.heap.size := by obtain ⟨m, hm⟩ := k0; exact DataW.trod_lt m _ _ _ hm
  have w0 := openSnd (hval 0 46 v0 rfl rfl) h0
  clear hA0 hval0
  refine (walk v0 W w0).mono fun e W' ⟨he, bel⟩ => ?_
  subst he
  exact ⟨_, rfl, _, _, _, [], _, [], hW', trodAll_mk1 (shut_bool Try.underlying4 _), (trodAll_cons_mk (Below.trod laidOut (by kernel_rfl) (of_decide_eq_true (by kernel_rfl)) k0 bel lt0) trodAll_mk0), rfl, bel.frame _, fun h => by cases h⟩

theorem over : Rows.fnExactSenderOkRow.holds Try.pinned (OpenSpec.ofChange Rows.fnExactSenderOkSpec) :=
  OpenClaim.holds_of_wide 5 Try.f5 rfl rfl rfl rfl rfl rfl rfl ⟨rfl, rfl, rfl, rfl, rfl⟩ rfl rfl rfl rfl rfl (by kernel_rfl) Try.func5 (by kernel_rfl)
    (of_decide_eq_true (by kernel_rfl)) (by unfold Func.isWrapper; first | (rw [if_pos (by decide +kernel)]; kernel_rfl) | (rw [if_neg (by decide +kernel)]; exact ⟨rfl, rfl⟩))
    (fun os started H enc _ => lifted os started H enc)

end Go.Proofs.Ytoaenoakdbieaaa.fnExactSenderOk
namespace Go.Proofs.Ytoaenoakdbieaaa
theorem fnExactSenderOk_holds : Rows.FnExactSenderOkSaid := fnExactSenderOk.over
#print axioms fnExactSenderOk_holds
end Go.Proofs.Ytoaenoakdbieaaa
