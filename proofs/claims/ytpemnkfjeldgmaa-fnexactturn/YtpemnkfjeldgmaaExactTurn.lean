/-
  Proved: at every row of bytes and every bit the program's Turn answers as its model does, in memory of its own, and writes into no argument (the law FnExactTurn returns true), without any condition.
-/
import Derived.Test.YtpemnkfjeldgmaaRows
import Derived.Test.YtpemnkfjeldgmaaRowIn
import Derived.Test.YtpemnkfjeldgmaaCopy
import Derived.Test.YtpemnkfjeldgmaaEq
import Derived.Test.YtpemnkfjeldgmaaTurnW
import Derived.WalkKit
import Derived.ProofKit
import Derived.OpenShut
import Derived.ShutString
import Derived.ChangeOld
import Derived.Below
namespace Go.Proofs.Ytpemnkfjeldgmaa.fnExactTurn
open Go.ChangeShapes Go.WideShapes Go.ChangeAt Go.RowKit
open Go.ChangeMaps (open_string shut_string)
set_option linter.unusedVariables false

theorem own : ownKnob Try.prog.godebug = none := by kernel_rfl
theorem laidOut : laidOutB Try.prog = true := by kernel_rfl
set_option maxRecDepth 100000 in
set_option maxHeartbeats 2000000 in
theorem walk (a0 : Option Addr) (len0 cap0 : Nat) (z0 : List Int) (a1 : Int) (w : World) (w0 : IsRow .u8 w a0 len0 cap0 z0) (hI : -9223372036854775808 ≤ a1 ∧ a1 ≤ 9223372036854775807) :
    Calls Try.prog 8 #[.slice a0 len0 cap0, .int .i64 a1] w fun e w' => e = .returned (.bool true) ∧ Below w.heap.size w w' := by
  by_cases hbig : (1048576 : Int) < (len0 : Int)
  · clear w0
    go_enter Try.func8, Try.ntmps8
    go_wp2
    go_ret
    exact ⟨rfl, Below.refl _ _⟩
  · have hin := in_of w0 (by omega)
    clear w0
    generalize z0.take len0 = zs at hin
    have hl := hin.1
    have hm := hin.2.1
    have hsl : (turned zs a1).length = zs.length := by unfold turned; split <;> simp
    have hz := hide hin.2.2.1
    have HIN := hide hin
    clear hin
    go_enter Try.func8, Try.ntmps8
    go_wp2_with fail
    refine (copyB _ _ _ _ _ HIN.out).mono ?_
    rintro e w1 ⟨c1, rfl, o1, HB⟩
    replace HB := hide HB
    have hin1 := hide (in_own o1 hl hm hz.out (Nat.le_refl _))
    clear o1
    go_wp2_with fail
    refine (turnSpec _ _ _ _ _ _ hin1.out (by simp) hI).mono ?_
    rintro e w2 ⟨vW, rfl, HW, b2⟩
    replace HW := hide HW
    replace HB := hide (HB.out.trans (b2.mono HB.out.size))
    have ltW : Hid (∀ k, vW.ownBlock = some k → k < w2.heap.size) := hide fun k h => (HW.out.lt k h).2
    clear b2 hin1
    go_wp2_with fail
    refine (copyB _ _ _ _ _ (HIN.out.at HB.out)).mono ?_
    rintro e w3 ⟨c3, rfl, HX, b3⟩
    replace HX := hide HX
    have hin3 := hide (in_own HX.out hl hm hz.out (Nat.le_refl _))
    have s2 := HB.out.size
    have ltX : Hid (∀ k, (Value.slice (some ⟨w2.heap.size, 0, none⟩) len0 c3).ownBlock = some k → k < w3.heap.size) := hide fun k h => (HX.out.lt k h).2
    replace HB := hide (HB.out.trans (b3.mono HB.out.size))
    replace HW := hide (HW.out.below b3)
    have s3 := HB.out.size
    have s23 := b3.size
    clear b3
    go_wp2_with fail
    refine (turnImpl _ _ _ _ _ _ hin3.out (by simp) hI).mono ?_
    rintro e w4 ⟨vG, rfl, HG, b4⟩
    replace HG := hide HG
    replace HB := hide (HB.out.trans (b4.mono HB.out.size))
    replace HW := hide (HW.out.below b4)
    replace HX := hide (HX.out.below b4)
    clear b4 hin3
    go_wp2_with fail
    refine (eqB _ _ _ _ _ _ HG.out HW.out (by omega)).mono ?_
    rintro e w5 ⟨rfl, q5, rfl⟩
    replace HB := hide (below_drewN HB.out q5)
    replace HW := hide (HW.out.drewN q5)
    replace HX := hide (HX.out.drewN q5)
    replace HG := hide (HG.out.drewN q5)
    generalize w4.drewN q5 = w5 at *
    go_wp2_with fail
    refine (copyB _ _ _ _ _ (HIN.out.at HB.out)).mono ?_
    rintro e w6 ⟨c6, rfl, HY, b6⟩
    replace HY := hide HY
    replace HB := hide (HB.out.trans (b6.mono HB.out.size))
    replace HW := hide (HW.out.below b6)
    replace HX := hide (HX.out.below b6)
    replace HG := hide (HG.out.below b6)
    clear b6
    go_wp2_with fail
    refine (eqB _ _ _ _ _ _ HX.out HY.out (by omega)).mono ?_
    rintro e w7 ⟨rfl, q7, rfl⟩
    clear HY
    replace HB := hide (below_drewN HB.out q7)
    replace HW := hide (HW.out.drewN q7)
    replace HX := hide (HX.out.drewN q7)
    replace HG := hide (HG.out.drewN q7)
    generalize w6.drewN q7 = w7 at *
    go_wp2_with fail
    refine (mark1 _ _ _ _ HX.out (by omega)).mono ?_
    rintro e w8 ⟨rfl, oX, g8⟩
    have hs7 := HB.out.size
    replace HB := hide (below_mark HB.out s2 hs7 HX.out g8)
    replace HW := hide (HW.out.apart g8 HX.out ltW.out)
    replace HG := hide (HG.out.later g8 ltX.out)
    clear oX g8 HX ltX
    go_wp2_with fail
    refine (eqB _ _ _ _ _ _ HG.out HW.out (by omega)).mono ?_
    rintro e w9 ⟨rfl, q9, rfl⟩
    replace HB := hide (below_drewN HB.out q9)
    replace HW := hide (HW.out.drewN q9)
    replace HG := hide (HG.out.drewN q9)
    generalize w8.drewN q9 = w9 at *
    go_wp2_with fail
    refine (mark1 _ _ _ _ HG.out (by omega)).mono ?_
    rintro e w10 ⟨rfl, oG, g10⟩
    have hs9 := HB.out.size
    replace HB := hide (below_mark HB.out s3 hs9 HG.out g10)
    replace HW := hide (HW.out.apart g10 HG.out (fun k h => by have := ltW.out k h; omega))
    replace HG := hide oG
    clear oG g10
    rw [hsl] at HG
    rw [hsl]
    go_wp2_with fail
    refine (held1 _ _ _ _ HG.out (by omega)).mono ?_
    rintro e w11 ⟨rfl, rfl⟩
    have en : ((1 + ((zs.length : Nat) : Int)) != (1 + ((zs.length : Nat) : Int))) = false := by simp
    go_wp2_with fail
    refine (copyB _ _ _ _ _ (HIN.out.at HB.out)).mono ?_
    rintro e w12 ⟨c12, rfl, o12, b12⟩
    have hin12 := hide (in_own o12 hl hm hz.out (Nat.le_refl _))
    replace HB := hide (HB.out.trans (b12.mono HB.out.size))
    replace HW := hide (HW.out.below b12)
    replace HG := hide (HG.out.below b12)
    clear o12 b12
    go_wp2_with fail
    refine (turnImpl _ _ _ _ _ _ hin12.out (by simp) hI).mono ?_
    rintro e w13 ⟨vH, rfl, HH, b13⟩
    replace HH := hide HH
    replace HB := hide (HB.out.trans (b13.mono HB.out.size))
    replace HW := hide (HW.out.below b13)
    replace HG := hide (HG.out.below b13)
    clear b13 hin12
    go_wp2_with fail
    refine (eqB _ _ _ _ _ _ HH.out HW.out (by omega)).mono ?_
    rintro e w14 ⟨rfl, q14, rfl⟩
    replace HB := hide (below_drewN HB.out q14)
    replace HG := hide (HG.out.drewN q14)
    generalize w13.drewN q14 = w14 at *
    go_wp2_with fail
    refine (held1 _ _ _ _ HG.out (by omega)).mono ?_
    rintro e w15 ⟨rfl, rfl⟩
    go_wp2
    go_ret
    exact ⟨rfl, HB.out⟩

set_option maxRecDepth 100000 in
theorem lifted (os : Os) (started : os.Started) (H : Type) (enc : TypeId × Value → H) :
    ReturnsInHanded {} Try.checked os 8 .any (Rows.fnExactTurnSpec.pre6 enc Try.prog Try.f8 Rows.fnExactTurnRow.domain false) (Rows.fnExactTurnSpec.post enc Try.prog Try.f8 false true false false) := by
  refine returnsInHanded_of_change (C := Try.checked) own started (by kernel_rfl) Try.func8
    (ChangeSpec.witness6 (enc := enc) (C := Try.checked) false ⟨#[], #[.slice none 0 0, .int .i64 0], []⟩ 8 (by kernel_rfl) (by kernel_rfl) (by kernel_rfl) (by kernel_rfl)) ?_
  intro W base args ds gs before hval0 hW hcnd _
  have hval : ∀ (j : Nat) t v, Try.f8.params[j]? = some t → args[j]? = some v → Value.okWide Try.prog W .any base t v := hval0
  have hW' := hW
  obtain ⟨p, q, hA0, hV, rfl, hfz, hnd⟩ := hW
  have hA : DataW.TrodAll enc Try.prog W 0 (fun _ => true) true Try.f8.params.toList args.toList ds p := hA0
  rw [Try.params8] at hA hval
  obtain ⟨v0, vs0, d0, ds0, p0, q0, hargs, rfl, rfl, h0, r0⟩ := trodAll_cons hA
  obtain ⟨v1, vs1, d1, ds1, p1, q1, rfl, rfl, rfl, h1, r1⟩ := trodAll_cons r0
  obtain ⟨rfl, rfl, rfl⟩ := trodAll_nil r1
  obtain rfl : args = #[v0, v1] := by cases args; simp_all
  obtain ⟨rfl, rfl⟩ := trodVars_none hV
  obtain ⟨a0, len0, cap0, rfl⟩ := okWide_slice Try.underlying22 (hval 0 22 v0 rfl rfl)
  have k0 := h0
  have lt0 : ∀ x ∈ p0, x.block < W.heap.size := by obtain ⟨m, hm⟩ := k0; exact DataW.trod_lt m _ _ _ hm
  obtain ⟨z0, w0⟩ : ∃ zs, IsRow .u8 W a0 len0 cap0 zs := by
    obtain ⟨fuel, hf⟩ := h0
    rcases open_ints Try.underlying22 Try.underlying5 (by kernel_rfl) hf with ⟨hcs, _⟩ | ⟨x, l, c, zs, hcs, _, hl, hm, hz, _, hcell, hwz⟩
    · simp [Value.cells] at hcs
      obtain ⟨rfl, rfl, rfl⟩ := hcs
      exact ⟨[], .inl ⟨rfl, rfl, rfl, rfl⟩⟩
    · simp [Value.cells] at hcs
      obtain ⟨rfl, rfl, rfl⟩ := hcs
      exact ⟨zs, .inr ⟨_, rfl, hl, hm, by simpa using hz, hcell, hwz⟩⟩
  obtain ⟨a1, rfl, rfl, rfl, w1⟩ := open_int Try.underlying3 (hval 1 3 v1 rfl rfl) h1
  clear hA0 hval0
  refine (walk a0 len0 cap0 z0 a1 W w0 (bounds_i64 w1)).mono fun e W' ⟨he, bel⟩ => ?_
  subst he
  exact ⟨_, rfl, _, _, _, [], _, [], hW', trodAll_mk1 (shut_bool Try.underlying4 _), (trodAll_cons_mk (Below.trod laidOut (by kernel_rfl) (of_decide_eq_true (by kernel_rfl)) k0 bel lt0) (trodAll_cons_mk (shut_int Try.underlying3 w1) trodAll_mk0)), rfl, bel.frame _, fun h => by cases h⟩

theorem over : Rows.fnExactTurnRow.holds Try.pinned (OpenSpec.ofChange Rows.fnExactTurnSpec) :=
  OpenClaim.holds_of_wide 8 Try.f8 rfl rfl rfl rfl rfl rfl rfl ⟨rfl, rfl, rfl, rfl, rfl⟩ rfl rfl rfl rfl rfl (by kernel_rfl) Try.func8 (by kernel_rfl)
    (of_decide_eq_true (by kernel_rfl)) (by unfold Func.isWrapper; first | (rw [if_pos (by decide +kernel)]; kernel_rfl) | (rw [if_neg (by decide +kernel)]; exact ⟨rfl, rfl⟩))
    (fun os started H enc _ => lifted os started H enc)

end Go.Proofs.Ytpemnkfjeldgmaa.fnExactTurn
namespace Go.Proofs.Ytpemnkfjeldgmaa
theorem fnExactTurn_holds : Rows.FnExactTurnSaid := fnExactTurn.over
#print axioms fnExactTurn_holds
end Go.Proofs.Ytpemnkfjeldgmaa
