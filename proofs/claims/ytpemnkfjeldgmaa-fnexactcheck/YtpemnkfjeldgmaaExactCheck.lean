/-
  Proved: at every row of bytes the program's Check answers as its model does, and writes into no argument (the law FnExactCheck returns true), without any condition.
-/
import Derived.Test.YtpemnkfjeldgmaaRows
import Derived.Test.YtpemnkfjeldgmaaRowIn
import Derived.Test.YtpemnkfjeldgmaaCopy
import Derived.Test.YtpemnkfjeldgmaaEq
import Derived.Test.YtpemnkfjeldgmaaSealW
import Derived.WalkKit
import Derived.ProofKit
import Derived.OpenShut
import Derived.ShutString
import Derived.ChangeOld
import Derived.Below
namespace Go.Proofs.Ytpemnkfjeldgmaa.fnExactCheck
open Go.ChangeShapes Go.WideShapes Go.ChangeAt Go.RowKit
open Go.ChangeMaps (open_string shut_string)
set_option linter.unusedVariables false

theorem own : ownKnob Try.prog.godebug = none := by kernel_rfl
theorem laidOut : laidOutB Try.prog = true := by kernel_rfl
set_option maxRecDepth 100000 in
set_option maxHeartbeats 1000000 in
theorem walk (a0 : Option Addr) (len0 cap0 : Nat) (z0 : List Int) (w : World) (w0 : IsRow .u8 w a0 len0 cap0 z0) :
    Calls Try.prog 5 #[.slice a0 len0 cap0] w fun e w' => e = .returned (.bool true) ∧ Below w.heap.size w w' := by
  by_cases hbig : (1048576 : Int) < (len0 : Int)
  · clear w0
    go_enter Try.func5, Try.ntmps5
    go_wp2
    go_ret
    exact ⟨rfl, Below.refl _ _⟩
  · have hin := in_of w0 (by omega)
    clear w0
    generalize z0.take len0 = zs at hin
    have hl := hin.1
    have hm := hin.2.1
    have hz := hide hin.2.2.1
    have HIN := hide hin
    clear hin
    go_enter Try.func5, Try.ntmps5
    go_wp2_with fail
    refine (copyB _ _ _ _ _ HIN.out).mono ?_
    rintro e w1 ⟨c1, rfl, o1, b1⟩
    have hin1 := hide (in_own o1 hl hm hz.out (Nat.le_refl _))
    have HIN1 := hide ((HIN.out.kept b1.block).up b1.size)
    have HB1 := hide b1
    clear o1 b1
    go_wp2_with fail
    refine (checkSpec _ _ _ _ _ _ hin1.out).mono ?_
    rintro e w1' ⟨rfl, rfl⟩
    go_wp2_with fail
    refine (copyB _ _ _ _ _ HIN1.out).mono ?_
    rintro e w2 ⟨c2, rfl, o2, b2⟩
    have hin2 := hide (in_own o2 hl hm hz.out (Nat.le_refl _))
    have HIN2 := hide ((HIN1.out.kept b2.block).up b2.size)
    have HO2 := hide o2
    have HB2 := hide (HB1.out.trans (b2.mono HB1.out.size))
    clear o2 b2
    go_wp2_with fail
    refine (checkImpl _ _ _ _ _ hin2.out).mono ?_
    rintro e w3 ⟨rfl, b3⟩
    have HIN3 := hide ((HIN2.out.kept b3.block).up b3.size)
    have HO3 := hide (HO2.out.below b3)
    have HB3 := hide (HB2.out.trans (b3.mono HB2.out.size))
    clear b3
    have e1 : (chk zs != chk zs) = false := by simp
    go_wp2_with fail
    refine (copyB _ _ _ _ _ HIN3.out).mono ?_
    rintro e w4 ⟨c4, rfl, o4, b4⟩
    have HO4 := hide o4
    have HO5 := hide (HO3.out.below b4)
    have HB4 := hide (HB3.out.trans (b4.mono HB3.out.size))
    clear o4 b4
    go_wp2_with fail
    refine (eqB _ _ _ _ _ _ HO5.out HO4.out (by omega)).mono ?_
    rintro e w5 ⟨rfl, q, rfl⟩
    go_wp2
    go_ret
    exact ⟨rfl, below_drewN HB4.out q⟩

set_option maxRecDepth 100000 in
theorem lifted (os : Os) (started : os.Started) (H : Type) (enc : TypeId × Value → H) :
    ReturnsInHanded {} Try.checked os 5 .any (Rows.fnExactCheckSpec.pre6 enc Try.prog Try.f5 Rows.fnExactCheckRow.domain false) (Rows.fnExactCheckSpec.post enc Try.prog Try.f5 false true false false) := by
  refine returnsInHanded_of_change (C := Try.checked) own started (by kernel_rfl) Try.func5
    (ChangeSpec.witness6 (enc := enc) (C := Try.checked) false ⟨#[], #[.slice none 0 0], []⟩ 8 (by kernel_rfl) (by kernel_rfl) (by kernel_rfl) (by kernel_rfl)) ?_
  intro W base args ds gs before hval0 hW hcnd _
  have hval : ∀ (j : Nat) t v, Try.f5.params[j]? = some t → args[j]? = some v → Value.okWide Try.prog W .any base t v := hval0
  have hW' := hW
  obtain ⟨p, q, hA0, hV, rfl, hfz, hnd⟩ := hW
  have hA : DataW.TrodAll enc Try.prog W 0 (fun _ => true) true Try.f5.params.toList args.toList ds p := hA0
  rw [Try.params5] at hA hval
  obtain ⟨v0, vs0, d0, ds0, p0, q0, hargs, rfl, rfl, h0, r0⟩ := trodAll_cons hA
  obtain ⟨rfl, rfl, rfl⟩ := trodAll_nil r0
  obtain rfl : args = #[v0] := by cases args; simp_all
  obtain ⟨rfl, rfl⟩ := trodVars_none hV
  obtain ⟨a0, len0, cap0, rfl⟩ := okWide_slice Try.underlying22 (hval 0 22 v0 rfl rfl)
  have k0 := h0
  have lt0 : ∀ x ∈ p0, x.block < W.heap.size := by obtain ⟨m, hm⟩ := k0; exact DataW.trod_lt m _ _ _ hm
  obtain ⟨z0, w0⟩ : ∃ zs, IsRow .u8 W a0 len0 cap0 zs := by
    obtain ⟨fuel, hf⟩ := h0
    rcases open_ints Try.underlying22 Try.underlying5 (by kernel_rfl) hf with ⟨hcs, _⟩ | ⟨x, l, c, zs, hcs, _, hl, hm, hz, _, hcell, hwz⟩
    · simp [Value.cells] at hcs
      obtain ⟨rfl, rfl, rfl⟩ := hcs
      exact ⟨[], .inl ⟨rfl, rfl, rfl, rfl⟩⟩
    · simp [Value.cells] at hcs
      obtain ⟨rfl, rfl, rfl⟩ := hcs
      exact ⟨zs, .inr ⟨_, rfl, hl, hm, by simpa using hz, hcell, hwz⟩⟩
  clear hA0 hval0
  refine (walk a0 len0 cap0 z0 W w0).mono fun e W' ⟨he, bel⟩ => ?_
  subst he
  exact ⟨_, rfl, _, _, _, [], _, [], hW', trodAll_mk1 (shut_bool Try.underlying4 _), (trodAll_cons_mk (Below.trod laidOut (by kernel_rfl) (of_decide_eq_true (by kernel_rfl)) k0 bel lt0) trodAll_mk0), rfl, bel.frame _, fun h => by cases h⟩

theorem over : Rows.fnExactCheckRow.holds Try.pinned (OpenSpec.ofChange Rows.fnExactCheckSpec) :=
  OpenClaim.holds_of_wide 5 Try.f5 rfl rfl rfl rfl rfl rfl rfl ⟨rfl, rfl, rfl, rfl, rfl⟩ rfl rfl rfl rfl rfl (by kernel_rfl) Try.func5 (by kernel_rfl)
    (of_decide_eq_true (by kernel_rfl)) (by unfold Func.isWrapper; first | (rw [if_pos (by decide +kernel)]; kernel_rfl) | (rw [if_neg (by decide +kernel)]; exact ⟨rfl, rfl⟩))
    (fun os started H enc _ => lifted os started H enc)

end Go.Proofs.Ytpemnkfjeldgmaa.fnExactCheck
namespace Go.Proofs.Ytpemnkfjeldgmaa
theorem fnExactCheck_holds : Rows.FnExactCheckSaid := fnExactCheck.over
#print axioms fnExactCheck_holds
end Go.Proofs.Ytpemnkfjeldgmaa
