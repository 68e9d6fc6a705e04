/-
  Proved: at every row of notes the program's NotesOk answers as its model does and writes into no argument (the law FnExactNotesOk returns true), without any condition.
-/
import Derived.Test.YtbkhkiimmfepmaaRows
import Derived.Test.YtbkhkiimmfepmaaNoteRows
import Derived.WalkKit
import Derived.ProofKit
import Derived.OpenShut
import Derived.ShutString
import Derived.ChangeOld
import Derived.Below
namespace Go.Proofs.Ytbkhkiimmfepmaa.fnExactNotesOk
open Go.ChangeShapes Go.WideShapes Go.ChangeAt Go.RowKit
open Go.ChangeMaps (open_string shut_string)
set_option linter.unusedVariables false

theorem own : ownKnob Try.prog.godebug = none := by kernel_rfl
theorem laidOut : laidOutB Try.prog = true := by kernel_rfl
set_option maxRecDepth 100000 in
set_option maxHeartbeats 1000000 in
theorem walk (v0 : Value) (w : World) (h0 : IsNotes w v0) :
    Calls Try.prog 4 #[v0] w fun e w' => e = .returned (.bool true) ∧ Below w.heap.size w w' := by
  obtain ⟨ns, hrd, hml⟩ := h0
  have hne : (nOk ns != nOk ns) = false := by simp
  have HR := hide hrd
  obtain ⟨a, cap, rfl, _⟩ := notes_at hrd
  have HZ := hide (szNotes a ns.length cap 1048576 w (by omega) (by omega) hml)
  clear hrd
  by_cases hbig : (1048576 : Int) < (ns.length : Int)
  · rw [if_pos hbig] at HZ
    go_enter Try.func4, Try.ntmps4
    go_wp2_with fail
    refine (unhide HZ).mono ?_
    rintro e w1 ⟨rfl, rfl⟩
    go_wp2
    go_ret
    exact ⟨rfl, Below.refl _ _⟩
  · rw [if_neg hbig] at HZ
    have hm : ns.length ≤ 1048576 := by omega
    have hl : ¬ (1048576 : Int) - (ns.length : Int) < 0 := by omega
    go_enter Try.func4, Try.ntmps4
    go_wp2_with fail
    refine (unhide HZ).mono ?_
    rintro e w1 ⟨rfl, rfl⟩
    clear HZ
    have HB := hide (Below.refl w1.heap.size w1)
    go_wp2_with fail
    refine (toNotes _ _ _ HR.out hm).mono ?_
    rintro e w2 ⟨v2, rfl, o2, b2⟩
    replace HB := hide (HB.out.trans (b2.mono HB.out.size))
    have r2 := hide (o2.rd (Nat.le_refl _))
    clear o2 b2
    go_wp2_with fail
    refine (notesSpec _ _ _ _ r2.out (Nat.le_refl _) hm).mono ?_
    rintro e w3 ⟨rfl, b3⟩
    replace HB := hide (HB.out.trans (b3.mono HB.out.size))
    clear b3 r2
    go_wp2_with fail
    refine (toNotes _ _ _ (HR.out.at HB.out) hm).mono ?_
    rintro e w4 ⟨v4, rfl, o4, b4⟩
    replace HB := hide (HB.out.trans (b4.mono HB.out.size))
    have HX := hide o4
    clear o4 b4
    go_wp2_with fail
    refine (notesImpl _ _ _ _ (HX.out.rd (Nat.le_refl _)) (Nat.le_refl _) hm).mono ?_
    rintro e w5 ⟨rfl, b5⟩
    replace HB := hide (HB.out.trans (b5.mono HB.out.size))
    replace HX := hide (HX.out.below b5)
    clear b5
    go_wp2_with fail
    refine (toNotes _ _ _ (HR.out.at HB.out) hm).mono ?_
    rintro e w6 ⟨v6, rfl, o6, b6⟩
    replace HB := hide (HB.out.trans (b6.mono HB.out.size))
    replace HX := hide (HX.out.below b6)
    clear b6
    go_wp2_with fail
    refine (eqNotes _ _ _ _ _ _ (HX.out.rd (Nat.le_refl _)) (o6.rd (Nat.le_refl _)) (Nat.le_refl _) (Nat.le_refl _) hm).mono ?_
    rintro e w7 ⟨rfl, b7⟩
    replace HB := hide (HB.out.trans (b7.mono HB.out.size))
    clear b7 o6
    go_wp2
    go_ret
    exact ⟨rfl, HB.out⟩

set_option maxRecDepth 100000 in
theorem lifted (os : Os) (started : os.Started) (H : Type) (enc : TypeId × Value → H) :
    ReturnsInHanded {} Try.checked os 4 .any (Rows.fnExactNotesOkSpec.pre6 enc Try.prog Try.f4 Rows.fnExactNotesOkRow.domain false) (Rows.fnExactNotesOkSpec.post enc Try.prog Try.f4 false true false false) := by
  refine returnsInHanded_of_change (C := Try.checked) own started (by kernel_rfl) Try.func4
    (ChangeSpec.witness6 (enc := enc) (C := Try.checked) false ⟨#[], #[.slice none 0 0], []⟩ 8 (by kernel_rfl) (by kernel_rfl) (by kernel_rfl) (by kernel_rfl)) ?_
  intro W base args ds gs before hval0 hW hcnd _
  have hval : ∀ (j : Nat) t v, Try.f4.params[j]? = some t → args[j]? = some v → Value.okWide Try.prog W .any base t v := hval0
  have hW' := hW
  obtain ⟨p, q, hA0, hV, rfl, hfz, hnd⟩ := hW
  have hA : DataW.TrodAll enc Try.prog W 0 (fun _ => true) true Try.f4.params.toList args.toList ds p := hA0
  rw [Try.params4] at hA hval
  obtain ⟨v0, vs0, d0, ds0, p0, q0, hargs, rfl, rfl, h0, r0⟩ := trodAll_cons hA
  obtain ⟨rfl, rfl, rfl⟩ := trodAll_nil r0
  obtain rfl : args = #[v0] := by cases args; simp_all
  obtain ⟨rfl, rfl⟩ := trodVars_none hV
  have k0 := h0
  have lt0 : ∀ x ∈ p0, x.block < W.heap.size := by obtain ⟨m, hm⟩ := k0; exact DataW.trod_lt m _ _ _ hm
  have w0 := openNotes (hval 0 28 v0 rfl rfl) h0
  clear hA0 hval0
  refine (walk v0 W w0).mono fun e W' ⟨he, bel⟩ => ?_
  subst he
  exact ⟨_, rfl, _, _, _, [], _, [], hW', trodAll_mk1 (shut_bool Try.underlying4 _), (trodAll_cons_mk (Below.trod laidOut (by kernel_rfl) (of_decide_eq_true (by kernel_rfl)) k0 bel lt0) trodAll_mk0), rfl, bel.frame _, fun h => by cases h⟩

theorem over : Rows.fnExactNotesOkRow.holds Try.pinned (OpenSpec.ofChange Rows.fnExactNotesOkSpec) :=
  OpenClaim.holds_of_wide 4 Try.f4 rfl rfl rfl rfl rfl rfl rfl ⟨rfl, rfl, rfl, rfl, rfl⟩ rfl rfl rfl rfl rfl (by kernel_rfl) Try.func4 (by kernel_rfl)
    (of_decide_eq_true (by kernel_rfl)) (by unfold Func.isWrapper; first | (rw [if_pos (by decide +kernel)]; kernel_rfl) | (rw [if_neg (by decide +kernel)]; exact ⟨rfl, rfl⟩))
    (fun os started H enc _ => lifted os started H enc)

end Go.Proofs.Ytbkhkiimmfepmaa.fnExactNotesOk
namespace Go.Proofs.Ytbkhkiimmfepmaa
theorem fnExactNotesOk_holds : Rows.FnExactNotesOkSaid := fnExactNotesOk.over
#print axioms fnExactNotesOk_holds
end Go.Proofs.Ytbkhkiimmfepmaa
