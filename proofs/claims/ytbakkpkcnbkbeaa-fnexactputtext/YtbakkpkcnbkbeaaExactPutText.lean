/-
  Proved: at every text the program's PutText answers as its model does, in memory of its own (the law FnExactPutText returns true), without any condition.
-/
import Derived.Test.YtbakkpkcnbkbeaaRows
import Derived.Test.YtbakkpkcnbkbeaaPutTextW
import Derived.Test.YtbakkpkcnbkbeaaEq
import Derived.WalkKit
import Derived.ProofKit
import Derived.OpenShut
import Derived.ShutString
namespace Go.Proofs.Ytbakkpkcnbkbeaa.fnExactPutText
open Go.ChangeShapes Go.WideShapes Go.ChangeAt Go.RowKit
open Go.ChangeMaps (open_string shut_string)
set_option linter.unusedVariables false

theorem own : ownKnob Try.prog.godebug = none := by kernel_rfl

theorem walk (a0 : ByteArray) (w0 : a0.size ≤ maxLen) (w : World) :
    Calls Try.prog 6 #[.string a0] w fun e w' => e = .returned (.bool true) ∧ Below w.heap.size w w' := by
  have hs63 := w0
  unfold maxLen at hs63
  by_cases hbig : 1048576 < a0.size
  · go_enter Try.func6, Try.ntmps6
    go_wp2
    go_ret
    exact ⟨rfl, Below.refl _ _⟩
  have hlen := pt_len a0
  go_enter Try.func6, Try.ntmps6
  go_wp2_with fail
  refine (putTextSpec _ _ w0).mono ?_
  rintro e w1 ⟨v0, rfl, o0, b0⟩
  go_wp2_with fail
  refine (putTextImpl _ _ w0).mono ?_
  rintro e w2 ⟨v1, rfl, o1, b1⟩
  have o0' := o0.below b1
  have lt0 : ∀ k, v0.ownBlock = some k → k < w1.heap.size := fun k h => (o0.lt k h).2
  go_wp2_with fail
  refine (eqB _ _ _ _ _ _ o1 o0' (by omega)).mono ?_
  rintro e w3 ⟨rfl, q1, rfl⟩
  go_wp2_with fail
  refine (mark1 _ _ _ _ (o1.drewN q1) (by omega)).mono ?_
  rintro e w4 ⟨rfl, o1', g1⟩
  have o0'' := (o0'.drewN q1).apart g1 (o1.drewN q1) lt0
  go_wp2_with fail
  refine (held1 _ _ _ _ o1' (by omega)).mono ?_
  rintro e w5 ⟨rfl, rfl⟩
  go_wp2_with fail
  refine (putTextImpl _ _ w0).mono ?_
  rintro e w6 ⟨v2, rfl, o2, b2⟩
  go_wp2_with fail
  refine (eqB _ _ _ _ _ _ o2 (o0''.below b2) (by omega)).mono ?_
  rintro e w7 ⟨rfl, q2, rfl⟩
  go_wp2_with fail
  refine (held1 _ _ _ _ ((o1'.below b2).drewN q2) (by omega)).mono ?_
  rintro e w8 ⟨rfl, rfl⟩
  go_wp2_with fail
  go_ret
  refine ⟨rfl, ?_⟩
  have s1 := b0.size
  have s2 := b1.size
  have s4 := g1.size
  have B2 : Below w.heap.size w w2 := b0.trans (b1.mono s1)
  have B4 := below_mark (below_drewN B2 q1) s1 (by simp; omega) (o1.drewN q1) g1
  exact below_drewN (B4.trans (b2.mono (by simp at s4; omega))) q2


set_option maxRecDepth 100000 in
theorem lifted (os : Os) (started : os.Started) (H : Type) (enc : TypeId × Value → H) :
    ReturnsInHanded {} Try.checked os 6 .any (Rows.fnExactPutTextSpec.pre6 enc Try.prog Try.f6 Rows.fnExactPutTextRow.domain false) (Rows.fnExactPutTextSpec.post enc Try.prog Try.f6 false true false false) := by
  refine returnsInHanded_of_change (C := Try.checked) own started (by kernel_rfl) Try.func6
    (ChangeSpec.witness6 (enc := enc) (C := Try.checked) false ⟨#[], #[.string ByteArray.empty], []⟩ 8 (by kernel_rfl) (by kernel_rfl) (by kernel_rfl) (by kernel_rfl)) ?_
  intro W base args ds gs before hval0 hW hcnd _
  have hval : ∀ (j : Nat) t v, Try.f6.params[j]? = some t → args[j]? = some v → Value.okWide Try.prog W .any base t v := hval0
  have hW' := hW
  obtain ⟨p, q, hA0, hV, rfl, hfz, hnd⟩ := hW
  have hA : DataW.TrodAll enc Try.prog W 0 (fun _ => true) true Try.f6.params.toList args.toList ds p := hA0
  rw [Try.params6] at hA hval
  obtain ⟨v0, vs0, d0, ds0, p0, q0, hargs, rfl, rfl, h0, r0⟩ := trodAll_cons hA
  obtain ⟨rfl, rfl, rfl⟩ := trodAll_nil r0
  obtain rfl : args = #[v0] := by cases args; simp_all
  obtain ⟨rfl, rfl⟩ := trodVars_none hV
  obtain ⟨a0, rfl, rfl, rfl, w0⟩ := open_string Try.underlying9 (hval 0 9 v0 rfl rfl) h0
  clear hA0 hval0
  simp only [List.append_nil] at hW'
  refine (walk a0 w0 W).mono fun e W' ⟨he, hg⟩ => ?_
  subst he
  exact ⟨_, rfl, _, _, _, [], _, [], hW', trodAll_mk1 (shut_bool Try.underlying4 _), (trodAll_cons_mk (shut_string Try.underlying9 w0) trodAll_mk0), rfl, hg.frame _, fun h => by cases h⟩

theorem over : Rows.fnExactPutTextRow.holds Try.pinned (OpenSpec.ofChange Rows.fnExactPutTextSpec) :=
  OpenClaim.holds_of_wide 6 Try.f6 rfl rfl rfl rfl rfl rfl rfl ⟨rfl, rfl, rfl, rfl, rfl⟩ rfl rfl rfl rfl rfl (by kernel_rfl) Try.func6 (by kernel_rfl)
    (of_decide_eq_true (by kernel_rfl)) (by unfold Func.isWrapper; first | (rw [if_pos (by decide +kernel)]; kernel_rfl) | (rw [if_neg (by decide +kernel)]; exact ⟨rfl, rfl⟩))
    (fun os started H enc _ => lifted os started H enc)

end Go.Proofs.Ytbakkpkcnbkbeaa.fnExactPutText
namespace Go.Proofs.Ytbakkpkcnbkbeaa
theorem fnExactPutText_holds : Rows.FnExactPutTextSaid := fnExactPutText.over
#print axioms fnExactPutText_holds
end Go.Proofs.Ytbakkpkcnbkbeaa
