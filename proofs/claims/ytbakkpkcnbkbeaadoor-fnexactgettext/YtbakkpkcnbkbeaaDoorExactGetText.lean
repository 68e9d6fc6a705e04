/-
  Proved: at every row of bytes and every place the program's GetText answers as its model does, and writes into no argument (the law FnExactGetText returns true), where the program's own error value holds what its text lays (the card ties it), without any other condition.
-/
import Derived.Test.YtbakkpkcnbkbeaaDoorRows
import Derived.Test.YtbakkpkcnbkbeaaDoorCards
import Derived.Test.YtbakkpkcnbkbeaaDoorTie
import Derived.Test.YtbakkpkcnbkbeaaDoorRowIn
import Derived.Test.YtbakkpkcnbkbeaaDoorGetText
import Derived.Test.YtbakkpkcnbkbeaaDoorLaid
import Derived.WalkKit
import Derived.ProofKit
import Derived.OpenShut
import Derived.ShutString
import Derived.ChangeOld
import Derived.Below
import Derived.SevenTiedAt
namespace Go.Proofs.YtbakkpkcnbkbeaaDoor.fnExactGetText
open Go.ChangeShapes Go.WideShapes Go.ChangeAt Go.RowKit
set_option linter.unusedVariables false

set_option maxRecDepth 100000 in
set_option maxHeartbeats 1000000 in
theorem walk (a0 : Option Addr) (len0 cap0 : Nat) (z0 : List Int) (a1 : Int) (t : TypeId) (v : Value) (w : World) (w0 : IsRow .u8 w a0 len0 cap0 z0) (hE : Err w t v) (hp : 0 < w.heap.size) :
    Calls Tryd.prog 7 #[.slice a0 len0 cap0, .int .i64 a1] w fun e w' => e = .returned (.bool true) ∧ Below w.heap.size w w' := by
  by_cases hbig : (1048576 : Int) < (len0 : Int)
  · clear w0 hE
    go_enter Tryd.func7, Tryd.ntmps7
    go_wp2
    go_ret
    exact ⟨rfl, Below.refl _ _⟩
  · have hin := in_of w0 (by omega)
    clear w0
    generalize z0.take len0 = zs at hin
    have hl := hin.1
    have hm := hin.2.1
    have hz := hide hin.2.2.1
    have HIN := hide hin
    have HE := hide hE
    clear hin hE
    go_enter Tryd.func7, Tryd.ntmps7
    go_wp2_with fail
    refine (copyB _ _ _ _ _ HIN.out).mono ?_
    rintro e w1 ⟨c1, rfl, o1, b1⟩
    have hc1 := cap_own o1 hl
    have hin1 := hide (in_own o1 hl hm hz.out (Nat.le_refl _))
    have HIN1 := hide ((HIN.out.kept b1.block).up b1.size)
    have HE1 := hide (HE.out.low b1 hp)
    have hp1 : 0 < w1.heap.size := Nat.lt_of_lt_of_le hp b1.size
    have HB1 := hide b1
    clear o1 b1
    go_wp2_with fail
    refine (getTextModel _ _ _ _ _ _ _ hin1.out hc1).mono ?_
    rintro e w1' ⟨rfl, rfl⟩
    generalize hg : gtOf zs (gn zs a1) = r
    have HR := hide hg
    clear hg
    obtain ⟨n, nx, ok, hans⟩ : ∃ (n : ByteArray) (nx : Int) (ok : Bool), ansT r = .tuple #[.string n, .int .i64 nx, .bool ok] := by
      cases r with
      | none => exact ⟨_, _, _, rfl⟩
      | some q => exact ⟨_, _, _, rfl⟩
    have HA := hide hans
    rw [hans]
    clear hans
    go_wp2_with fail
    refine (copyB _ _ _ _ _ HIN1.out).mono ?_
    rintro e w2 ⟨c2, rfl, o2, b2⟩
    have hc2 := cap_own o2 hl
    have hin2 := hide (in_own o2 hl hm hz.out (Nat.le_refl _))
    have HIN2 := hide ((HIN1.out.kept b2.block).up b2.size)
    have HE2 := hide (HE1.out.low b2 hp1)
    have hp2 : 0 < w2.heap.size := Nat.lt_of_lt_of_le hp1 b2.size
    have HO2 := hide o2
    have HB2 := hide (HB1.out.trans (b2.mono HB1.out.size))
    clear o2 b2
    go_wp2_with fail
    refine (getTextImpl _ _ _ _ _ _ _ _ hp2 hin2.out hc2 HE2.out).mono ?_
    rintro e w3 ⟨rfl, b3⟩
    rw [HR.out, HA.out]
    have HIN3 := hide ((HIN2.out.kept b3.block).up b3.size)
    have HO3 := hide (HO2.out.below b3)
    have HB3 := hide (HB2.out.trans (b3.mono HB2.out.size))
    clear b3
    have e2 : (nx != nx) = false := by simp
    have e3 : (ok != ok) = false := by simp
    go_wp2_with fail
    refine (copyB _ _ _ _ _ HIN3.out).mono ?_
    rintro e w4 ⟨c4, rfl, o4, b4⟩
    have HO4 := hide o4
    have HO5 := hide (HO3.out.below b4)
    have HB4 := hide (HB3.out.trans (b4.mono HB3.out.size))
    clear o4 b4
    go_wp2_with fail
    refine (eqB _ _ _ _ _ _ HO5.out HO4.out (by omega)).mono ?_
    rintro e w5 ⟨rfl, q, rfl⟩
    go_wp2
    go_ret
    exact ⟨rfl, below_drewN HB4.out q⟩

set_option maxRecDepth 100000 in
theorem lifted (os : Os) (started : os.Started) (H : Type) (enc : TypeId × Value → H) :
    ReturnsInHanded {} Tryd.checked os 7 .any (fun w args => (Rows.fnExactGetTextSpec.pre enc Tryd.prog Tryd.f7 [] false w args ∧ laidMetH Tryd.prog laidL w) ∧ sizedMet enc Tryd.prog Tryd.f7 (OpenSpec.ofChange Rows.fnExactGetTextSpec) false w args)
      (Rows.fnExactGetTextSpec.post enc Tryd.prog Tryd.f7 false true false false) := by
  refine returnsInHanded_of_change_and (C := Tryd.checked) (X := fun w _ => laidMetH Tryd.prog laidL w) (fun _ _ _ hh h => h.of_heap hh) Tryd.own started (by kernel_rfl) Tryd.func7
    (ChangeSpec.witness_shaped (enc := enc) (C := Tryd.checked) (os := os) (X := fun w _ => laidMetH Tryd.prog laidL w) false (World.doorLaid Tryd.prog 28 os) #[.slice none 0 0, .int .i64 0] 8 rfl (World.shaped_of_RefB (by kernel_rfl) (by kernel_rfl)) (by kernel_rfl) (by kernel_rfl) (by kernel_rfl) (door_met os _)) ?_
  intro W base args ds gs before hval0 hW _ _ hL _
  have hval : ∀ (j : Nat) t v, Tryd.f7.params[j]? = some t → args[j]? = some v → Value.okWide Tryd.prog W .any base t v := hval0
  have hW' := hW
  obtain ⟨p, q, hA0, hV0, rfl, hfz, hnd⟩ := hW
  have hA : DataW.TrodAll enc Tryd.prog W 0 (fun _ => true) true Tryd.f7.params.toList args.toList ds p := hA0
  have hV : DataW.TrodVars enc Tryd.prog W (fun _ => true) ["loop.example/g00283/impl.errNone"] gs q := hV0
  rw [Tryd.params7] at hA hval
  obtain ⟨v0, vs0, d0, ds0, p0, q0, hargs, rfl, rfl, h0, r0⟩ := trodAll_cons hA
  obtain ⟨v1, vs1, d1, ds1, p1, q1, rfl, rfl, rfl, h1, r1⟩ := trodAll_cons r0
  obtain ⟨rfl, rfl, rfl⟩ := trodAll_nil r1
  obtain rfl : args = #[v0, v1] := by cases args; simp_all
  obtain ⟨u, x, hv⟩ := err_of_laid hL
  obtain ⟨hE, hp⟩ := err_cell hv
  obtain ⟨rfl, rfl⟩ := hV.unique (vars_read enc hv _)
  obtain ⟨a0, len0, cap0, rfl⟩ := okWide_slice Tryd.underlying22 (hval 0 22 v0 rfl rfl)
  have k0 := h0
  have lt0 : ∀ x ∈ p0, x.block < W.heap.size := by obtain ⟨m, hm⟩ := k0; exact DataW.trod_lt m _ _ _ hm
  obtain ⟨z0, w0⟩ : ∃ zs, IsRow .u8 W a0 len0 cap0 zs := by
    obtain ⟨fuel, hf⟩ := h0
    rcases open_ints Tryd.underlying22 Tryd.underlying5 (by kernel_rfl) hf with ⟨hcs, _⟩ | ⟨x, l, c, zs, hcs, _, hl, hm, hz, _, hcell, hwz⟩
    · simp [Value.cells] at hcs
      obtain ⟨rfl, rfl, rfl⟩ := hcs
      exact ⟨[], .inl ⟨rfl, rfl, rfl, rfl⟩⟩
    · simp [Value.cells] at hcs
      obtain ⟨rfl, rfl, rfl⟩ := hcs
      exact ⟨zs, .inr ⟨_, rfl, hl, hm, by simpa using hz, hcell, hwz⟩⟩
  obtain ⟨a1, rfl, rfl, rfl, w1⟩ := open_int Tryd.underlying3 (hval 1 3 v1 rfl rfl) h1
  clear hA0 hval0 hV0
  refine (walk a0 len0 cap0 z0 a1 u x W w0 hE hp).mono fun e W' ⟨he, bel⟩ => ?_
  subst he
  refine ⟨_, rfl, _, _, _, [], _, [.cell 0 0], hW', trodAll_mk1 (shut_bool Tryd.underlying4 _), (trodAll_cons_mk (Below.trod Tryd.laidOut (by kernel_rfl) (of_decide_eq_true (by kernel_rfl)) k0 bel lt0) (trodAll_cons_mk (shut_int Tryd.underlying3 w1) trodAll_mk0)), ?_, bel.frame _, fun h => by cases h⟩
  exact vars_read enc (var?_below bel gErr hp hv) _

theorem row : Rows.FnExactGetTextSaid :=
  OpenClaim.holds_of_wide 7 Tryd.f7 rfl rfl rfl rfl rfl rfl rfl ⟨rfl, rfl, rfl, rfl, rfl⟩ rfl rfl rfl rfl rfl (by kernel_rfl) Tryd.func7 (by kernel_rfl)
    (of_decide_eq_true (by kernel_rfl)) (by unfold Func.isWrapper; first | (rw [if_pos (by decide +kernel)]; kernel_rfl) | (rw [if_neg (by decide +kernel)]; exact ⟨rfl, rfl⟩))
    (fun os started H enc _ => lifted os started H enc)

theorem card : Rows.FnExactGetTextCardSaid :=
  Claim7.holds_tied_plain_at .later [] [.sentinel] true (true, "9b53c1999329ddecebb11ca33b33e8848649b8666b5a55c9b0a8c56b7ae81600") false
    row (fun _ h => by cases h) (by kernel_rfl) (fun _ h => by cases h) fnExactGetText_row_tie rfl ⟨rfl, rfl⟩ (by kernel_rfl) rfl
    (fun f fn hf hfn => by
      obtain rfl : f = 7 := Option.some.inj ((show Tryd.prog.funcNamed "loop.example/g00283/laws.FnExactGetText" = some 7 by kernel_rfl).symm.trans hf) |>.symm
      obtain rfl : fn = Tryd.f7 := (Option.some.inj (Tryd.func7.symm.trans hfn)).symm
      exact ⟨by kernel_rfl, fun j t ht => by
        rw [Tryd.params7] at ht
        have hm : t ∈ [22, 3] := by simpa using Array.mem_of_getElem? ht
        have hall : ([22, 3].all fun u => !Tryd.prog.wantsStandIn u) = true := by kernel_rfl
        exact (show Tryd.prog.wantsStandIn t = false by simpa using List.all_eq_true.1 hall t hm)⟩)
    (by kernel_rfl)
end Go.Proofs.YtbakkpkcnbkbeaaDoor.fnExactGetText
namespace Go.Proofs.YtbakkpkcnbkbeaaDoor
theorem fnExactGetText_holds : Rows.FnExactGetTextCardSaid := fnExactGetText.card
#print axioms fnExactGetText_holds
end Go.Proofs.YtbakkpkcnbkbeaaDoor
