/-
  Proved: at every row of bytes the program's Decode answers as its model does, in memory of its own, and writes into no argument (the law FnExactDecode returns true), where the program's own error value holds what its text lays (the card ties it), without any other condition.
-/
import Derived.Test.YtonkaomfahmchaaDoorRows
import Derived.Test.YtonkaomfahmchaaDoorCards
import Derived.Test.YtonkaomfahmchaaDoorTie
import Derived.Test.YtonkaomfahmchaaDoorRowIn
import Derived.Test.YtonkaomfahmchaaDoorCopy
import Derived.Test.YtonkaomfahmchaaDoorLaid
import Derived.Test.YtonkaomfahmchaaDoorEq
import Derived.Test.YtonkaomfahmchaaDoorMarkW
import Derived.Test.YtonkaomfahmchaaDoorDecL
import Derived.Test.YtonkaomfahmchaaDoorDecS
import Derived.Test.YtonkaomfahmchaaDoorInsTo
import Derived.WalkKit
import Derived.ProofKit
import Derived.OpenShut
import Derived.ShutString
import Derived.ChangeOld
import Derived.Below
import Derived.SevenTiedAt
namespace Go.Proofs.YtonkaomfahmchaaDoor.fnExactDecode
open Go.ChangeShapes Go.WideShapes Go.ChangeAt Go.RowKit
set_option linter.unusedVariables false
def AnsX (b : Nat) (xs : List Isn) (ok : Bool) (e : Ending) (w' : World) : Prop := ∃ u, e = .returned (.tuple #[u, .bool ok]) ∧ OwnD w' b w'.heap.size (inss xs) u
theorem decOf_len (zs : List Int) : ((decOf zs).getD []).length ≤ 90 := by
  cases h : decOf zs with
  | none => simp
  | some xs =>
    unfold decOf decX at h
    split at h
    · obtain ⟨ys, _, h2⟩ := Option.bind_eq_some_iff.1 h
      split at h2
      · rename_i hc
        cases h2
        have := (codeB_of hc).1.2
        simpa using this
      · cases h2
    · cases h
theorem inss_sl {w : World} {b hi : Nat} {xs : List Isn} {u : Value} (h : OwnD w b hi (inss xs) u) : ∃ a c, u = .slice a xs.length c := h.shape
set_option maxRecDepth 100000 in
set_option maxHeartbeats 8000000 in
theorem walk (a0 : Option Addr) (len0 cap0 : Nat) (z0 : List Int) (t : TypeId) (v : Value) (w : World) (w0 : IsRow .u8 w a0 len0 cap0 z0) (hE : Err w t v) (hp : 0 < w.heap.size) :
    Calls Tryd.prog 3 #[.slice a0 len0 cap0] w fun e w' => e = .returned (.bool true) ∧ Below w.heap.size w w' := by
  by_cases hbig : (1048576 : Int) < (len0 : Int)
  · clear w0 hE
    go_enter Tryd.func3, Tryd.ntmps3
    go_wp2
    go_ret
    exact ⟨rfl, Below.refl _ _⟩
  · have hin := in_of w0 (by omega)
    clear w0
    generalize z0.take len0 = zs at hin
    have hl := hin.1
    have hm := hin.2.1
    have hz := hide hin.2.2.1
    have HIN := hide hin
    have HE := hide hE
    have hxl := decOf_len zs
    obtain ⟨xs, hm0⟩ : ∃ m, (decOf zs).getD [] = m := ⟨_, rfl⟩
    obtain ⟨ok, hk0⟩ : ∃ ok, (decOf zs).isSome = ok := ⟨_, rfl⟩
    have HS : Hid (∀ (W : World) (b g c : Nat), Own W b (.slice (some ⟨g, 0, none⟩) len0 c) zs → Calls Tryd.prog 4 #[.slice (some ⟨g, 0, none⟩) len0 c] W fun e w' => AnsX W.heap.size xs ok e w' ∧ Below W.heap.size W w') :=
      hide (fun W b g c h => (decodeSpec W _ _ c zs (in_own h hl hm hz.out (Nat.le_refl _))).mono (fun e w' h => ⟨by have := h.1; unfold ansS at this; rw [hm0, hk0] at this; exact this, h.2⟩))
    have HM : Hid (∀ (W : World) (b g c : Nat), Below w.heap.size w W → Own W b (.slice (some ⟨g, 0, none⟩) len0 c) zs → Calls Tryd.prog 6 #[.slice (some ⟨g, 0, none⟩) len0 c] W fun e w' => AnsX W.heap.size xs ok e w' ∧ Below W.heap.size W w') :=
      hide (fun W b g c hb h => (decodeImpl W _ _ c zs t v (Nat.lt_of_lt_of_le hp hb.size) (in_own h hl hm hz.out (Nat.le_refl _)) (HE.out.low hb hp)).mono (fun e w' h => ⟨by have := h.1; unfold ansD at this; rw [hm0, hk0] at this; exact this, h.2⟩))
    rw [hm0] at hxl
    clear hm0 hk0 hin hE HE
    unfold AnsX at HS HM
    have HB := hide (Below.refl w.heap.size w)
    have hne : (ok != ok) = false := by simp
    go_enter Tryd.func3, Tryd.ntmps3
    go_wp2_with fail
    refine (copyB _ _ _ _ _ HIN.out).mono ?_
    rintro e w1 ⟨c1, rfl, o1, b1⟩
    have HO1 := hide o1
    replace HB := hide (HB.out.trans (b1.mono HB.out.size))
    clear b1 o1
    go_wp2_with fail
    refine (HS.out _ _ _ _ HO1.out).mono ?_
    rintro e w2 ⟨⟨u, rfl, ow⟩, b2⟩
    obtain ⟨aW, cW, e2⟩ := inss_sl ow
    subst e2
    have hs12 : w.heap.size ≤ w1.heap.size := HB.out.size
    have HW := hide ow
    replace HB := hide (HB.out.trans (b2.mono HB.out.size))
    clear b2 ow HO1
    go_wp2_with fail
    refine (copyB _ _ _ _ _ ((HIN.out.kept HB.out.block).up HB.out.size)).mono ?_
    rintro e w3 ⟨c3, rfl, o3, b3⟩
    have HO3 := hide o3
    have hs3 := b3.size
    have hsw2 := HB.out.size
    replace HB := hide (HB.out.trans (b3.mono HB.out.size))
    replace HW := hide (HW.out.below b3)
    have LX : Hid (∀ q, (Value.slice (some ⟨w2.heap.size, 0, none⟩) len0 c3).ownBlock = some q → w2.heap.size ≤ q ∧ q < w3.heap.size) := hide o3.lt
    clear b3 o3
    go_wp2_with fail
    refine (HM.out _ _ _ _ HB.out HO3.out).mono ?_
    rintro e w4 ⟨⟨u, rfl, oq⟩, b4⟩
    obtain ⟨aQ, cQ, e2⟩ := inss_sl oq
    subst e2
    have HQ := hide oq
    have hs4 := b4.size
    replace HB := hide (HB.out.trans (b4.mono HB.out.size))
    replace HW := hide (HW.out.below b4)
    replace HO3 := hide (HO3.out.below b4)
    clear b4 oq
    go_wp2_with fail
    refine (eqInss _ _ _ xs (HQ.out.rd (Nat.le_refl _)) (HW.out.rd (Nat.le_refl _)) (by omega)).mono ?_
    rintro e w5 ⟨rfl, b5⟩
    have hs5 := b5.size
    replace HB := hide (HB.out.trans (b5.mono HB.out.size))
    replace HW := hide (HW.out.below b5)
    replace HO3 := hide (HO3.out.below b5)
    replace HQ := hide (HQ.out.below b5)
    clear b5
    go_wp2_with fail
    refine (copyB _ _ _ _ _ ((HIN.out.kept HB.out.block).up HB.out.size)).mono ?_
    rintro e w6 ⟨c6, rfl, o6, b6⟩
    have HO6 := hide o6
    have hs6 := b6.size
    replace HB := hide (HB.out.trans (b6.mono HB.out.size))
    replace HW := hide (HW.out.below b6)
    replace HO3 := hide (HO3.out.below b6)
    replace HQ := hide (HQ.out.below b6)
    clear b6 o6
    go_wp2_with fail
    refine (eqB _ _ _ _ _ _ HO3.out HO6.out (by omega)).mono ?_
    rintro e w7 ⟨rfl, q7, rfl⟩
    have b7 := below_drewN (Below.refl w6.heap.size w6) q7
    have hs7 := b7.size
    replace HB := hide (HB.out.trans (b7.mono HB.out.size))
    replace HW := hide (HW.out.below b7)
    replace HO3 := hide (HO3.out.below b7)
    replace HQ := hide (HQ.out.below b7)
    clear b7 HO6
    generalize w6.drewN q7 = w7 at *
    go_wp2_with fail
    refine (mark1 _ _ _ _ HO3.out (by omega)).mono ?_
    rintro e w8 ⟨rfl, _, g8⟩
    have hs8 := g8.size
    have hsB := HB.out.size
    replace HW := hide (HW.out.same (fun q _ hq hq' => g8.block q hq' (fun e => by have := (LX.out q e.symm).1; omega)))
    replace HQ := hide (HQ.out.same (fun q hq _ hq' => g8.block q hq' (fun e => by have := (LX.out q e.symm).2; omega)))
    replace HB := hide (HB.out.grown g8 hsB (fun q hq => by have := (LX.out q hq).1; omega))
    clear g8 HO3 hsB
    have hk1 : ¬ (1 + (zs.length : Int) < 0) := by omega
    go_wp2_with fail
    refine (eqInss _ _ _ xs (HQ.out.rd (Nat.le_refl _)) (HW.out.rd (Nat.le_refl _)) (by omega)).mono ?_
    rintro e w9 ⟨rfl, b9⟩
    have hs9 := b9.size
    replace HB := hide (HB.out.trans (b9.mono HB.out.size))
    replace HW := hide (HW.out.below b9)
    replace HQ := hide (HQ.out.below b9)
    clear b9
    obtain ⟨F, hQ1, hQ2, hQ3⟩ := HQ.out
    have HFl : Hid (∀ q ∈ F, w3.heap.size ≤ q) := hide (fun q hq => (Owns.lt _ _ _ hQ1 q hq).1)
    have HQ1 := hide hQ1
    have HQ2 := hide hQ2
    clear hQ1 hQ2 hQ3 HQ
    go_wp2_with fail
    refine (mkIns _ _ 1 _ xs F HQ1.out HQ2.out (by omega)).mono ?_
    rintro e w10 ⟨rfl, oq2, c10⟩
    have hs10 := c10.size
    have hsB := HB.out.size
    replace HW := hide (HW.out.same (fun q _ hq hq' => c10.block q hq' (fun hm => by have := HFl.out q hm; omega)))
    replace HB := hide (HB.out.trans (c10.below (fun q hm => by have := HFl.out q hm; omega) hsB))
    have HR := hide (Owns.reads (Nat.le_refl w10.heap.size) _ _ _ oq2)
    clear oq2 c10 HQ1 HQ2 hsB
    have hk2 : ¬ ((1 + 2 * xs.length : Nat) : Int) < 0 := by omega
    have hne2 : (((1 + 2 * xs.length : Nat) : Int) != ((1 + 2 * xs.length : Nat) : Int)) = false := by simp
    have HH := hide (fun w v h => heldIns w 1 xs.length v h (by omega))
    generalize (1 + 2 * xs.length : Nat) = kk at *
    go_wp2_with fail
    refine (HH.out _ _ HR.out).mono ?_
    rintro e w11 ⟨rfl, b11⟩
    have hs11 := b11.size
    replace HB := hide (HB.out.trans (b11.mono HB.out.size))
    replace HW := hide (HW.out.below b11)
    replace HR := hide (HR.out.at b11)
    clear b11
    go_wp2_with fail
    refine (copyB _ _ _ _ _ ((HIN.out.kept HB.out.block).up HB.out.size)).mono ?_
    rintro e w12 ⟨c12, rfl, o12, b12⟩
    have HO12 := hide o12
    have hs12' := b12.size
    replace HB := hide (HB.out.trans (b12.mono HB.out.size))
    replace HW := hide (HW.out.below b12)
    replace HR := hide (HR.out.at b12)
    clear b12 o12
    go_wp2_with fail
    refine (HM.out _ _ _ _ HB.out HO12.out).mono ?_
    rintro e w13 ⟨⟨u, rfl, oh⟩, b13⟩
    obtain ⟨aH, cH, e2⟩ := inss_sl oh
    subst e2
    have HH0 := hide oh
    have hs13 := b13.size
    replace HB := hide (HB.out.trans (b13.mono HB.out.size))
    replace HW := hide (HW.out.below b13)
    replace HR := hide (HR.out.at b13)
    clear b13 oh HO12
    go_wp2_with fail
    refine (eqInss _ _ _ xs (HH0.out.rd (Nat.le_refl _)) (HW.out.rd (Nat.le_refl _)) (by omega)).mono ?_
    rintro e w14 ⟨rfl, b14⟩
    replace HB := hide (HB.out.trans (b14.mono HB.out.size))
    replace HW := hide (HW.out.below b14)
    replace HR := hide (HR.out.at b14)
    clear b14
    go_wp2_with fail
    refine (HH.out _ _ HR.out).mono ?_
    rintro e w15 ⟨rfl, b15⟩
    replace HB := hide (HB.out.trans (b15.mono HB.out.size))
    clear b15
    go_wp2
    go_ret
    exact ⟨rfl, HB.out⟩

set_option maxRecDepth 100000 in
set_option maxHeartbeats 1000000 in
theorem lifted (os : Os) (started : os.Started) (H : Type) (enc : TypeId × Value → H) :
    ReturnsInHanded {} Tryd.checked os 3 .any (fun w args => (Rows.fnExactDecodeSpec.pre enc Tryd.prog Tryd.f3 [] false w args ∧ laidMetH Tryd.prog laidL w) ∧ sizedMet enc Tryd.prog Tryd.f3 (OpenSpec.ofChange Rows.fnExactDecodeSpec) false w args)
      (Rows.fnExactDecodeSpec.post enc Tryd.prog Tryd.f3 false true false false) := by
  refine returnsInHanded_of_change_and (C := Tryd.checked) (X := fun w _ => laidMetH Tryd.prog laidL w) (fun _ _ _ hh h => h.of_heap hh) Tryd.own started (by kernel_rfl) Tryd.func3
    (ChangeSpec.witness_shaped (enc := enc) (C := Tryd.checked) (os := os) (X := fun w _ => laidMetH Tryd.prog laidL w) false (World.doorLaid Tryd.prog 28 os) #[.slice none 0 0] 8 rfl (World.shaped_of_RefB (by kernel_rfl) (by kernel_rfl)) (by kernel_rfl) (by kernel_rfl) (by kernel_rfl) (door_met os _)) ?_
  intro W base args ds gs before hval0 hW _ _ hL _
  have hval : ∀ (j : Nat) t v, Tryd.f3.params[j]? = some t → args[j]? = some v → Value.okWide Tryd.prog W .any base t v := hval0
  have hW' := hW
  obtain ⟨p, q, hA0, hV0, rfl, hfz, hnd⟩ := hW
  have hA : DataW.TrodAll enc Tryd.prog W 0 (fun _ => true) true Tryd.f3.params.toList args.toList ds p := hA0
  have hV : DataW.TrodVars enc Tryd.prog W (fun _ => true) ["loop.example/g00283/impl.errNone"] gs q := hV0
  rw [Tryd.params3] at hA hval
  obtain ⟨v0, vs0, d0, ds0, p0, q0, hargs, rfl, rfl, h0, r0⟩ := trodAll_cons hA
  obtain ⟨rfl, rfl, rfl⟩ := trodAll_nil r0
  obtain rfl : args = #[v0] := by cases args; simp_all
  obtain ⟨u, x, hv⟩ := err_of_laid hL
  obtain ⟨hE, hp⟩ := err_cell hv
  obtain ⟨rfl, rfl⟩ := hV.unique (vars_read enc hv _)
  obtain ⟨a0, len0, cap0, rfl⟩ := okWide_slice Tryd.underlying22 (hval 0 22 v0 rfl rfl)
  have k0 := h0
  have lt0 : ∀ x ∈ p0, x.block < W.heap.size := by obtain ⟨m, hm⟩ := k0; exact DataW.trod_lt m _ _ _ hm
  obtain ⟨z0, w0⟩ : ∃ zs, IsRow .u8 W a0 len0 cap0 zs := by
    obtain ⟨fuel, hf⟩ := h0
    rcases open_ints Tryd.underlying22 Tryd.underlying5 (by kernel_rfl) hf with ⟨hcs, _⟩ | ⟨x, l, c, zs, hcs, _, hl, hm, hz, _, hcell, hwz⟩
    · simp [Value.cells] at hcs
      obtain ⟨rfl, rfl, rfl⟩ := hcs
      exact ⟨[], .inl ⟨rfl, rfl, rfl, rfl⟩⟩
    · simp [Value.cells] at hcs
      obtain ⟨rfl, rfl, rfl⟩ := hcs
      exact ⟨zs, .inr ⟨_, rfl, hl, hm, by simpa using hz, hcell, hwz⟩⟩
  clear hA0 hval0 hV0
  refine (walk a0 len0 cap0 z0 u x W w0 hE hp).mono fun e W' ⟨he, bel⟩ => ?_
  subst he
  refine ⟨_, rfl, _, _, _, [], _, [.cell 0 0], hW', trodAll_mk1 (shut_bool Tryd.underlying4 _), (trodAll_cons_mk (Below.trod Tryd.laidOut (by kernel_rfl) (of_decide_eq_true (by kernel_rfl)) k0 bel lt0) trodAll_mk0), ?_, bel.frame _, fun h => by cases h⟩
  exact vars_read enc (var?_below bel gErr hp hv) _

theorem row : Rows.FnExactDecodeSaid :=
  OpenClaim.holds_of_wide 3 Tryd.f3 rfl rfl rfl rfl rfl rfl rfl ⟨rfl, rfl, rfl, rfl, rfl⟩ rfl rfl rfl rfl rfl (by kernel_rfl) Tryd.func3 (by kernel_rfl)
    (of_decide_eq_true (by kernel_rfl)) (by unfold Func.isWrapper; first | (rw [if_pos (by decide +kernel)]; kernel_rfl) | (rw [if_neg (by decide +kernel)]; exact ⟨rfl, rfl⟩))
    (fun os started H enc _ => lifted os started H enc)

theorem card : Rows.FnExactDecodeCardSaid :=
  Claim7.holds_tied_plain_at .later [] [.sentinel] true (true, "14131feaf201463557846e493a9c5f6125ac279c7ef6c241d9b6cd652dc6da5d") false
    row (fun _ h => by cases h) (by kernel_rfl) (fun _ h => by cases h) fnExactDecode_row_tie rfl ⟨rfl, rfl⟩ (by kernel_rfl) rfl
    (fun f fn hf hfn => by
      obtain rfl : f = 3 := Option.some.inj ((show Tryd.prog.funcNamed "loop.example/g00283/laws.FnExactDecode" = some 3 by kernel_rfl).symm.trans hf) |>.symm
      obtain rfl : fn = Tryd.f3 := (Option.some.inj (Tryd.func3.symm.trans hfn)).symm
      exact ⟨by kernel_rfl, fun j t ht => by
        rw [Tryd.params3] at ht
        have hm : t ∈ [22] := by simpa using Array.mem_of_getElem? ht
        have hall : ([22].all fun u => !Tryd.prog.wantsStandIn u) = true := by kernel_rfl
        exact (show Tryd.prog.wantsStandIn t = false by simpa using List.all_eq_true.1 hall t hm)⟩)
    (by kernel_rfl)
end Go.Proofs.YtonkaomfahmchaaDoor.fnExactDecode
namespace Go.Proofs.YtonkaomfahmchaaDoor
theorem fnExactDecode_holds : Rows.FnExactDecodeCardSaid := fnExactDecode.card
#print axioms fnExactDecode_holds
end Go.Proofs.YtonkaomfahmchaaDoor
