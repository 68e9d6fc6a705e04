/-
  Proved: at every code what FnAcked says of a nod of a drawn line holds (it returns true), where the program's own error value holds what its text lays (the card ties it), without any other condition.
-/
import Derived.Test.YtkfnpijljpbiaaaDoorRows
import Derived.Test.YtkfnpijljpbiaaaDoorCards
import Derived.Test.YtkfnpijljpbiaaaDoorTie
import Derived.Test.YtkfnpijljpbiaaaDoorJ1
import Derived.Test.YtkfnpijljpbiaaaDoorJ3
import Derived.Test.YtkfnpijljpbiaaaDoorJ17
import Derived.Test.YtkfnpijljpbiaaaDoorXDrawNd
import Derived.Test.YtkfnpijljpbiaaaDoorXArrNod
import Derived.Test.YtkfnpijljpbiaaaDoorJ28
import Derived.Test.YtkfnpijljpbiaaaDoorJ20
import Derived.Test.YtkfnpijljpbiaaaDoorJ24
import Derived.WalkKit
import Derived.ProofKit
import Derived.OpenShut
import Derived.ShutString
import Derived.ChangeOld
import Derived.Below
import Derived.SevenTiedAt
namespace Go.Proofs.YtkfnpijljpbiaaaDoor.fnAcked
open Go.ChangeShapes Go.WideShapes Go.ChangeAt Go.RowKit
set_option linter.unusedVariables false
theorem alloc2n (w : World) (o1 o2 : Obj) : ((w.alloc o1).alloc o2).heap[w.heap.size + 1]? = some o2 := by
  have := heap_alloc_new (w.alloc o1) o2
  simp only [World.size_alloc] at this
  exact this
theorem alloc2o (w : World) (o1 o2 : Obj) : ((w.alloc o1).alloc o2).heap[w.heap.size]? = some o1 := (Below.heap_alloc (w.alloc o1) o2 w.heap.size (by simp)).trans (heap_alloc_new w o1)
theorem nod_flag (got : Int) (h0 : 0 ≤ got) (h1 : got ≤ 16777215) : rFlag (nodB got) 0 = some (false, 1) ∧ gnF (nodB got) 4 1 0 1 = some (got, (nodB got).length) := by
  have e0 : pn 0 = [0] := by decide
  have p0 : gnF (nodB got) 4 0 0 1 = some (0, 0 + (pn 0).length) := num_put (by omega) (by omega) ⟨pn got, by unfold nodB; simp⟩
  have p1 : gnF (nodB got) 4 1 0 1 = some (got, 1 + (pn got).length) := num_put h0 h1 ⟨[], by unfold nodB; rw [e0]; simp⟩
  refine ⟨?_, ?_⟩
  · unfold rFlag; rw [p0, e0]; rfl
  · rw [p1]; unfold nodB; rw [e0]; simp; omega
set_option maxRecDepth 100000 in
set_option maxHeartbeats 8000000 in
theorem walk (a0 : Option Addr) (len0 cap0 : Nat) (z0 : List Int) (t9 : TypeId) (v9 : Value) (w : World) (w0 : IsRow .u8 w a0 len0 cap0 z0) (hE : Err w t9 v9) (hp : 0 < w.heap.size) :
    Calls Tryd.prog 3 #[.slice a0 len0 cap0] w fun e w' => e = .returned (.bool true) ∧ Below w.heap.size w w' := by
  by_cases hbig : (1048576 : Int) < (len0 : Int)
  · clear w0 hE
    go_enter Tryd.func3, Tryd.ntmps3
    go_wp2_with fail
    refine (bigYes _ _ _ _ hbig).mono ?_
    rintro e w1 ⟨rfl, rfl⟩
    go_wp2
    go_ret
    exact ⟨rfl, Below.refl _ _⟩
  · have hin := in_of w0 (by omega)
    clear w0
    generalize z0.take len0 = zs at hin
    have HI := hide hin
    have HER := hide hE
    clear hin hE
    go_enter Tryd.func3, Tryd.ntmps3
    go_wp2_with fail
    refine (bigNo _ _ _ _ (by omega)).mono ?_
    rintro e x ⟨rfl, hx⟩
    rw [hx]
    clear hx x hbig
    go_wp2_with fail
    refine (drawNod _ _ _ _ _ HI.out).mono ?_
    rintro e w1 ⟨f, t, base, got, v, xs, rfl, hbb, hgo, ho, hsh, b1⟩
    obtain ⟨av, cv, rfl⟩ := ho.shape
    unfold lnV
    have HSH := hide hsh
    have hxl := hsh.2
    have bD := (Below.refl w1.heap.size w1).alloc (Nat.le_refl _) (.cells #[.int .i64 base, .slice av xs.length cv, .int .i64 got] 28)
    have E3 := hide (heap_alloc_new w1 (.cells #[.int .i64 base, .slice av xs.length cv, .int .i64 got] 28))
    have HR := hide ((ho.rd (Nat.le_refl _)).at bD)
    have HB := hide (b1.trans (bD.mono b1.size))
    clear bD b1 ho hsh
    have p0 := (box_of E3.out).1 0 _ rfl
    have p1 := (box_of E3.out).1 1 _ rfl
    have p2 := (box_of E3.out).1 2 _ rfl
    go_wp2_with fail
    clear p0 p1 p2
    generalize w1.alloc (.cells #[.int .i64 base, .slice av xs.length cv, .int .i64 got] 28) = W1 at *
    generalize w1.heap.size = L3 at *
    refine (nodImpl _ f t base got _ (xs.map Prod.fst) HR.out (by simp; omega) HSH.out.good).mono ?_
    rintro e w2 ha
    cases hok : lnOk f t base got (xs.map Prod.fst) with
    | false =>
      have HK : Hid (nodK f t base got (xs.map Prod.fst) = noK) := hide (by unfold nodK; rw [hok]; rfl)
      clear hok
      rw [HK.out] at ha
      unfold noK at ha
      obtain ⟨v7, rfl, o7, b2⟩ := ha
      simp only at o7
      obtain ⟨a7, c7, rfl⟩ := own_shape o7
      simp only [List.length_nil] at o7
      simp only [List.length_nil]
      unfold pkV
      simp only
      have bD := (Below.refl w2.heap.size w2).alloc (Nat.le_refl _) (.cells #[.int .i64 0, .int .i64 0, .slice a7 0 c7, .bool false] 32)
      have E7 := hide (heap_alloc_new w2 (.cells #[.int .i64 0, .int .i64 0, .slice a7 0 c7, .bool false] 32))
      have bE := b2.trans (bD.mono b2.size)
      replace E3 := hide ((bE.block L3 (Array.getElem?_eq_some_iff.1 E3.out).1).trans E3.out)
      replace HR := hide (HR.out.at bE)
      replace HB := hide (HB.out.trans (bE.mono HB.out.size))
      clear bD bE b2 o7
      have p0 := (box_of E3.out).1 0 _ rfl
      have p1 := (box_of E3.out).1 1 _ rfl
      have p2 := (box_of E3.out).1 2 _ rfl
      go_wp2_with fail
      clear p0 p1 p2
      generalize w2.alloc (.cells #[.int .i64 0, .int .i64 0, .slice a7 0 c7, .bool false] 32) = W2 at *
      generalize w2.heap.size = L7 at *
      refine (nodSpec _ f t base got _ (xs.map Prod.fst) HR.out (by simp; omega) HSH.out.good).mono ?_
      rintro e w3 ha
      rw [HK.out] at ha
      unfold noK at ha
      obtain ⟨v8, rfl, o8, b3⟩ := ha
      simp only at o8
      obtain ⟨a8, c8, rfl⟩ := own_shape o8
      simp only [List.length_nil] at o8
      simp only [List.length_nil]
      unfold pkV
      simp only
      have bD := (Below.refl w3.heap.size w3).alloc (Nat.le_refl _) (.cells #[.int .i64 0, .int .i64 0, .slice a8 0 c8, .bool false] 32)
      have bE := b3.trans (bD.mono b3.size)
      replace E3 := hide ((bE.block L3 (Array.getElem?_eq_some_iff.1 E3.out).1).trans E3.out)
      replace E7 := hide ((bE.block L7 (Array.getElem?_eq_some_iff.1 E7.out).1).trans E7.out)
      replace HB := hide (HB.out.trans (bE.mono HB.out.size))
      clear bD bE b3 o8 HR
      go_wp2_with fail
      generalize w3.alloc (.cells #[.int .i64 0, .int .i64 0, .slice a8 0 c8, .bool false] 32) = W3 at *
      have HI3 := hide (HI.out.at HB.out)
      refine (drawSenderOk _ _ _ _ _ HI3.out).mono ?_
      rintro e w4 ⟨rb, rv, rs, rfl, hrb, hro, hrs, b4⟩
      obtain ⟨ra, rc, rfl⟩ := hro.shape
      unfold sndV
      have bD := (Below.refl w4.heap.size w4).alloc (Nat.le_refl _) (.cells #[.int .i64 rb, .slice ra rs.length rc] 26)
      have bE := b4.trans (bD.mono b4.size)
      have E10 := hide (heap_alloc_new w4 (.cells #[.int .i64 rb, .slice ra rs.length rc] 26))
      have HRR := hide ((hro.rd (Nat.le_refl _)).at bD)
      have HRG := hide hrs.good
      have hrl := hrs.2
      replace E3 := hide ((bE.block L3 (Array.getElem?_eq_some_iff.1 E3.out).1).trans E3.out)
      replace E7 := hide ((bE.block L7 (Array.getElem?_eq_some_iff.1 E7.out).1).trans E7.out)
      replace HB := hide (HB.out.trans (bE.mono HB.out.size))
      clear bD bE b4 hro hrs HI3
      have q2 := (box_of E7.out).1 2 _ rfl
      go_wp2
      go_ret
      exact ⟨rfl, HB.out⟩
    | true =>
      have hg2 := (lnOk_all hok).1
      have HK1 : Hid (nodK f t base got (xs.map Prod.fst) = (⟨f, t, sealed (nodB got), false⟩, true)) := hide (by unfold nodK; rw [hok]; rfl)
      have HOP := hide (opened_sealed (nodB got))
      have HFL := hide (nod_flag got hg2.1 hg2.2)
      have hnl := nodB_len got
      have HNB := hide (nodB_byt got)
      have hsl : (sealed (nodB got)).length ≤ 12 := by rw [sealed_len]; omega
      have HSB := hide (sealed_byt _ (nodB_byt got))
      generalize sealed (nodB got) = sl at *
      generalize nodB got = nb at *
      have HK := HK1
      clear hok HK1
      rw [HK.out] at ha
      obtain ⟨v7, rfl, o7, b2⟩ := ha
      simp only at o7
      obtain ⟨a7, c7, rfl⟩ := own_shape o7
      unfold pkV
      simp only
      have bD := (Below.refl w2.heap.size w2).alloc (Nat.le_refl _) (.cells #[.int .i64 f, .int .i64 t, .slice a7 sl.length c7, .bool false] 32)
      have E7 := hide (heap_alloc_new w2 (.cells #[.int .i64 f, .int .i64 t, .slice a7 sl.length c7, .bool false] 32))
      have bE := b2.trans (bD.mono b2.size)
      replace E3 := hide ((bE.block L3 (Array.getElem?_eq_some_iff.1 E3.out).1).trans E3.out)
      replace HR := hide (HR.out.at bE)
      replace HB := hide (HB.out.trans (bE.mono HB.out.size))
      have HU := hide ((o7.below bD).mono (Nat.zero_le _))
      clear bD bE b2 o7
      have p0 := (box_of E3.out).1 0 _ rfl
      have p1 := (box_of E3.out).1 1 _ rfl
      have p2 := (box_of E3.out).1 2 _ rfl
      go_wp2_with fail
      clear p0 p1 p2
      generalize w2.alloc (.cells #[.int .i64 f, .int .i64 t, .slice a7 sl.length c7, .bool false] 32) = W2 at *
      generalize w2.heap.size = L7 at *
      refine (nodSpec _ f t base got _ (xs.map Prod.fst) HR.out (by simp; omega) HSH.out.good).mono ?_
      rintro e w3 ha
      rw [HK.out] at ha
      obtain ⟨v8, rfl, o8, b3⟩ := ha
      simp only at o8
      obtain ⟨a8, c8, rfl⟩ := own_shape o8
      unfold pkV
      simp only
      have bD := (Below.refl w3.heap.size w3).alloc (Nat.le_refl _) (.cells #[.int .i64 f, .int .i64 t, .slice a8 sl.length c8, .bool false] 32)
      have bE := b3.trans (bD.mono b3.size)
      replace E3 := hide ((bE.block L3 (Array.getElem?_eq_some_iff.1 E3.out).1).trans E3.out)
      replace E7 := hide ((bE.block L7 (Array.getElem?_eq_some_iff.1 E7.out).1).trans E7.out)
      replace HB := hide (HB.out.trans (bE.mono HB.out.size))
      replace HU := hide (HU.out.below bE)
      clear bD bE b3 o8 HR
      go_wp2_with fail
      generalize w3.alloc (.cells #[.int .i64 f, .int .i64 t, .slice a8 sl.length c8, .bool false] 32) = W3 at *
      have HI3 := hide (HI.out.at HB.out)
      refine (drawSenderOk _ _ _ _ _ HI3.out).mono ?_
      rintro e w4 ⟨rb, rv, rs, rfl, hrb, hro, hrs, b4⟩
      obtain ⟨ra, rc, rfl⟩ := hro.shape
      unfold sndV
      have bD := (Below.refl w4.heap.size w4).alloc (Nat.le_refl _) (.cells #[.int .i64 rb, .slice ra rs.length rc] 26)
      have bE := b4.trans (bD.mono b4.size)
      have E10 := hide (heap_alloc_new w4 (.cells #[.int .i64 rb, .slice ra rs.length rc] 26))
      have HRR := hide ((hro.rd (Nat.le_refl _)).at bD)
      have HRG := hide hrs.good
      have hrl := hrs.2
      replace E3 := hide ((bE.block L3 (Array.getElem?_eq_some_iff.1 E3.out).1).trans E3.out)
      replace E7 := hide ((bE.block L7 (Array.getElem?_eq_some_iff.1 E7.out).1).trans E7.out)
      replace HB := hide (HB.out.trans (bE.mono HB.out.size))
      replace HU := hide (HU.out.below bE)
      clear bD bE b4 hro hrs HI3
      have q2 := (box_of E7.out).1 2 _ rfl
      have s0 := (box_of E10.out).1 0 _ rfl
      have s1 := (box_of E10.out).1 1 _ rfl
      go_wp2_with fail
      clear q2 s0 s1
      generalize w4.alloc (.cells #[.int .i64 rb, .slice ra rs.length rc] 26) = W4 at *
      generalize w4.heap.size = L10 at *
      have hcap := (in_slice HU.out (by omega) HSB.out (Nat.le_refl _)).2
      have HUI := hide (in_slice HU.out (by omega) HSB.out (Nat.le_refl _)).1
      refine (arriveNod _ rb 3 _ (rs.map Prod.fst) HRR.out (by simp; omega) HRG.out _ _ _ sl nb t9 v9 1 got (Nat.lt_of_lt_of_le hp HB.out.size) HUI.out hcap (HER.out.low HB.out hp) HOP.out HNB.out (by omega) HFL.out.1 HFL.out.2 hg2).mono ?_
      obtain ⟨FB, FM, hfg⟩ : ∃ FB FM, fgR rb got (rs.map Prod.fst) = (FB, FM) := ⟨_, _, rfl⟩
      rw [hfg]
      rintro e w5 ⟨v11, rfl, o11, b5⟩
      simp only at o11
      obtain ⟨a11, c11, rfl⟩ := o11.shape
      unfold lnV
      simp only
      have bD := (Below.refl w5.heap.size w5).alloc (Nat.le_refl _) (.cells #[.int .i64 FB, .slice a11 FM.length c11, .int .i64 3] 28)
      have bF := bD.alloc bD.size (.cells #[.int .i64 0, .int .i64 0, .int .i64 0, .int .i64 0, .int .i64 0, .slice none 0 0, .slice none 0 0] 39)
      have bE := b5.trans (bF.mono b5.size)
      have E11 := hide (alloc2o w5 (.cells #[.int .i64 FB, .slice a11 FM.length c11, .int .i64 3] 28) (.cells #[.int .i64 0, .int .i64 0, .int .i64 0, .int .i64 0, .int .i64 0, .slice none 0 0, .slice none 0 0] 39))
      have E12 := hide (alloc2n w5 (.cells #[.int .i64 FB, .slice a11 FM.length c11, .int .i64 3] 28) (.cells #[.int .i64 0, .int .i64 0, .int .i64 0, .int .i64 0, .int .i64 0, .slice none 0 0, .slice none 0 0] 39))
      replace E3 := hide ((bE.block L3 (Array.getElem?_eq_some_iff.1 E3.out).1).trans E3.out)
      replace E10 := hide ((bE.block L10 (Array.getElem?_eq_some_iff.1 E10.out).1).trans E10.out)
      replace HRR := hide (HRR.out.at bE)
      replace HB := hide (HB.out.trans (bE.mono HB.out.size))
      have HFG := hide hfg
      clear bD bF bE b5 o11 HU HUI E7 hcap hfg
      have q2 := (box_of E3.out).1 2 _ rfl
      have s0 := (box_of E10.out).1 0 _ rfl
      have s1 := (box_of E10.out).1 1 _ rfl
      go_wp2_with fail
      clear q2 s0 s1
      generalize (w5.alloc (.cells #[.int .i64 FB, .slice a11 FM.length c11, .int .i64 3] 28)).alloc (.cells #[.int .i64 0, .int .i64 0, .int .i64 0, .int .i64 0, .int .i64 0, .slice none 0 0, .slice none 0 0] 39) = W5 at *
      generalize w5.heap.size = L11 at *
      refine (forgetImpl _ rb got _ (rs.map Prod.fst) HRR.out (by omega) (by simp; omega) HRG.out).mono ?_
      rintro e w6 ha
      rw [HFG.out] at ha
      obtain ⟨v14, rfl, o14, b6⟩ := ha
      simp only at o14
      obtain ⟨a14, c14, rfl⟩ := o14.shape
      unfold sndV
      simp only
      have bD := (Below.refl w6.heap.size w6).alloc (Nat.le_refl _) (.cells #[.int .i64 FB, .slice a14 FM.length c14] 26)
      have bE := b6.trans (bD.mono b6.size)
      have E14 := hide (heap_alloc_new w6 (.cells #[.int .i64 FB, .slice a14 FM.length c14] 26))
      replace E11 := hide ((bE.block L11 (Array.getElem?_eq_some_iff.1 E11.out).1).trans E11.out)
      replace E12 := hide ((bE.block (L11 + 1) (Array.getElem?_eq_some_iff.1 E12.out).1).trans E12.out)
      replace HB := hide (HB.out.trans (bE.mono HB.out.size))
      clear bD bE b6 o14 E3 E10 HRR
      have x0 := (box_of E11.out).1 0 _ rfl
      have x1 := (box_of E11.out).1 1 _ rfl
      have x2 := (box_of E11.out).1 2 _ rfl
      have y0 := (box_of E12.out).1 0 _ rfl
      have s0 := (box_of E14.out).1 0 _ rfl
      have s1 := (box_of E14.out).1 1 _ rfl
      go_wp2
      go_ret
      exact ⟨rfl, HB.out⟩

set_option maxRecDepth 100000 in
set_option maxHeartbeats 1000000 in
theorem lifted (os : Os) (started : os.Started) (H : Type) (enc : TypeId × Value → H) :
    ReturnsInHanded {} Tryd.checked os 3 .any (fun w args => (Rows.fnAckedSpec.pre enc Tryd.prog Tryd.f3 [] false w args ∧ laidMetH Tryd.prog laidL w) ∧ sizedMet enc Tryd.prog Tryd.f3 (OpenSpec.ofChange Rows.fnAckedSpec) false w args)
      (Rows.fnAckedSpec.post enc Tryd.prog Tryd.f3 false true false false) := by
  refine returnsInHanded_of_change_and (C := Tryd.checked) (X := fun w _ => laidMetH Tryd.prog laidL w) (fun _ _ _ hh h => h.of_heap hh) Tryd.own started (by kernel_rfl) Tryd.func3
    (ChangeSpec.witness_shaped (enc := enc) (C := Tryd.checked) (os := os) (X := fun w _ => laidMetH Tryd.prog laidL w) false (World.doorLaid Tryd.prog 28 os) #[.slice none 0 0] 8 rfl (World.shaped_of_RefB (by kernel_rfl) (by kernel_rfl)) (by kernel_rfl) (by kernel_rfl) (by kernel_rfl) (door_met os _)) ?_
  intro W base args ds gs before hval0 hW _ _ hL _
  have hval : ∀ (j : Nat) t v, Tryd.f3.params[j]? = some t → args[j]? = some v → Value.okWide Tryd.prog W .any base t v := hval0
  have hW' := hW
  obtain ⟨p, q, hA0, hV0, rfl, hfz, hnd⟩ := hW
  have hA : DataW.TrodAll enc Tryd.prog W 0 (fun _ => true) true Tryd.f3.params.toList args.toList ds p := hA0
  have hV : DataW.TrodVars enc Tryd.prog W (fun _ => true) ["loop.example/g00283/impl.errNone"] gs q := hV0
  rw [Tryd.params3] at hA hval
  obtain ⟨v0, vs0, d0, ds0, p0, q0, hargs, rfl, rfl, h0, r0⟩ := trodAll_cons hA
  obtain ⟨rfl, rfl, rfl⟩ := trodAll_nil r0
  obtain rfl : args = #[v0] := by cases args; simp_all
  obtain ⟨u, x, hv⟩ := err_of_laid hL
  obtain ⟨hE, hp⟩ := err_cell hv
  obtain ⟨rfl, rfl⟩ := hV.unique (vars_read enc hv _)
  obtain ⟨a0, len0, cap0, rfl⟩ := okWide_slice Tryd.underlying22 (hval 0 22 v0 rfl rfl)
  have k0 := h0
  have lt0 : ∀ x ∈ p0, x.block < W.heap.size := by obtain ⟨m, hm⟩ := k0; exact DataW.trod_lt m _ _ _ hm
  obtain ⟨z0, w0⟩ : ∃ zs, IsRow .u8 W a0 len0 cap0 zs := by
    obtain ⟨fuel, hf⟩ := h0
    rcases open_ints Tryd.underlying22 Tryd.underlying5 (by kernel_rfl) hf with ⟨hcs, _⟩ | ⟨x, l, c, zs, hcs, _, hl, hm, hz, _, hcell, hwz⟩
    · simp [Value.cells] at hcs
      obtain ⟨rfl, rfl, rfl⟩ := hcs
      exact ⟨[], .inl ⟨rfl, rfl, rfl, rfl⟩⟩
    · simp [Value.cells] at hcs
      obtain ⟨rfl, rfl, rfl⟩ := hcs
      exact ⟨zs, .inr ⟨_, rfl, hl, hm, by simpa using hz, hcell, hwz⟩⟩
  clear hA0 hval0 hV0
  refine (walk a0 len0 cap0 z0 u x W w0 hE hp).mono fun e W' ⟨he, bel⟩ => ?_
  subst he
  refine ⟨_, rfl, _, _, _, [], _, [.cell 0 0], hW', trodAll_mk1 (shut_bool Tryd.underlying4 _), (trodAll_cons_mk (Below.trod Tryd.laidOut (by kernel_rfl) (of_decide_eq_true (by kernel_rfl)) k0 bel lt0) trodAll_mk0), ?_, bel.frame _, fun h => by cases h⟩
  exact vars_read enc (var?_below bel gErr hp hv) _

theorem row : Rows.FnAckedSaid :=
  OpenClaim.holds_of_wide 3 Tryd.f3 rfl rfl rfl rfl rfl rfl rfl ⟨rfl, rfl, rfl, rfl, rfl⟩ rfl rfl rfl rfl rfl (by kernel_rfl) Tryd.func3 (by kernel_rfl)
    (of_decide_eq_true (by kernel_rfl)) (by unfold Func.isWrapper; first | (rw [if_pos (by decide +kernel)]; kernel_rfl) | (rw [if_neg (by decide +kernel)]; exact ⟨rfl, rfl⟩))
    (fun os started H enc _ => lifted os started H enc)

theorem card : Rows.FnAckedCardSaid :=
  Claim7.holds_tied_plain_at .later [] [.sentinel] true (true, "321c7c7b6567801377e1c5f5a81712305a62eeef62ee5176db2f66f0b0dd7ce0") true
    row (fun _ h => by cases h) (by kernel_rfl) (fun _ h => by cases h) fnAcked_row_tie rfl ⟨rfl, rfl⟩ (by kernel_rfl) rfl
    (fun f fn hf hfn => by
      obtain rfl : f = 3 := Option.some.inj ((show Tryd.prog.funcNamed "loop.example/g00283/laws.FnAcked" = some 3 by kernel_rfl).symm.trans hf) |>.symm
      obtain rfl : fn = Tryd.f3 := (Option.some.inj (Tryd.func3.symm.trans hfn)).symm
      exact ⟨by kernel_rfl, fun j t ht => by
        rw [Tryd.params3] at ht
        have hm : t ∈ [22] := by simpa using Array.mem_of_getElem? ht
        have hall : ([22].all fun u => !Tryd.prog.wantsStandIn u) = true := by kernel_rfl
        exact (show Tryd.prog.wantsStandIn t = false by simpa using List.all_eq_true.1 hall t hm)⟩)
    (by kernel_rfl)
end Go.Proofs.YtkfnpijljpbiaaaDoor.fnAcked
namespace Go.Proofs.YtkfnpijljpbiaaaDoor
theorem fnAcked_holds : Rows.FnAckedCardSaid := fnAcked.card
#print axioms fnAcked_holds
end Go.Proofs.YtkfnpijljpbiaaaDoor
