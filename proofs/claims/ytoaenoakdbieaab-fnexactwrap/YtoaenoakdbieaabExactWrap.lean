/-
  Proved: at every two nodes, every line, every place the program's Wrap answers as its model does, in memory of its own, and writes into no argument (the law FnExactWrap returns true), without any condition.
-/
import Derived.Test.YtoaenoakdbieaabRows
import Derived.Test.YtoaenoakdbieaabLineLaw
import Derived.Test.YtoaenoakdbieaabLineR
import Derived.Deep.CutRange
import Derived.Deep.RegionWith
import Derived.BigRegion
import Derived.WalkKit
import Derived.ProofKit
import Derived.OpenShut
import Derived.ShutString
import Derived.ChangeOld
import Derived.Below
namespace Go.Proofs.Ytoaenoakdbieaab.fnExactWrap
open Go.ChangeShapes Go.WideShapes Go.ChangeAt Go.RowKit
open Go.ChangeMaps (open_string shut_string)
set_option linter.unusedVariables false

theorem own : ownKnob Try.prog.godebug = none := by kernel_rfl
theorem laidOut : laidOutB Try.prog = true := by kernel_rfl
set_option maxRecDepth 100000 in
set_option maxHeartbeats 8000000 in
theorem walk (f t : Int) (v0 : Value) (i : Int) (w : World) (_hf : -9223372036854775808 ≤ f ∧ f ≤ 9223372036854775807) (_ht : -9223372036854775808 ≤ t ∧ t ≤ 9223372036854775807) (h0 : IsLine w v0) (_hi : -9223372036854775808 ≤ i ∧ i ≤ 9223372036854775807) :
    Calls Try.prog 4 #[.int .i64 f, .int .i64 t, v0, .int .i64 i] w fun e w' => e = .returned (.bool true) ∧ Below w.heap.size w w' := by
  obtain ⟨base, got, lv, xs, rfl, hrd, hml, hraw⟩ := h0
  have HR := hide (And.intro hrd hraw)
  obtain ⟨_, a, cap, rfl, _⟩ := hrd
  clear hraw
  generalize hn : xs.length = n at *
  have HN := hide hn
  clear hn
  have HX := hide (Bx.new w #[.int .i64 base, .slice a n cap, .int .i64 got] 35)
  have bA := (Below.refl w.heap.size w).alloc (Nat.le_refl _) (.cells #[.int .i64 base, .slice a n cap, .int .i64 got] 35)
  have HB := hide bA
  go_enter Try.func4, Try.ntmps4
  go_wp2_with fail
  refine (szLn _ base got _ xs (by rw [HN.out]; exact HR.out.1.at bA) (fun x hx => (HR.out.2 x hx).below bA) (by rw [HN.out]; exact hml)).mono ?_
  rintro e w1 ⟨r, rfl, hr, b1⟩
  have HRD : Hid (0 ≤ r → r = 1048576 - (totS (xs.map Prod.fst) : Int) ∧ RdS w w.heap.size (.slice a n cap) (xs.map Prod.fst)) := hide (fun h => ⟨(hr h).1, ⟨xs, rfl, by rw [HN.out]; exact HR.out.1, fun x hx => (HR.out.2 x hx).1⟩⟩)
  replace HB := hide (HB.out.trans (b1.mono HB.out.size))
  replace HX := hide (HX.out.below b1)
  clear b1 bA hr HR
  by_cases hr0 : r < 0
  · go_wp2
    go_ret
    exact ⟨rfl, HB.out⟩
  · obtain ⟨ht, hrd⟩ := HRD.out (by omega)
    have hlen : n = (xs.map Prod.fst).length := by rw [← HN.out]; simp
    have htl := totS_len (xs.map Prod.fst)
    clear HRD HN
    generalize xs.map Prod.fst = ms at *
    subst hlen
    have hm2 : ms.length ≤ 1048576 := by omega
    have HT3 : Hid (1 + 5 * totS ms ≤ 50000000) := hide (by omega)
    have HI := hide hrd
    have HGD : Hid (GoodS ms) := hide (goodS (by omega))
    obtain ⟨R, hR⟩ : ∃ R, wrapK f t base got i ms = R := ⟨_, rfl⟩
    have HS : Hid (∀ (W : World) (V : Value), RdS W W.heap.size V ms → Calls Try.prog 14 #[.int .i64 f, .int .i64 t, lnV base got V, .int .i64 i] W (ansK W R)) := hide (fun W V h => hR ▸ wrapSpec W f t base got i V ms h (by omega) HGD.out)
    have HM : Hid (∀ (W : World) (V : Value), RdS W W.heap.size V ms → Calls Try.prog 16 #[.int .i64 f, .int .i64 t, lnV base got V, .int .i64 i] W (ansK W R)) := hide (fun W V h => hR ▸ wrapImpl W f t base got i V ms h (by omega) HGD.out)
    have HGR : Hid (R.1.b.length ≤ 1048576 ∧ Byt R.1.b) := hide (hR ▸ wrapK_good f t base got i ms)
    clear hR hrd ht htl hml
    obtain ⟨⟨fR, tR, bR, sR⟩, okR⟩ := R
    simp only at HGR
    have hlR : bR.length ≤ 1048576 := HGR.out.1
    have hne : (okR != okR) = false := by simp
    have hlt0 := HX.out.lt
    have f0 := (box_of HX.out).1 0 _ rfl
    have f1 := (box_of HX.out).1 1 _ rfl
    have f2 := (box_of HX.out).1 2 _ rfl
    go_wp2_with fail
    refine (toLn _ base got _ ms (HI.out.at HB.out) hm2 HGD.out).mono ?_
    rintro e w2 ⟨v2, rfl, o2, b2⟩
    have hs2 := b2.size
    have HO := hide (o2.rd (Nat.le_refl _))
    replace HB := hide (HB.out.trans (b2.mono HB.out.size))
    replace HX := hide (HX.out.below b2)
    clear b2 o2 f0 f1 f2
    go_wp2_with fail
    refine (HS.out _ _ HO.out).mono ?_
    intro e w3 hans
    obtain ⟨vW, rfl, oW, b3⟩ := ansK_b hans
    clear hans
    obtain ⟨aW, cW, rfl⟩ := oW.shape
    have HW := hide oW
    have hs3 := b3.size
    replace HB := hide (HB.out.trans (b3.mono HB.out.size))
    replace HX := hide (HX.out.below b3)
    clear b3 HO oW
    unfold pkV
    simp only at HW ⊢
    have bD := (Below.refl w3.heap.size w3).alloc (Nat.le_refl _) (.cells #[.int .i64 fR, .int .i64 tR, .slice aW bR.length cW, .bool sR] 39)
    have H6 := hide (Bx.new w3 #[.int .i64 fR, .int .i64 tR, .slice aW bR.length cW, .bool sR] 39)
    have hs3' : (w3.alloc (.cells #[.int .i64 fR, .int .i64 tR, .slice aW bR.length cW, .bool sR] 39)).heap.size = w3.heap.size + 1 := by simp
    replace HB := hide (HB.out.trans (bD.mono HB.out.size))
    replace HX := hide (HX.out.below bD)
    replace HW := hide (HW.out.below bD)
    clear bD
    have f0 := (box_of HX.out).1 0 _ rfl
    have f1 := (box_of HX.out).1 1 _ rfl
    have f2 := (box_of HX.out).1 2 _ rfl
    go_wp2_with fail
    clear f0 f1 f2
    generalize w3.alloc (.cells #[.int .i64 fR, .int .i64 tR, .slice aW bR.length cW, .bool sR] 39) = w3a at *
    refine (toLn _ base got _ ms (HI.out.at HB.out) hm2 HGD.out).mono ?_
    rintro e w4 ⟨vX, rfl, oX, b4⟩
    obtain ⟨aX, cX, rfl⟩ := oX.shape
    have HXO := hide oX
    have hs4 := b4.size
    replace HB := hide (HB.out.trans (b4.mono HB.out.size))
    replace HX := hide (HX.out.below b4)
    replace HW := hide (HW.out.below b4)
    replace H6 := hide (H6.out.below b4)
    clear b4 oX
    unfold lnV
    go_wp2_with fail
    have bD := (Below.refl w4.heap.size w4).alloc (Nat.le_refl _) (.cells #[.int .i64 base, .slice aX ms.length cX, .int .i64 got] 43)
    have H8 := hide (Bx.new w4 #[.int .i64 base, .slice aX ms.length cX, .int .i64 got] 43)
    have hs4' : (w4.alloc (.cells #[.int .i64 base, .slice aX ms.length cX, .int .i64 got] 43)).heap.size = w4.heap.size + 1 := by simp
    replace HB := hide (HB.out.trans (bD.mono HB.out.size))
    replace HX := hide (HX.out.below bD)
    replace HW := hide (HW.out.below bD)
    replace H6 := hide (H6.out.below bD)
    replace HXO := hide (HXO.out.below bD)
    clear bD
    generalize w4.alloc (.cells #[.int .i64 base, .slice aX ms.length cX, .int .i64 got] 43) = w4a at *
    refine (HM.out _ _ (HXO.out.rd (Nat.le_refl _))).mono ?_
    intro e w5 hans
    obtain ⟨vG, rfl, oG, b5⟩ := ansK_b hans
    clear hans
    obtain ⟨aG, cG, rfl⟩ := oG.shape
    have HG := hide oG
    have hs5 := b5.size
    replace HB := hide (HB.out.trans (b5.mono HB.out.size))
    replace HX := hide (HX.out.below b5)
    replace HW := hide (HW.out.below b5)
    replace H6 := hide (H6.out.below b5)
    replace HXO := hide (HXO.out.below b5)
    replace H8 := hide (H8.out.below b5)
    clear b5 oG
    unfold pkV
    simp only at HG ⊢
    have bD := (Below.refl w5.heap.size w5).alloc (Nat.le_refl _) (.cells #[.int .i64 fR, .int .i64 tR, .slice aG bR.length cG, .bool sR] 39)
    have H9 := hide (Bx.new w5 #[.int .i64 fR, .int .i64 tR, .slice aG bR.length cG, .bool sR] 39)
    have hs5' : (w5.alloc (.cells #[.int .i64 fR, .int .i64 tR, .slice aG bR.length cG, .bool sR] 39)).heap.size = w5.heap.size + 1 := by simp
    replace HB := hide (HB.out.trans (bD.mono HB.out.size))
    replace HX := hide (HX.out.below bD)
    replace HW := hide (HW.out.below bD)
    replace H6 := hide (H6.out.below bD)
    replace HXO := hide (HXO.out.below bD)
    replace H8 := hide (H8.out.below bD)
    replace HG := hide (HG.out.below bD)
    clear bD
    have p0 := (box_of H6.out).1 0 _ rfl
    have p1 := (box_of H6.out).1 1 _ rfl
    have p2 := (box_of H6.out).1 2 _ rfl
    have p3 := (box_of H6.out).1 3 _ rfl
    go_wp2_with fail
    generalize w5.alloc (.cells #[.int .i64 fR, .int .i64 tR, .slice aG bR.length cG, .bool sR] 39) = w5a at *
    refine (eqPk _ ⟨fR, tR, bR, sR⟩ _ _ (HG.out.bt HGR.out) (HW.out.bt HGR.out)).mono ?_
    rintro e w6 ⟨rfl, b6⟩
    have hs6 := b6.size
    replace HB := hide (HB.out.trans (b6.mono HB.out.size))
    replace HX := hide (HX.out.below b6)
    replace HW := hide (HW.out.below b6)
    replace H6 := hide (H6.out.below b6)
    replace HXO := hide (HXO.out.below b6)
    replace H8 := hide (H8.out.below b6)
    replace HG := hide (HG.out.below b6)
    replace H9 := hide (H9.out.below b6)
    clear b6 p0 p1 p2 p3
    have f0 := (box_of HX.out).1 0 _ rfl
    have f1 := (box_of HX.out).1 1 _ rfl
    have f2 := (box_of HX.out).1 2 _ rfl
    have g0 := (box_of H8.out).1 0 _ rfl
    have g1 := (box_of H8.out).1 1 _ rfl
    have g2 := (box_of H8.out).1 2 _ rfl
    have hg8 := H8.out.lt
    go_wp2_with fail
    go_cut [57] from 53 to 57 (fun s wq => s = .bool false ∧ Below w6.heap.size w6 wq)
    case first =>
      have HQ : Hid (RdS w6.drew w6.drew.heap.size (.slice a ms.length cap) ms) := hide ((HI.out.at HB.out).drewN 1)
      go_region_with (first
        | (go_at_call 15; refine (toLn _ base got _ ms HQ.out hm2 HGD.out).mono ?_; rintro e w7 ⟨v7, rfl, o7, b7⟩; have HO7 := hide (o7.rd (Nat.le_refl _)); have HY7 := hide (H8.out.below (below_of_drew b7)); have y0 := (box_of HY7.out).1 0 _ rfl; have y1 := (box_of HY7.out).1 1 _ rfl; have y2 := (box_of HY7.out).1 2 _ rfl; have HB7 := hide (below_of_drew b7); have K7 := hide ((HXO.out.below (below_of_drew b7)).rd (Nat.le_refl _)); obtain ⟨a7, c7, rfl⟩ := o7.shape; clear b7 o7; unfold lnV)
        | (go_at_call 18; refine (eqLn _ base got _ _ ms _ _ K7.out HO7.out (Nat.le_refl _) (Nat.le_refl _) hm2 HGD.out).mono ?_; rintro e w8 ⟨rfl, b8⟩; have HB8 := hide (HB7.out.trans (b8.mono HB7.out.size)); clear b8))
      all_goals (go_wp2_with fail; go_meet; exact ⟨rfl, HB8.out⟩)
    case rest =>
      obtain ⟨rfl, b9⟩ := hcut
      have hs9 := b9.size
      replace HB := hide (HB.out.trans (b9.mono HB.out.size))
      replace HX := hide (HX.out.below b9)
      replace HW := hide (HW.out.below b9)
      replace H6 := hide (H6.out.below b9)
      replace HXO := hide (HXO.out.below b9)
      replace H8 := hide (H8.out.below b9)
      replace HG := hide (HG.out.below b9)
      replace H9 := hide (H9.out.below b9)
      clear b9 f0 f1 f2 g0 g1 g2 hg8
      have g0 := (box_of H8.out).1 0 _ rfl
      have g1 := (box_of H8.out).1 1 _ rfl
      have g2 := (box_of H8.out).1 2 _ rfl
      go_wp2_with fail
      refine (markLn1 _ _ _ base got _ ms HXO.out HGD.out HT3.out).mono ?_
      rintro e w10 ⟨rfl, _, ob⟩
      have hsB := HB.out.size
      have hsA := ob.size
      replace HB := hide (HB.out.trans (ob.below (by omega) HB.out.size))
      replace HX := hide (HX.out.out ob (by omega))
      replace HW := hide (HW.out.out ob (by omega))
      replace H6 := hide (H6.out.out ob (by omega))
      replace H8 := hide (H8.out.out ob (by omega))
      replace HG := hide (HG.out.out ob (by omega))
      replace H9 := hide (H9.out.out ob (by omega))
      clear ob g0 g1 g2 HXO H8
      have hk0 : ¬ (((endS 1 ms : Nat) : Int) < 0) := by omega
      have p0 := (box_of H6.out).1 0 _ rfl
      have p1 := (box_of H6.out).1 1 _ rfl
      have p2 := (box_of H6.out).1 2 _ rfl
      have p3 := (box_of H6.out).1 3 _ rfl
      have k0 := (box_of H9.out).1 0 _ rfl
      have k1 := (box_of H9.out).1 1 _ rfl
      have k2 := (box_of H9.out).1 2 _ rfl
      have k3 := (box_of H9.out).1 3 _ rfl
      go_wp2_with fail
      refine (eqPk _ ⟨fR, tR, bR, sR⟩ _ _ (HG.out.bt HGR.out) (HW.out.bt HGR.out)).mono ?_
      rintro e w11 ⟨rfl, b11⟩
      have hs11 := b11.size
      replace HB := hide (HB.out.trans (b11.mono HB.out.size))
      replace HX := hide (HX.out.below b11)
      replace HW := hide (HW.out.below b11)
      replace H6 := hide (H6.out.below b11)
      replace HG := hide (HG.out.below b11)
      replace H9 := hide (H9.out.below b11)
      clear b11 p0 p1 p2 p3 k0 k1 k2 k3 hk0
      have k0 := (box_of H9.out).1 0 _ rfl
      have k1 := (box_of H9.out).1 1 _ rfl
      have k2 := (box_of H9.out).1 2 _ rfl
      have k3 := (box_of H9.out).1 3 _ rfl
      go_wp2_with fail
      refine (markPkB _ _ _ ⟨fR, tR, bR, sR⟩ _ HG.out hlR).mono ?_
      rintro e w12 ⟨rfl, oG, ob⟩
      have hsB := HB.out.size
      have hsC := ob.size
      replace HB := hide (HB.out.trans (ob.below (by omega) HB.out.size))
      replace HX := hide (HX.out.out ob (by omega))
      replace HW := hide (HW.out.out ob (by omega))
      replace H6 := hide (H6.out.out ob (by omega))
      replace H9 := hide (H9.out.out ob (by omega))
      replace HG := hide oG
      clear ob oG k0 k1 k2 k3
      simp only at HG
      have hk1 : ¬ (((1 + bR.length : Nat) : Int) < 0) := by omega
      have hk2 : (((1 + bR.length : Nat) : Int) != ((1 + bR.length : Nat) : Int)) = false := by simp
      have k0 := (box_of H9.out).1 0 _ rfl
      have k1 := (box_of H9.out).1 1 _ rfl
      have k2 := (box_of H9.out).1 2 _ rfl
      have k3 := (box_of H9.out).1 3 _ rfl
      go_wp2_with fail
      refine (heldPkB _ _ _ ⟨fR, tR, bR, sR⟩ _ HG.out hlR).mono ?_
      rintro e w13 ⟨rfl, b13⟩
      have hs13 := b13.size
      replace HB := hide (HB.out.trans (b13.mono HB.out.size))
      replace HX := hide (HX.out.below b13)
      replace HW := hide (HW.out.below b13)
      replace H6 := hide (H6.out.below b13)
      replace HG := hide (HG.out.below b13)
      replace H9 := hide (H9.out.below b13)
      clear b13 k0 k1 k2 k3
      have f0 := (box_of HX.out).1 0 _ rfl
      have f1 := (box_of HX.out).1 1 _ rfl
      have f2 := (box_of HX.out).1 2 _ rfl
      go_wp2_with fail
      refine (toLn _ base got _ ms (HI.out.at HB.out) hm2 HGD.out).mono ?_
      rintro e w14 ⟨v14, rfl, o14, b14⟩
      have HO := hide (o14.rd (Nat.le_refl _))
      replace HB := hide (HB.out.trans (b14.mono HB.out.size))
      replace HX := hide (HX.out.below b14)
      replace HW := hide (HW.out.below b14)
      replace H6 := hide (H6.out.below b14)
      replace HG := hide (HG.out.below b14)
      replace H9 := hide (H9.out.below b14)
      clear b14 o14 f0 f1 f2
      go_wp2_with fail
      refine (HM.out _ _ HO.out).mono ?_
      intro e w15 hans
      obtain ⟨vH, rfl, oH, b15⟩ := ansK_b hans
      clear hans
      obtain ⟨aH, cH, rfl⟩ := oH.shape
      have HH := hide oH
      replace HB := hide (HB.out.trans (b15.mono HB.out.size))
      replace HX := hide (HX.out.below b15)
      replace HW := hide (HW.out.below b15)
      replace H6 := hide (H6.out.below b15)
      replace HG := hide (HG.out.below b15)
      replace H9 := hide (H9.out.below b15)
      clear b15 oH HO
      unfold pkV
      simp only at HH ⊢
      have bD := (Below.refl w15.heap.size w15).alloc (Nat.le_refl _) (.cells #[.int .i64 fR, .int .i64 tR, .slice aH bR.length cH, .bool sR] 39)
      replace HB := hide (HB.out.trans (bD.mono HB.out.size))
      replace HX := hide (HX.out.below bD)
      replace HW := hide (HW.out.below bD)
      replace H6 := hide (H6.out.below bD)
      replace HG := hide (HG.out.below bD)
      replace H9 := hide (H9.out.below bD)
      replace HH := hide (HH.out.below bD)
      clear bD
      have p0 := (box_of H6.out).1 0 _ rfl
      have p1 := (box_of H6.out).1 1 _ rfl
      have p2 := (box_of H6.out).1 2 _ rfl
      have p3 := (box_of H6.out).1 3 _ rfl
      go_wp2_with fail
      generalize w15.alloc (.cells #[.int .i64 fR, .int .i64 tR, .slice aH bR.length cH, .bool sR] 39) = w15a at *
      refine (eqPk _ ⟨fR, tR, bR, sR⟩ _ _ (HH.out.bt HGR.out) (HW.out.bt HGR.out)).mono ?_
      rintro e w16 ⟨rfl, b16⟩
      replace HB := hide (HB.out.trans (b16.mono HB.out.size))
      replace HG := hide (HG.out.below b16)
      replace H9 := hide (H9.out.below b16)
      clear b16 p0 p1 p2 p3
      have k0 := (box_of H9.out).1 0 _ rfl
      have k1 := (box_of H9.out).1 1 _ rfl
      have k2 := (box_of H9.out).1 2 _ rfl
      have k3 := (box_of H9.out).1 3 _ rfl
      go_wp2_with fail
      refine (heldPkB _ _ _ ⟨fR, tR, bR, sR⟩ _ HG.out hlR).mono ?_
      rintro e w17 ⟨rfl, b17⟩
      replace HB := hide (HB.out.trans (b17.mono HB.out.size))
      clear b17 k0 k1 k2 k3
      go_wp2
      go_ret
      exact ⟨rfl, HB.out⟩

set_option maxRecDepth 100000 in
theorem lifted (os : Os) (started : os.Started) (H : Type) (enc : TypeId × Value → H) :
    ReturnsInHanded {} Try.checked os 4 .any (Rows.fnExactWrapSpec.pre6 enc Try.prog Try.f4 Rows.fnExactWrapRow.domain false) (Rows.fnExactWrapSpec.post enc Try.prog Try.f4 false true false false) := by
  refine returnsInHanded_of_change (C := Try.checked) own started (by kernel_rfl) Try.func4
    (ChangeSpec.witness6 (enc := enc) (C := Try.checked) false ⟨#[], #[.int .i64 0, .int .i64 0, .agg #[.int .i64 0, .slice none 0 0, .int .i64 0], .int .i64 0], []⟩ 8 (by kernel_rfl) (by kernel_rfl) (by kernel_rfl) (by kernel_rfl)) ?_
  intro W base args ds gs before hval0 hW hcnd _
  have hval : ∀ (j : Nat) t v, Try.f4.params[j]? = some t → args[j]? = some v → Value.okWide Try.prog W .any base t v := hval0
  have hW' := hW
  obtain ⟨p, q, hA0, hV, rfl, hfz, hnd⟩ := hW
  have hA : DataW.TrodAll enc Try.prog W 0 (fun _ => true) true Try.f4.params.toList args.toList ds p := hA0
  rw [Try.params4] at hA hval
  obtain ⟨v0, vs0, d0, ds0, p0, q0, hargs, rfl, rfl, h0, r0⟩ := trodAll_cons hA
  obtain ⟨v1, vs1, d1, ds1, p1, q1, rfl, rfl, rfl, h1, r1⟩ := trodAll_cons r0
  obtain ⟨v2, vs2, d2, ds2, p2, q2, rfl, rfl, rfl, h2, r2⟩ := trodAll_cons r1
  obtain ⟨v3, vs3, d3, ds3, p3, q3, rfl, rfl, rfl, h3, r3⟩ := trodAll_cons r2
  obtain ⟨rfl, rfl, rfl⟩ := trodAll_nil r3
  obtain rfl : args = #[v0, v1, v2, v3] := by cases args; simp_all
  obtain ⟨rfl, rfl⟩ := trodVars_none hV
  obtain ⟨a0, rfl, rfl, rfl, w0⟩ := open_int Try.underlying3 (hval 0 3 v0 rfl rfl) h0
  obtain ⟨a1, rfl, rfl, rfl, w1⟩ := open_int Try.underlying3 (hval 1 3 v1 rfl rfl) h1
  have k2 := h2
  have lt2 : ∀ x ∈ p2, x.block < W.heap.size := by obtain ⟨m, hm⟩ := k2; exact DataW.trod_lt m _ _ _ hm
  have w2 := openLine (hval 2 35 v2 rfl rfl) h2
  obtain ⟨a3, rfl, rfl, rfl, w3⟩ := open_int Try.underlying3 (hval 3 3 v3 rfl rfl) h3
  clear hA0 hval0
  refine (walk a0 a1 v2 a3 W (bounds_i64 w0) (bounds_i64 w1) w2 (bounds_i64 w3)).mono fun e W' ⟨he, bel⟩ => ?_
  subst he
  exact ⟨_, rfl, _, _, _, [], _, [], hW', trodAll_mk1 (shut_bool Try.underlying4 _), (trodAll_cons_mk (shut_int Try.underlying3 w0) (trodAll_cons_mk (shut_int Try.underlying3 w1) (trodAll_cons_mk (Below.trod laidOut (by kernel_rfl) (of_decide_eq_true (by kernel_rfl)) k2 bel lt2) (trodAll_cons_mk (shut_int Try.underlying3 w3) trodAll_mk0)))), rfl, bel.frame _, fun h => by cases h⟩

theorem over : Rows.fnExactWrapRow.holds Try.pinned (OpenSpec.ofChange Rows.fnExactWrapSpec) :=
  OpenClaim.holds_of_wide 4 Try.f4 rfl rfl rfl rfl rfl rfl rfl ⟨rfl, rfl, rfl, rfl, rfl⟩ rfl rfl rfl rfl rfl (by kernel_rfl) Try.func4 (by kernel_rfl)
    (of_decide_eq_true (by kernel_rfl)) (by unfold Func.isWrapper; first | (rw [if_pos (by decide +kernel)]; kernel_rfl) | (rw [if_neg (by decide +kernel)]; exact ⟨rfl, rfl⟩))
    (fun os started H enc _ => lifted os started H enc)

end Go.Proofs.Ytoaenoakdbieaab.fnExactWrap
namespace Go.Proofs.Ytoaenoakdbieaab
theorem fnExactWrap_holds : Rows.FnExactWrapSaid := fnExactWrap.over
#print axioms fnExactWrap_holds
end Go.Proofs.Ytoaenoakdbieaab
