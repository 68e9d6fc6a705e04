/-
  Proved: at every row of bytes the program's MsgOf answers as its model does, in memory of its own, and writes into no argument (the law FnExactMsgOf returns true), where the program's own error value holds what its text lays (the card ties it), without any other condition.
-/
import Derived.Test.YtbkhlaiifbdfoaaDoorRows
import Derived.Test.YtbkhlaiifbdfoaaDoorCards
import Derived.Test.YtbkhlaiifbdfoaaDoorTie
import Derived.Test.YtbkhlaiifbdfoaaDoorJ1
import Derived.Test.YtbkhlaiifbdfoaaDoorJ6
import Derived.Test.YtbkhlaiifbdfoaaDoorJ8
import Derived.WalkKit
import Derived.ProofKit
import Derived.OpenShut
import Derived.ShutString
import Derived.ChangeOld
import Derived.Below
import Derived.SevenTiedAt
namespace Go.Proofs.YtbkhlaiifbdfoaaDoor.fnExactMsgOf
open Go.ChangeShapes Go.WideShapes Go.ChangeAt Go.RowKit
set_option linter.unusedVariables false

set_option maxRecDepth 100000 in
set_option maxHeartbeats 8000000 in
theorem walk (a0 : Option Addr) (len0 cap0 : Nat) (z0 : List Int) (t : TypeId) (v : Value) (w : World) (w0 : IsRow .u8 w a0 len0 cap0 z0) (hE : Err w t v) (hp : 0 < w.heap.size) :
    Calls Tryd.prog 4 #[.slice a0 len0 cap0] w fun e w' => e = .returned (.bool true) ∧ Below w.heap.size w w' := by
  by_cases hbig : (1048576 : Int) < (len0 : Int)
  · clear w0 hE
    go_enter Tryd.func4, Tryd.ntmps4
    go_wp2
    go_ret
    exact ⟨rfl, Below.refl _ _⟩
  · have hin := in_of w0 (by omega)
    clear w0
    generalize z0.take len0 = zs at hin
    have hl := hin.1
    have hm := hin.2.1
    have hz := hide hin.2.2.1
    have HIN := hide hin
    have HE := hide hE
    have HLM := hide (mOf_lens (zs := zs))
    obtain ⟨m, hm0⟩ : ∃ m, (mOf zs).getD M0 = m := ⟨_, rfl⟩
    obtain ⟨ok, hk0⟩ : ∃ ok, (mOf zs).isSome = ok := ⟨_, rfl⟩
    have HS : Hid (∀ (W : World) (b g c : Nat), Own W b (.slice (some ⟨g, 0, none⟩) len0 c) zs → Calls Tryd.prog 13 #[.slice (some ⟨g, 0, none⟩) len0 c] W fun e w' => AnsM W.heap.size m ok e w' ∧ Below W.heap.size W w') :=
      hide (fun W b g c h => (msgOfSpec W _ _ _ zs (in_own h hl hm hz.out (Nat.le_refl _)) (cap_own h hl)).mono (fun e w' h => ⟨by have := ansM_of h.1; rw [hm0, hk0] at this; exact this, h.2⟩))
    have HM : Hid (∀ (W : World) (b g c : Nat), Below w.heap.size w W → Own W b (.slice (some ⟨g, 0, none⟩) len0 c) zs → Calls Tryd.prog 10 #[.slice (some ⟨g, 0, none⟩) len0 c] W fun e w' => AnsM W.heap.size m ok e w' ∧ Below W.heap.size W w') :=
      hide (fun W b g c hb h => (msgOfImpl W _ _ c zs t v (Nat.lt_of_lt_of_le hp hb.size) (in_own h hl hm hz.out (Nat.le_refl _)) (HE.out.low hb hp)).mono (fun e w' h => ⟨by have := ansM_of h.1; rw [hm0, hk0] at this; exact this, h.2⟩))
    rw [hm0] at HLM
    clear hm0 hk0 hin hE HE
    obtain ⟨k, i, u, c, n, cs, ns⟩ := m
    unfold AnsM at HS HM
    simp only at HS HM HLM
    obtain ⟨hmc, hmn⟩ := HLM.out
    clear HLM
    have HB := hide (Below.refl w.heap.size w)
    have hne : (ok != ok) = false := by simp
    go_enter Tryd.func4, Tryd.ntmps4
    go_wp2_with fail
    refine (copyB _ _ _ _ _ HIN.out).mono ?_
    rintro e w1 ⟨c1, rfl, o1, b1⟩
    have hs1 := b1.size
    have HO1 := hide o1
    replace HB := hide (HB.out.trans (b1.mono HB.out.size))
    clear b1 o1
    go_wp2_with fail
    refine (HS.out _ _ _ _ HO1.out).mono ?_
    rintro e w2 ⟨⟨aW, cW, aV, cV, rfl, oC, oN, _⟩, b2⟩
    have HWC := hide oC
    have HWN := hide oN
    have LC := hide (fun q hq => (oC.lt q hq).2)
    have LN := hide (fun q hq => (oN.lt q hq).2)
    have hs2 := b2.size
    replace HB := hide (HB.out.trans (b2.mono HB.out.size))
    clear b2 oC oN HO1
    have bD := (Below.refl w2.heap.size w2).alloc (Nat.le_refl _) (.cells #[.int .i64 k, .int .i64 i, .int .i64 u, .int .i64 c, .int .i64 n, .slice aW cs.length cW, .slice aV ns.length cV] 27)
    have H3 := hide (Bx.new w2 #[.int .i64 k, .int .i64 i, .int .i64 u, .int .i64 c, .int .i64 n, .slice aW cs.length cW, .slice aV ns.length cV] 27)
    have hsw2' : (w2.alloc (.cells #[.int .i64 k, .int .i64 i, .int .i64 u, .int .i64 c, .int .i64 n, .slice aW cs.length cW, .slice aV ns.length cV] 27)).heap.size = w2.heap.size + 1 := by simp
    replace HB := hide (HB.out.trans (bD.mono HB.out.size))
    replace HWC := hide (HWC.out.below bD)
    replace HWN := hide (HWN.out.below bD)
    clear bD
    go_wp2_with fail
    generalize w2.alloc (.cells #[.int .i64 k, .int .i64 i, .int .i64 u, .int .i64 c, .int .i64 n, .slice aW cs.length cW, .slice aV ns.length cV] 27) = w2a at *
    have HSA := hide hsw2'
    clear hsw2'
    refine (copyB _ _ _ _ _ ((HIN.out.kept HB.out.block).up HB.out.size)).mono ?_
    rintro e w3 ⟨c3, rfl, o3, b3⟩
    have HX := hide o3
    have LX := hide o3.lt
    have hs3 := b3.size
    replace HB := hide (HB.out.trans (b3.mono HB.out.size))
    replace HWC := hide (HWC.out.below b3)
    replace HWN := hide (HWN.out.below b3)
    replace H3 := hide (H3.out.below b3)
    clear b3 o3
    go_wp2_with fail
    refine (HM.out _ _ _ _ HB.out HX.out).mono ?_
    rintro e w4 ⟨⟨aG, cG, aU, cU, rfl, oC, oN, hd⟩, b4⟩
    have HGC := hide oC
    have HGN := hide oN
    have HGD := hide hd
    have L5 := hide oC.lt
    have L6 := hide oN.lt
    have hs4 := b4.size
    replace HB := hide (HB.out.trans (b4.mono HB.out.size))
    replace HWC := hide (HWC.out.below b4)
    replace HWN := hide (HWN.out.below b4)
    replace H3 := hide (H3.out.below b4)
    replace HX := hide (HX.out.below b4)
    clear b4 oC oN hd
    have bD := (Below.refl w4.heap.size w4).alloc (Nat.le_refl _) (.cells #[.int .i64 k, .int .i64 i, .int .i64 u, .int .i64 c, .int .i64 n, .slice aG cs.length cG, .slice aU ns.length cU] 27)
    have H6 := hide (Bx.new w4 #[.int .i64 k, .int .i64 i, .int .i64 u, .int .i64 c, .int .i64 n, .slice aG cs.length cG, .slice aU ns.length cU] 27)
    have hsw4' : (w4.alloc (.cells #[.int .i64 k, .int .i64 i, .int .i64 u, .int .i64 c, .int .i64 n, .slice aG cs.length cG, .slice aU ns.length cU] 27)).heap.size = w4.heap.size + 1 := by simp
    replace HB := hide (HB.out.trans (bD.mono HB.out.size))
    replace HWC := hide (HWC.out.below bD)
    replace HWN := hide (HWN.out.below bD)
    replace H3 := hide (H3.out.below bD)
    replace HX := hide (HX.out.below bD)
    replace HGC := hide (HGC.out.below bD)
    replace HGN := hide (HGN.out.below bD)
    clear bD
    have p0 := (box_of H3.out).1 0 _ rfl
    have p1 := (box_of H3.out).1 1 _ rfl
    have p2 := (box_of H3.out).1 2 _ rfl
    have p3 := (box_of H3.out).1 3 _ rfl
    have p4 := (box_of H3.out).1 4 _ rfl
    have p5 := (box_of H3.out).1 5 _ rfl
    have p6 := (box_of H3.out).1 6 _ rfl
    go_wp2_with fail
    generalize w4.alloc (.cells #[.int .i64 k, .int .i64 i, .int .i64 u, .int .i64 c, .int .i64 n, .slice aG cs.length cG, .slice aU ns.length cU] 27) = w4a at *
    have HSB := hide hsw4'
    clear hsw4'
    refine (eqMsg _ k i u c n _ _ _ _ cs ns (HGC.out.rd (Nat.le_refl _)) (HGN.out.rd (Nat.le_refl _)) (HWC.out.rd (Nat.le_refl _)) (HWN.out.rd (Nat.le_refl _)) hmc hmn).mono ?_
    rintro e w5 ⟨rfl, b5⟩
    have hs5 := b5.size
    replace HB := hide (HB.out.trans (b5.mono HB.out.size))
    replace HWC := hide (HWC.out.below b5)
    replace HWN := hide (HWN.out.below b5)
    replace H3 := hide (H3.out.below b5)
    replace HX := hide (HX.out.below b5)
    replace HGC := hide (HGC.out.below b5)
    replace HGN := hide (HGN.out.below b5)
    replace H6 := hide (H6.out.below b5)
    clear b5 p0 p1 p2 p3 p4 p5 p6
    go_wp2_with fail
    refine (copyB _ _ _ _ _ ((HIN.out.kept HB.out.block).up HB.out.size)).mono ?_
    rintro e w6 ⟨c6, rfl, o6, b6⟩
    have HO6 := hide o6
    have hs6 := b6.size
    replace HB := hide (HB.out.trans (b6.mono HB.out.size))
    replace HWC := hide (HWC.out.below b6)
    replace HWN := hide (HWN.out.below b6)
    replace H3 := hide (H3.out.below b6)
    replace HX := hide (HX.out.below b6)
    replace HGC := hide (HGC.out.below b6)
    replace HGN := hide (HGN.out.below b6)
    replace H6 := hide (H6.out.below b6)
    clear b6 o6
    go_wp2_with fail
    refine (eqB _ _ _ _ _ _ HX.out HO6.out (by omega)).mono ?_
    rintro e w7 ⟨rfl, q7, rfl⟩
    have b7 := below_drewN (Below.refl w6.heap.size w6) q7
    have hs7 := b7.size
    replace HB := hide (HB.out.trans (b7.mono HB.out.size))
    replace HWC := hide (HWC.out.below b7)
    replace HWN := hide (HWN.out.below b7)
    replace H3 := hide (H3.out.below b7)
    replace HX := hide (HX.out.below b7)
    replace HGC := hide (HGC.out.below b7)
    replace HGN := hide (HGN.out.below b7)
    replace H6 := hide (H6.out.below b7)
    clear b7 HO6
    generalize w6.drewN q7 = w7 at *
    go_wp2_with fail
    refine (mark1 _ _ _ _ HX.out (by omega)).mono ?_
    rintro e w8 ⟨rfl, _, g8⟩
    have hs8 := g8.size
    have e2 := HSA.out
    have e4 := HSB.out
    have hsB := HB.out.size
    replace HWC := hide (HWC.out.kept g8 (fun q hq e => by have := LC.out q hq; have := (LX.out q e).1; omega))
    replace HWN := hide (HWN.out.kept g8 (fun q hq e => by have := LN.out q hq; have := (LX.out q e).1; omega))
    replace HGC := hide (HGC.out.kept g8 (fun q hq e => by have := (L5.out q hq).1; have := (LX.out q e).2; omega))
    replace HGN := hide (HGN.out.kept g8 (fun q hq e => by have := (L6.out q hq).1; have := (LX.out q e).2; omega))
    replace H3 := hide (H3.out.kept g8 (fun e => by have := (LX.out _ e).1; omega))
    replace H6 := hide (H6.out.kept g8 (fun e => by have := (LX.out _ e).2; omega))
    replace HB := hide (HB.out.grown g8 hsB (fun q hq => by have := (LX.out q hq).1; omega))
    clear g8 HX e2 e4
    have hk1 : ¬ (1 + (zs.length : Int) < 0) := by omega
    have p0 := (box_of H3.out).1 0 _ rfl
    have p1 := (box_of H3.out).1 1 _ rfl
    have p2 := (box_of H3.out).1 2 _ rfl
    have p3 := (box_of H3.out).1 3 _ rfl
    have p4 := (box_of H3.out).1 4 _ rfl
    have p5 := (box_of H3.out).1 5 _ rfl
    have p6 := (box_of H3.out).1 6 _ rfl
    have r0 := (box_of H6.out).1 0 _ rfl
    have r1 := (box_of H6.out).1 1 _ rfl
    have r2 := (box_of H6.out).1 2 _ rfl
    have r3 := (box_of H6.out).1 3 _ rfl
    have r4 := (box_of H6.out).1 4 _ rfl
    have r5 := (box_of H6.out).1 5 _ rfl
    have r6 := (box_of H6.out).1 6 _ rfl
    go_wp2_with fail
    refine (eqMsg _ k i u c n _ _ _ _ cs ns (HGC.out.rd (Nat.le_refl _)) (HGN.out.rd (Nat.le_refl _)) (HWC.out.rd (Nat.le_refl _)) (HWN.out.rd (Nat.le_refl _)) hmc hmn).mono ?_
    rintro e w9 ⟨rfl, b9⟩
    have hs9 := b9.size
    replace HB := hide (HB.out.trans (b9.mono HB.out.size))
    replace HWC := hide (HWC.out.below b9)
    replace HWN := hide (HWN.out.below b9)
    replace H3 := hide (H3.out.below b9)
    replace HGC := hide (HGC.out.below b9)
    replace HGN := hide (HGN.out.below b9)
    replace H6 := hide (H6.out.below b9)
    clear b9 p0 p1 p2 p3 p4 p5 p6 r0 r1 r2 r3 r4 r5 r6 hk1
    have r0 := (box_of H6.out).1 0 _ rfl
    have r1 := (box_of H6.out).1 1 _ rfl
    have r2 := (box_of H6.out).1 2 _ rfl
    have r3 := (box_of H6.out).1 3 _ rfl
    have r4 := (box_of H6.out).1 4 _ rfl
    have r5 := (box_of H6.out).1 5 _ rfl
    have r6 := (box_of H6.out).1 6 _ rfl
    go_wp2_with fail
    refine (markMsg _ _ _ k i u c n _ _ cs ns HGC.out HGN.out HGD.out hmc hmn).mono ?_
    rintro e w10 ⟨rfl, o5, o6, wm, gA, gB⟩
    have hsA := gA.size
    have e2 := HSA.out
    have e4 := HSB.out
    have hsC := gB.size
    have hsD := HB.out.size
    replace HWC := hide ((HWC.out.kept gA (fun q hq e => by have := LC.out q hq; have := (L5.out q e).1; omega)).kept gB (fun q hq e => by have := LC.out q hq; have := (L6.out q e).1; omega))
    replace HWN := hide ((HWN.out.kept gA (fun q hq e => by have := LN.out q hq; have := (L5.out q e).1; omega)).kept gB (fun q hq e => by have := LN.out q hq; have := (L6.out q e).1; omega))
    replace H3 := hide ((H3.out.kept gA (fun e => by have := (L5.out _ e).1; omega)).kept gB (fun e => by have := (L6.out _ e).1; omega))
    replace H6 := hide ((H6.out.kept gA (fun e => by have := (L5.out _ e).2; omega)).kept gB (fun e => by have := (L6.out _ e).2; omega))
    replace HB := hide ((HB.out.grown gA hsD (fun q hq => by have := (L5.out q hq).1; omega)).grown gB (by omega) (fun q hq => by have := (L6.out q hq).1; omega))
    replace HGC := hide o5
    replace HGN := hide o6
    clear o5 o6 gA gB r0 r1 r2 r3 r4 r5 r6 LC LN LX L5 L6 HGD hs1 hs2 hs3 hs4 hs5 hs6 hs7 hs8 hs9 hsA hsB hsC hsD e2 e4 HSA HSB
    have hk1 : ¬ (1 + 3 * (cs.length : Int) + 2 * (ns.length : Int) < 0) := by omega
    have hk2 : ((1 + 3 * (cs.length : Int) + 2 * (ns.length : Int)) != (1 + 3 * (cs.length : Int) + 2 * (ns.length : Int))) = false := by simp
    have r0 := (box_of H6.out).1 0 _ rfl
    have r1 := (box_of H6.out).1 1 _ rfl
    have r2 := (box_of H6.out).1 2 _ rfl
    have r3 := (box_of H6.out).1 3 _ rfl
    have r4 := (box_of H6.out).1 4 _ rfl
    have r5 := (box_of H6.out).1 5 _ rfl
    have r6 := (box_of H6.out).1 6 _ rfl
    go_wp2_with fail
    refine (heldMsg _ _ _ cs.length ns.length k i u c n _ _ HGC.out HGN.out hmc hmn).mono ?_
    rintro e w11 ⟨rfl, b11⟩
    replace HB := hide (HB.out.trans (b11.mono HB.out.size))
    replace HWC := hide (HWC.out.below b11)
    replace HWN := hide (HWN.out.below b11)
    replace H3 := hide (H3.out.below b11)
    replace HGC := hide (HGC.out.below b11)
    replace HGN := hide (HGN.out.below b11)
    replace H6 := hide (H6.out.below b11)
    clear b11 r0 r1 r2 r3 r4 r5 r6
    go_wp2_with fail
    refine (copyB _ _ _ _ _ ((HIN.out.kept HB.out.block).up HB.out.size)).mono ?_
    rintro e w12 ⟨c12, rfl, o12, b12⟩
    have HO12 := hide o12
    replace HB := hide (HB.out.trans (b12.mono HB.out.size))
    replace HWC := hide (HWC.out.below b12)
    replace HWN := hide (HWN.out.below b12)
    replace H3 := hide (H3.out.below b12)
    replace HGC := hide (HGC.out.below b12)
    replace HGN := hide (HGN.out.below b12)
    replace H6 := hide (H6.out.below b12)
    clear b12 o12
    go_wp2_with fail
    refine (HM.out _ _ _ _ HB.out HO12.out).mono ?_
    rintro e w13 ⟨⟨aH, cH, aJ, cJ, rfl, oC, oN, _⟩, b13⟩
    have HHC := hide oC
    have HHN := hide oN
    replace HB := hide (HB.out.trans (b13.mono HB.out.size))
    replace HWC := hide (HWC.out.below b13)
    replace HWN := hide (HWN.out.below b13)
    replace H3 := hide (H3.out.below b13)
    replace HGC := hide (HGC.out.below b13)
    replace HGN := hide (HGN.out.below b13)
    replace H6 := hide (H6.out.below b13)
    clear b13 oC oN HO12
    have bD := (Below.refl w13.heap.size w13).alloc (Nat.le_refl _) (.cells #[.int .i64 k, .int .i64 i, .int .i64 u, .int .i64 c, .int .i64 n, .slice aH cs.length cH, .slice aJ ns.length cJ] 27)
    have H9 := hide (Bx.new w13 #[.int .i64 k, .int .i64 i, .int .i64 u, .int .i64 c, .int .i64 n, .slice aH cs.length cH, .slice aJ ns.length cJ] 27)
    replace HB := hide (HB.out.trans (bD.mono HB.out.size))
    replace HWC := hide (HWC.out.below bD)
    replace HWN := hide (HWN.out.below bD)
    replace H3 := hide (H3.out.below bD)
    replace HGC := hide (HGC.out.below bD)
    replace HGN := hide (HGN.out.below bD)
    replace H6 := hide (H6.out.below bD)
    replace HHC := hide (HHC.out.below bD)
    replace HHN := hide (HHN.out.below bD)
    clear bD
    have p0 := (box_of H3.out).1 0 _ rfl
    have p1 := (box_of H3.out).1 1 _ rfl
    have p2 := (box_of H3.out).1 2 _ rfl
    have p3 := (box_of H3.out).1 3 _ rfl
    have p4 := (box_of H3.out).1 4 _ rfl
    have p5 := (box_of H3.out).1 5 _ rfl
    have p6 := (box_of H3.out).1 6 _ rfl
    go_wp2_with fail
    generalize w13.alloc (.cells #[.int .i64 k, .int .i64 i, .int .i64 u, .int .i64 c, .int .i64 n, .slice aH cs.length cH, .slice aJ ns.length cJ] 27) = w13a at *
    refine (eqMsg _ k i u c n _ _ _ _ cs ns (HHC.out.rd (Nat.le_refl _)) (HHN.out.rd (Nat.le_refl _)) (HWC.out.rd (Nat.le_refl _)) (HWN.out.rd (Nat.le_refl _)) hmc hmn).mono ?_
    rintro e w14 ⟨rfl, b14⟩
    replace HB := hide (HB.out.trans (b14.mono HB.out.size))
    replace HGC := hide (HGC.out.below b14)
    replace HGN := hide (HGN.out.below b14)
    replace H6 := hide (H6.out.below b14)
    clear b14 p0 p1 p2 p3 p4 p5 p6
    have r0 := (box_of H6.out).1 0 _ rfl
    have r1 := (box_of H6.out).1 1 _ rfl
    have r2 := (box_of H6.out).1 2 _ rfl
    have r3 := (box_of H6.out).1 3 _ rfl
    have r4 := (box_of H6.out).1 4 _ rfl
    have r5 := (box_of H6.out).1 5 _ rfl
    have r6 := (box_of H6.out).1 6 _ rfl
    go_wp2_with fail
    refine (heldMsg _ _ _ cs.length ns.length k i u c n _ _ HGC.out HGN.out hmc hmn).mono ?_
    rintro e w15 ⟨rfl, b15⟩
    replace HB := hide (HB.out.trans (b15.mono HB.out.size))
    clear b15 r0 r1 r2 r3 r4 r5 r6
    go_wp2
    go_ret
    exact ⟨rfl, HB.out⟩

set_option maxRecDepth 100000 in
theorem lifted (os : Os) (started : os.Started) (H : Type) (enc : TypeId × Value → H) :
    ReturnsInHanded {} Tryd.checked os 4 .any (fun w args => (Rows.fnExactMsgOfSpec.pre enc Tryd.prog Tryd.f4 [] false w args ∧ laidMetH Tryd.prog laidL w) ∧ sizedMet enc Tryd.prog Tryd.f4 (OpenSpec.ofChange Rows.fnExactMsgOfSpec) false w args)
      (Rows.fnExactMsgOfSpec.post enc Tryd.prog Tryd.f4 false true false false) := by
  refine returnsInHanded_of_change_and (C := Tryd.checked) (X := fun w _ => laidMetH Tryd.prog laidL w) (fun _ _ _ hh h => h.of_heap hh) Tryd.own started (by kernel_rfl) Tryd.func4
    (ChangeSpec.witness_shaped (enc := enc) (C := Tryd.checked) (os := os) (X := fun w _ => laidMetH Tryd.prog laidL w) false (World.doorLaid Tryd.prog 28 os) #[.slice none 0 0] 8 rfl (World.shaped_of_RefB (by kernel_rfl) (by kernel_rfl)) (by kernel_rfl) (by kernel_rfl) (by kernel_rfl) (door_met os _)) ?_
  intro W base args ds gs before hval0 hW _ _ hL _
  have hval : ∀ (j : Nat) t v, Tryd.f4.params[j]? = some t → args[j]? = some v → Value.okWide Tryd.prog W .any base t v := hval0
  have hW' := hW
  obtain ⟨p, q, hA0, hV0, rfl, hfz, hnd⟩ := hW
  have hA : DataW.TrodAll enc Tryd.prog W 0 (fun _ => true) true Tryd.f4.params.toList args.toList ds p := hA0
  have hV : DataW.TrodVars enc Tryd.prog W (fun _ => true) ["loop.example/g00283/impl.errNone"] gs q := hV0
  rw [Tryd.params4] at hA hval
  obtain ⟨v0, vs0, d0, ds0, p0, q0, hargs, rfl, rfl, h0, r0⟩ := trodAll_cons hA
  obtain ⟨rfl, rfl, rfl⟩ := trodAll_nil r0
  obtain rfl : args = #[v0] := by cases args; simp_all
  obtain ⟨u, x, hv⟩ := err_of_laid hL
  obtain ⟨hE, hp⟩ := err_cell hv
  obtain ⟨rfl, rfl⟩ := hV.unique (vars_read enc hv _)
  obtain ⟨a0, len0, cap0, rfl⟩ := okWide_slice Tryd.underlying22 (hval 0 22 v0 rfl rfl)
  have k0 := h0
  have lt0 : ∀ x ∈ p0, x.block < W.heap.size := by obtain ⟨m, hm⟩ := k0; exact DataW.trod_lt m _ _ _ hm
  obtain ⟨z0, w0⟩ : ∃ zs, IsRow .u8 W a0 len0 cap0 zs := by
    obtain ⟨fuel, hf⟩ := h0
    rcases open_ints Tryd.underlying22 Tryd.underlying5 (by kernel_rfl) hf with ⟨hcs, _⟩ | ⟨x, l, c, zs, hcs, _, hl, hm, hz, _, hcell, hwz⟩
    · simp [Value.cells] at hcs
      obtain ⟨rfl, rfl, rfl⟩ := hcs
      exact ⟨[], .inl ⟨rfl, rfl, rfl, rfl⟩⟩
    · simp [Value.cells] at hcs
      obtain ⟨rfl, rfl, rfl⟩ := hcs
      exact ⟨zs, .inr ⟨_, rfl, hl, hm, by simpa using hz, hcell, hwz⟩⟩
  clear hA0 hval0 hV0
  refine (walk a0 len0 cap0 z0 u x W w0 hE hp).mono fun e W' ⟨he, bel⟩ => ?_
  subst he
  refine ⟨_, rfl, _, _, _, [], _, [.cell 0 0], hW', trodAll_mk1 (shut_bool Tryd.underlying4 _), (trodAll_cons_mk (Below.trod Tryd.laidOut (by kernel_rfl) (of_decide_eq_true (by kernel_rfl)) k0 bel lt0) trodAll_mk0), ?_, bel.frame _, fun h => by cases h⟩
  exact vars_read enc (var?_below bel gErr hp hv) _

theorem row : Rows.FnExactMsgOfSaid :=
  OpenClaim.holds_of_wide 4 Tryd.f4 rfl rfl rfl rfl rfl rfl rfl ⟨rfl, rfl, rfl, rfl, rfl⟩ rfl rfl rfl rfl rfl (by kernel_rfl) Tryd.func4 (by kernel_rfl)
    (of_decide_eq_true (by kernel_rfl)) (by unfold Func.isWrapper; first | (rw [if_pos (by decide +kernel)]; kernel_rfl) | (rw [if_neg (by decide +kernel)]; exact ⟨rfl, rfl⟩))
    (fun os started H enc _ => lifted os started H enc)

theorem card : Rows.FnExactMsgOfCardSaid :=
  Claim7.holds_tied_plain_at .later [] [.sentinel] true (true, "538a485812a6a3d5aceef88aed5fc0ea47d7b6dd046c151cfa56884d8a43551f") true
    row (fun _ h => by cases h) (by kernel_rfl) (fun _ h => by cases h) fnExactMsgOf_row_tie rfl ⟨rfl, rfl⟩ (by kernel_rfl) rfl
    (fun f fn hf hfn => by
      obtain rfl : f = 4 := Option.some.inj ((show Tryd.prog.funcNamed "loop.example/g00283/laws.FnExactMsgOf" = some 4 by kernel_rfl).symm.trans hf) |>.symm
      obtain rfl : fn = Tryd.f4 := (Option.some.inj (Tryd.func4.symm.trans hfn)).symm
      exact ⟨by kernel_rfl, fun j t ht => by
        rw [Tryd.params4] at ht
        have hm : t ∈ [22] := by simpa using Array.mem_of_getElem? ht
        have hall : ([22].all fun u => !Tryd.prog.wantsStandIn u) = true := by kernel_rfl
        exact (show Tryd.prog.wantsStandIn t = false by simpa using List.all_eq_true.1 hall t hm)⟩)
    (by kernel_rfl)
end Go.Proofs.YtbkhlaiifbdfoaaDoor.fnExactMsgOf
namespace Go.Proofs.YtbkhlaiifbdfoaaDoor
theorem fnExactMsgOf_holds : Rows.FnExactMsgOfCardSaid := fnExactMsgOf.card
#print axioms fnExactMsgOf_holds
end Go.Proofs.YtbkhlaiifbdfoaaDoor
