/-
  Proved: at every row of bytes the program's ClassOf answers as its model does, in memory of its own, and writes into no argument (the law FnExactClassOf returns true), where the program's own error value holds what its text lays (the card ties it), without any other condition.
-/
import Derived.Test.YtpgmipbanpofaaaGreatDoorRows
import Derived.Test.YtpgmipbanpofaaaGreatDoorCards
import Derived.Test.YtpgmipbanpofaaaGreatDoorTie
import Derived.Test.YtpgmipbanpofaaaGreatDoorJ1
import Derived.Test.YtpgmipbanpofaaaGreatDoorJ2
import Derived.Test.YtpgmipbanpofaaaGreatDoorJ3
import Derived.Test.YtpgmipbanpofaaaGreatDoorJ23
import Derived.Test.YtpgmipbanpofaaaGreatDoorKSpecCl
import Derived.Test.YtpgmipbanpofaaaGreatDoorJ29
import Derived.Test.YtpgmipbanpofaaaGreatDoorJ28
import Derived.WalkKit
import Derived.ProofKit
import Derived.OpenShut
import Derived.ShutString
import Derived.ChangeOld
import Derived.Below
import Derived.SevenTiedAt
namespace Go.Proofs.YtpgmipbanpofaaaGreatDoor.fnExactClassOf
open Go.ChangeShapes Go.WideShapes Go.ChangeAt Go.RowKit
set_option linter.unusedVariables false
theorem tot96 : ∀ (xs : List Me), (∀ y ∈ xs, cntM y ≤ 96) → tot cntM xs ≤ xs.length * 96
  | [], _ => by simp [tot]
  | x :: xs, h => by
    have h1 := tot96 xs (fun y hy => h y (by simp [hy]))
    have h2 := h x (by simp)
    have h3 : tot cntM (x :: xs) = cntM x + tot cntM xs := by simp [tot]
    rw [h3, List.length_cons]; omega
theorem clOf_good {zs : List Int} (hB : Byt zs) : ClG ((clOf zs).getD Cl0) ∧ cntC ((clOf zs).getD Cl0) ≤ 1000 := by
  cases h : clOf zs with
  | none => exact ⟨⟨by decide, by decide, by decide, by decide, by decide, fun y hy => (by cases hy), fun y hy => (by cases hy), fun y hy => (by cases hy)⟩, by decide⟩
  | some x =>
    unfold clOf at h
    obtain ⟨⟨y, e⟩, h1, h⟩ := Option.bind_eq_some_iff.1 h
    simp only at h
    split at h
    · rename_i hc
      cases h
      obtain ⟨_, _, b3, _, b5, _, b7, b8⟩ := clB_parts hc.2
      refine ⟨rCl_G hB h1, ?_⟩
      have ht := tot96 x.m (fun y hy => by
        obtain ⟨_, a2, _, _, _, a6⟩ := meB_parts (b8 y hy)
        have : cntM y = y.ps.length + y.c.length + 3 := rfl
        omega)
      have : cntC x = 4 * x.p.length + 2 * x.f.length + tot cntM x.m := rfl
      show cntC x ≤ 1000
      omega
    · cases h
def AnsC (b : Nat) (x : Cl) (ok : Bool) (e : Ending) (w' : World) : Prop := ∃ u2 u3 u4, e = .returned (.tuple #[.agg #[.string x.n, .string x.s, u2, u3, u4], .bool ok]) ∧ OwnDL w' b w'.heap.size (clD x) [.string x.n, .string x.s, u2, u3, u4]
theorem ansC_of {b : Nat} {r : Option Cl} {e : Ending} {w' : World} (h : ansCO b r e w') : AnsC b (r.getD Cl0) r.isSome e w' := by
  obtain ⟨u, rfl, u2, u3, u4, rfl, o⟩ := h
  exact ⟨u2, u3, u4, rfl, o⟩
set_option maxRecDepth 100000 in
set_option maxHeartbeats 8000000 in
theorem walk (a0 : Option Addr) (len0 cap0 : Nat) (z0 : List Int) (t : TypeId) (v : Value) (w : World) (w0 : IsRow .u8 w a0 len0 cap0 z0) (hE : Err w t v) (hp : 0 < w.heap.size) :
    Calls Tryz.prog 3 #[.slice a0 len0 cap0] w fun e w' => e = .returned (.bool true) ∧ Below w.heap.size w w' := by
  by_cases hbig : (1048576 : Int) < (len0 : Int)
  · clear w0 hE
    go_enter Tryz.func3, Tryz.ntmps3
    go_wp2
    go_ret
    exact ⟨rfl, Below.refl _ _⟩
  · have hin := in_of w0 (by omega)
    clear w0
    generalize z0.take len0 = zs at hin
    have hl := hin.1
    have hm := hin.2.1
    have hz := hide hin.2.2.1
    have HIN := hide hin
    have HE := hide hE
    have HGD := hide (clOf_good (byt_of_in hin))
    obtain ⟨x, hm0⟩ : ∃ m, (clOf zs).getD Cl0 = m := ⟨_, rfl⟩
    obtain ⟨ok, hk0⟩ : ∃ ok, (clOf zs).isSome = ok := ⟨_, rfl⟩
    have HS : Hid (∀ (W : World) (b g c : Nat), Own W b (.slice (some ⟨g, 0, none⟩) len0 c) zs → Calls Tryz.prog 4 #[.slice (some ⟨g, 0, none⟩) len0 c] W fun e w' => AnsC W.heap.size x ok e w' ∧ Below W.heap.size W w') :=
      hide (fun W b g c h => (classOfSpec W _ _ _ zs (in_own h hl hm hz.out (Nat.le_refl _)) (cap_own h hl)).mono (fun e w' h => ⟨by have := ansC_of h.1; rw [hm0, hk0] at this; exact this, h.2⟩))
    have HM : Hid (∀ (W : World) (b g c : Nat), Below w.heap.size w W → Own W b (.slice (some ⟨g, 0, none⟩) len0 c) zs → Calls Tryz.prog 6 #[.slice (some ⟨g, 0, none⟩) len0 c] W fun e w' => AnsC W.heap.size x ok e w' ∧ Below W.heap.size W w') :=
      hide (fun W b g c hb h => (classOfImpl W _ _ c zs t v (Nat.lt_of_lt_of_le hp hb.size) (cap_own h hl) (in_own h hl hm hz.out (Nat.le_refl _)) (HE.out.low hb hp)).mono (fun e w' h => ⟨by have := ansC_of h.1; rw [hm0, hk0] at this; exact this, h.2⟩))
    rw [hm0] at HGD
    clear hm0 hk0 hin hE HE
    unfold AnsC at HS HM
    have HG := hide HGD.out.1
    have hcnt := HGD.out.2
    have HGm : Hid (∀ y ∈ x.m, y.ps.length ≤ 1048576 ∧ y.c.length ≤ 1048576) := hide (fun y hy => ⟨(HG.out.ms y hy).2.2.1.1, (HG.out.ms y hy).2.2.1.2.1⟩)
    clear HGD
    have HB := hide (Below.refl w.heap.size w)
    have hne : (ok != ok) = false := by simp
    go_enter Tryz.func3, Tryz.ntmps3
    go_wp2_with fail
    refine (copyB _ _ _ _ _ HIN.out).mono ?_
    rintro e w1 ⟨c1, rfl, o1, b1⟩
    have HO1 := hide o1
    have hs1 := b1.size
    replace HB := hide (HB.out.trans (b1.mono HB.out.size))
    clear b1
    go_wp2_with fail
    refine (HS.out _ _ _ _ HO1.out).mono ?_
    rintro e w2 ⟨⟨u2, u3, u4, rfl, oo⟩, b2⟩
    obtain ⟨⟨pW2, cW2, e2⟩, ⟨pW3, cW3, e3⟩, ⟨pW4, cW4, e4⟩⟩ := clD_sl oo
    subst e2 e3 e4
    have HW := hide oo
    have hs2 := b2.size
    replace HB := hide (HB.out.trans (b2.mono HB.out.size))
    clear b2 oo
    have bD := (Below.refl w2.heap.size w2).alloc (Nat.le_refl _) (.cells #[.string x.n, .string x.s, .slice pW2 x.p.length cW2, .slice pW3 x.f.length cW3, .slice pW4 x.m.length cW4] 27)
    have E3 := hide (heap_alloc_new w2 (.cells #[.string x.n, .string x.s, .slice pW2 x.p.length cW2, .slice pW3 x.f.length cW3, .slice pW4 x.m.length cW4] 27))
    have hsz2 : (w2.alloc (.cells #[.string x.n, .string x.s, .slice pW2 x.p.length cW2, .slice pW3 x.f.length cW3, .slice pW4 x.m.length cW4] 27)).heap.size = w2.heap.size + 1 := by simp
    replace HB := hide (HB.out.trans (bD.mono HB.out.size))
    replace HW := hide (HW.out.below bD)
    clear bD
    clear HO1 o1
    go_wp2_with fail
    generalize w2.alloc (.cells #[.string x.n, .string x.s, .slice pW2 x.p.length cW2, .slice pW3 x.f.length cW3, .slice pW4 x.m.length cW4] 27) = w2a at *
    have HSZ2 := hide hsz2
    clear hsz2
    refine (copyB _ _ _ _ _ ((HIN.out.kept HB.out.block).up HB.out.size)).mono ?_
    rintro e w3 ⟨c3, rfl, o3, b3⟩
    have HO3 := hide o3
    have hs3 := b3.size
    replace HB := hide (HB.out.trans (b3.mono HB.out.size))
    replace HW := hide (HW.out.below b3)
    replace E3 := hide ((b3.block _ (Array.getElem?_eq_some_iff.1 E3.out).1).trans E3.out)
    clear b3
    have LX : Hid (∀ q, (Value.slice (some ⟨w2a.heap.size, 0, none⟩) len0 c3).ownBlock = some q → w2a.heap.size ≤ q ∧ q < w3.heap.size) := hide o3.lt
    clear o3
    go_wp2_with fail
    refine (HM.out _ _ _ _ HB.out HO3.out).mono ?_
    rintro e w4 ⟨⟨u2, u3, u4, rfl, oo⟩, b4⟩
    obtain ⟨⟨pQ2, cQ2, e2⟩, ⟨pQ3, cQ3, e3⟩, ⟨pQ4, cQ4, e4⟩⟩ := clD_sl oo
    subst e2 e3 e4
    have HQ := hide oo
    have hs4 := b4.size
    replace HB := hide (HB.out.trans (b4.mono HB.out.size))
    replace HW := hide (HW.out.below b4)
    replace E3 := hide ((b4.block _ (Array.getElem?_eq_some_iff.1 E3.out).1).trans E3.out)
    replace HO3 := hide (HO3.out.below b4)
    clear b4 oo
    have bD := (Below.refl w4.heap.size w4).alloc (Nat.le_refl _) (.cells #[.string x.n, .string x.s, .slice pQ2 x.p.length cQ2, .slice pQ3 x.f.length cQ3, .slice pQ4 x.m.length cQ4] 27)
    have E6 := hide (heap_alloc_new w4 (.cells #[.string x.n, .string x.s, .slice pQ2 x.p.length cQ2, .slice pQ3 x.f.length cQ3, .slice pQ4 x.m.length cQ4] 27))
    have hsz4 : (w4.alloc (.cells #[.string x.n, .string x.s, .slice pQ2 x.p.length cQ2, .slice pQ3 x.f.length cQ3, .slice pQ4 x.m.length cQ4] 27)).heap.size = w4.heap.size + 1 := by simp
    replace HB := hide (HB.out.trans (bD.mono HB.out.size))
    replace HW := hide (HW.out.below bD)
    replace E3 := hide ((bD.block _ (Array.getElem?_eq_some_iff.1 E3.out).1).trans E3.out)
    replace HO3 := hide (HO3.out.below bD)
    replace HQ := hide (HQ.out.below bD)
    clear bD
    have p0 := (box_of E3.out).1 0 _ rfl
    have p1 := (box_of E3.out).1 1 _ rfl
    have p2 := (box_of E3.out).1 2 _ rfl
    have p3 := (box_of E3.out).1 3 _ rfl
    have p4 := (box_of E3.out).1 4 _ rfl
    go_wp2_with fail
    generalize w4.alloc (.cells #[.string x.n, .string x.s, .slice pQ2 x.p.length cQ2, .slice pQ3 x.f.length cQ3, .slice pQ4 x.m.length cQ4] 27) = w4a at *
    have HSZ4 := hide hsz4
    clear hsz4
    refine (eqCls _ x _ _ _ _ _ _ (clD_own HQ.out).1 (clD_own HQ.out).2.1 (clD_own HQ.out).2.2 (clD_own HW.out).1 (clD_own HW.out).2.1 (clD_own HW.out).2.2 HG.out).mono ?_
    rintro e w5 ⟨rfl, b5⟩
    have hs5 := b5.size
    replace HB := hide (HB.out.trans (b5.mono HB.out.size))
    replace HW := hide (HW.out.below b5)
    replace E3 := hide ((b5.block _ (Array.getElem?_eq_some_iff.1 E3.out).1).trans E3.out)
    replace HO3 := hide (HO3.out.below b5)
    replace HQ := hide (HQ.out.below b5)
    replace E6 := hide ((b5.block _ (Array.getElem?_eq_some_iff.1 E6.out).1).trans E6.out)
    clear b5
    clear p0 p1 p2 p3 p4
    go_wp2_with fail
    refine (copyB _ _ _ _ _ ((HIN.out.kept HB.out.block).up HB.out.size)).mono ?_
    rintro e w6 ⟨c6, rfl, o6, b6⟩
    have HO6 := hide o6
    have hs6 := b6.size
    replace HB := hide (HB.out.trans (b6.mono HB.out.size))
    replace HW := hide (HW.out.below b6)
    replace E3 := hide ((b6.block _ (Array.getElem?_eq_some_iff.1 E3.out).1).trans E3.out)
    replace HO3 := hide (HO3.out.below b6)
    replace HQ := hide (HQ.out.below b6)
    replace E6 := hide ((b6.block _ (Array.getElem?_eq_some_iff.1 E6.out).1).trans E6.out)
    clear b6
    go_wp2_with fail
    refine (eqB _ _ _ _ _ _ HO3.out HO6.out (by omega)).mono ?_
    rintro e w7 ⟨rfl, q7, rfl⟩
    have b7 := below_drewN (Below.refl w6.heap.size w6) q7
    have hs7 := b7.size
    replace HB := hide (HB.out.trans (b7.mono HB.out.size))
    replace HW := hide (HW.out.below b7)
    replace E3 := hide ((b7.block _ (Array.getElem?_eq_some_iff.1 E3.out).1).trans E3.out)
    replace HO3 := hide (HO3.out.below b7)
    replace HQ := hide (HQ.out.below b7)
    replace E6 := hide ((b7.block _ (Array.getElem?_eq_some_iff.1 E6.out).1).trans E6.out)
    clear b7 HO6 o6
    generalize w6.drewN q7 = w7 at *
    go_wp2_with fail
    refine (mark1 _ _ _ _ HO3.out (by omega)).mono ?_
    rintro e w8 ⟨rfl, _, g8⟩
    have hs8 := g8.size
    have e2 := HSZ2.out
    have e4 := HSZ4.out
    have hsB := HB.out.size
    replace HW := hide (HW.out.same (fun q _ hq hq' => g8.block q hq' (fun e => by have := (LX.out q e.symm).1; omega)))
    replace HQ := hide (HQ.out.same (fun q hq _ hq' => g8.block q hq' (fun e => by have := (LX.out q e.symm).2; omega)))
    replace E3 := hide ((g8.block _ (Array.getElem?_eq_some_iff.1 E3.out).1 (fun e => by have := (LX.out _ e.symm).1; omega)).trans E3.out)
    replace E6 := hide ((g8.block _ (Array.getElem?_eq_some_iff.1 E6.out).1 (fun e => by have := (LX.out _ e.symm).2; omega)).trans E6.out)
    replace HB := hide (HB.out.grown g8 hsB (fun q hq => by have := (LX.out q hq).1; omega))
    clear g8 HO3 hsB
    have hk1 : ¬ (1 + (zs.length : Int) < 0) := by omega
    have p0 := (box_of E3.out).1 0 _ rfl
    have p1 := (box_of E3.out).1 1 _ rfl
    have p2 := (box_of E3.out).1 2 _ rfl
    have p3 := (box_of E3.out).1 3 _ rfl
    have p4 := (box_of E3.out).1 4 _ rfl
    have r0 := (box_of E6.out).1 0 _ rfl
    have r1 := (box_of E6.out).1 1 _ rfl
    have r2 := (box_of E6.out).1 2 _ rfl
    have r3 := (box_of E6.out).1 3 _ rfl
    have r4 := (box_of E6.out).1 4 _ rfl
    go_wp2_with fail
    refine (eqCls _ x _ _ _ _ _ _ (clD_own HQ.out).1 (clD_own HQ.out).2.1 (clD_own HQ.out).2.2 (clD_own HW.out).1 (clD_own HW.out).2.1 (clD_own HW.out).2.2 HG.out).mono ?_
    rintro e w9 ⟨rfl, b9⟩
    have hs9 := b9.size
    replace HB := hide (HB.out.trans (b9.mono HB.out.size))
    replace HW := hide (HW.out.below b9)
    replace E3 := hide ((b9.block _ (Array.getElem?_eq_some_iff.1 E3.out).1).trans E3.out)
    replace HQ := hide (HQ.out.below b9)
    replace E6 := hide ((b9.block _ (Array.getElem?_eq_some_iff.1 E6.out).1).trans E6.out)
    clear b9
    clear p0 p1 p2 p3 p4 r0 r1 r2 r3 r4
    clear hk1
    have r0 := (box_of E6.out).1 0 _ rfl
    have r1 := (box_of E6.out).1 1 _ rfl
    have r2 := (box_of E6.out).1 2 _ rfl
    have r3 := (box_of E6.out).1 3 _ rfl
    have r4 := (box_of E6.out).1 4 _ rfl
    go_wp2_with fail
    obtain ⟨F, oF, hFN, hFh⟩ := HQ.out
    have lF := OwnsL.lt _ _ _ oF
    refine (mkCls _ _ 1 x _ _ _ F oF hFN (by omega) (by omega)).mono ?_
    rintro e w10 ⟨rfl, oM, ch⟩
    have hs10 := ch.size
    have hsB := HB.out.size
    replace HW := hide (HW.out.same (fun q _ hq hq' => ch.block q hq' (fun h => by have := (lF q h).1; omega)))
    replace E3 := hide ((ch.block _ (Array.getElem?_eq_some_iff.1 E3.out).1 (fun h => by have := (lF _ h).1; omega)).trans E3.out)
    replace E6 := hide ((ch.block _ (Array.getElem?_eq_some_iff.1 E6.out).1 (fun h => by have := hFh _ h; omega)).trans E6.out)
    replace HB : Hid (Below w.heap.size w w10) := hide ⟨ch.os.trans HB.out.os, ch.tape.trans HB.out.tape, ch.output.trans HB.out.output, Nat.le_trans HB.out.size ch.size, fun q hq => (ch.block q (by omega) (fun h => by have := (lF q h).1; omega)).trans (HB.out.block q hq)⟩
    have HK : Hid (OwnDL w10 w3.heap.size w4.heap.size (clD (mkC 1 x)) [.string x.n, .string x.s, .slice pQ2 x.p.length cQ2, .slice pQ3 x.f.length cQ3, .slice pQ4 x.m.length cQ4]) := hide ⟨F, oM, hFN, hFh⟩
    clear oF hFN hFh lF oM ch HQ e2 e4
    clear r0 r1 r2 r3 r4
    have hk1 : ¬ (((1 + cntC x : Nat) : Int) < 0) := by omega
    have hk2 : (((1 + cntC x : Nat) : Int) != ((1 + cntC x : Nat) : Int)) = false := by simp
    have r0 := (box_of E6.out).1 0 _ rfl
    have r1 := (box_of E6.out).1 1 _ rfl
    have r2 := (box_of E6.out).1 2 _ rfl
    have r3 := (box_of E6.out).1 3 _ rfl
    have r4 := (box_of E6.out).1 4 _ rfl
    go_wp2_with fail
    refine (heldCls _ 1 x _ _ _ _ _ (clD_own HK.out).1 (clD_own HK.out).2.1 (clD_own HK.out).2.2 (by omega) (by omega) HGm.out).mono ?_
    rintro e w11 ⟨rfl, b11⟩
    replace HB := hide (HB.out.trans (b11.mono HB.out.size))
    replace HW := hide (HW.out.below b11)
    replace E3 := hide ((b11.block _ (Array.getElem?_eq_some_iff.1 E3.out).1).trans E3.out)
    replace HK := hide (HK.out.below b11)
    replace E6 := hide ((b11.block _ (Array.getElem?_eq_some_iff.1 E6.out).1).trans E6.out)
    clear b11
    clear r0 r1 r2 r3 r4
    go_wp2_with fail
    refine (copyB _ _ _ _ _ ((HIN.out.kept HB.out.block).up HB.out.size)).mono ?_
    rintro e w12 ⟨c12, rfl, o12, b12⟩
    have HO12 := hide o12
    have hs12 := b12.size
    replace HB := hide (HB.out.trans (b12.mono HB.out.size))
    replace HW := hide (HW.out.below b12)
    replace E3 := hide ((b12.block _ (Array.getElem?_eq_some_iff.1 E3.out).1).trans E3.out)
    replace HK := hide (HK.out.below b12)
    replace E6 := hide ((b12.block _ (Array.getElem?_eq_some_iff.1 E6.out).1).trans E6.out)
    clear b12
    go_wp2_with fail
    refine (HM.out _ _ _ _ HB.out HO12.out).mono ?_
    rintro e w13 ⟨⟨u2, u3, u4, rfl, oo⟩, b13⟩
    obtain ⟨⟨pR2, cR2, e2⟩, ⟨pR3, cR3, e3⟩, ⟨pR4, cR4, e4⟩⟩ := clD_sl oo
    subst e2 e3 e4
    have HR := hide oo
    have hs13 := b13.size
    replace HB := hide (HB.out.trans (b13.mono HB.out.size))
    replace HW := hide (HW.out.below b13)
    replace E3 := hide ((b13.block _ (Array.getElem?_eq_some_iff.1 E3.out).1).trans E3.out)
    replace HK := hide (HK.out.below b13)
    replace E6 := hide ((b13.block _ (Array.getElem?_eq_some_iff.1 E6.out).1).trans E6.out)
    clear b13 oo
    have bD := (Below.refl w13.heap.size w13).alloc (Nat.le_refl _) (.cells #[.string x.n, .string x.s, .slice pR2 x.p.length cR2, .slice pR3 x.f.length cR3, .slice pR4 x.m.length cR4] 27)
    have E9 := hide (heap_alloc_new w13 (.cells #[.string x.n, .string x.s, .slice pR2 x.p.length cR2, .slice pR3 x.f.length cR3, .slice pR4 x.m.length cR4] 27))
    have hsz13 : (w13.alloc (.cells #[.string x.n, .string x.s, .slice pR2 x.p.length cR2, .slice pR3 x.f.length cR3, .slice pR4 x.m.length cR4] 27)).heap.size = w13.heap.size + 1 := by simp
    replace HB := hide (HB.out.trans (bD.mono HB.out.size))
    replace HW := hide (HW.out.below bD)
    replace E3 := hide ((bD.block _ (Array.getElem?_eq_some_iff.1 E3.out).1).trans E3.out)
    replace HK := hide (HK.out.below bD)
    replace E6 := hide ((bD.block _ (Array.getElem?_eq_some_iff.1 E6.out).1).trans E6.out)
    replace HR := hide (HR.out.below bD)
    clear bD
    have p0 := (box_of E3.out).1 0 _ rfl
    have p1 := (box_of E3.out).1 1 _ rfl
    have p2 := (box_of E3.out).1 2 _ rfl
    have p3 := (box_of E3.out).1 3 _ rfl
    have p4 := (box_of E3.out).1 4 _ rfl
    go_wp2_with fail
    generalize w13.alloc (.cells #[.string x.n, .string x.s, .slice pR2 x.p.length cR2, .slice pR3 x.f.length cR3, .slice pR4 x.m.length cR4] 27) = w13a at *
    have HSZ13 := hide hsz13
    clear hsz13
    refine (eqCls _ x _ _ _ _ _ _ (clD_own HR.out).1 (clD_own HR.out).2.1 (clD_own HR.out).2.2 (clD_own HW.out).1 (clD_own HW.out).2.1 (clD_own HW.out).2.2 HG.out).mono ?_
    rintro e w14 ⟨rfl, b14⟩
    have hs14 := b14.size
    replace HB := hide (HB.out.trans (b14.mono HB.out.size))
    replace HK := hide (HK.out.below b14)
    replace E6 := hide ((b14.block _ (Array.getElem?_eq_some_iff.1 E6.out).1).trans E6.out)
    clear b14
    clear p0 p1 p2 p3 p4
    have r0 := (box_of E6.out).1 0 _ rfl
    have r1 := (box_of E6.out).1 1 _ rfl
    have r2 := (box_of E6.out).1 2 _ rfl
    have r3 := (box_of E6.out).1 3 _ rfl
    have r4 := (box_of E6.out).1 4 _ rfl
    go_wp2_with fail
    refine (heldCls _ 1 x _ _ _ _ _ (clD_own HK.out).1 (clD_own HK.out).2.1 (clD_own HK.out).2.2 (by omega) (by omega) HGm.out).mono ?_
    rintro e w15 ⟨rfl, b15⟩
    replace HB := hide (HB.out.trans (b15.mono HB.out.size))
    clear b15
    clear r0 r1 r2 r3 r4
    go_wp2
    go_ret
    exact ⟨rfl, HB.out⟩

set_option maxRecDepth 100000 in
set_option maxHeartbeats 1000000 in
theorem lifted (os : Os) (started : os.Started) (H : Type) (enc : TypeId × Value → H) :
    ReturnsInHanded {} Tryz.checked os 3 .any (fun w args => (Rows.fnExactClassOfSpec.pre enc Tryz.prog Tryz.f3 [] false w args ∧ laidMetH Tryz.prog laidL w) ∧ sizedMet enc Tryz.prog Tryz.f3 (OpenSpec.ofChange Rows.fnExactClassOfSpec) false w args)
      (Rows.fnExactClassOfSpec.post enc Tryz.prog Tryz.f3 false true false false) := by
  refine returnsInHanded_of_change_and (C := Tryz.checked) (X := fun w _ => laidMetH Tryz.prog laidL w) (fun _ _ _ hh h => h.of_heap hh) Tryz.own started (by kernel_rfl) Tryz.func3
    (ChangeSpec.witness_shaped (enc := enc) (C := Tryz.checked) (os := os) (X := fun w _ => laidMetH Tryz.prog laidL w) false (World.doorLaid Tryz.prog 28 os) #[.slice none 0 0] 8 rfl (World.shaped_of_RefB (by kernel_rfl) (by kernel_rfl)) (by kernel_rfl) (by kernel_rfl) (by kernel_rfl) (door_met os _)) ?_
  intro W base args ds gs before hval0 hW _ _ hL _
  have hval : ∀ (j : Nat) t v, Tryz.f3.params[j]? = some t → args[j]? = some v → Value.okWide Tryz.prog W .any base t v := hval0
  have hW' := hW
  obtain ⟨p, q, hA0, hV0, rfl, hfz, hnd⟩ := hW
  have hA : DataW.TrodAll enc Tryz.prog W 0 (fun _ => true) true Tryz.f3.params.toList args.toList ds p := hA0
  have hV : DataW.TrodVars enc Tryz.prog W (fun _ => true) ["loop.example/g00283/impl.errNone"] gs q := hV0
  rw [Tryz.params3] at hA hval
  obtain ⟨v0, vs0, d0, ds0, p0, q0, hargs, rfl, rfl, h0, r0⟩ := trodAll_cons hA
  obtain ⟨rfl, rfl, rfl⟩ := trodAll_nil r0
  obtain rfl : args = #[v0] := by cases args; simp_all
  obtain ⟨u, x, hv⟩ := err_of_laid hL
  obtain ⟨hE, hp⟩ := err_cell hv
  obtain ⟨rfl, rfl⟩ := hV.unique (vars_read enc hv _)
  obtain ⟨a0, len0, cap0, rfl⟩ := okWide_slice Tryz.underlying22 (hval 0 22 v0 rfl rfl)
  have k0 := h0
  have lt0 : ∀ x ∈ p0, x.block < W.heap.size := by obtain ⟨m, hm⟩ := k0; exact DataW.trod_lt m _ _ _ hm
  obtain ⟨z0, w0⟩ : ∃ zs, IsRow .u8 W a0 len0 cap0 zs := by
    obtain ⟨fuel, hf⟩ := h0
    rcases open_ints Tryz.underlying22 Tryz.underlying5 (by kernel_rfl) hf with ⟨hcs, _⟩ | ⟨x, l, c, zs, hcs, _, hl, hm, hz, _, hcell, hwz⟩
    · simp [Value.cells] at hcs
      obtain ⟨rfl, rfl, rfl⟩ := hcs
      exact ⟨[], .inl ⟨rfl, rfl, rfl, rfl⟩⟩
    · simp [Value.cells] at hcs
      obtain ⟨rfl, rfl, rfl⟩ := hcs
      exact ⟨zs, .inr ⟨_, rfl, hl, hm, by simpa using hz, hcell, hwz⟩⟩
  clear hA0 hval0 hV0
  refine (walk a0 len0 cap0 z0 u x W w0 hE hp).mono fun e W' ⟨he, bel⟩ => ?_
  subst he
  refine ⟨_, rfl, _, _, _, [], _, [.cell 0 0], hW', trodAll_mk1 (shut_bool Tryz.underlying4 _), (trodAll_cons_mk (Below.trod Tryz.laidOut (by kernel_rfl) (of_decide_eq_true (by kernel_rfl)) k0 bel lt0) trodAll_mk0), ?_, bel.frame _, fun h => by cases h⟩
  exact vars_read enc (var?_below bel gErr hp hv) _

theorem row : Rows.FnExactClassOfSaid :=
  OpenClaim.holds_of_wide 3 Tryz.f3 rfl rfl rfl rfl rfl rfl rfl ⟨rfl, rfl, rfl, rfl, rfl⟩ rfl rfl rfl rfl rfl (by kernel_rfl) Tryz.func3 (by kernel_rfl)
    (of_decide_eq_true (by kernel_rfl)) (by unfold Func.isWrapper; first | (rw [if_pos (by decide +kernel)]; kernel_rfl) | (rw [if_neg (by decide +kernel)]; exact ⟨rfl, rfl⟩))
    (fun os started H enc _ => lifted os started H enc)

theorem card : Rows.FnExactClassOfCardSaid :=
  Claim7.holds_tied_plain_at .later [] [.sentinel] true (true, "847f80c37f042d270d68a14209d9dbba207c640a12c594627253124fff4edad3") false
    row (fun _ h => by cases h) (by kernel_rfl) (fun _ h => by cases h) fnExactClassOf_row_tie rfl ⟨rfl, rfl⟩ (by kernel_rfl) rfl
    (fun f fn hf hfn => by
      obtain rfl : f = 3 := Option.some.inj ((show Tryz.prog.funcNamed "loop.example/g00283/laws.FnExactClassOf" = some 3 by kernel_rfl).symm.trans hf) |>.symm
      obtain rfl : fn = Tryz.f3 := (Option.some.inj (Tryz.func3.symm.trans hfn)).symm
      exact ⟨by kernel_rfl, fun j t ht => by
        rw [Tryz.params3] at ht
        have hm : t ∈ [22] := by simpa using Array.mem_of_getElem? ht
        have hall : ([22].all fun u => !Tryz.prog.wantsStandIn u) = true := by kernel_rfl
        exact (show Tryz.prog.wantsStandIn t = false by simpa using List.all_eq_true.1 hall t hm)⟩)
    (by kernel_rfl)
end Go.Proofs.YtpgmipbanpofaaaGreatDoor.fnExactClassOf
namespace Go.Proofs.YtpgmipbanpofaaaGreatDoor
theorem fnExactClassOf_holds : Rows.FnExactClassOfCardSaid := fnExactClassOf.card
#print axioms fnExactClassOf_holds
end Go.Proofs.YtpgmipbanpofaaaGreatDoor
