/-
  Proved: at every code what FnConsts says of drawn consts holds (it returns true), where the program's own error value holds what its text lays (the card ties it), without any other condition.
-/
import Derived.Test.YtgegmocgbjklkaaDoorRows
import Derived.Test.YtgegmocgbjklkaaDoorCards
import Derived.Test.YtgegmocgbjklkaaDoorTie
import Derived.Test.YtgegmocgbjklkaaDoorRowIn
import Derived.Test.YtgegmocgbjklkaaDoorLaid
import Derived.Test.YtgegmocgbjklkaaDoorAtW
import Derived.Test.YtgegmocgbjklkaaDoorConstOfI
import Derived.Test.YtgegmocgbjklkaaDoorConstOfT
import Derived.Test.YtgegmocgbjklkaaDoorKRound
import Derived.Test.YtgegmocgbjklkaaDoorDrawKOf
import Derived.Test.YtgegmocgbjklkaaDoorStrW
import Derived.Test.YtgegmocgbjklkaaDoorStepW
import Derived.Test.YtgegmocgbjklkaaDoorLow
import Derived.Deep.CutRange
import Derived.Deep.RegionHeldLaw
import Derived.WalkKit
import Derived.ProofKit
import Derived.OpenShut
import Derived.ShutString
import Derived.ChangeOld
import Derived.Below
import Derived.SevenTiedAt
namespace Go.Proofs.YtgegmocgbjklkaaDoor.fnConsts
open Go.ChangeShapes Go.WideShapes Go.ChangeAt Go.RowKit
set_option linter.unusedVariables false
theorem kB_pos {k n : Int} {a b : ByteArray} (h : kOk k n a b = true) : 0 < (kB k n a b).length := by
  have e : kB k n a b = kB0 k n a b := by simp [kB, h]
  have hk := kOk_kind h
  rw [e]
  unfold kB0
  have := pn_posK (x := k) (by omega) (by omega)
  rw [List.length_append]
  omega
theorem kB_none {k n : Int} {a b : ByteArray} (h : kOk k n a b = false) : kB k n a b = [] := by simp [kB, h]

set_option maxRecDepth 100000 in
set_option maxHeartbeats 8000000 in
theorem walk (a0 : Option Addr) (len0 cap0 : Nat) (z0 : List Int) (t : TypeId) (v : Value) (w : World) (w0 : IsRow .u8 w a0 len0 cap0 z0) (hE : Err w t v) (hp : 0 < w.heap.size) :
    Calls Tryd.prog 3 #[.slice a0 len0 cap0] w fun e w' => e = .returned (.bool true) ∧ Below w.heap.size w w' := by
  by_cases hbig : (1048576 : Int) < (len0 : Int)
  · clear w0 hE
    go_enter Tryd.func3, Tryd.ntmps3
    go_wp2_with fail
    refine (bigYes _ _ _ _ hbig).mono ?_
    rintro e w1 ⟨rfl, rfl⟩
    go_wp2
    go_ret
    exact ⟨rfl, Below.refl _ _⟩
  · have hin := in_of w0 (by omega)
    clear w0
    generalize z0.take len0 = zs at hin
    have HI := hide hin
    have HE := hide hE
    clear hin hE
    go_enter Tryd.func3, Tryd.ntmps3
    go_wp2_with fail
    refine (bigNo _ _ _ _ (by omega)).mono ?_
    rintro e x ⟨rfl, hx⟩
    rw [hx]
    clear hx x hbig
    go_wp2_with fail
    refine (drawCB _ _ _ _ _ HI.out).mono ?_
    rintro e w1 ⟨k, n, sa, sb, rfl, hab, b1⟩
    have HB := hide b1
    clear b1
    have E3 := hide (heap_alloc_new w1 (.cells #[.int .i64 k, .int .i64 n, .string sa, .string sb] 25))
    replace HB := hide (HB.out.alloc HB.out.size (.cells #[.int .i64 k, .int .i64 n, .string sa, .string sb] 25))
    go_upto_region 4 with fail
    generalize w1.alloc (.cells #[.int .i64 k, .int .i64 n, .string sa, .string sb] 25) = W1 at *
    have HX := hide (box_of E3.out).1
    have p0 := HX.out 0 _ rfl
    have p1 := HX.out 1 _ rfl
    have p2 := HX.out 2 _ rfl
    have p3 := HX.out 3 _ rfl
    go_wp2_with fail
    clear p0 p1 p2 p3 HX
    refine (constBytesImpl k n sa sb _ hab.1 hab.2).mono ?_
    rintro e w2 ⟨v4, rfl, o4, b2⟩
    have HO := hide o4
    replace E3 := hide ((b2.block _ (Array.getElem?_eq_some_iff.1 E3.out).1).trans E3.out)
    replace HB := hide (HB.out.trans (b2.mono HB.out.size))
    obtain ⟨a4, c4, rfl⟩ := own_shape o4
    have HZ4 := hide o4.cap0
    clear b2 o4
    have hl4 := kB_len k n sa sb
    go_upto_region 5 with fail
    go_cut [36] from 23 to 36 (fun s wq => s = .bool false ∧ Below w2.heap.size w2 wq)
    case first =>
      have HS : Hid (∀ w', Below w2.heap.size w2 w' → w'.cell? ⟨w1.heap.size, 0, none⟩ = some (.int .i64 k) ∧ w'.cell? ⟨w1.heap.size, 1, none⟩ = some (.int .i64 n) ∧ w'.cell? ⟨w1.heap.size, 2, none⟩ = some (.string sa) ∧ w'.cell? ⟨w1.heap.size, 3, none⟩ = some (.string sb)) := hide (fun w' hb => by
        have X := (box_of ((hb.block _ (Array.getElem?_eq_some_iff.1 E3.out).1).trans E3.out)).1
        exact ⟨X 0 _ rfl, X 1 _ rfl, X 2 _ rfl, X 3 _ rfl⟩)
      have HD0 : Hid (Below w2.heap.size w2 w2.drew) := hide (Below.refl _ _).drew
      have hcI : (convert 22 9 (.slice a4 (kB k n sa sb).length c4)).run Tryd.prog w2.drew = .ok (.string (strOfNums (kB k n sa sb))) w2.drew := own_str (w := w2.drew) HO.out
      have HK : Hid ((decide (0 < (kB k n sa sb).length)) = kOk k n sa sb) := hide (by
        cases hk : kOk k n sa sb with
        | true => exact decide_eq_true (kB_pos hk)
        | false => rw [kB_none hk]; rfl)
      have HCB : Hid (∀ W : World, Calls Tryd.prog 8 #[constV k n sa sb] W fun e w' => ∃ v, e = .returned v ∧ Own w' W.heap.size v (kB k n sa sb) ∧ Below W.heap.size W w') := hide (fun W => constBytesSpec k n sa sb W hab.1 hab.2)
      have HCO : Hid (∀ W : World, Calls Tryd.prog 9 #[constV k n sa sb] W fun e w' => e = .returned (.bool (kOk k n sa sb)) ∧ Below W.heap.size W w') := hide (fun W => constOkImpl k n sa sb W hab.1 hab.2)
      generalize kB k n sa sb = us at *
      generalize hS : strOfNums us = SS at *
      have HSS := hide hS
      clear hS
      cases hk : kOk k n sa sb with
      | false =>
        rw [hk] at HK HCO
        have hL : ¬ 0 < us.length := of_decide_eq_false HK.out
        clear hk HK
        go_region_held_law (fun w' => w'.cell? ⟨w1.heap.size, 0, none⟩ = some (.int .i64 k) ∧ w'.cell? ⟨w1.heap.size, 1, none⟩ = some (.int .i64 n) ∧ w'.cell? ⟨w1.heap.size, 2, none⟩ = some (.string sa) ∧ w'.cell? ⟨w1.heap.size, 3, none⟩ = some (.string sb))
          (first | exact HS.out _ HD2.out | exact HS.out _ HD1.out | exact HS.out _ HD0.out)
          (first
            | (refine step_callW (some 26) rfl (by kernel_rfl) 8 _ _ rfl #[constV k n sa sb] (by kernel_rfl) (HCB.out _) ?_; rintro e x1 ⟨v1, rfl, o1, b1⟩; refine ⟨_, rfl, ?_⟩; obtain ⟨a1, q1, rfl⟩ := own_shape o1; have hcv := own_str o1; rw [HSS.out] at hcv; have HD1 : Hid (Below w2.heap.size w2 x1) := hide (below_of_drew b1); have hcI1 : (convert 22 9 (.slice a4 us.length c4)).run Tryd.prog x1 = .ok (.string SS) x1 := (by rw [← HSS.out]; exact own_str (HO.out.below HD1.out)); clear b1 o1)
            | (refine step_callW (some 34) rfl (by kernel_rfl) 9 _ _ rfl #[constV k n sa sb] (by kernel_rfl) (HCO.out _) ?_; rintro e x2 ⟨rfl, b3⟩; refine ⟨_, rfl, ?_⟩; have HD2 : Hid (Below w2.heap.size w2 x2) := hide (HD1.out.trans (b3.mono HD1.out.size)); clear b3)
            | fail)
        all_goals (go_wp2_with fail; go_meet; exact ⟨rfl, HD2.out⟩)
      | true =>
        rw [hk] at HK HCO
        have hL : 0 < us.length := of_decide_eq_true HK.out
        clear hk HK
        go_region_held_law (fun w' => w'.cell? ⟨w1.heap.size, 0, none⟩ = some (.int .i64 k) ∧ w'.cell? ⟨w1.heap.size, 1, none⟩ = some (.int .i64 n) ∧ w'.cell? ⟨w1.heap.size, 2, none⟩ = some (.string sa) ∧ w'.cell? ⟨w1.heap.size, 3, none⟩ = some (.string sb))
          (first | exact HS.out _ HD2.out | exact HS.out _ HD1.out | exact HS.out _ HD0.out)
          (first
            | (refine step_callW (some 26) rfl (by kernel_rfl) 8 _ _ rfl #[constV k n sa sb] (by kernel_rfl) (HCB.out _) ?_; rintro e x1 ⟨v1, rfl, o1, b1⟩; refine ⟨_, rfl, ?_⟩; obtain ⟨a1, q1, rfl⟩ := own_shape o1; have hcv := own_str o1; rw [HSS.out] at hcv; have HD1 : Hid (Below w2.heap.size w2 x1) := hide (below_of_drew b1); have hcI1 : (convert 22 9 (.slice a4 us.length c4)).run Tryd.prog x1 = .ok (.string SS) x1 := (by rw [← HSS.out]; exact own_str (HO.out.below HD1.out)); clear b1 o1)
            | (refine step_callW (some 34) rfl (by kernel_rfl) 9 _ _ rfl #[constV k n sa sb] (by kernel_rfl) (HCO.out _) ?_; rintro e x2 ⟨rfl, b3⟩; refine ⟨_, rfl, ?_⟩; have HD2 : Hid (Below w2.heap.size w2 x2) := hide (HD1.out.trans (b3.mono HD1.out.size)); clear b3)
            | fail)
        all_goals (go_wp2_with fail; go_meet; exact ⟨rfl, HD2.out⟩)
    case rest =>
      obtain ⟨rfl, b9⟩ := hcut
      replace E3 := hide ((b9.block _ (Array.getElem?_eq_some_iff.1 E3.out).1).trans E3.out)
      replace HB := hide (HB.out.trans (b9.mono HB.out.size))
      replace HO := hide (HO.out.below b9)
      clear b9
      go_upto_if 39 with fail
      go_cut [5, 6, 7] from 37 to 65 (fun _ _ _ wq => Below w.heap.size w wq)
      case first =>
        cases hk : kOk k n sa sb with
        | false =>
          have hL : ¬ 0 < (kB k n sa sb).length := by rw [kB_none hk]; simp
          go_wp2_with fail
          go_meet
          exact HB.out
        | true =>
          have hL := kB_pos hk
          have HY := hide (kB_byt k n sa sb)
          have HN : Hid (∀ z : Int, cOf (kB k n sa sb ++ [z]) 0 = some ((k, n, sa, sb), (kB k n sa sb).length)) := hide (fun z => by
            have := const_put (zs := kB k n sa sb ++ [z]) (p := 0) hk ⟨[z], by simp⟩
            simpa using this)
          clear hk
          have s0 := HB.out.size
          have HW0 := hide ((Below.refl wc.heap.size wc).alloc (Nat.le_refl _) (.cells #[] 5))
          have HO0 := hide (HO.out.below HW0.out)
          go_wp2_with (at_builtin; refine app_own rfl _ _ rfl wc.heap.size _ _ _ _ (kB k n sa sb) rfl (own_empty wc wc.heap.size (Nat.le_refl _)) rfl HO0.out HY.out (by omega) (by simp) (by simp) ?_; intro v6 w6 o6 g6 n6; have HO6 := hide (show Own w6 wc.heap.size v6 (kB k n sa sb) from o6); have HW6 := hide (HW0.out.grown g6 HW0.out.size (fun q hq => ((own_empty wc wc.heap.size (Nat.le_refl _)).lt q hq).1)); clear o6 g6 n6)
          have HB6 := hide (HB.out.trans (HW6.out.mono s0))
          have hsz6 := HW6.out.size
          clear HO0 HW0
          refine (atB _ _ _ _ _ zs 1 (by omega) (HI.out.at HB6.out)).mono ?_
          rintro e x ⟨rfl, hx⟩
          rw [hx]
          clear hx x
          have hz := atF_bd zs (in_byt HI.out) 1
          generalize atF zs 1 = z at *
          have hw : IntKind.u8.wrap z = z := by rw [IntKind.wrap_u8]; omega
          have HO7 := hide (HO6.out.below ((Below.refl w6.heap.size w6).alloc (Nat.le_refl _) (.cells #[.int .u8 z] 5)))
          have HW7 := hide (HW6.out.alloc HW6.out.size (.cells #[.int .u8 z] 5))
          have HU7 : Hid (Own (w6.alloc (.cells #[.int .u8 z] 5)) w6.heap.size (.slice (some ⟨w6.heap.size, 0, none⟩) 1 1) [z]) := hide (World.ownsRow_lit w6 #[.int .u8 z] 1 (Nat.le_refl _) (by unfold maxLen; omega) rfl)
          have hbz : Byt [z] := fun y hy => by simp at hy; omega
          clear HO6 HB6 HW6
          go_wp2_with (at_builtin; refine app_own rfl _ _ rfl wc.heap.size _ _ _ _ [z] rfl HO7.out rfl HU7.out hbz (by simp) (by omega) (by simp; omega) ?_; intro v8 w8 o8 g8 n8; have HO8 := hide o8; have HW8 := hide (HW7.out.grown g8 HW7.out.size (fun q hq => (HO7.out.lt q hq).1)); clear o8 g8 n8)
          clear HO7 HW7 HU7
          have HB8 := hide (HB.out.trans (HW8.out.mono s0))
          obtain ⟨a8, c8, rfl, hin8, hc8⟩ := in_any HO8.out (by simp; omega) (HY.out.append hbz) (Nat.le_refl _)
          have HQ := hide (constOfI w8 a8 _ c8 _ 0 t v (Nat.lt_of_lt_of_le hp HB8.out.size) hin8 hc8 (HE.out.low HB8.out hp))
          have HQ2 : Hid (Calls Tryd.prog 10 #[.slice a8 (kB k n sa sb ++ [z]).length c8, .int .i64 0] w8 fun e w' => e = .returned (.tuple #[.agg #[.int .i64 k, .int .i64 n, .string sa, .string sb], .int .i64 ((kB k n sa sb).length : Int), .bool true]) ∧ Below w8.heap.size w8 w') := hide (HQ.out.mono fun e w' h => ⟨by rw [h.1, HN.out z]; rfl, h.2⟩)
          clear HQ hin8 hc8 HO8 HB8 hw hz hbz
          go_wp2_with fail
          refine (unhide HQ2).mono ?_
          rintro e w9 ⟨rfl, b9⟩
          have hs3 := (Array.getElem?_eq_some_iff.1 E3.out).1
          have HW9 := hide (HW8.out.trans (b9.mono HW8.out.size))
          have s9 := HW9.out.size
          have bD := (Below.refl w9.heap.size w9).alloc (Nat.le_refl _) (.cells #[.int .i64 k, .int .i64 n, .string sa, .string sb] 25)
          have E5 := hide (heap_alloc_new w9 (.cells #[.int .i64 k, .int .i64 n, .string sa, .string sb] 25))
          replace HW9 := hide (HW9.out.trans (bD.mono HW9.out.size))
          have E3b := hide ((HW9.out.block _ hs3).trans E3.out)
          clear b9 bD HQ2 HW8
          go_upto_region 9 with fail
          generalize w9.alloc (.cells #[.int .i64 k, .int .i64 n, .string sa, .string sb] 25) = W9 at *
          have HXa := hide (box_of E3b.out).1
          have HXb := hide (box_of E5.out).1
          have p0 := HXa.out 0 _ rfl
          have p1 := HXa.out 1 _ rfl
          have p2 := HXa.out 2 _ rfl
          have p3 := HXa.out 3 _ rfl
          have r0 := HXb.out 0 _ rfl
          have r1 := HXb.out 1 _ rfl
          have r2 := HXb.out 2 _ rfl
          have r3 := HXb.out 3 _ rfl
          have hnl : (((kB k n sa sb).length : Int) != ((kB k n sa sb).length : Int)) = false := by simp
          have e1 : (k == k) = true := by simp
          have e2 : (n == n) = true := by simp
          have e3 : (sa.toList == sa.toList) = true := by simp
          have e4 : (sb.toList == sb.toList) = true := by simp
          go_wp2_with fail
          go_meet
          exact HB.out.trans (HW9.out.mono s0)
      case rest =>
        clear HO E3 HZ4 hl4
        have HB := hide hcut
        clear hcut
        go_wp2_with fail
        refine (drawCF _ _ _ _ _ (HI.out.at HB.out)).mono ?_
        rintro e w3 ⟨ar, lr, cr, us, i, rfl, hinr, hcr, hzr, hspr, hi, b3⟩
        have HR := hide hinr
        have HSP := hide hspr
        replace HB := hide (HB.out.trans (b3.mono HB.out.size))
        clear b3 hinr hspr
        obtain ⟨kd, m, ra, rb, nx, ok, hans, hcase⟩ : ∃ kd m ra rb nx ok, ansK (cOf us i) = .tuple #[.agg #[.int .i64 kd, .int .i64 m, .string ra, .string rb], .int .i64 nx, .bool ok] ∧ ((ok = false ∧ kd = 0 ∧ m = 0 ∧ ra = noS ∧ rb = noS) ∨ (ok = true ∧ ∃ e : Nat, nx = (e : Int) ∧ cOf us i = some ((kd, m, ra, rb), e))) := by
          cases hr : cOf us i with
          | none => exact ⟨0, 0, noS, noS, 0, false, rfl, .inl ⟨rfl, rfl, rfl, rfl, rfl⟩⟩
          | some r => obtain ⟨⟨kd, m, ra, rb⟩, e⟩ := r; exact ⟨kd, m, ra, rb, e, true, rfl, .inr ⟨rfl, e, rfl, rfl⟩⟩
        have HCS := hide hcase
        have HQI : Hid (∀ W : World, Below w3.heap.size w3 W → Calls Tryd.prog 10 #[.slice ar lr cr, .int .i64 i] W fun e w' => e = .returned (.tuple #[.agg #[.int .i64 kd, .int .i64 m, .string ra, .string rb], .int .i64 nx, .bool ok]) ∧ Below W.heap.size W w') :=
          hide (fun W hb => (constOfI W ar lr cr us i t v (Nat.lt_of_lt_of_le hp (Nat.le_trans HB.out.size hb.size)) (HR.out.at hb) hcr (HE.out.low (HB.out.trans (hb.mono HB.out.size)) hp)).mono (fun e w' h => ⟨by rw [← hans]; exact h.1, h.2⟩))
        have HQS : Hid (∀ W : World, Below w3.heap.size w3 W → Calls Tryd.prog 13 #[.slice ar lr cr, .int .i64 i] W fun e w' => e = .returned (.tuple #[.agg #[.int .i64 kd, .int .i64 m, .string ra, .string rb], .int .i64 nx, .bool ok]) ∧ Below W.heap.size W w') :=
          hide (fun W hb => (constOfT W ar lr cr us i (HR.out.at hb) hcr).mono (fun e w' h => ⟨by rw [← hans]; exact h.1, h.2⟩))
        clear hans hcase
        have HV := hide (Below.refl w3.heap.size w3)
        go_wp2_with fail
        refine (HQI.out _ HV.out).mono ?_
        rintro e w4 ⟨rfl, b4⟩
        replace HV := hide (HV.out.trans (b4.mono HV.out.size))
        clear b4
        have s4 := HV.out.size
        have E10 := hide (heap_alloc_new w4 (.cells #[.int .i64 kd, .int .i64 m, .string ra, .string rb] 25))
        replace HV := hide (HV.out.alloc s4 (.cells #[.int .i64 kd, .int .i64 m, .string ra, .string rb] 25))
        go_upto_region 13 with fail
        generalize w4.alloc (.cells #[.int .i64 kd, .int .i64 m, .string ra, .string rb] 25) = W4 at *
        go_wp2_with fail
        refine (HQS.out _ HV.out).mono ?_
        rintro e w5 ⟨rfl, b5⟩
        replace E10 := hide ((b5.block _ (Array.getElem?_eq_some_iff.1 E10.out).1).trans E10.out)
        replace HV := hide (HV.out.trans (b5.mono HV.out.size))
        clear b5 HQI HQS
        have s5 := HV.out.size
        replace E10 := hide ((Below.heap_alloc w5 (.cells #[.int .i64 kd, .int .i64 m, .string ra, .string rb] 25) _ (Array.getElem?_eq_some_iff.1 E10.out).1).trans E10.out)
        replace HV := hide (HV.out.alloc s5 (.cells #[.int .i64 kd, .int .i64 m, .string ra, .string rb] 25))
        go_upto_region 14 with fail
        generalize w5.alloc (.cells #[.int .i64 kd, .int .i64 m, .string ra, .string rb] 25) = W5 at *
        go_wp2_with fail
        refine (drawCO _ _ _ _ _ (HI.out.at (HB.out.trans (HV.out.mono HB.out.size)))).mono ?_
        rintro e w6 ⟨xk, xn, xa, xb, rfl, hx, b6⟩
        replace E10 := hide ((b6.block _ (Array.getElem?_eq_some_iff.1 E10.out).1).trans E10.out)
        replace HV := hide (HV.out.trans (b6.mono HV.out.size))
        clear b6
        have s6 := HV.out.size
        have E16 := hide (heap_alloc_new w6 (.cells #[.int .i64 xk, .int .i64 xn, .string xa, .string xb] 25))
        replace E10 := hide ((Below.heap_alloc w6 (.cells #[.int .i64 xk, .int .i64 xn, .string xa, .string xb] 25) _ (Array.getElem?_eq_some_iff.1 E10.out).1).trans E10.out)
        replace HV := hide (HV.out.alloc s6 (.cells #[.int .i64 xk, .int .i64 xn, .string xa, .string xb] 25))
        go_upto_region 15 with fail
        generalize w6.alloc (.cells #[.int .i64 xk, .int .i64 xn, .string xa, .string xb] 25) = W at *
        have HBW := hide (HB.out.trans (HV.out.mono HB.out.size))
        have HRW := hide (HR.out.at HV.out)
        generalize w6.heap.size = B6 at *
        generalize w4.heap.size = B0 at *
        have HI1 : Hid (∀ V : World, Calls Tryd.prog 9 #[constV xk xn xa xb] V fun e w' => e = .returned (.bool (kOk xk xn xa xb)) ∧ Below V.heap.size V w') := hide (fun V => constOkImpl xk xn xa xb V hx.1 hx.2)
        have HI2 : Hid (∀ V : World, Calls Tryd.prog 15 #[constV xk xn xa xb] V fun e w' => e = .returned (.bool (kOk xk xn xa xb)) ∧ Below V.heap.size V w') := hide (fun V => constOkSpec xk xn xa xb V hx.1 hx.2)
        generalize kOk xk xn xa xb = xB at *
        have hxB : (xB == xB) = true := by simp
        have HS : Hid (∀ w', Below W.heap.size W w' → w'.cell? ⟨B6, 0, none⟩ = some (.int .i64 xk) ∧ w'.cell? ⟨B6, 1, none⟩ = some (.int .i64 xn) ∧ w'.cell? ⟨B6, 2, none⟩ = some (.string xa) ∧ w'.cell? ⟨B6, 3, none⟩ = some (.string xb) ∧ w'.cell? ⟨B0, 0, none⟩ = some (.int .i64 kd) ∧ w'.cell? ⟨B0, 1, none⟩ = some (.int .i64 m) ∧ w'.cell? ⟨B0, 2, none⟩ = some (.string ra) ∧ w'.cell? ⟨B0, 3, none⟩ = some (.string rb)) := hide (fun w' hb => by
          have X := (box_of ((hb.block _ (Array.getElem?_eq_some_iff.1 E16.out).1).trans E16.out)).1
          have Y := (box_of ((hb.block _ (Array.getElem?_eq_some_iff.1 E10.out).1).trans E10.out)).1
          exact ⟨X 0 _ rfl, X 1 _ rfl, X 2 _ rfl, X 3 _ rfl, Y 0 _ rfl, Y 1 _ rfl, Y 2 _ rfl, Y 3 _ rfl⟩)
        have HD0 : Hid (Below W.heap.size W W.drew) := hide (Below.refl _ _).drew
        have hnx : (nx == nx) = true := by simp
        clear HB HR HV E10 E16 HI HE s4 s5 s6
        rcases HCS.out with ⟨rfl, rfl, rfl, rfl, rfl⟩ | ⟨rfl, nn, rfl, hr⟩
        · clear HCS HRW
          have hss : (noS.toList == noS.toList) = true := by simp
          have u0 := fun m : Lo W => (HS.out _ m.b).1
          have u1 := fun m : Lo W => (HS.out _ m.b).2.1
          have u2 := fun m : Lo W => (HS.out _ m.b).2.2.1
          have u3 := fun m : Lo W => (HS.out _ m.b).2.2.2.1
          have u4 := fun m : Lo W => (HS.out _ m.b).2.2.2.2.1
          have u5 := fun m : Lo W => (HS.out _ m.b).2.2.2.2.2.1
          have u6 := fun m : Lo W => (HS.out _ m.b).2.2.2.2.2.2.1
          have u7 := fun m : Lo W => (HS.out _ m.b).2.2.2.2.2.2.2
          refine wp_region_low (by kernel_rfl) (by kernel_rfl) ?_
          repeat (go_big_quiet_step ((first | (go_at_call 9; exact low_below (HI1.out _)) | (go_at_call 15; exact low_below (HI2.out _)))))
          refine wpQuiet_nil ?_
          rintro _ ⟨mm, rfl⟩
          go_wp2
          go_ret
          exact ⟨rfl, HBW.out.trans (mm.b.mono HBW.out.size)⟩
        · clear HCS
          obtain ⟨h0, hck, hpre, hnn, hnl⟩ := const_back (in_byt HRW.out) hr
          have hpos := kB_pos hck
          have hsz := rK0_size (zs := us) (k := i) (c := (kd, m, ra, rb)) (e := nn) (by
            unfold cOf at hr
            obtain ⟨q, hq, hr⟩ := Option.bind_eq_some_iff.1 hr
            split at hr
            · cases hr; exact hq
            · cases hr)
          have HI3 : Hid (∀ V : World, Calls Tryd.prog 7 #[constV kd m ra rb] V fun e w' => ∃ v, e = .returned v ∧ Own w' V.heap.size v (kB kd m ra rb) ∧ Below V.heap.size V w') := hide (fun V => constBytesImpl kd m ra rb V hsz.1 hsz.2)
          simp only at hpre hnn hpos
          obtain ⟨I, rfl⟩ := Int.eq_ofNat_of_zero_le h0
          rw [Int.toNat_natCast] at hpre hnn
          have hlr := HRW.out.1
          generalize hL : (kB kd m ra rb).length = L at *
          subst hnn
          cases ar with
          | none =>
            have := HRW.out.none_len
            rw [this.2] at hnl
            simp at hnl
            omega
          | some x =>
            obtain ⟨b, o, sp⟩ := x
            have := HSP.out _ rfl
            simp only at this
            subst this
            have HRR : Hid (∀ w', Below W.heap.size W w' → (convert 22 9 (.slice (some ⟨b, o + I, none⟩) L (cr - I))).run Tryd.prog w' = .ok (.string (strOfNums (kB kd m ra rb))) w') := hide (fun w' hb => by
              have h1 := ((HRW.out.at hb).drop I (by omega)).take L (by omega)
              obtain ⟨r, hr2⟩ := hpre
              rw [hr2, ← hL, List.take_left'] at h1
              · rw [← hL]; exact in_str _ h1
              · rfl)
            have hic : ¬ cr = I := by omega
            have hcc : I + L ≤ cr := by omega
            generalize hS : strOfNums (kB kd m ra rb) = SS at *
            have HSS := hide hS
            clear hS hr hpre hck hsz HRW HSP hL
            generalize kB kd m ra rb = ks at *
            have hss : (SS.toList == SS.toList) = true := by simp
            refine wp_region_held_drew (S := fun w' => (w'.cell? ⟨B6, 0, none⟩ = some (.int .i64 xk) ∧ w'.cell? ⟨B6, 1, none⟩ = some (.int .i64 xn) ∧ w'.cell? ⟨B6, 2, none⟩ = some (.string xa) ∧ w'.cell? ⟨B6, 3, none⟩ = some (.string xb) ∧ w'.cell? ⟨B0, 0, none⟩ = some (.int .i64 kd) ∧ w'.cell? ⟨B0, 1, none⟩ = some (.int .i64 m) ∧ w'.cell? ⟨B0, 2, none⟩ = some (.string ra) ∧ w'.cell? ⟨B0, 3, none⟩ = some (.string rb)) ∧ (convert 22 9 (.slice (some ⟨b, o + I, none⟩) L (cr - I))).run Tryd.prog w' = .ok (.string SS) w') (by kernel_rfl) ⟨HS.out _ HD0.out, HRR.out _ HD0.out⟩ (fun hHeld => ?_)
            refine wpAnyH_take (i := 0) (v := ?_) rfl (by kernel_rfl) (by kernel_rfl) (by kernel_rfl) (fun _ _ _ h => h) (Or.inl ⟨by rfl, ?_⟩) (by assumption) ?_
            rotate_left
            · intro w' hSw
              try dsimp only at hSw
              go_simp; try rfl
            simp only [List.getElem_toArray, List.getElem_cons_zero, Act.put, List.setIfInBounds_toArray, List.set_cons_zero, List.set_cons_succ]
            refine wpAnyH_take (i := 2) (v := ?_) rfl (by kernel_rfl) (by kernel_rfl) (by kernel_rfl) (fun _ _ _ h => h) (Or.inl ⟨by rfl, ?_⟩) (by assumption) ?_
            rotate_left
            · intro w' hSw
              try dsimp only at hSw
              go_simp; try rfl
            simp only [List.getElem_toArray, List.getElem_cons_succ, List.getElem_cons_zero, Act.put, List.setIfInBounds_toArray, List.set_cons_zero, List.set_cons_succ]
            refine wpAnyH_ready (rs := [1]) (by kernel_rfl) (by simp) (AllReadyH.cons rfl (fun K hK => ?_) AllReadyH.nil)
            refine step_callW (some 88) rfl (by kernel_rfl) 9 _ _ rfl #[constV xk xn xa xb] (by kernel_rfl) (HI1.out _) ?_; rintro e y1 ⟨rfl, b1⟩; refine ⟨_, rfl, ?_⟩; have HD1 : Hid (Below W.heap.size W y1) := hide (below_of_drew b1); clear b1
            refine hK.out _ _ ⟨HS.out _ HD1.out, HRR.out _ HD1.out⟩ (fun hHeld => ?_)
            clear hK K
            simp only [Act.put, List.setIfInBounds_toArray, List.set_cons_zero, List.set_cons_succ]
            refine wpAnyH_ready (rs := [3]) (by kernel_rfl) (by simp) (AllReadyH.cons rfl (fun K hK => ?_) AllReadyH.nil)
            refine step_callW (some 90) rfl (by kernel_rfl) 15 _ _ rfl #[constV xk xn xa xb] (by kernel_rfl) (HI2.out _) ?_; rintro e y2 ⟨rfl, b2⟩; refine ⟨_, rfl, ?_⟩; have HD2 : Hid (Below W.heap.size W y2) := hide (HD1.out.trans (b2.mono HD1.out.size)); clear b2
            refine hK.out _ _ ⟨HS.out _ HD2.out, HRR.out _ HD2.out⟩ (fun hHeld => ?_)
            clear hK K
            simp only [Act.put, List.setIfInBounds_toArray, List.set_cons_zero, List.set_cons_succ]
            refine wpAnyH_take (i := 4) (v := ?_) rfl (by kernel_rfl) (by kernel_rfl) (by kernel_rfl) (fun _ _ _ h => h) (Or.inl ⟨by rfl, ?_⟩) (by assumption) ?_
            rotate_left
            · intro w' hSw
              try dsimp only at hSw
              go_simp; try rfl
            simp only [List.getElem_toArray, List.getElem_cons_succ, List.getElem_cons_zero, Act.put, List.setIfInBounds_toArray, List.set_cons_zero, List.set_cons_succ]
            refine wpAnyH_take (i := 5) (v := ?_) rfl (by kernel_rfl) (by kernel_rfl) (by kernel_rfl) (fun _ _ _ h => h) (Or.inl ⟨by rfl, ?_⟩) (by assumption) ?_
            rotate_left
            · intro w' hSw
              try dsimp only at hSw
              go_simp; try rfl
            simp only [List.getElem_toArray, List.getElem_cons_succ, List.getElem_cons_zero, Act.put, List.setIfInBounds_toArray, List.set_cons_zero, List.set_cons_succ]
            refine wpAnyH_take (i := 6) (v := ?_) rfl (by kernel_rfl) (by kernel_rfl) (by kernel_rfl) (fun _ _ _ h => h) (Or.inl ⟨by rfl, ?_⟩) (by assumption) ?_
            rotate_left
            · intro w' hSw
              try dsimp only at hSw
              go_simp; try rfl
            simp only [List.getElem_toArray, List.getElem_cons_succ, List.getElem_cons_zero, Act.put, List.setIfInBounds_toArray, List.set_cons_zero, List.set_cons_succ]
            refine wpAnyH_take (i := 7) (v := ?_) rfl (by kernel_rfl) (by kernel_rfl) (by kernel_rfl) (fun _ _ _ h => h) (Or.inl ⟨by rfl, ?_⟩) (by assumption) ?_
            rotate_left
            · intro w' hSw
              try dsimp only at hSw
              go_simp; try rfl
            simp only [List.getElem_toArray, List.getElem_cons_succ, List.getElem_cons_zero, Act.put, List.setIfInBounds_toArray, List.set_cons_zero, List.set_cons_succ]
            refine wpAnyH_take (i := 8) (v := ?_) rfl (by kernel_rfl) (by kernel_rfl) (by kernel_rfl) (fun _ _ _ h => h) (Or.inl ⟨by rfl, ?_⟩) (by assumption) ?_
            rotate_left
            · intro w' hSw
              try dsimp only at hSw
              go_simp; try rfl
            simp only [List.getElem_toArray, List.getElem_cons_succ, List.getElem_cons_zero, Act.put, List.setIfInBounds_toArray, List.set_cons_zero, List.set_cons_succ]
            refine wpAnyH_take (i := 9) (v := ?_) rfl (by kernel_rfl) (by kernel_rfl) (by kernel_rfl) (fun _ _ _ h => h) (Or.inl ⟨by rfl, ?_⟩) (by assumption) ?_
            rotate_left
            · intro w' hSw
              try dsimp only at hSw
              go_simp; try rfl
            simp only [List.getElem_toArray, List.getElem_cons_succ, List.getElem_cons_zero, Act.put, List.setIfInBounds_toArray, List.set_cons_zero, List.set_cons_succ]
            refine wpAnyH_take (i := 10) (v := ?_) rfl (by kernel_rfl) (by kernel_rfl) (by kernel_rfl) (fun _ _ _ h => h) (Or.inl ⟨by rfl, ?_⟩) (by assumption) ?_
            rotate_left
            · intro w' hSw
              try dsimp only at hSw
              go_simp; try rfl
            simp only [List.getElem_toArray, List.getElem_cons_succ, List.getElem_cons_zero, Act.put, List.setIfInBounds_toArray, List.set_cons_zero, List.set_cons_succ]
            refine wpAnyH_take (i := 11) (v := ?_) rfl (by kernel_rfl) (by kernel_rfl) (by kernel_rfl) (fun _ _ _ h => h) (Or.inl ⟨by rfl, ?_⟩) (by assumption) ?_
            rotate_left
            · intro w' hSw
              try dsimp only at hSw
              go_simp; try rfl
            simp only [List.getElem_toArray, List.getElem_cons_succ, List.getElem_cons_zero, Act.put, List.setIfInBounds_toArray, List.set_cons_zero, List.set_cons_succ]
            refine wpAnyH_take (i := 12) (v := ?_) rfl (by kernel_rfl) (by kernel_rfl) (by kernel_rfl) (fun _ _ _ h => h) (Or.inl ⟨by rfl, ?_⟩) (by assumption) ?_
            rotate_left
            · intro w' hSw
              try dsimp only at hSw
              go_simp; try rfl
            simp only [List.getElem_toArray, List.getElem_cons_succ, List.getElem_cons_zero, Act.put, List.setIfInBounds_toArray, List.set_cons_zero, List.set_cons_succ]
            refine wpAnyH_take (i := 13) (v := ?_) rfl (by kernel_rfl) (by kernel_rfl) (by kernel_rfl) (fun _ _ _ h => h) (Or.inl ⟨by rfl, ?_⟩) (by assumption) ?_
            rotate_left
            · intro w' hSw
              try dsimp only at hSw
              go_simp; try rfl
            simp only [List.getElem_toArray, List.getElem_cons_succ, List.getElem_cons_zero, Act.put, List.setIfInBounds_toArray, List.set_cons_zero, List.set_cons_succ]
            refine wpAnyH_take (i := 14) (v := ?_) rfl (by kernel_rfl) (by kernel_rfl) (by kernel_rfl) (fun _ _ _ h => h) (Or.inl ⟨by rfl, ?_⟩) (by assumption) ?_
            rotate_left
            · intro w' hSw
              try dsimp only at hSw
              go_simp; try rfl
            simp only [List.getElem_toArray, List.getElem_cons_succ, List.getElem_cons_zero, Act.put, List.setIfInBounds_toArray, List.set_cons_zero, List.set_cons_succ]
            refine wpAnyH_take (i := 15) (v := ?_) rfl (by kernel_rfl) (by kernel_rfl) (by kernel_rfl) (fun _ _ _ h => h) (Or.inl ⟨by rfl, ?_⟩) (by assumption) ?_
            rotate_left
            · intro w' hSw
              try dsimp only at hSw
              go_simp; try rfl
            simp only [List.getElem_toArray, List.getElem_cons_succ, List.getElem_cons_zero, Act.put, List.setIfInBounds_toArray, List.set_cons_zero, List.set_cons_succ]
            refine wpAnyH_take (i := 16) (v := ?_) rfl (by kernel_rfl) (by kernel_rfl) (by kernel_rfl) (fun _ _ _ h => h) (Or.inl ⟨by rfl, ?_⟩) (by assumption) ?_
            rotate_left
            · intro w' hSw
              try dsimp only at hSw
              go_simp; try rfl
            simp only [List.getElem_toArray, List.getElem_cons_succ, List.getElem_cons_zero, Act.put, List.setIfInBounds_toArray, List.set_cons_zero, List.set_cons_succ]
            refine wpAnyH_take (i := 17) (v := ?_) rfl (by kernel_rfl) (by kernel_rfl) (by kernel_rfl) (fun _ _ _ h => h) (Or.inl ⟨by rfl, ?_⟩) (by assumption) ?_
            rotate_left
            · intro w' hSw
              try dsimp only at hSw
              go_simp; try rfl
            simp only [List.getElem_toArray, List.getElem_cons_succ, List.getElem_cons_zero, Act.put, List.setIfInBounds_toArray, List.set_cons_zero, List.set_cons_succ]
            refine wpAnyH_take (i := 18) (v := ?_) rfl (by kernel_rfl) (by kernel_rfl) (by kernel_rfl) (fun _ _ _ h => h) (Or.inl ⟨by rfl, ?_⟩) (by assumption) ?_
            rotate_left
            · intro w' hSw
              try dsimp only at hSw
              go_simp; try rfl
            simp only [List.getElem_toArray, List.getElem_cons_succ, List.getElem_cons_zero, Act.put, List.setIfInBounds_toArray, List.set_cons_zero, List.set_cons_succ]
            refine wpAnyH_take (i := 19) (v := undef) rfl (by kernel_rfl) (by kernel_rfl) (by kernel_rfl) (fun _ _ _ h => h) (Or.inr ⟨by rfl, rfl⟩) (by assumption) ?_
            simp only [List.getElem_toArray, List.getElem_cons_succ, List.getElem_cons_zero, Act.put, List.setIfInBounds_toArray, List.set_cons_zero, List.set_cons_succ]
            refine wpAnyH_take (i := 20) (v := undef) rfl (by kernel_rfl) (by kernel_rfl) (by kernel_rfl) (fun _ _ _ h => h) (Or.inr ⟨by rfl, rfl⟩) (by assumption) ?_
            simp only [List.getElem_toArray, List.getElem_cons_succ, List.getElem_cons_zero, Act.put, List.setIfInBounds_toArray, List.set_cons_zero, List.set_cons_succ]
            refine wpAnyH_take (i := 21) (v := undef) rfl (by kernel_rfl) (by kernel_rfl) (by kernel_rfl) (fun _ _ _ h => h) (Or.inr ⟨by rfl, rfl⟩) (by assumption) ?_
            simp only [List.getElem_toArray, List.getElem_cons_succ, List.getElem_cons_zero, Act.put, List.setIfInBounds_toArray, List.set_cons_zero, List.set_cons_succ]
            refine wpAnyH_take (i := 22) (v := ?_) rfl (by kernel_rfl) (by kernel_rfl) (by kernel_rfl) (fun _ _ _ h => h) (Or.inl ⟨by rfl, ?_⟩) (by assumption) ?_
            rotate_left
            · intro w' hSw
              try dsimp only at hSw
              go_simp; try rfl
            simp only [List.getElem_toArray, List.getElem_cons_succ, List.getElem_cons_zero, Act.put, List.setIfInBounds_toArray, List.set_cons_zero, List.set_cons_succ]
            refine wpAnyH_take (i := 23) (v := ?_) rfl (by kernel_rfl) (by kernel_rfl) (by kernel_rfl) (fun _ _ _ h => h) (Or.inl ⟨by rfl, ?_⟩) (by assumption) ?_
            rotate_left
            · intro w' hSw
              try dsimp only at hSw
              go_simp; try rfl
            simp only [List.getElem_toArray, List.getElem_cons_succ, List.getElem_cons_zero, Act.put, List.setIfInBounds_toArray, List.set_cons_zero, List.set_cons_succ]
            refine wpAnyH_take (i := 24) (v := ?_) rfl (by kernel_rfl) (by kernel_rfl) (by kernel_rfl) (fun _ _ _ h => h) (Or.inl ⟨by rfl, ?_⟩) (by assumption) ?_
            rotate_left
            · intro w' hSw
              try dsimp only at hSw
              go_simp; try rfl
            simp only [List.getElem_toArray, List.getElem_cons_succ, List.getElem_cons_zero, Act.put, List.setIfInBounds_toArray, List.set_cons_zero, List.set_cons_succ]
            refine wpAnyH_take (i := 25) (v := ?_) rfl (by kernel_rfl) (by kernel_rfl) (by kernel_rfl) (fun _ _ _ h => h) (Or.inl ⟨by rfl, ?_⟩) (by assumption) ?_
            rotate_left
            · intro w' hSw
              try dsimp only at hSw
              go_simp; try rfl
            simp only [List.getElem_toArray, List.getElem_cons_succ, List.getElem_cons_zero, Act.put, List.setIfInBounds_toArray, List.set_cons_zero, List.set_cons_succ]
            refine wpAnyH_take (i := 26) (v := ?_) rfl (by kernel_rfl) (by kernel_rfl) (by kernel_rfl) (fun _ _ _ h => h) (Or.inl ⟨by rfl, ?_⟩) (by assumption) ?_
            rotate_left
            · intro w' hSw
              try dsimp only at hSw
              go_simp; try rfl
            simp only [List.getElem_toArray, List.getElem_cons_succ, List.getElem_cons_zero, Act.put, List.setIfInBounds_toArray, List.set_cons_zero, List.set_cons_succ]
            refine wpAnyH_take (i := 29) (v := ?_) rfl (by kernel_rfl) (by kernel_rfl) (by kernel_rfl) (fun _ _ _ h => h) (Or.inl ⟨by rfl, ?_⟩) (by assumption) ?_
            rotate_left
            · intro w' hSw
              try dsimp only at hSw
              go_simp; try rfl
            simp only [List.getElem_toArray, List.getElem_cons_succ, List.getElem_cons_zero, Act.put, List.setIfInBounds_toArray, List.set_cons_zero, List.set_cons_succ]
            refine wpAnyH_take (i := 30) (v := ?_) rfl (by kernel_rfl) (by kernel_rfl) (by kernel_rfl) (fun _ _ _ h => h) (Or.inl ⟨by rfl, ?_⟩) (by assumption) ?_
            rotate_left
            · intro w' hSw
              try dsimp only at hSw
              go_simp; try rfl
            simp only [List.getElem_toArray, List.getElem_cons_succ, List.getElem_cons_zero, Act.put, List.setIfInBounds_toArray, List.set_cons_zero, List.set_cons_succ]
            refine wpAnyH_take (i := 31) (v := ?_) rfl (by kernel_rfl) (by kernel_rfl) (by kernel_rfl) (fun _ _ _ h => h) (Or.inl ⟨by rfl, ?_⟩) (by assumption) ?_
            rotate_left
            · intro w' hSw
              try dsimp only at hSw
              go_simp; try rfl
            simp only [List.getElem_toArray, List.getElem_cons_succ, List.getElem_cons_zero, Act.put, List.setIfInBounds_toArray, List.set_cons_zero, List.set_cons_succ]
            refine wpAnyH_take (i := 32) (v := .slice (some ⟨b, o + I, none⟩) L (cr - I)) rfl (by kernel_rfl) (by kernel_rfl) (by kernel_rfl) (fun _ _ _ h => h) (Or.inl ⟨by rfl, ?_⟩) (by assumption) ?_
            · intro w' hSw
              go_simp
              rw [if_pos ⟨by omega, by omega⟩, if_pos (by omega), show ((I : Int) + (L : Int)).toNat - I = L from by omega]
            simp only [List.getElem_toArray, List.getElem_cons_succ, List.getElem_cons_zero, Act.put, List.setIfInBounds_toArray, List.set_cons_zero, List.set_cons_succ]
            refine wpAnyH_take (i := 33) (v := ?_) rfl (by kernel_rfl) (by kernel_rfl) (by kernel_rfl) (fun _ _ _ h => h) (Or.inl ⟨by rfl, ?_⟩) (by assumption) ?_
            rotate_left
            · intro w' hSw
              try dsimp only at hSw
              go_simp; try rfl
            simp only [List.getElem_toArray, List.getElem_cons_succ, List.getElem_cons_zero, Act.put, List.setIfInBounds_toArray, List.set_cons_zero, List.set_cons_succ]
            refine wpAnyH_ready (rs := [27]) (by kernel_rfl) (by simp) (AllReadyH.cons rfl (fun K hK => ?_) AllReadyH.nil)
            refine step_callW (some 114) rfl (by kernel_rfl) 7 _ _ rfl #[constV kd m ra rb] (by kernel_rfl) (HI3.out _) ?_; rintro e y3 ⟨v3, rfl, o3, b3⟩; refine ⟨_, rfl, ?_⟩; obtain ⟨a3, q3, rfl⟩ := own_shape o3; have hcv := own_str o3; rw [HSS.out] at hcv; have HD3 : Hid (Below W.heap.size W y3) := hide (HD2.out.trans (b3.mono HD2.out.size)); clear b3 o3
            refine hK.out _ _ ⟨HS.out _ HD3.out, HRR.out _ HD3.out⟩ (fun hHeld => ?_)
            clear hK K
            simp only [Act.put, List.setIfInBounds_toArray, List.set_cons_zero, List.set_cons_succ]
            refine wpAnyH_ready (rs := [28]) (by kernel_rfl) (by simp) (AllReadyH.cons rfl (fun K hK => ?_) AllReadyH.nil)
            go_simp
            refine hK.out _ _ ⟨HS.out _ HD3.out, HRR.out _ HD3.out⟩ (fun hHeld => ?_)
            clear hK K
            refine wpAnyH_take (i := 34) (v := ?_) rfl (by kernel_rfl) (by kernel_rfl) (by kernel_rfl) (fun _ _ _ h => h) (Or.inl ⟨by rfl, ?_⟩) (by assumption) ?_
            rotate_left
            · intro w' hSw
              try dsimp only at hSw
              go_simp; try rfl
            simp only [List.getElem_toArray, List.getElem_cons_succ, List.getElem_cons_zero, Act.put, List.setIfInBounds_toArray, List.set_cons_zero, List.set_cons_succ]
            refine wpAnyH_take (i := 35) (v := ?_) rfl (by kernel_rfl) (by kernel_rfl) (by kernel_rfl) (fun _ _ _ h => h) (Or.inl ⟨by rfl, ?_⟩) (by assumption) ?_
            rotate_left
            · intro w' hSw
              try dsimp only at hSw
              go_simp; try rfl
            simp only [List.getElem_toArray, List.getElem_cons_succ, List.getElem_cons_zero, Act.put, List.setIfInBounds_toArray, List.set_cons_zero, List.set_cons_succ]
            refine wpAnyH_take (i := 36) (v := ?_) rfl (by kernel_rfl) (by kernel_rfl) (by kernel_rfl) (fun _ _ _ h => h) (Or.inl ⟨by rfl, ?_⟩) (by assumption) ?_
            rotate_left
            · intro w' hSw
              try dsimp only at hSw
              go_simp; try rfl
            simp only [List.getElem_toArray, List.getElem_cons_succ, List.getElem_cons_zero, Act.put, List.setIfInBounds_toArray, List.set_cons_zero, List.set_cons_succ]
            refine wpAnyH_take (i := 37) (v := ?_) rfl (by kernel_rfl) (by kernel_rfl) (by kernel_rfl) (fun _ _ _ h => h) (Or.inl ⟨by rfl, ?_⟩) (by assumption) ?_
            rotate_left
            · intro w' hSw
              try dsimp only at hSw
              go_simp; try rfl
            simp only [List.getElem_toArray, List.getElem_cons_succ, List.getElem_cons_zero, Act.put, List.setIfInBounds_toArray, List.set_cons_zero, List.set_cons_succ]
            refine wpAnyH_take (i := 38) (v := ?_) rfl (by kernel_rfl) (by kernel_rfl) (by kernel_rfl) (fun _ _ _ h => h) (Or.inl ⟨by rfl, ?_⟩) (by assumption) ?_
            rotate_left
            · intro w' hSw
              try dsimp only at hSw
              go_simp; try rfl
            simp only [List.getElem_toArray, List.getElem_cons_succ, List.getElem_cons_zero, Act.put, List.setIfInBounds_toArray, List.set_cons_zero, List.set_cons_succ]
            refine wpAnyH_done (by kernel_rfl) ?_ _
            go_wp2
            go_ret
            exact ⟨rfl, HBW.out.trans (HD3.out.mono HBW.out.size)⟩

set_option maxRecDepth 100000 in
set_option maxHeartbeats 1000000 in
theorem lifted (os : Os) (started : os.Started) (H : Type) (enc : TypeId × Value → H) :
    ReturnsInHanded {} Tryd.checked os 3 .any (fun w args => (Rows.fnConstsSpec.pre enc Tryd.prog Tryd.f3 [] false w args ∧ laidMetH Tryd.prog laidL w) ∧ sizedMet enc Tryd.prog Tryd.f3 (OpenSpec.ofChange Rows.fnConstsSpec) false w args)
      (Rows.fnConstsSpec.post enc Tryd.prog Tryd.f3 false true false false) := by
  refine returnsInHanded_of_change_and (C := Tryd.checked) (X := fun w _ => laidMetH Tryd.prog laidL w) (fun _ _ _ hh h => h.of_heap hh) Tryd.own started (by kernel_rfl) Tryd.func3
    (ChangeSpec.witness_shaped (enc := enc) (C := Tryd.checked) (os := os) (X := fun w _ => laidMetH Tryd.prog laidL w) false (World.doorLaid Tryd.prog 28 os) #[.slice none 0 0] 8 rfl (World.shaped_of_RefB (by kernel_rfl) (by kernel_rfl)) (by kernel_rfl) (by kernel_rfl) (by kernel_rfl) (door_met os _)) ?_
  intro W base args ds gs before hval0 hW _ _ hL _
  have hval : ∀ (j : Nat) t v, Tryd.f3.params[j]? = some t → args[j]? = some v → Value.okWide Tryd.prog W .any base t v := hval0
  have hW' := hW
  obtain ⟨p, q, hA0, hV0, rfl, hfz, hnd⟩ := hW
  have hA : DataW.TrodAll enc Tryd.prog W 0 (fun _ => true) true Tryd.f3.params.toList args.toList ds p := hA0
  have hV : DataW.TrodVars enc Tryd.prog W (fun _ => true) ["loop.example/g00283/impl.errNone"] gs q := hV0
  rw [Tryd.params3] at hA hval
  obtain ⟨v0, vs0, d0, ds0, p0, q0, hargs, rfl, rfl, h0, r0⟩ := trodAll_cons hA
  obtain ⟨rfl, rfl, rfl⟩ := trodAll_nil r0
  obtain rfl : args = #[v0] := by cases args; simp_all
  obtain ⟨u, x, hv⟩ := err_of_laid hL
  obtain ⟨hE, hp⟩ := err_cell hv
  obtain ⟨rfl, rfl⟩ := hV.unique (vars_read enc hv _)
  obtain ⟨a0, len0, cap0, rfl⟩ := okWide_slice Tryd.underlying22 (hval 0 22 v0 rfl rfl)
  have k0 := h0
  have lt0 : ∀ x ∈ p0, x.block < W.heap.size := by obtain ⟨m, hm⟩ := k0; exact DataW.trod_lt m _ _ _ hm
  obtain ⟨z0, w0⟩ : ∃ zs, IsRow .u8 W a0 len0 cap0 zs := by
    obtain ⟨fuel, hf⟩ := h0
    rcases open_ints Tryd.underlying22 Tryd.underlying5 (by kernel_rfl) hf with ⟨hcs, _⟩ | ⟨x, l, c, zs, hcs, _, hl, hm, hz, _, hcell, hwz⟩
    · simp [Value.cells] at hcs
      obtain ⟨rfl, rfl, rfl⟩ := hcs
      exact ⟨[], .inl ⟨rfl, rfl, rfl, rfl⟩⟩
    · simp [Value.cells] at hcs
      obtain ⟨rfl, rfl, rfl⟩ := hcs
      exact ⟨zs, .inr ⟨_, rfl, hl, hm, by simpa using hz, hcell, hwz⟩⟩
  clear hA0 hval0 hV0
  refine (walk a0 len0 cap0 z0 u x W w0 hE hp).mono fun e W' ⟨he, bel⟩ => ?_
  subst he
  refine ⟨_, rfl, _, _, _, [], _, [.cell 0 0], hW', trodAll_mk1 (shut_bool Tryd.underlying4 _), (trodAll_cons_mk (Below.trod Tryd.laidOut (by kernel_rfl) (of_decide_eq_true (by kernel_rfl)) k0 bel lt0) trodAll_mk0), ?_, bel.frame _, fun h => by cases h⟩
  exact vars_read enc (var?_below bel gErr hp hv) _

theorem row : Rows.FnConstsSaid :=
  OpenClaim.holds_of_wide 3 Tryd.f3 rfl rfl rfl rfl rfl rfl rfl ⟨rfl, rfl, rfl, rfl, rfl⟩ rfl rfl rfl rfl rfl (by kernel_rfl) Tryd.func3 (by kernel_rfl)
    (of_decide_eq_true (by kernel_rfl)) (by unfold Func.isWrapper; first | (rw [if_pos (by decide +kernel)]; kernel_rfl) | (rw [if_neg (by decide +kernel)]; exact ⟨rfl, rfl⟩))
    (fun os started H enc _ => lifted os started H enc)

theorem card : Rows.FnConstsCardSaid :=
  Claim7.holds_tied_plain_at .later [] [.sentinel] true (true, "cbdce714cdd6be1b11c5a8f781d207e035b267704d9b363f13bd77256415f4e5") false
    row (fun _ h => by cases h) (by kernel_rfl) (fun _ h => by cases h) fnConsts_row_tie rfl ⟨rfl, rfl⟩ (by kernel_rfl) rfl
    (fun f fn hf hfn => by
      obtain rfl : f = 3 := Option.some.inj ((show Tryd.prog.funcNamed "loop.example/g00283/laws.FnConsts" = some 3 by kernel_rfl).symm.trans hf) |>.symm
      obtain rfl : fn = Tryd.f3 := (Option.some.inj (Tryd.func3.symm.trans hfn)).symm
      exact ⟨by kernel_rfl, fun j t ht => by
        rw [Tryd.params3] at ht
        have hm : t ∈ [22] := by simpa using Array.mem_of_getElem? ht
        have hall : ([22].all fun u => !Tryd.prog.wantsStandIn u) = true := by kernel_rfl
        exact (show Tryd.prog.wantsStandIn t = false by simpa using List.all_eq_true.1 hall t hm)⟩)
    (by kernel_rfl)
end Go.Proofs.YtgegmocgbjklkaaDoor.fnConsts
namespace Go.Proofs.YtgegmocgbjklkaaDoor
theorem fnConsts_holds : Rows.FnConstsCardSaid := fnConsts.card
#print axioms fnConsts_holds
end Go.Proofs.YtgegmocgbjklkaaDoor
