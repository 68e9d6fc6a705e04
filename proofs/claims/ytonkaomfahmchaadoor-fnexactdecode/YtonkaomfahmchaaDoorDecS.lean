/-
  Decode, by its model.
-/
import Derived.Test.YtonkaomfahmchaaDoorInsEncS
import Derived.Test.YtonkaomfahmchaaDoorDecM
import Derived.Test.YtonkaomfahmchaaDoorDeepC
import Derived.Test.YtonkaomfahmchaaDoorStrW
import Derived.Test.YtonkaomfahmchaaDoorRdrB
import Derived.RegionTactic
import Derived.Deep.RegionHeldLaw
import Derived.Test.YtonkaomfahmchaaDoorStepW
namespace Go.Proofs.YtonkaomfahmchaaDoor
open Go.RowKit

theorem step_run9 {P : Program} {ops : Array Oper} {o : Oper} {a : Act} {w w' : World} {K : Act → World → Prop} {Q : Exit → Act → World → Prop} {E : Prop} {v : Value} (d : Option Tmp) (hd : o.dst = d) (hw : Region.wanted o (yielded ops a.tmps) = true)
    (hrun : (execOp a.eval o).run P w = .ok (.value v) w') (h : K (a.put d v) w') : if Region.wanted o (yielded ops a.tmps) = true then Oper.wp P o a w K Q else E := by
  subst hd
  rw [if_pos hw]
  unfold Oper.wp
  rw [hrun, Oper.upon_value]
  exact h
def fixS (ys : List Isn) : List Isn := ys.map (fixA ys (ys.length : Int))
theorem fixS_len (ys : List Isn) : (fixS ys).length = ys.length := by simp [fixS]
theorem fixS_get (ys : List Isn) (j : Nat) (h : j < ys.length) : (fixS ys).getD j default = fixA ys (ys.length : Int) (ys.getD j default) := by simp [fixS, h]
/-- What Decode answers. -/
def ansS (b : Nat) (r : Option (List Isn)) (e : Ending) (w' : World) : Prop := ∃ u, e = .returned (.tuple #[u, .bool r.isSome]) ∧ OwnD w' b w'.heap.size (inss (r.getD [])) u
theorem decS_big {zs : List Int} (h : ¬ zs.length ≤ 90) : decOf zs = none := by unfold decOf decX; rw [if_neg h]
theorem decS_none {zs : List Int} (h : rA zs 0 = none) : decOf zs = none := by unfold decOf decX; rw [h]; split <;> rfl
theorem decS_bad {zs : List Int} {ys : List Isn} (h : rA zs 0 = some ys) (hc : codeB (fixS ys) = false) : decOf zs = none := by
  rw [← decX_eq]
  unfold decX fixS at *
  rw [h]
  split
  · simp only [Option.bind_some]; rw [hc]; rfl
  · rfl
theorem decS_some {zs : List Int} {ys : List Isn} (h : rA zs 0 = some ys) (hl : zs.length ≤ 90) (hc : codeB (fixS ys) = true) : decOf zs = some (fixS ys) := by
  rw [← decX_eq]
  unfold decX fixS at *
  rw [h, if_pos hl]
  simp only [Option.bind_some]; rw [hc]; rfl
theorem decS_enc {zs : List Int} (hB : Byt zs) {ys : List Isn} (h : rA zs 0 = some ys) (hc : codeB (fixS ys) = true) : encB (fixS ys) = zs := by
  unfold encB
  rw [hc]
  exact dec_enc hB h (ys.length : Int) (.inr (by omega)) hc
set_option maxRecDepth 100000 in
set_option maxHeartbeats 4000000 in
theorem decodeSpec (w : World) (a : Option Addr) (len cap : Nat) (zs : List Int) (hin : In w w.heap.size a len zs) :
    Calls Tryd.prog 4 #[.slice a len cap] w fun e w' => ansS w.heap.size (decOf zs) e w' ∧ Below w.heap.size w w' := by
  have hl := hin.1
  have hm := hin.2.1
  have HZ := hide (byt_of_in hin)
  have HIN : Hid (∀ w', Below w.heap.size w w' → In w' w.heap.size a len zs) := hide (fun w' hb => hin.low hb (Nat.le_refl _))
  clear hin
  obtain ⟨i0, hi, hz0, hz1, hz2⟩ := info_parts Tryd.infoIn
  have HI := hide (And.intro hi (And.intro hz0 (And.intro hz1 hz2)))
  clear hi hz0 hz1 hz2
  have bA := ((Below.refl w.heap.size w).alloc (Nat.le_refl _) (.cells #[] 33)).alloc (by simp) (.cells #[] 33)
  have HO0 : Hid (OwnDL ((w.alloc (.cells #[] 33)).alloc (.cells #[] 33)) w.heap.size ((w.alloc (.cells #[] 33)).alloc (.cells #[] 33)).heap.size [inss [], .row 33 2 0 []] [.slice (some ⟨w.heap.size, 0, none⟩) 0 0, .slice (some ⟨w.heap.size + 1, 0, none⟩) 0 0]) := hide (by
    have h1 := ownD_one (ownD_lit w w.heap.size (Nat.le_refl _) 33 2 0 #[] (by omega) rfl)
    have h2 := h1.snoc (by simp) 33 2 0 #[] (by omega) rfl
    simpa [inss] using h2)
  have HB0 := hide bA
  clear bA
  by_cases h90 : len ≤ 90
  · have hzl : zs.length ≤ 90 := by omega
    have h90' : (len : Int) ≤ 90 := by omega
    have HG0 : Hid (rA zs 0 = (rA zs 0).map fun r => [] ++ r) := hide (by cases rA zs 0 <;> rfl)
    go_enter Tryd.func4, Tryd.ntmps4
    go_wp2_with fail
    generalize (w.alloc (.cells #[] 33)).alloc (.cells #[] 33) = W0 at *
    go_loopw [5, 6, 7] (fun l i _ wr => ∃ (kj : Nat) (ys : List Isn) (ao : Option Addr) (co : Nat), l = .slice ao ys.length co ∧ i = .int .i64 (kj : Int) ∧ ys.length ≤ kj ∧ kj ≤ len ∧ Hid (OwnDL wr w.heap.size wr.heap.size [inss [], .row 33 2 ys.length (ys.flatMap inD)] [.slice (some ⟨w.heap.size, 0, none⟩) 0 0, .slice ao ys.length co]) ∧ Hid (rA zs 0 = (rA zs kj).map fun r => ys ++ r) ∧ Hid (Below w.heap.size w wr)) (fun _ i _ _ => len - (intOf i).toNat)
    case atStart => exact ⟨0, [], _, _, rfl, rfl, by simp, Nat.zero_le _, HO0, HG0, HB0⟩
    case round =>
      clear HO0 HG0 HB0
      obtain ⟨kj, ys, ao, co, rfl, rfl, hyk, hkl, HO, HN, HB⟩ := hrel
      have hsz := HB.out.size
      by_cases hj : kj < len
      · have hji : (kj : Int) < (len : Int) := by omega
        obtain ⟨ba, bo, rfl, hbl, hbc⟩ := (HIN.out wr HB.out).2.2.2 (by omega)
        have e0 := hbc kj hj
        have hbz := HZ.out.at kj (by omega)
        have HBC : Hid (∀ w', Below w.heap.size w w' → ∀ j, j < len → _) := hide (fun w' hb j hj => by
          obtain ⟨ba', bo', e', _, hbc'⟩ := (HIN.out w' hb).2.2.2 (by omega)
          cases e'
          exact hbc' j hj)
        have hst := rA_step (zs := zs) (k := kj) (by omega)
        obtain ⟨z, hz⟩ : ∃ z, zs.getD kj 0 = z := ⟨_, rfl⟩
        rw [hz] at e0 hbz
        have HP : Hid (OwnDL (wr.alloc (.cells #[.int .i64 z, .int .i64 0] 33)) w.heap.size (wr.alloc (.cells #[.int .i64 z, .int .i64 0] 33)).heap.size [inss [], .row 33 2 ys.length (ys.flatMap inD), inss [⟨z, 0⟩]] [.slice (some ⟨w.heap.size, 0, none⟩) 0 0, .slice ao ys.length co, .slice (some ⟨wr.heap.size, 0, none⟩) 1 1]) := hide (HO.out.snoc hsz 33 2 1 #[.int .i64 z, .int .i64 0] (by omega) rfl)
        have HBA := hide (HB.out.alloc hsz (.cells #[.int .i64 z, .int .i64 0] 33))
        clear HO HB hbc
        go_upto_region 7 with fail
        clear e0
        generalize wr.alloc (.cells #[.int .i64 z, .int .i64 0] 33) = WA at *
        generalize wr.heap.size = p at *
        obtain ⟨f0, f1⟩ := box_ins (HP.out.mid (c1 := [_, _]) (v1 := [_, _]) rfl)
        dsimp only at f0 f1
        have hri : rIns zs kj = if hasB z then (if kj + 1 < len then some (⟨z, low8 z + zs.getD (kj + 1) 0⟩, kj + 2) else none) else some (⟨z, 0⟩, kj + 1) := by
          unfold rIns
          rw [if_pos (by omega), hz, hl]
        clear hz
        cases kh : hasB z with
        | false =>
          rw [kh] at hri
          have hri' : rIns zs kj = some (⟨z, 0⟩, kj + 1) := hri
          have kz : (z == 1) = false := by
            cases h : (z == 1) with
            | false => rfl
            | true => rw [beq_iff_eq.1 h] at kh; cases kh
          clear hri
          go_upto_region 12 with (go_at_call 12; refine (hasSpec _ _).mono ?_; rintro e y9 ⟨rfl, hy9⟩; rw [hy9, kh]; clear hy9 y9)
          have HBx := hide (Box.new WA #[.int .i64 z, .int .i64 0] 33)
          have bX := (Below.refl WA.heap.size WA).alloc (Nat.le_refl _) (.cells #[.int .i64 z, .int .i64 0] 33)
          have HOx := hide (HP.out.below bX)
          have HDx : Hid (OwnDL (WA.alloc (.cells #[.int .i64 z, .int .i64 0] 33)) WA.heap.size (WA.alloc (.cells #[.int .i64 z, .int .i64 0] 33)).heap.size (inD ⟨z, 0⟩) [.int .i64 z, .int .i64 0]) := hide (OwnDL.val (OwnDL.val (ownDL_nil _ _ _)))
          have hsX := HBA.out.size
          have hsx : WA.heap.size ≤ (WA.alloc (.cells #[.int .i64 z, .int .i64 0] 33)).heap.size := bX.size
          have HBC2 := hide (HBA.out.trans (bX.mono hsX))
          have HN2 : Hid (rA zs 0 = (rA zs (kj + 1)).map fun r => ys ++ [⟨z, 0⟩] ++ r) := hide (by
            rw [HN.out, hst, hri']
            simp only [Option.bind_some]
            cases rA zs (kj + 1) <;> simp)
          clear bX
          go_wp2_with (first
            | (at_builtin; refine appL rfl _ _ 23 rfl w.heap.size WA.heap.size WA.heap.size 33 i0 (.agg #[.int .i64 0, .int .i64 0]) 2 16 Tryd.underlying23 HI.out.1 HI.out.2.1 HI.out.2.2.1 HI.out.2.2.2 rfl (by decide) _ ys.length (ys.flatMap inD) [inss []] [inss [⟨z, 0⟩]] [.slice (some ⟨w.heap.size, 0, none⟩) 0 0] [.slice (some ⟨p, 0, none⟩) 1 1] rfl HOx.out rfl WA.heap.size 1 [.int .i64 z, .int .i64 0] (inD ⟨z, 0⟩) rfl HBx.out HDx.out rfl (by simp [Value.oneCell']) (by omega) (by decide) (Nat.le_refl _) hsX hsx ?_; intro g9 c9 w6 o6 g6 q6; have HO6 := hide o6; have HB6 := hide (HBC2.out.grown g6 (Nat.le_trans hsX hsx) (fun q hq => (q6 q hq).1)); clear o6 g6 q6)
            | fail)
          exact ⟨⟨kj + 1, ys ++ [⟨z, 0⟩], some ⟨g9, 0, none⟩, c9, by simp, by go_num, by simp; omega, by omega, hide (by rw [List.flatMap_append, List.length_append]; simpa using HO6.out.left (c1 := [_, _]) (v1 := [_, _]) rfl), HN2, HB6⟩, by simp [intOf]; omega⟩
        | true =>
          rw [kh] at hri
          by_cases hk2 : kj + 1 < len
          · have hri' : rIns zs kj = some (⟨z, low8 z + zs.getD (kj + 1) 0⟩, kj + 2) := by rw [hri, if_pos hk2]; rfl
            clear hri
            have e2 := HBC.out WA HBA.out (kj + 1) hk2
            have hby := HZ.out.at (kj + 1) (by omega)
            obtain ⟨y, hy⟩ : ∃ y, zs.getD (kj + 1) 0 = y := ⟨_, rfl⟩
            rw [hy] at e2 hby hri'
            clear hy
            have hk3 : ((kj : Int) + 1 == (len : Int)) = false := by simp; omega
            have hk4 : (kj : Int) + 1 < (len : Int) := by omega
            obtain ⟨d2, d3, hgw, ho2⟩ := OwnDL.cell (c1 := [_, _]) (v1 := [_, _]) HP.out rfl (i := 1) (z := .int .i64 0) rfl (.int .i64 y)
            have HP2 : Hid (OwnDL (WA.setCell ⟨p, 1, none⟩ (.int .i64 y)) w.heap.size (WA.setCell ⟨p, 1, none⟩ (.int .i64 y)).heap.size [inss [], .row 33 2 ys.length (ys.flatMap inD), inss [⟨z, y⟩]] [.slice (some ⟨w.heap.size, 0, none⟩) 0 0, .slice ao ys.length co, .slice (some ⟨p, 0, none⟩) 1 1]) := hide (by simpa [inss, inD] using ho2)
            have HB2 := hide (HBA.out.setCell (p := ⟨p, 1, none⟩) hgw (.int .i64 y))
            clear ho2
            go_upto_region 12 with (go_at_call 12; refine (hasSpec _ _).mono ?_; rintro e y9 ⟨rfl, hy9⟩; rw [hy9, kh]; clear hy9 y9)
            clear f0 f1 d2 d3 e2
            generalize WA.setCell ⟨p, 1, none⟩ (.int .i64 y) = WB at *
            obtain ⟨f0, f1⟩ := box_ins (HP2.out.mid (c1 := [_, _]) (v1 := [_, _]) rfl)
            dsimp only at f0 f1
            by_cases kz : z = 1
            · subst kz
              have hri2 : rIns zs kj = some (⟨1, y - 128⟩, kj + 2) := by rw [hri']; simp [low8]; omega
              clear hri'
              obtain ⟨d2, d3, hgw2, ho2⟩ := OwnDL.cell (c1 := [_, _]) (v1 := [_, _]) HP2.out rfl (i := 1) (z := .int .i64 y) rfl (.int .i64 (y - 128))
              have HP3 : Hid (OwnDL (WB.setCell ⟨p, 1, none⟩ (.int .i64 (y - 128))) w.heap.size (WB.setCell ⟨p, 1, none⟩ (.int .i64 (y - 128))).heap.size [inss [], .row 33 2 ys.length (ys.flatMap inD), inss [⟨1, y - 128⟩]] [.slice (some ⟨w.heap.size, 0, none⟩) 0 0, .slice ao ys.length co, .slice (some ⟨p, 0, none⟩) 1 1]) := hide (by simpa [inss, inD] using ho2)
              have HB3 := hide (HB2.out.setCell (p := ⟨p, 1, none⟩) hgw2 (.int .i64 (y - 128)))
              clear ho2
              go_upto_region 14 with fail
              clear f0 f1 d2 d3
              generalize WB.setCell ⟨p, 1, none⟩ (.int .i64 (y - 128)) = WC at *
              obtain ⟨f0, f1⟩ := box_ins (HP3.out.mid (c1 := [_, _]) (v1 := [_, _]) rfl)
              dsimp only at f0 f1
              have HBx := hide (Box.new WC #[.int .i64 1, .int .i64 (y - 128)] 33)
              have bX := (Below.refl WC.heap.size WC).alloc (Nat.le_refl _) (.cells #[.int .i64 1, .int .i64 (y - 128)] 33)
              have HOx := hide (HP3.out.below bX)
              have HDx : Hid (OwnDL (WC.alloc (.cells #[.int .i64 1, .int .i64 (y - 128)] 33)) WC.heap.size (WC.alloc (.cells #[.int .i64 1, .int .i64 (y - 128)] 33)).heap.size (inD ⟨1, (y - 128)⟩) [.int .i64 1, .int .i64 (y - 128)]) := hide (OwnDL.val (OwnDL.val (ownDL_nil _ _ _)))
              have hsX := HB3.out.size
              have hsx : WC.heap.size ≤ (WC.alloc (.cells #[.int .i64 1, .int .i64 (y - 128)] 33)).heap.size := bX.size
              have HBC2 := hide (HB3.out.trans (bX.mono hsX))
              have HN2 : Hid (rA zs 0 = (rA zs (kj + 2)).map fun r => ys ++ [⟨1, (y - 128)⟩] ++ r) := hide (by
                rw [HN.out, hst, hri2]
                simp only [Option.bind_some]
                cases rA zs (kj + 2) <;> simp)
              clear bX
              go_wp2_with (first
                | (at_builtin; refine appL rfl _ _ 23 rfl w.heap.size WC.heap.size WC.heap.size 33 i0 (.agg #[.int .i64 0, .int .i64 0]) 2 16 Tryd.underlying23 HI.out.1 HI.out.2.1 HI.out.2.2.1 HI.out.2.2.2 rfl (by decide) _ ys.length (ys.flatMap inD) [inss []] [inss [⟨1, (y - 128)⟩]] [.slice (some ⟨w.heap.size, 0, none⟩) 0 0] [.slice (some ⟨p, 0, none⟩) 1 1] rfl HOx.out rfl WC.heap.size 1 [.int .i64 1, .int .i64 (y - 128)] (inD ⟨1, (y - 128)⟩) rfl HBx.out HDx.out rfl (by simp [Value.oneCell']) (by omega) (by decide) (Nat.le_refl _) hsX hsx ?_; intro g9 c9 w6 o6 g6 q6; have HO6 := hide o6; have HB6 := hide (HBC2.out.grown g6 (Nat.le_trans hsX hsx) (fun q hq => (q6 q hq).1)); clear o6 g6 q6)
                | fail)
              exact ⟨⟨kj + 2, ys ++ [⟨1, (y - 128)⟩], some ⟨g9, 0, none⟩, c9, by simp, by go_num, by simp; omega, by omega, hide (by rw [List.flatMap_append, List.length_append]; simpa using HO6.out.left (c1 := [_, _]) (v1 := [_, _]) rfl), HN2, HB6⟩, by simp [intOf]; omega⟩
            · have kz' : (z == 1) = false := by simp [kz]
              have hri2 : rIns zs kj = some (⟨z, y⟩, kj + 2) := by rw [hri']; simp [low8, kz]
              clear hri' kz
              have HBx := hide (Box.new WB #[.int .i64 z, .int .i64 y] 33)
              have bX := (Below.refl WB.heap.size WB).alloc (Nat.le_refl _) (.cells #[.int .i64 z, .int .i64 y] 33)
              have HOx := hide (HP2.out.below bX)
              have HDx : Hid (OwnDL (WB.alloc (.cells #[.int .i64 z, .int .i64 y] 33)) WB.heap.size (WB.alloc (.cells #[.int .i64 z, .int .i64 y] 33)).heap.size (inD ⟨z, y⟩) [.int .i64 z, .int .i64 y]) := hide (OwnDL.val (OwnDL.val (ownDL_nil _ _ _)))
              have hsX := HB2.out.size
              have hsx : WB.heap.size ≤ (WB.alloc (.cells #[.int .i64 z, .int .i64 y] 33)).heap.size := bX.size
              have HBC2 := hide (HB2.out.trans (bX.mono hsX))
              have HN2 : Hid (rA zs 0 = (rA zs (kj + 2)).map fun r => ys ++ [⟨z, y⟩] ++ r) := hide (by
                rw [HN.out, hst, hri2]
                simp only [Option.bind_some]
                cases rA zs (kj + 2) <;> simp)
              clear bX
              go_wp2_with (first
                | (at_builtin; refine appL rfl _ _ 23 rfl w.heap.size WB.heap.size WB.heap.size 33 i0 (.agg #[.int .i64 0, .int .i64 0]) 2 16 Tryd.underlying23 HI.out.1 HI.out.2.1 HI.out.2.2.1 HI.out.2.2.2 rfl (by decide) _ ys.length (ys.flatMap inD) [inss []] [inss [⟨z, y⟩]] [.slice (some ⟨w.heap.size, 0, none⟩) 0 0] [.slice (some ⟨p, 0, none⟩) 1 1] rfl HOx.out rfl WB.heap.size 1 [.int .i64 z, .int .i64 y] (inD ⟨z, y⟩) rfl HBx.out HDx.out rfl (by simp [Value.oneCell']) (by omega) (by decide) (Nat.le_refl _) hsX hsx ?_; intro g9 c9 w6 o6 g6 q6; have HO6 := hide o6; have HB6 := hide (HBC2.out.grown g6 (Nat.le_trans hsX hsx) (fun q hq => (q6 q hq).1)); clear o6 g6 q6)
                | fail)
              exact ⟨⟨kj + 2, ys ++ [⟨z, y⟩], some ⟨g9, 0, none⟩, c9, by simp, by go_num, by simp; omega, by omega, hide (by rw [List.flatMap_append, List.length_append]; simpa using HO6.out.left (c1 := [_, _]) (v1 := [_, _]) rfl), HN2, HB6⟩, by simp [intOf]; omega⟩
          · have hri' : rIns zs kj = none := by rw [hri, if_neg hk2]; rfl
            have HD := hide (decS_none (zs := zs) (by rw [HN.out, hst, hri']; rfl))
            have hk3 : ((kj : Int) + 1 == (len : Int)) = true := by simp; omega
            have HF := hide (HP.out.mid (c1 := []) (v1 := []) rfl)
            clear hri hri'
            go_wp2_with (first
              | (go_at_call 12; refine (hasSpec _ _).mono ?_; rintro e y9 ⟨rfl, hy9⟩; rw [hy9, kh]; clear hy9 y9)
              | fail)
            go_ret2
            exact ⟨⟨_, by rw [HD.out]; rfl, by rw [HD.out]; exact HF.out⟩, HBA.out⟩
      · have hji : ¬ (kj : Int) < (len : Int) := by omega
        obtain rfl : len = kj := by omega
        have hF : rA zs 0 = some ys := by rw [HN.out, rA_end (by omega)]; simp
        have HBAD : Hid (codeB (fixS ys) = false → decOf zs = none) := hide (decS_bad hF)
        have HGOOD : Hid (codeB (fixS ys) = true → decOf zs = some (fixS ys)) := hide (decS_some hF hzl)
        have HENC : Hid (codeB (fixS ys) = true → encB (fixS ys) = zs) := hide (decS_enc HZ.out hF)
        have hyl : ys.length ≤ 90 := by omega
        have hyn : ys.length ≤ len := hyk
        clear HN hF
        go_wp2_with fail
        refine (startsSpec _ _ ys ((HO.out.mid (c1 := [_]) (v1 := [_]) rfl).rd (Nat.le_refl _)) (by omega)).mono ?_
        rintro e w4 ⟨sv, rfl, o4, b4⟩
        obtain ⟨sA, sC, hbv, _⟩ := int_at (o4.rd (Nat.le_refl _))
        rw [stL_len] at hbv
        subst hbv
        have hML := fixS_len ys
        have HST : Hid (OwnDL w4 w.heap.size w4.heap.size [inss [], .row 33 2 ys.length ((mixR inD (fixS ys) ys 0).flatten), ints (stL ys (ys.length + 1))] [.slice (some ⟨w.heap.size, 0, none⟩) 0 0, .slice ao ys.length co, .slice sA (ys.length + 1) sC]) := hide (by rw [mixR_zero]; exact (HO.out.below b4).push o4 hsz b4.size)
        have HEN : Hid (∀ W a' c', OwnD W w.heap.size W.heap.size (.row 33 2 ys.length ((mixR inD (fixS ys) ys ys.length).flatten)) (.slice a' ys.length c') → OwnD W w.heap.size W.heap.size (inss (fixS ys)) (.slice a' ys.length c')) := hide (fun W a' c' h => by rw [mixR_end _ hML] at h; unfold inss; rw [hML]; exact h)
        have HGm : Hid (∀ j, j < ys.length → (mixR inD (fixS ys) ys j).getD j [] = inD (ys.getD j default)) := hide (fun j hj => mixR_get _ hML hj)
        have HSm : Hid (∀ j, j < ys.length → (mixR inD (fixS ys) ys j).set j (inD (fixA ys (ys.length : Int) (ys.getD j default))) = mixR inD (fixS ys) ys (j + 1)) := hide (fun j hj => by rw [← fixS_get ys j hj]; exact mixR_step _ hML hj)
        have HA : Hid (∀ j, ∀ r ∈ mixR inD (fixS ys) ys j, r.length = 2) := hide (fun j => mixR_all (f := inD) (k := 2) (fun _ => rfl) _ _ j)
        have HLn : Hid (∀ j, j ≤ ys.length → (mixR inD (fixS ys) ys j).length = ys.length) := hide (fun j hj => mixR_len _ hML hj)
        have HB4 := hide (HB.out.trans (b4.mono hsz))
        clear o4 b4 HO HB hML hyk
        generalize hn : ys.length = n at *
        go_wp2_with fail
        go_loopw [9, 10] (fun i _ wr => ∃ (j : Nat), j ≤ n ∧ i = .int .i64 (j : Int) ∧ Hid (OwnDL wr w.heap.size wr.heap.size [inss [], .row 33 2 n ((mixR inD (fixS ys) ys j).flatten), ints (stL ys (n + 1))] [.slice (some ⟨w.heap.size, 0, none⟩) 0 0, .slice ao n co, .slice sA (n + 1) sC]) ∧ Hid (Below w.heap.size w wr)) (fun i _ _ => n - (intOf i).toNat)
        case atStart => exact ⟨0, Nat.zero_le _, rfl, HST, HB4⟩
        case round =>
          clear HST HB4
          obtain ⟨j, hj, rfl, HO, HB⟩ := hrel
          have hsz := HB.out.size
          by_cases hlt : j < n
          · obtain ⟨g, co', hsl⟩ : ∃ g c, (Value.slice ao n co) = .slice (some ⟨g, 0, none⟩) n c := by
              obtain ⟨vs, h5, _⟩ := (HO.out.row (c1 := [_]) (v1 := [_]) rfl)
              obtain ⟨m, rfl⟩ : ∃ m, n = m + 1 := ⟨n - 1, by omega⟩
              exact ownsRow_shape h5
            cases hsl
            have HA1 := hide (HA.out j)
            have HL1 := hide (HLn.out j hj)
            have HG1 := HGm.out j hlt
            have HS1 := HSm.out j hlt
            obtain ⟨y, hy⟩ : ∃ y, ys.getD j default = y := ⟨_, rfl⟩
            rw [hy] at HG1 HS1
            have HG2 := hide HG1
            have HS2 := hide HS1
            clear hy HG1 HS1
            obtain ⟨rs, hrs⟩ : ∃ rs, mixR inD (fixS ys) ys j = rs := ⟨_, rfl⟩
            rw [hrs] at HO HA1 HL1 HG2 HS2
            clear hrs
            have h0 : ∀ i, i < 2 → rs.flatten[j * 2 + i]? = (inD y)[i]? := fun i hi => by rw [rows_get rs j i HA1.out (by have := HL1.out; omega) hi, HG2.out]
            have e0 := (OwnDL.cell (c1 := [_]) (v1 := [_]) HO.out rfl (i := j * 2) (z := .int .i64 y.o) (by rw [show j * 2 = j * 2 + 0 from rfl, h0 0 (by omega)]; rfl) .nilFunc).1
            have e1 := (OwnDL.cell (c1 := [_]) (v1 := [_]) HO.out rfl (i := j * 2 + 1) (z := .int .i64 y.n) (by rw [h0 1 (by omega)]; rfl) .nilFunc).1
            have H01 := hide (h0 1 (by omega))
            have hcap : n ≤ co := by
              obtain ⟨vs, h5, _⟩ := (HO.out.row (c1 := [_]) (v1 := [_]) rfl)
              obtain ⟨_, a', cap', e, h6, _⟩ := rd_own h5 (Nat.le_refl _)
              cases e
              exact h6
            clear h0
            cases k13 : (y.o == 13) with
            | true =>
              have HJ : Hid (isJ y.o = true) := hide (by unfold isJ; rw [k13]; rfl)
              generalize wr = wo at *
              go_wp2_with fail
              go_loopw [10] (fun q wr => ∃ m : Nat, m ≤ n ∧ q = .int .i64 (m : Int) ∧ Hid (∀ i, i < m → ¬ (stL ys n).getD i default = y.n) ∧ Hid (Below wo.heap.size wo wr)) (fun q _ => n - (intOf q).toNat)
              case atStart => exact ⟨0, Nat.zero_le _, rfl, hide (fun i hi => by omega), hide (Below.refl _ _)⟩
              case round =>
                clear e0 e1
                obtain ⟨m, hmn, rfl, HM, HBX⟩ := hrel
                have HOX := hide ((HO.out.below HBX.out).up HBX.out.size)
                have hszx := HBX.out.size
                have HBW := hide (HB.out.trans (HBX.out.mono hsz))
                have x1 := (OwnDL.cell (c1 := [_]) (v1 := [_]) HOX.out rfl (i := j * 2 + 1) (z := .int .i64 y.n) H01.out .nilFunc).1
                have FIN : Hid (∀ q : Int, fixN (stL ys n) (n : Int) y.n = q → Hid (OwnDL (wr.setCell ⟨g, j * 2 + 1, none⟩ (.int .i64 q)) w.heap.size (wr.setCell ⟨g, j * 2 + 1, none⟩ (.int .i64 q)).heap.size [inss [], .row 33 2 n ((mixR inD (fixS ys) ys (j + 1)).flatten), ints (stL ys (n + 1))] [.slice (some ⟨w.heap.size, 0, none⟩) 0 0, .slice (some ⟨g, 0, none⟩) n co, .slice sA (n + 1) sC]) ∧ Hid (Below w.heap.size w (wr.setCell ⟨g, j * 2 + 1, none⟩ (.int .i64 q))) ∧ wr.frozen? ⟨g, j * 2 + 1, none⟩ = false) := hide (fun q hq => by
                  obtain ⟨_, d3, hgw, ho2⟩ := OwnDL.cell (c1 := [_]) (v1 := [_]) HOX.out rfl (i := j * 2 + 1) (z := .int .i64 y.n) H01.out (.int .i64 q)
                  have hfx : fixA ys (n : Int) y = ⟨y.o, q⟩ := by unfold fixA; rw [if_pos HJ.out, hn, hq]
                  have hs2 := HS2.out
                  rw [hfx] at hs2
                  have hz2 : rs.flatten.set (j * 2 + 1) (.val (.int .i64 q)) = (rs.set j (inD ⟨y.o, q⟩)).flatten := by
                    rw [rows_set rs j 1 _ HA1.out (by have := HL1.out; omega) (by omega), HG2.out]
                    rfl
                  rw [hz2, hs2] at ho2
                  exact ⟨hide (by simpa using ho2), hide (HBW.out.setCell (p := ⟨g, j * 2 + 1, none⟩) hgw _), d3⟩)
                by_cases hmm : m < n
                · obtain ⟨a2, c2, e2, hcp2, _, h2⟩ := int_at ((HOX.out.mid (c1 := [_, _]) (v1 := [_, _]) rfl).rd (Nat.le_refl _))
                  rw [stL_len] at h2 e2 hcp2
                  cases e2
                  obtain ⟨sg, so, rfl, _, h3⟩ := h2 (by omega)
                  have e3 := h3 m (by omega)
                  rw [stL_get _ _ _ (by omega), ← stL_get ys n m hmm] at e3
                  clear h2 h3
                  have hmi : (m : Int) < (n : Int) + 1 := by omega
                  have hmi2 : (m : Int) < (n : Int) := by omega
                  have hji2 : (j : Int) < (n : Int) := by omega
                  have HH : Hid ((stL ys n).getD m default = y.n → fixN (stL ys n) (n : Int) y.n = (m : Int)) := hide (fun h => fixN_hit (by rw [stL_len]; exact hmm) h HM.out)
                  obtain ⟨s, hs⟩ : ∃ s, (stL ys n).getD m default = s := ⟨_, rfl⟩
                  rw [hs] at e3 HH
                  have HSS := hide hs
                  clear hs
                  cases c : (s != y.n) with
                  | true =>
                    have HM2 : Hid (∀ i, i < m + 1 → ¬ (stL ys n).getD i default = y.n) := hide (fun i hi => by
                      rcases Nat.lt_succ_iff_lt_or_eq.1 hi with h | rfl
                      · exact HM.out i h
                      · rw [HSS.out]; simpa using c)
                    clear FIN HM HH
                    go_upto_region 21 with fail
                    go_region
                    all_goals (
                      go_wp2_with fail
                      exact ⟨⟨m + 1, by omega, by go_num, HM2, hide HBX.out.drew⟩, by simp [intOf]; omega⟩)
                  | false =>
                    have hsy : s = y.n := by simpa using c
                    obtain ⟨HO9, HB9, d3⟩ := FIN.out (m : Int) (HH.out hsy)
                    clear FIN HM HH hsy
                    go_upto_region 21 with fail
                    go_region
                    all_goals (
                      go_wp2_with fail
                      exact ⟨⟨j + 1, by omega, by go_num, hide (HO9.out.drewN 1), hide HB9.out.drew⟩, by simp [intOf]; omega⟩)
                · obtain rfl : m = n := by omega
                  have hmi2 : ¬ (m : Int) < (m : Int) := by omega
                  obtain ⟨HO9, HB9, d3⟩ := FIN.out (m : Int) (fixN_miss (fun i hi => HM.out i (by rw [stL_len] at hi; exact hi)))
                  have hji2 : (j : Int) < (m : Int) := by omega
                  clear FIN HM
                  go_upto_region 21 with fail
                  go_region
                  all_goals (
                    go_wp2_with fail
                    exact ⟨⟨j + 1, by omega, by go_num, hide (HO9.out.drewN 1), hide HB9.out.drew⟩, by simp [intOf]; omega⟩)
            | false =>
              cases k14 : (y.o == 14) with
              | true =>
                have HJ : Hid (isJ y.o = true) := hide (by unfold isJ; rw [k13, k14]; rfl)
                generalize wr = wo at *
                go_wp2_with fail
                go_loopw [10] (fun q wr => ∃ m : Nat, m ≤ n ∧ q = .int .i64 (m : Int) ∧ Hid (∀ i, i < m → ¬ (stL ys n).getD i default = y.n) ∧ Hid (Below wo.heap.size wo wr)) (fun q _ => n - (intOf q).toNat)
                case atStart => exact ⟨0, Nat.zero_le _, rfl, hide (fun i hi => by omega), hide (Below.refl _ _)⟩
                case round =>
                  clear e0 e1
                  obtain ⟨m, hmn, rfl, HM, HBX⟩ := hrel
                  have HOX := hide ((HO.out.below HBX.out).up HBX.out.size)
                  have hszx := HBX.out.size
                  have HBW := hide (HB.out.trans (HBX.out.mono hsz))
                  have x1 := (OwnDL.cell (c1 := [_]) (v1 := [_]) HOX.out rfl (i := j * 2 + 1) (z := .int .i64 y.n) H01.out .nilFunc).1
                  have FIN : Hid (∀ q : Int, fixN (stL ys n) (n : Int) y.n = q → Hid (OwnDL (wr.setCell ⟨g, j * 2 + 1, none⟩ (.int .i64 q)) w.heap.size (wr.setCell ⟨g, j * 2 + 1, none⟩ (.int .i64 q)).heap.size [inss [], .row 33 2 n ((mixR inD (fixS ys) ys (j + 1)).flatten), ints (stL ys (n + 1))] [.slice (some ⟨w.heap.size, 0, none⟩) 0 0, .slice (some ⟨g, 0, none⟩) n co, .slice sA (n + 1) sC]) ∧ Hid (Below w.heap.size w (wr.setCell ⟨g, j * 2 + 1, none⟩ (.int .i64 q))) ∧ wr.frozen? ⟨g, j * 2 + 1, none⟩ = false) := hide (fun q hq => by
                    obtain ⟨_, d3, hgw, ho2⟩ := OwnDL.cell (c1 := [_]) (v1 := [_]) HOX.out rfl (i := j * 2 + 1) (z := .int .i64 y.n) H01.out (.int .i64 q)
                    have hfx : fixA ys (n : Int) y = ⟨y.o, q⟩ := by unfold fixA; rw [if_pos HJ.out, hn, hq]
                    have hs2 := HS2.out
                    rw [hfx] at hs2
                    have hz2 : rs.flatten.set (j * 2 + 1) (.val (.int .i64 q)) = (rs.set j (inD ⟨y.o, q⟩)).flatten := by
                      rw [rows_set rs j 1 _ HA1.out (by have := HL1.out; omega) (by omega), HG2.out]
                      rfl
                    rw [hz2, hs2] at ho2
                    exact ⟨hide (by simpa using ho2), hide (HBW.out.setCell (p := ⟨g, j * 2 + 1, none⟩) hgw _), d3⟩)
                  by_cases hmm : m < n
                  · obtain ⟨a2, c2, e2, hcp2, _, h2⟩ := int_at ((HOX.out.mid (c1 := [_, _]) (v1 := [_, _]) rfl).rd (Nat.le_refl _))
                    rw [stL_len] at h2 e2 hcp2
                    cases e2
                    obtain ⟨sg, so, rfl, _, h3⟩ := h2 (by omega)
                    have e3 := h3 m (by omega)
                    rw [stL_get _ _ _ (by omega), ← stL_get ys n m hmm] at e3
                    clear h2 h3
                    have hmi : (m : Int) < (n : Int) + 1 := by omega
                    have hmi2 : (m : Int) < (n : Int) := by omega
                    have hji2 : (j : Int) < (n : Int) := by omega
                    have HH : Hid ((stL ys n).getD m default = y.n → fixN (stL ys n) (n : Int) y.n = (m : Int)) := hide (fun h => fixN_hit (by rw [stL_len]; exact hmm) h HM.out)
                    obtain ⟨s, hs⟩ : ∃ s, (stL ys n).getD m default = s := ⟨_, rfl⟩
                    rw [hs] at e3 HH
                    have HSS := hide hs
                    clear hs
                    cases c : (s != y.n) with
                    | true =>
                      have HM2 : Hid (∀ i, i < m + 1 → ¬ (stL ys n).getD i default = y.n) := hide (fun i hi => by
                        rcases Nat.lt_succ_iff_lt_or_eq.1 hi with h | rfl
                        · exact HM.out i h
                        · rw [HSS.out]; simpa using c)
                      clear FIN HM HH
                      go_upto_region 21 with fail
                      go_region
                      all_goals (
                        go_wp2_with fail
                        exact ⟨⟨m + 1, by omega, by go_num, HM2, hide HBX.out.drew⟩, by simp [intOf]; omega⟩)
                    | false =>
                      have hsy : s = y.n := by simpa using c
                      obtain ⟨HO9, HB9, d3⟩ := FIN.out (m : Int) (HH.out hsy)
                      clear FIN HM HH hsy
                      go_upto_region 21 with fail
                      go_region
                      all_goals (
                        go_wp2_with fail
                        exact ⟨⟨j + 1, by omega, by go_num, hide (HO9.out.drewN 1), hide HB9.out.drew⟩, by simp [intOf]; omega⟩)
                  · obtain rfl : m = n := by omega
                    have hmi2 : ¬ (m : Int) < (m : Int) := by omega
                    obtain ⟨HO9, HB9, d3⟩ := FIN.out (m : Int) (fixN_miss (fun i hi => HM.out i (by rw [stL_len] at hi; exact hi)))
                    have hji2 : (j : Int) < (m : Int) := by omega
                    clear FIN HM
                    go_upto_region 21 with fail
                    go_region
                    all_goals (
                      go_wp2_with fail
                      exact ⟨⟨j + 1, by omega, by go_num, hide (HO9.out.drewN 1), hide HB9.out.drew⟩, by simp [intOf]; omega⟩)
              | false =>
                have hfx : fixA ys (n : Int) y = y := by unfold fixA isJ; rw [k13, k14]; rfl
                rw [hfx, ← HG2.out] at HS2
                have hrs2 : rs = mixR inD (fixS ys) ys (j + 1) := by
                  rw [← HS2.out]
                  have hl9 : j < rs.length := by have := HL1.out; omega
                  rw [List.getD_eq_getElem?_getD, List.getElem?_eq_getElem hl9, Option.getD_some, List.set_getElem_self]
                rw [hrs2] at HO
                clear hfx hrs2
                go_wp2_with fail
                exact ⟨⟨j + 1, by omega, by go_num, HO, HB⟩, by simp [intOf]; omega⟩
          · obtain rfl : j = n := by omega
            have HFX : Hid (OwnD wr w.heap.size wr.heap.size (inss (fixS ys)) (.slice ao j co)) := hide (HEN.out _ _ _ (HO.out.mid (c1 := [_]) (v1 := [_]) rfl))
            have HNO := hide (HO.out.mid (c1 := []) (v1 := []) rfl)
            have HD0 : Hid (Below wr.heap.size wr wr.drew) := hide (Below.refl wr.heap.size wr).drew
            have hfl := fixS_len ys
            have HCK := hide (fun w v h => codeOkSpec w v (fixS ys) h (by rw [hfl]; omega))
            have HEK := hide (fun w v h => encodeSpec w v (fixS ys) h (by rw [hfl]; omega))
            have HRD : Hid (∀ w', Below wr.heap.size wr w' → Reads w' w'.heap.size (inss (fixS ys)) (.slice ao j co)) := hide (fun w' hb => (HFX.out.rd (Nat.le_refl _)).at hb)
            go_upto_region 24 with fail
            cases c : codeB (fixS ys) with
            | false =>
              have HD := hide (HBAD.out c)
              refine wp_region_held_drew (S := fun _ => True) (by kernel_rfl) trivial (fun hHeld => ?_)
              refine wpAnyH_take (i := 0) (v := ?_) rfl (by kernel_rfl) (by kernel_rfl) (by kernel_rfl) (fun _ _ _ h => h) (Or.inl ⟨by rfl, ?_⟩) (by assumption) ?_
              rotate_left
              · intro w' hSw
                try dsimp only at hSw
                go_simp; try rfl
              simp only [List.getElem_toArray, List.getElem_cons_zero, Act.put, List.setIfInBounds_toArray, List.set_cons_zero, List.set_cons_succ]
              refine wpAnyH_ready (rs := [1]) (by kernel_rfl) (by simp) (AllReadyH.cons rfl (fun K hK => ?_) AllReadyH.nil)
              refine step_callW (some 103) rfl (by kernel_rfl) 14 _ _ rfl #[.slice ao j co] (by kernel_rfl) (HCK.out _ _ (HRD.out _ HD0.out)) ?_; rintro e x1 ⟨rfl, b1⟩; rw [c]; refine ⟨_, rfl, ?_⟩; have HD1 : Hid (Below wr.heap.size wr x1) := hide (HD0.out.trans (b1.mono HD0.out.size)); clear b1
              refine hK.out _ _ trivial (fun hHeld => ?_)
              clear hK K
              simp only [Act.put, List.setIfInBounds_toArray, List.set_cons_zero, List.set_cons_succ]
              refine wpAnyH_take (i := 2) (v := ?_) rfl (by kernel_rfl) (by kernel_rfl) (by kernel_rfl) (fun _ _ _ h => h) (Or.inl ⟨by rfl, ?_⟩) (by assumption) ?_
              rotate_left
              · intro w' hSw
                try dsimp only at hSw
                go_simp; try rfl
              simp only [List.getElem_toArray, List.getElem_cons_succ, List.getElem_cons_zero, Act.put, List.setIfInBounds_toArray, List.set_cons_zero, List.set_cons_succ]
              refine wpAnyH_take (i := 3) (v := ?_) rfl (by kernel_rfl) (by kernel_rfl) (by kernel_rfl) (fun _ _ _ h => h) (Or.inl ⟨by rfl, ?_⟩) (by assumption) ?_
              rotate_left
              · intro w' hSw
                try dsimp only at hSw
                go_simp; try rfl
              simp only [List.getElem_toArray, List.getElem_cons_succ, List.getElem_cons_zero, Act.put, List.setIfInBounds_toArray, List.set_cons_zero, List.set_cons_succ]
              refine wpAnyH_take (i := 4) (v := undef) rfl (by kernel_rfl) (by kernel_rfl) (by kernel_rfl) (fun _ _ _ h => h) (Or.inr ⟨by rfl, rfl⟩) (by assumption) ?_
              simp only [List.getElem_toArray, List.getElem_cons_succ, List.getElem_cons_zero, Act.put, List.setIfInBounds_toArray, List.set_cons_zero, List.set_cons_succ]
              refine wpAnyH_take (i := 5) (v := undef) rfl (by kernel_rfl) (by kernel_rfl) (by kernel_rfl) (fun _ _ _ h => h) (Or.inr ⟨by rfl, rfl⟩) (by assumption) ?_
              simp only [List.getElem_toArray, List.getElem_cons_succ, List.getElem_cons_zero, Act.put, List.setIfInBounds_toArray, List.set_cons_zero, List.set_cons_succ]
              refine wpAnyH_take (i := 6) (v := undef) rfl (by kernel_rfl) (by kernel_rfl) (by kernel_rfl) (fun _ _ _ h => h) (Or.inr ⟨by rfl, rfl⟩) (by assumption) ?_
              simp only [List.getElem_toArray, List.getElem_cons_succ, List.getElem_cons_zero, Act.put, List.setIfInBounds_toArray, List.set_cons_zero, List.set_cons_succ]
              refine wpAnyH_take (i := 7) (v := undef) rfl (by kernel_rfl) (by kernel_rfl) (by kernel_rfl) (fun _ _ _ h => h) (Or.inr ⟨by rfl, rfl⟩) (by assumption) ?_
              simp only [List.getElem_toArray, List.getElem_cons_succ, List.getElem_cons_zero, Act.put, List.setIfInBounds_toArray, List.set_cons_zero, List.set_cons_succ]
              refine wpAnyH_take (i := 8) (v := undef) rfl (by kernel_rfl) (by kernel_rfl) (by kernel_rfl) (fun _ _ _ h => h) (Or.inr ⟨by rfl, rfl⟩) (by assumption) ?_
              simp only [List.getElem_toArray, List.getElem_cons_succ, List.getElem_cons_zero, Act.put, List.setIfInBounds_toArray, List.set_cons_zero, List.set_cons_succ]
              refine wpAnyH_take (i := 9) (v := undef) rfl (by kernel_rfl) (by kernel_rfl) (by kernel_rfl) (fun _ _ _ h => h) (Or.inr ⟨by rfl, rfl⟩) (by assumption) ?_
              simp only [List.getElem_toArray, List.getElem_cons_succ, List.getElem_cons_zero, Act.put, List.setIfInBounds_toArray, List.set_cons_zero, List.set_cons_succ]
              refine wpAnyH_take (i := 10) (v := ?_) rfl (by kernel_rfl) (by kernel_rfl) (by kernel_rfl) (fun _ _ _ h => h) (Or.inl ⟨by rfl, ?_⟩) (by assumption) ?_
              rotate_left
              · intro w' hSw
                try dsimp only at hSw
                go_simp; try rfl
              simp only [List.getElem_toArray, List.getElem_cons_succ, List.getElem_cons_zero, Act.put, List.setIfInBounds_toArray, List.set_cons_zero, List.set_cons_succ]
              refine wpAnyH_done (by kernel_rfl) ?_ _
              go_wp2_with fail
              go_ret2
              exact ⟨⟨_, by rw [HD.out]; rfl, by rw [HD.out]; exact (HNO.out.below HD1.out).up HD1.out.size⟩, HB.out.trans (HD1.out.mono hsz)⟩
            | true =>
              have HD := hide (HGOOD.out c)
              have hEZ := HENC.out c
              have hn1 := (codeB_of c).1.1
              rw [hfl] at hn1
              have hlp : 0 < len := by omega
              obtain ⟨ba, bo, rfl, _⟩ := (HIN.out wr HB.out).2.2.2 hlp
              obtain ⟨SS, hSS⟩ : ∃ SS, strOfNums zs = SS := ⟨_, rfl⟩
              have HRR : Hid (∀ w', Below wr.heap.size wr w' → (convert 22 9 (.slice (some ⟨ba, bo, none⟩) len cap)).run Tryd.prog w' = .ok (.string SS) w') := hide (fun w' hb => by
                rw [← hSS]
                exact in_str cap (HIN.out w' (HB.out.trans (hb.mono hsz))))
              have hss : (SS.toList != SS.toList) = false := by simp
              have HSS := hide hSS
              have HEZ := hide hEZ
              clear hSS hEZ hn1
              refine wp_region_held_drew (S := fun w' => (convert 22 9 (.slice (some ⟨ba, bo, none⟩) len cap)).run Tryd.prog w' = .ok (.string SS) w') (by kernel_rfl) (HRR.out _ HD0.out) (fun hHeld => ?_)
              refine wpAnyH_take (i := 0) (v := ?_) rfl (by kernel_rfl) (by kernel_rfl) (by kernel_rfl) (fun _ _ _ h => h) (Or.inl ⟨by rfl, ?_⟩) (by assumption) ?_
              rotate_left
              · intro w' hSw
                try dsimp only at hSw
                go_simp; try rfl
              simp only [List.getElem_toArray, List.getElem_cons_zero, Act.put, List.setIfInBounds_toArray, List.set_cons_zero, List.set_cons_succ]
              refine wpAnyH_ready (rs := [1]) (by kernel_rfl) (by simp) (AllReadyH.cons rfl (fun K hK => ?_) AllReadyH.nil)
              refine step_callW (some 103) rfl (by kernel_rfl) 14 _ _ rfl #[.slice ao j co] (by kernel_rfl) (HCK.out _ _ (HRD.out _ HD0.out)) ?_; rintro e x1 ⟨rfl, b1⟩; rw [c]; refine ⟨_, rfl, ?_⟩; have HD1 : Hid (Below wr.heap.size wr x1) := hide (HD0.out.trans (b1.mono HD0.out.size)); clear b1
              refine hK.out _ _ (HRR.out _ HD1.out) (fun hHeld => ?_)
              clear hK K
              simp only [Act.put, List.setIfInBounds_toArray, List.set_cons_zero, List.set_cons_succ]
              refine wpAnyH_take (i := 2) (v := ?_) rfl (by kernel_rfl) (by kernel_rfl) (by kernel_rfl) (fun _ _ _ h => h) (Or.inl ⟨by rfl, ?_⟩) (by assumption) ?_
              rotate_left
              · intro w' hSw
                try dsimp only at hSw
                go_simp; try rfl
              simp only [List.getElem_toArray, List.getElem_cons_succ, List.getElem_cons_zero, Act.put, List.setIfInBounds_toArray, List.set_cons_zero, List.set_cons_succ]
              refine wpAnyH_take (i := 3) (v := ?_) rfl (by kernel_rfl) (by kernel_rfl) (by kernel_rfl) (fun _ _ _ h => h) (Or.inl ⟨by rfl, ?_⟩) (by assumption) ?_
              rotate_left
              · intro w' hSw
                try dsimp only at hSw
                go_simp; try rfl
              simp only [List.getElem_toArray, List.getElem_cons_succ, List.getElem_cons_zero, Act.put, List.setIfInBounds_toArray, List.set_cons_zero, List.set_cons_succ]
              refine wpAnyH_take (i := 4) (v := ?_) rfl (by kernel_rfl) (by kernel_rfl) (by kernel_rfl) (fun _ _ _ h => h) (Or.inl ⟨by rfl, ?_⟩) (by assumption) ?_
              rotate_left
              · intro w' hSw
                try dsimp only at hSw
                go_simp; try rfl
              simp only [List.getElem_toArray, List.getElem_cons_succ, List.getElem_cons_zero, Act.put, List.setIfInBounds_toArray, List.set_cons_zero, List.set_cons_succ]
              refine wpAnyH_take (i := 7) (v := ?_) rfl (by kernel_rfl) (by kernel_rfl) (by kernel_rfl) (fun _ _ _ h => h) (Or.inl ⟨by rfl, ?_⟩) (by assumption) ?_
              rotate_left
              · intro w' hSw
                try dsimp only at hSw
                go_simp; try rfl
              simp only [List.getElem_toArray, List.getElem_cons_succ, List.getElem_cons_zero, Act.put, List.setIfInBounds_toArray, List.set_cons_zero, List.set_cons_succ]
              refine wpAnyH_take (i := 8) (v := ?_) rfl (by kernel_rfl) (by kernel_rfl) (by kernel_rfl) (fun _ _ _ h => h) (Or.inl ⟨by rfl, ?_⟩) (by assumption) ?_
              rotate_left
              · intro w' hSw
                try dsimp only at hSw
                go_simp; try rfl
              simp only [List.getElem_toArray, List.getElem_cons_succ, List.getElem_cons_zero, Act.put, List.setIfInBounds_toArray, List.set_cons_zero, List.set_cons_succ]
              refine wpAnyH_ready (rs := [5]) (by kernel_rfl) (by simp) (AllReadyH.cons rfl (fun K hK => ?_) AllReadyH.nil)
              refine step_callW (some 107) rfl (by kernel_rfl) 15 _ _ rfl #[.slice ao j co] (by kernel_rfl) (HEK.out _ _ (HRD.out _ HD1.out)) ?_; rintro e x2 ⟨v2, rfl, o2, b2⟩; refine ⟨_, rfl, ?_⟩; have HD2 : Hid (Below wr.heap.size wr x2) := hide (HD1.out.trans (b2.mono HD1.out.size)); have hcv := own_str o2.bytes.1; rw [HEZ.out, HSS.out] at hcv; clear b2 o2
              refine hK.out _ _ (HRR.out _ HD2.out) (fun hHeld => ?_)
              clear hK K
              simp only [Act.put, List.setIfInBounds_toArray, List.set_cons_zero, List.set_cons_succ]
              refine wpAnyH_ready (rs := [6]) (by kernel_rfl) (by simp) (AllReadyH.cons rfl (fun K hK => ?_) AllReadyH.nil)
              refine step_run9 (some 108) rfl (by kernel_rfl) (v := .string SS) (w' := x2) (by simp only [execOp, Act.eval, List.getElem_toArray]; go_simp) ?_
              refine hK.out _ _ (HRR.out _ HD2.out) (fun hHeld => ?_)
              clear hK K
              simp only [Act.put, List.setIfInBounds_toArray, List.set_cons_zero, List.set_cons_succ]
              refine wpAnyH_take (i := 9) (v := ?_) rfl (by kernel_rfl) (by kernel_rfl) (by kernel_rfl) (fun _ _ _ h => h) (Or.inl ⟨by rfl, ?_⟩) (by assumption) ?_
              rotate_left
              · intro w' hSw
                try dsimp only at hSw
                go_simp; try rfl
              simp only [List.getElem_toArray, List.getElem_cons_succ, List.getElem_cons_zero, Act.put, List.setIfInBounds_toArray, List.set_cons_zero, List.set_cons_succ]
              refine wpAnyH_take (i := 10) (v := ?_) rfl (by kernel_rfl) (by kernel_rfl) (by kernel_rfl) (fun _ _ _ h => h) (Or.inl ⟨by rfl, ?_⟩) (by assumption) ?_
              rotate_left
              · intro w' hSw
                try dsimp only at hSw
                go_simp; try rfl
              simp only [List.getElem_toArray, List.getElem_cons_succ, List.getElem_cons_zero, Act.put, List.setIfInBounds_toArray, List.set_cons_zero, List.set_cons_succ]
              refine wpAnyH_done (by kernel_rfl) ?_ _
              go_wp2_with fail
              go_ret2
              exact ⟨⟨_, by rw [HD.out]; rfl, by rw [HD.out]; exact (HFX.out.below HD2.out).up HD2.out.size⟩, HB.out.trans (HD2.out.mono hsz)⟩
  · have HD := hide (decS_big (zs := zs) (by omega))
    have h90' : ¬ (len : Int) ≤ 90 := by omega
    have hl0 : (0 : Int) < (len : Int) := by omega
    go_enter Tryd.func4, Tryd.ntmps4
    go_wp2_with fail
    generalize (w.alloc (.cells #[] 33)).alloc (.cells #[] 33) = W0 at *
    go_loopw [5, 6, 7] (fun l i _ wr => l = .slice (some ⟨w.heap.size + 1, 0, none⟩) 0 0 ∧ i = .int .i64 0 ∧ wr = W0) (fun _ _ _ _ => 0)
    case atStart => exact ⟨rfl, rfl, rfl⟩
    case round =>
      obtain ⟨rfl, rfl, hwr⟩ := hrel
      rw [hwr]
      clear hwr wr
      go_wp2_with fail
      refine (startsSpec _ _ [] ((HO0.out.mid (c1 := [_]) (v1 := [_]) rfl).rd (Nat.le_refl _)) (by simp)).mono ?_
      rintro e w4 ⟨sv, rfl, o4, b4⟩
      obtain ⟨sA, sC, hbv, _⟩ := int_at (o4.rd (Nat.le_refl _))
      rw [stL_len] at hbv
      subst hbv
      have HB4 := hide (HB0.out.trans (b4.mono HB0.out.size))
      have HO4 := hide ((HO0.out.below b4).up b4.size)
      clear o4 b4 HO0 HB0
      go_wp2_with fail
      go_loopw [9, 10] (fun i _ wr => i = .int .i64 0 ∧ wr = w4) (fun _ _ _ => 0)
      case atStart => exact ⟨rfl, rfl⟩
      case round =>
        obtain ⟨rfl, hwr⟩ := hrel
        rw [hwr]
        clear hwr wr
        have c : codeB [] = false := rfl
        have HD0 : Hid (Below w4.heap.size w4 w4.drew) := hide (Below.refl w4.heap.size w4).drew
        have HRD : Hid (∀ w', Below w4.heap.size w4 w' → Reads w' w'.heap.size (inss []) (.slice (some ⟨w.heap.size + 1, 0, none⟩) 0 0)) := hide (fun w' hb => ((HO4.out.mid (c1 := [_]) (v1 := [_]) rfl).rd (Nat.le_refl _)).at hb)
        go_upto_region 24 with fail
        refine wp_region_held_drew (S := fun _ => True) (by kernel_rfl) trivial (fun hHeld => ?_)
        refine wpAnyH_take (i := 0) (v := ?_) rfl (by kernel_rfl) (by kernel_rfl) (by kernel_rfl) (fun _ _ _ h => h) (Or.inl ⟨by rfl, ?_⟩) (by assumption) ?_
        rotate_left
        · intro w' hSw
          try dsimp only at hSw
          go_simp; try rfl
        simp only [List.getElem_toArray, List.getElem_cons_zero, Act.put, List.setIfInBounds_toArray, List.set_cons_zero, List.set_cons_succ]
        refine wpAnyH_ready (rs := [1]) (by kernel_rfl) (by simp) (AllReadyH.cons rfl (fun K hK => ?_) AllReadyH.nil)
        refine step_callW (some 103) rfl (by kernel_rfl) 14 _ _ rfl #[.slice (some ⟨w.heap.size + 1, 0, none⟩) 0 0] (by kernel_rfl) (codeOkSpec _ _ [] (HRD.out _ HD0.out) (by simp)) ?_; rintro e x1 ⟨rfl, b1⟩; rw [c]; refine ⟨_, rfl, ?_⟩; have HD1 : Hid (Below w4.heap.size w4 x1) := hide (HD0.out.trans (b1.mono HD0.out.size)); clear b1
        refine hK.out _ _ trivial (fun hHeld => ?_)
        clear hK K
        simp only [Act.put, List.setIfInBounds_toArray, List.set_cons_zero, List.set_cons_succ]
        refine wpAnyH_take (i := 2) (v := ?_) rfl (by kernel_rfl) (by kernel_rfl) (by kernel_rfl) (fun _ _ _ h => h) (Or.inl ⟨by rfl, ?_⟩) (by assumption) ?_
        rotate_left
        · intro w' hSw
          try dsimp only at hSw
          go_simp; try rfl
        simp only [List.getElem_toArray, List.getElem_cons_succ, List.getElem_cons_zero, Act.put, List.setIfInBounds_toArray, List.set_cons_zero, List.set_cons_succ]
        refine wpAnyH_take (i := 3) (v := ?_) rfl (by kernel_rfl) (by kernel_rfl) (by kernel_rfl) (fun _ _ _ h => h) (Or.inl ⟨by rfl, ?_⟩) (by assumption) ?_
        rotate_left
        · intro w' hSw
          try dsimp only at hSw
          go_simp; try rfl
        simp only [List.getElem_toArray, List.getElem_cons_succ, List.getElem_cons_zero, Act.put, List.setIfInBounds_toArray, List.set_cons_zero, List.set_cons_succ]
        refine wpAnyH_take (i := 4) (v := undef) rfl (by kernel_rfl) (by kernel_rfl) (by kernel_rfl) (fun _ _ _ h => h) (Or.inr ⟨by rfl, rfl⟩) (by assumption) ?_
        simp only [List.getElem_toArray, List.getElem_cons_succ, List.getElem_cons_zero, Act.put, List.setIfInBounds_toArray, List.set_cons_zero, List.set_cons_succ]
        refine wpAnyH_take (i := 5) (v := undef) rfl (by kernel_rfl) (by kernel_rfl) (by kernel_rfl) (fun _ _ _ h => h) (Or.inr ⟨by rfl, rfl⟩) (by assumption) ?_
        simp only [List.getElem_toArray, List.getElem_cons_succ, List.getElem_cons_zero, Act.put, List.setIfInBounds_toArray, List.set_cons_zero, List.set_cons_succ]
        refine wpAnyH_take (i := 6) (v := undef) rfl (by kernel_rfl) (by kernel_rfl) (by kernel_rfl) (fun _ _ _ h => h) (Or.inr ⟨by rfl, rfl⟩) (by assumption) ?_
        simp only [List.getElem_toArray, List.getElem_cons_succ, List.getElem_cons_zero, Act.put, List.setIfInBounds_toArray, List.set_cons_zero, List.set_cons_succ]
        refine wpAnyH_take (i := 7) (v := undef) rfl (by kernel_rfl) (by kernel_rfl) (by kernel_rfl) (fun _ _ _ h => h) (Or.inr ⟨by rfl, rfl⟩) (by assumption) ?_
        simp only [List.getElem_toArray, List.getElem_cons_succ, List.getElem_cons_zero, Act.put, List.setIfInBounds_toArray, List.set_cons_zero, List.set_cons_succ]
        refine wpAnyH_take (i := 8) (v := undef) rfl (by kernel_rfl) (by kernel_rfl) (by kernel_rfl) (fun _ _ _ h => h) (Or.inr ⟨by rfl, rfl⟩) (by assumption) ?_
        simp only [List.getElem_toArray, List.getElem_cons_succ, List.getElem_cons_zero, Act.put, List.setIfInBounds_toArray, List.set_cons_zero, List.set_cons_succ]
        refine wpAnyH_take (i := 9) (v := undef) rfl (by kernel_rfl) (by kernel_rfl) (by kernel_rfl) (fun _ _ _ h => h) (Or.inr ⟨by rfl, rfl⟩) (by assumption) ?_
        simp only [List.getElem_toArray, List.getElem_cons_succ, List.getElem_cons_zero, Act.put, List.setIfInBounds_toArray, List.set_cons_zero, List.set_cons_succ]
        refine wpAnyH_take (i := 10) (v := ?_) rfl (by kernel_rfl) (by kernel_rfl) (by kernel_rfl) (fun _ _ _ h => h) (Or.inl ⟨by rfl, ?_⟩) (by assumption) ?_
        rotate_left
        · intro w' hSw
          try dsimp only at hSw
          go_simp; try rfl
        simp only [List.getElem_toArray, List.getElem_cons_succ, List.getElem_cons_zero, Act.put, List.setIfInBounds_toArray, List.set_cons_zero, List.set_cons_succ]
        refine wpAnyH_done (by kernel_rfl) ?_ _
        go_wp2_with fail
        go_ret2
        exact ⟨⟨_, by rw [HD.out]; rfl, by rw [HD.out]; exact ((HO4.out.mid (c1 := []) (v1 := []) rfl).below HD1.out).up HD1.out.size⟩, HB4.out.trans (HD1.out.mono HB4.out.size)⟩
end Go.Proofs.YtonkaomfahmchaaDoor
