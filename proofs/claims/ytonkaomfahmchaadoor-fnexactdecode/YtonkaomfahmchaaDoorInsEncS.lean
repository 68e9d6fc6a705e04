/-
  Encode, in the model.
-/
import Derived.Test.YtonkaomfahmchaaDoorInsOkS
import Derived.Deep.CutRange
namespace Go.Proofs.YtonkaomfahmchaaDoor
open Go.RowKit

theorem byts_app (zs ys : List Int) : .row 5 1 (zs.length + ys.length) (zs.flatMap byD ++ ys.flatMap byD) = byts (zs ++ ys) := by unfold byts; rw [List.length_append, List.flatMap_append]
set_option maxRecDepth 100000 in
set_option maxHeartbeats 4000000 in
theorem encodeSpec (w : World) (v : Value) (xs : List Isn) (h : Reads w w.heap.size (inss xs) v) (hm : xs.length ≤ 1048576) :
    Calls Tryd.prog 15 #[v] w fun e w' => ∃ v', e = .returned v' ∧ OwnD w' w.heap.size w'.heap.size (byts (encB xs)) v' ∧ Below w.heap.size w w' := by
  have HX : Hid (∀ wr, Below w.heap.size w wr → _) := hide (fun wr hb => ins_at (h.at hb))
  have HR : Hid (∀ wr, Below w.heap.size w wr → _) := hide (fun wr hb => h.at hb)
  obtain ⟨a, cap, rfl, _⟩ := ins_at h
  clear h
  obtain ⟨i0, hi, hz0, hz1, hz2⟩ := info_parts Tryd.infoB8
  have HI := hide (And.intro hi (And.intro hz0 (And.intro hz1 hz2)))
  clear hi hz0 hz1 hz2
  have HO : Hid (OwnD (w.alloc (.cells #[] 5)) w.heap.size (w.alloc (.cells #[] 5)).heap.size (byts []) (.slice (some ⟨w.heap.size, 0, none⟩) 0 0)) := hide (ownD_lit w w.heap.size (Nat.le_refl _) 5 1 0 #[] (by omega) rfl)
  have HB := hide ((Below.refl w.heap.size w).alloc (Nat.le_refl _) (.cells #[] 5))
  go_enter Tryd.func15, Tryd.ntmps15
  go_wp2_with fail
  refine (codeOkSpec _ _ xs (HR.out _ HB.out) hm).mono ?_
  rintro e w1 ⟨rfl, b1⟩
  have HO1 := hide ((HO.out.below b1).up b1.size)
  have HB1 := hide (HB.out.trans (b1.mono HB.out.size))
  clear b1 HO HB
  cases c : codeB xs with
  | false =>
    have HEB : Hid (encB xs = []) := hide (by unfold encB; rw [c]; rfl)
    go_wp2
    go_ret
    exact ⟨_, rfl, by rw [HEB.out]; exact HO1.out, HB1.out⟩
  | true =>
    obtain ⟨⟨hn1, hn2⟩, hs90, hall, _⟩ := codeB_of c
    have HA : Hid (∀ j, j < xs.length → _) := hide (fun j hj => insB_of (getD_mem hall j hj))
    have HE : Hid (∀ j, j < xs.length → _) := hide (flat_next (encX xs) xs)
    have HEL : Hid (∀ j, ((xs.take j).flatMap (encX xs)).length ≤ 90) := hide (fun j => by rw [encT_len]; have := stA_mono xs j; omega)
    have HSL : Hid (∀ j, stA xs j ≤ 90) := hide (fun j => by have := stA_mono xs j; omega)
    have HEB : Hid (encB xs = encL xs) := hide (by unfold encB; rw [if_pos c])
    have HFIN : Hid ((xs.take xs.length).flatMap (encX xs) = encL xs) := hide (by rw [List.take_length]; rfl)
    clear hall hs90 c
    go_wp2_with fail
    refine (startsSpec _ _ xs (HR.out _ HB1.out) (by omega)).mono ?_
    rintro e w2 ⟨sv, rfl, o2, b2⟩
    have HG := hide (fun j => stL_get xs (xs.length + 1) j)
    have HO2 : Hid (OwnDL w2 w.heap.size w2.heap.size [byts [], ints (stL xs (xs.length + 1))] [.slice (some ⟨w.heap.size, 0, none⟩) 0 0, sv]) := hide (((ownD_one (HO1.out.below b2))).push o2 HB1.out.size b2.size)
    have HB2 := hide (HB1.out.trans (b2.mono HB1.out.size))
    clear o2 b2 HO1 HB1
    obtain ⟨sA, sC, hsv, hlc, _⟩ := int_at ((HO2.out.mid (c1 := [byts []]) (v1 := [.slice (some ⟨w.heap.size, 0, none⟩) 0 0]) rfl).rd (Nat.le_refl _))
    rw [stL_len] at hsv hlc
    subst hsv
    have HSL2 := hide (stL_len xs (xs.length + 1))
    generalize hn : xs.length = n at *
    go_wp2_with fail
    go_loopw [3, 5, 6] (fun out i _ wr => ∃ (j m : Nat) (ao : Option Addr) (co : Nat), j ≤ n ∧ out = .slice ao m co ∧ i = .int .i64 (j : Int) ∧ Hid (m = ((xs.take j).flatMap (encX xs)).length) ∧ Hid (OwnDL wr w.heap.size wr.heap.size [.row 5 1 m (((xs.take j).flatMap (encX xs)).flatMap byD), ints (stL xs (n + 1))] [.slice ao m co, .slice sA (n + 1) sC]) ∧ Hid (Below w.heap.size w wr)) (fun _ i _ _ => n - (intOf i).toNat)
    case atStart => exact ⟨0, 0, _, _, Nat.zero_le _, rfl, rfl, hide rfl, HO2, HB2⟩
    case round =>
      clear HO2 HB2
      obtain ⟨j, m, ao, co, hj, rfl, rfl, HM, HO, HB⟩ := hrel
      have hsz := HB.out.size
      by_cases hlt : j < n
      · obtain ⟨a', cap', ea, _, _, hx⟩ := HX.out wr HB.out
        cases ea
        obtain ⟨b, o, rfl, hbl, hcell⟩ := hx (by omega)
        obtain ⟨e0, e1⟩ := hcell j hlt
        have hA := HA.out j hlt
        have hE := HE.out j hlt
        have hL := HEL.out j
        clear hcell hx
        obtain ⟨x, hx9⟩ : ∃ x, xs.getD j default = x := ⟨_, rfl⟩
        rw [hx9] at e0 e1 hA hE
        clear hx9
        obtain ⟨zs, hzs⟩ : ∃ zs, (xs.take j).flatMap (encX xs) = zs := ⟨_, rfl⟩
        rw [hzs] at HO hE hL HM
        have hm90 : m ≤ 90 := by rw [HM.out]; exact hL
        clear hL
        have HE2 := hide hE
        clear hzs hE
        obtain ⟨h24, h1a, h1b, h1c, h1d, h1e⟩ := hA
        have HP : Hid (OwnDL (wr.alloc (.cells #[.int .i64 x.o, .int .i64 x.n] 33)) w.heap.size (wr.alloc (.cells #[.int .i64 x.o, .int .i64 x.n] 33)).heap.size [.row 5 1 m (zs.flatMap byD), ints (stL xs (n + 1)), inss [x]] [.slice ao m co, .slice sA (n + 1) sC, .slice (some ⟨wr.heap.size, 0, none⟩) 1 1]) := hide (HO.out.snoc hsz 33 2 1 #[.int .i64 x.o, .int .i64 x.n] (by omega) rfl)
        have HBA := hide (HB.out.alloc hsz (.cells #[.int .i64 x.o, .int .i64 x.n] 33))
        clear HO HB
        go_upto_region 9 with fail
        clear e0 e1
        generalize wr.alloc (.cells #[.int .i64 x.o, .int .i64 x.n] 33) = WA at *
        generalize wr.heap.size = p at *
        have hsA := HBA.out.size
        obtain ⟨f0, f1⟩ := box_ins (HP.out.mid (c1 := [_, _]) (v1 := [_, _]) rfl)
        have HBx := hide (Box.new WA #[.int .u8 x.o] 5)
        have bA := (Below.refl WA.heap.size WA).alloc (Nat.le_refl _) (.cells #[.int .u8 x.o] 5)
        have HOx := hide (HP.out.below bA)
        have HDx : Hid (OwnDL (WA.alloc (.cells #[.int .u8 x.o] 5)) WA.heap.size (WA.alloc (.cells #[.int .u8 x.o] 5)).heap.size (byD x.o) [.int .u8 x.o]) := hide (OwnDL.val (ownDL_nil _ _ _))
        have hsx : WA.heap.size ≤ (WA.alloc (.cells #[.int .u8 x.o] 5)).heap.size := bA.size
        have HBC := hide (HBA.out.trans (bA.mono hsA))
        clear bA HP HBA
        go_upto_region 10 with (at_builtin; refine appL rfl _ _ 22 rfl w.heap.size WA.heap.size WA.heap.size 5 i0 (.int .u8 0) 1 1 Tryd.underlying22 HI.out.1 HI.out.2.1 HI.out.2.2.1 HI.out.2.2.2 rfl (by decide) _ m (zs.flatMap byD) [] [ints (stL xs (n + 1)), inss [x]] [] [.slice sA (n + 1) sC, .slice (some ⟨p, 0, none⟩) 1 1] rfl HOx.out rfl WA.heap.size 1 [.int .u8 x.o] (byD x.o) rfl HBx.out HDx.out rfl (by simp [Value.oneCell']) (by omega) (by decide) (Nat.le_refl _) hsA hsx ?_; intro g9 c9 w6 o6 g6 q6; have HO6 := hide o6; have HB6 := hide (HBC.out.grown g6 (Nat.le_trans hsA hsx) (fun q hq => (q6 q hq).1)); clear o6 g6 q6)
        clear f0 f1 HBx HOx HDx
        obtain ⟨f0, f1⟩ := box_ins (HO6.out.mid (c1 := [_, _]) (v1 := [_, _]) rfl)
        by_cases k1 : x.o = 1
        · have k1' : (x.o == 1) = true := by simp [k1]
          have hr := h1a k1
          have HF : Hid ((xs.take (j + 1)).flatMap (encX xs) = zs ++ ([x.o] ++ [x.n + 128])) := hide (by rw [HE2.out, encX_1 k1])
          clear k1
          have HBy := hide (Box.new w6 #[.int .u8 (x.n + 128)] 5)
          have bB := (Below.refl w6.heap.size w6).alloc (Nat.le_refl _) (.cells #[.int .u8 (x.n + 128)] 5)
          have HOy := hide (HO6.out.below bB)
          have HDy : Hid (OwnDL (w6.alloc (.cells #[.int .u8 (x.n + 128)] 5)) w6.heap.size (w6.alloc (.cells #[.int .u8 (x.n + 128)] 5)).heap.size (byD (x.n + 128)) [.int .u8 (x.n + 128)]) := hide (OwnDL.val (ownDL_nil _ _ _))
          have hs6 := HB6.out.size
          have HBB := hide (HB6.out.trans (bB.mono hs6))
          have hsB : w6.heap.size ≤ (w6.alloc (.cells #[.int .u8 (x.n + 128)] 5)).heap.size := bB.size
          clear bB HO6 HB6
          go_wp2_with (first
            | (go_at_call 12; refine (hasSpec _ _).mono ?_; rintro e y ⟨rfl, hy⟩; rw [hy, kh]; clear hy y)
            | (at_builtin; refine appL rfl _ _ 22 rfl w.heap.size w6.heap.size w6.heap.size 5 i0 (.int .u8 0) 1 1 Tryd.underlying22 HI.out.1 HI.out.2.1 HI.out.2.2.1 HI.out.2.2.2 rfl (by decide) _ (m + 1) (zs.flatMap byD ++ byD x.o) [] [ints (stL xs (n + 1)), inss [x]] [] [.slice sA (n + 1) sC, .slice (some ⟨p, 0, none⟩) 1 1] rfl HOy.out rfl w6.heap.size 1 [.int .u8 (x.n + 128)] (byD (x.n + 128)) rfl HBy.out HDy.out rfl (by simp [Value.oneCell']) (by omega) (by decide) (Nat.le_refl _) hs6 hsB ?_; intro g8 c8 w8 o8 g8' q8; have HO8 := hide o8; have HB8 := hide (HBB.out.grown g8' (Nat.le_trans hs6 hsB) (fun q hq => (q8 q hq).1)); clear o8 g8' q8))
          exact ⟨⟨j + 1, m + 1 + 1, _, _, by omega, rfl, by go_num, hide (by rw [HF.out, HM.out]; simp), hide (by rw [HF.out, List.flatMap_append, List.flatMap_append, ← List.append_assoc]; exact HO8.out.left (c1 := [_, _]) (v1 := [_, _]) rfl), HB8⟩, by simp [intOf]; omega⟩
        · have k1' : (x.o == 1) = false := by simp [k1]
          by_cases k2 : x.o = 13 ∨ x.o = 14
          · obtain ⟨q, hq⟩ : ∃ q : Nat, x.n = (q : Int) := ⟨x.n.toNat, by have := h1b k1; omega⟩
            have hqn : q ≤ n - 1 := by have := h1c k2; omega
            have hq90 := HSL.out q
            have HF : Hid ((xs.take (j + 1)).flatMap (encX xs) = zs ++ ([x.o] ++ [(stA xs q : Int)])) := hide (by rw [HE2.out, encX_2 k2, hq, Int.toNat_natCast])
            obtain ⟨a2, c2, e2, _, _, h2⟩ := int_at ((HO6.out.mid (c1 := [_]) (v1 := [_]) rfl).rd (Nat.le_refl _))
            rw [HSL2.out] at h2 e2
            cases e2
            obtain ⟨sg, so, rfl, _, h3⟩ := h2 (by omega)
            have e3 := h3 q (by omega)
            rw [HG.out q (by omega)] at e3
            clear h2 h3
            rw [hq] at f1
            have hqi : (q : Int) < (n : Int) + 1 := by omega
            have hkk : (x.o == 13) = true ∨ ((x.o == 13) = false ∧ (x.o == 14) = true) := by
              rcases k2 with h | h
              · exact .inl (by simp [h])
              · exact .inr ⟨by simp [h], by simp [h]⟩
            clear k2
            obtain ⟨sq, hsq⟩ : ∃ sq, stA xs q = sq := ⟨_, rfl⟩
            rw [hsq] at e3 HF hq90
            clear hsq hq
            rcases hkk with k13 | ⟨k13, k14⟩
            · skip
              have HBy := hide (Box.new w6 #[.int .u8 (sq)] 5)
              have bB := (Below.refl w6.heap.size w6).alloc (Nat.le_refl _) (.cells #[.int .u8 (sq)] 5)
              have HOy := hide (HO6.out.below bB)
              have HDy : Hid (OwnDL (w6.alloc (.cells #[.int .u8 (sq)] 5)) w6.heap.size (w6.alloc (.cells #[.int .u8 (sq)] 5)).heap.size (byD (sq)) [.int .u8 (sq)]) := hide (OwnDL.val (ownDL_nil _ _ _))
              have hs6 := HB6.out.size
              have HBB := hide (HB6.out.trans (bB.mono hs6))
              have hsB : w6.heap.size ≤ (w6.alloc (.cells #[.int .u8 (sq)] 5)).heap.size := bB.size
              clear bB HO6 HB6
              go_wp2_with (first
                | (go_at_call 12; refine (hasSpec _ _).mono ?_; rintro e y ⟨rfl, hy⟩; rw [hy, kh]; clear hy y)
                | (at_builtin; refine appL rfl _ _ 22 rfl w.heap.size w6.heap.size w6.heap.size 5 i0 (.int .u8 0) 1 1 Tryd.underlying22 HI.out.1 HI.out.2.1 HI.out.2.2.1 HI.out.2.2.2 rfl (by decide) _ (m + 1) (zs.flatMap byD ++ byD x.o) [] [ints (stL xs (n + 1)), inss [x]] [] [.slice (some ⟨sg, so, none⟩) (n + 1) sC, .slice (some ⟨p, 0, none⟩) 1 1] rfl HOy.out rfl w6.heap.size 1 [.int .u8 (sq)] (byD (sq)) rfl HBy.out HDy.out rfl (by simp [Value.oneCell']) (by omega) (by decide) (Nat.le_refl _) hs6 hsB ?_; intro g8 c8 w8 o8 g8' q8; have HO8 := hide o8; have HB8 := hide (HBB.out.grown g8' (Nat.le_trans hs6 hsB) (fun q hq => (q8 q hq).1)); clear o8 g8' q8))
              exact ⟨⟨j + 1, m + 1 + 1, _, _, by omega, rfl, by go_num, hide (by rw [HF.out, HM.out]; simp), hide (by rw [HF.out, List.flatMap_append, List.flatMap_append, ← List.append_assoc]; exact HO8.out.left (c1 := [_, _]) (v1 := [_, _]) rfl), HB8⟩, by simp [intOf]; omega⟩
            · skip
              have HBy := hide (Box.new w6 #[.int .u8 (sq)] 5)
              have bB := (Below.refl w6.heap.size w6).alloc (Nat.le_refl _) (.cells #[.int .u8 (sq)] 5)
              have HOy := hide (HO6.out.below bB)
              have HDy : Hid (OwnDL (w6.alloc (.cells #[.int .u8 (sq)] 5)) w6.heap.size (w6.alloc (.cells #[.int .u8 (sq)] 5)).heap.size (byD (sq)) [.int .u8 (sq)]) := hide (OwnDL.val (ownDL_nil _ _ _))
              have hs6 := HB6.out.size
              have HBB := hide (HB6.out.trans (bB.mono hs6))
              have hsB : w6.heap.size ≤ (w6.alloc (.cells #[.int .u8 (sq)] 5)).heap.size := bB.size
              clear bB HO6 HB6
              go_wp2_with (first
                | (go_at_call 12; refine (hasSpec _ _).mono ?_; rintro e y ⟨rfl, hy⟩; rw [hy, kh]; clear hy y)
                | (at_builtin; refine appL rfl _ _ 22 rfl w.heap.size w6.heap.size w6.heap.size 5 i0 (.int .u8 0) 1 1 Tryd.underlying22 HI.out.1 HI.out.2.1 HI.out.2.2.1 HI.out.2.2.2 rfl (by decide) _ (m + 1) (zs.flatMap byD ++ byD x.o) [] [ints (stL xs (n + 1)), inss [x]] [] [.slice (some ⟨sg, so, none⟩) (n + 1) sC, .slice (some ⟨p, 0, none⟩) 1 1] rfl HOy.out rfl w6.heap.size 1 [.int .u8 (sq)] (byD (sq)) rfl HBy.out HDy.out rfl (by simp [Value.oneCell']) (by omega) (by decide) (Nat.le_refl _) hs6 hsB ?_; intro g8 c8 w8 o8 g8' q8; have HO8 := hide o8; have HB8 := hide (HBB.out.grown g8' (Nat.le_trans hs6 hsB) (fun q hq => (q8 q hq).1)); clear o8 g8' q8))
              exact ⟨⟨j + 1, m + 1 + 1, _, _, by omega, rfl, by go_num, hide (by rw [HF.out, HM.out]; simp), hide (by rw [HF.out, List.flatMap_append, List.flatMap_append, ← List.append_assoc]; exact HO8.out.left (c1 := [_, _]) (v1 := [_, _]) rfl), HB8⟩, by simp [intOf]; omega⟩
          · have k13 : (x.o == 13) = false := by simp; omega
            have k14 : (x.o == 14) = false := by simp; omega
            cases kh : hasB x.o with
            | true =>
              have hr := h1b k1
              have hr2 := h1d k1 k2
              have HF : Hid ((xs.take (j + 1)).flatMap (encX xs) = zs ++ ([x.o] ++ [x.n])) := hide (by rw [HE2.out, encX_3 k1 k2 kh])
              clear k1 k2
              have HBy := hide (Box.new w6 #[.int .u8 (x.n)] 5)
              have bB := (Below.refl w6.heap.size w6).alloc (Nat.le_refl _) (.cells #[.int .u8 (x.n)] 5)
              have HOy := hide (HO6.out.below bB)
              have HDy : Hid (OwnDL (w6.alloc (.cells #[.int .u8 (x.n)] 5)) w6.heap.size (w6.alloc (.cells #[.int .u8 (x.n)] 5)).heap.size (byD (x.n)) [.int .u8 (x.n)]) := hide (OwnDL.val (ownDL_nil _ _ _))
              have hs6 := HB6.out.size
              have HBB := hide (HB6.out.trans (bB.mono hs6))
              have hsB : w6.heap.size ≤ (w6.alloc (.cells #[.int .u8 (x.n)] 5)).heap.size := bB.size
              clear bB HO6 HB6
              go_wp2_with (first
                | (go_at_call 12; refine (hasSpec _ _).mono ?_; rintro e y ⟨rfl, hy⟩; rw [hy, kh]; clear hy y)
                | (at_builtin; refine appL rfl _ _ 22 rfl w.heap.size w6.heap.size w6.heap.size 5 i0 (.int .u8 0) 1 1 Tryd.underlying22 HI.out.1 HI.out.2.1 HI.out.2.2.1 HI.out.2.2.2 rfl (by decide) _ (m + 1) (zs.flatMap byD ++ byD x.o) [] [ints (stL xs (n + 1)), inss [x]] [] [.slice sA (n + 1) sC, .slice (some ⟨p, 0, none⟩) 1 1] rfl HOy.out rfl w6.heap.size 1 [.int .u8 (x.n)] (byD (x.n)) rfl HBy.out HDy.out rfl (by simp [Value.oneCell']) (by omega) (by decide) (Nat.le_refl _) hs6 hsB ?_; intro g8 c8 w8 o8 g8' q8; have HO8 := hide o8; have HB8 := hide (HBB.out.grown g8' (Nat.le_trans hs6 hsB) (fun q hq => (q8 q hq).1)); clear o8 g8' q8))
              exact ⟨⟨j + 1, m + 1 + 1, _, _, by omega, rfl, by go_num, hide (by rw [HF.out, HM.out]; simp), hide (by rw [HF.out, List.flatMap_append, List.flatMap_append, ← List.append_assoc]; exact HO8.out.left (c1 := [_, _]) (v1 := [_, _]) rfl), HB8⟩, by simp [intOf]; omega⟩
            | false =>
              have HF : Hid ((xs.take (j + 1)).flatMap (encX xs) = zs ++ [x.o]) := hide (by rw [HE2.out, encX_4 kh])
              clear k1 k2
              go_wp2_with (first
                | (go_at_call 12; refine (hasSpec _ _).mono ?_; rintro e y ⟨rfl, hy⟩; rw [hy, kh]; clear hy y))
              exact ⟨⟨j + 1, m + 1, _, _, by omega, rfl, by go_num, hide (by rw [HF.out, HM.out]; simp), hide (by rw [HF.out, List.flatMap_append]; exact HO6.out.left (c1 := [_, _]) (v1 := [_, _]) rfl), HB6⟩, by simp [intOf]; omega⟩
      · obtain rfl : j = n := by omega
        have HF := hide (HO.out.mid (c1 := []) (v1 := []) rfl)
        have hmm := HM.out
        rw [HFIN.out] at HF hmm
        rw [hmm] at HF
        rw [hmm]
        clear HM hmm
        go_wp2
        go_ret
        exact ⟨_, rfl, by rw [HEB.out]; exact HF.out, HB.out⟩
end Go.Proofs.YtonkaomfahmchaaDoor
