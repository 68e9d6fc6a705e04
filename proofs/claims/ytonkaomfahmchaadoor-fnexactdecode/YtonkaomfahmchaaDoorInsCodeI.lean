/-
  CodeOk and Encode, by the program.
-/
import Derived.Test.YtonkaomfahmchaaDoorInsOkL
namespace Go.Proofs.YtonkaomfahmchaaDoor
open Go.RowKit

theorem appLs {w : World} {ops : Array Oper} {rest : List Oper} {o : Oper} {act : Act} {Q : Exit → Act → World → Prop} (hgd : o.guard = none) (s x : Operand) (t : TypeId)
    (ho : o.op = .call { callee := .builtin .append, args := #[s, x], argTypes := #[t, t] }) (b hi m : Nat) (T : TypeId) (i : TypeInfo) (z : Value) (k bytes : Nat) (ht : Tryd.prog.underlying t = some (.slice T)) (hin : Tryd.prog.info? T = some i) (hz : i.zero = some z)
    (hsize : i.size = k) (hby : i.bytes = bytes) (hzs : z.cells.size = k) (hk : 0 < k) (v : Value) (n : Nat) (cs c1 c2 : List Dt) (v1 v2 : List Value) (hs : act.eval s = v) (hown : OwnDL w b hi (c1 ++ .row T k n cs :: c2) (v1 ++ v :: v2)) (hl12 : v1.length = c1.length)
    (g r c : Nat) (us : List Value) (ds : List Dt) (hx : act.eval x = .slice (some ⟨g, 0, none⟩) r c) (hbox : ∀ j u, us[j]? = some u → w.cell? ⟨g, j, none⟩ = some u) (hds : OwnDL w m w.heap.size ds us) (hl : us.length = r * k) (h1 : ∀ u ∈ us, u.oneCell' = true) (h63 : n + r ≤ 2000000) (hbytes : bytes ≤ 1000)
    (hm : hi ≤ m) (hbm : b ≤ m) (_hms : m ≤ w.heap.size) (hr : 0 < r)
    (h : ∀ g' c' w', OwnDL w' b w'.heap.size (c1 ++ .row T k (n + r) (cs ++ ds) :: c2) (v1 ++ .slice (some ⟨g', 0, none⟩) (n + r) c' :: v2) → w.grownBy w' v.ownBlock → (∀ q, v.ownBlock = some q → b ≤ q ∧ q < hi) → wpList Tryd.prog ops Q rest (act.put o.dst (.slice (some ⟨g', 0, none⟩) (n + r) c')) w') :
    wpList Tryd.prog ops Q (o :: rest) act w := by
  obtain ⟨vs, h5, hv, hnew⟩ := hown.rowN hl12 (n + r)
  refine wpList_append_own_at w hgd s x t ho b T i z k bytes ht hin hz hsize hby hzs hk v n vs hs h5 ⟨g, 0, none⟩ r c us hx hl (fun j u hu => by rw [Addr.add_lit, Nat.zero_add]; exact hbox j u hu) h1 (by unfold maxLen; omega) ?_ (by omega) ?_
  · have := Nat.mul_le_mul (show n + r ≤ 2000000 by omega) hbytes
    omega
  · intro v' w' ho' hg' _ hat
    obtain ⟨q, hq⟩ : ∃ q, n + r = q + 1 := ⟨n + r - 1, by omega⟩
    rw [hq] at ho' h hnew
    obtain ⟨g', c', rfl⟩ := ownsRow_shape ho'
    exact h g' c' w' (hnew us ds m hds hm hbm _ w' ho' hg' hat) hg' hv
/-- Bytes of one's own: where they lie. -/
theorem byts_own {w : World} {b hi : Nat} {v : Value} {zs : List Int} (h : OwnD w b hi (byts zs) v) (hz : 0 < zs.length) : ∃ g c, v = .slice (some ⟨g, 0, none⟩) zs.length c ∧ (∀ j u, (zs.map (Value.int .u8))[j]? = some u → w.cell? ⟨g, j, none⟩ = some u) ∧ b ≤ g := by
  obtain ⟨ho, _⟩ := h.bytes
  have ho' : w.ownsRow b 5 1 v zs.length (zs.map (Value.int .u8)) := ho
  rcases ho'.2 with ⟨rfl, h0⟩ | ⟨g, c, cur, rfl, hb, _⟩
  · omega
  · refine ⟨g, c, rfl, fun j u hu => ?_, hb⟩
    have hj : j < zs.length * 1 := by
      have := List.getElem?_eq_some_iff.1 hu
      obtain ⟨h, _⟩ := this
      simpa using h
    rw [World.ownsRow.cellAt ho' j hj]
    exact hu
theorem vals_own (w : World) (m hi : Nat) (us : List Value) : OwnDL w m hi (us.map .val) us := ⟨[], ownsL_vals us, List.nodup_nil, fun q hq => by simp at hq⟩
set_option maxRecDepth 100000 in
set_option maxHeartbeats 4000000 in
theorem beginsImpl (w : World) (v : Value) (xs : List Isn) (h : Reads w w.heap.size (inss xs) v) (hm : xs.length ≤ 1000) :
    Calls Tryd.prog 25 #[v] w fun e w' => ∃ v', e = .returned v' ∧ OwnD w' w.heap.size w'.heap.size (ints (stL xs xs.length)) v' ∧ Below w.heap.size w w' := by
  have HX : Hid (∀ wr, Below w.heap.size w wr → _) := hide (fun wr hb => ins_at (h.at hb))
  have HT : Hid (∀ j, j < xs.length → _) := hide (stA_step xs)
  have HL : Hid (∀ j, stA xs j ≤ 2 * j) := hide (stA_le xs)
  have H0 : Hid ((stA xs 0 : Int) = 0) := hide rfl
  obtain ⟨a, cap, rfl, _⟩ := ins_at h
  clear h
  obtain ⟨i0, hi, hz0, hz1, hz2⟩ := info_parts Tryd.infoI
  have HI := hide (And.intro hi (And.intro hz0 (And.intro hz1 hz2)))
  clear hi hz0 hz1 hz2
  generalize hn : xs.length = n at *
  go_enter Tryd.func25, Tryd.ntmps25
  go_wp2
  go_loopw [3, 4, 6, 9] (fun out at' _ i wr => ∃ (j : Nat) (ao : Option Addr) (co : Nat), j ≤ n ∧ out = .slice ao j co ∧ at' = .int .i64 (stA xs j : Int) ∧ i = .int .i64 (j : Int) ∧ Hid (OwnD wr w.heap.size wr.heap.size (.row 3 1 j ((stL xs j).flatMap itD)) (.slice ao j co)) ∧ Hid (Below w.heap.size w wr)) (fun _ _ _ i _ => n - (intOf i).toNat)
  case atStart => exact ⟨0, none, 0, Nat.zero_le _, rfl, by rw [H0.out], rfl, hide (ownD_nil _ _ _ _ _), hide (Below.refl _ _)⟩
  case round =>
    obtain ⟨j, ao, co, hj, rfl, rfl, rfl, HO, HB⟩ := hrel
    have hsz := HB.out.size
    by_cases hlt : j < n
    · obtain ⟨a', cap', ea, _, _, hx⟩ := HX.out wr HB.out
      cases ea
      obtain ⟨b, o, rfl, hbl, hcell⟩ := hx (by omega)
      obtain ⟨e0, e1⟩ := hcell j hlt
      have hT := HT.out j hlt
      have hL := HL.out j
      clear hcell hx
      obtain ⟨x, hx9⟩ : ∃ x, xs.getD j default = x := ⟨_, rfl⟩
      rw [hx9] at e0 e1 hT
      clear hx9
      have HN := hide (stL_step xs j)
      obtain ⟨s, hs⟩ : ∃ s, stA xs j = s := ⟨_, rfl⟩
      rw [hs] at hT hL HN
      rw [hs]
      clear hs
      have HT2 := hide hT
      clear hT
      have HP : Hid (OwnDL (wr.alloc (.cells #[.int .i64 x.o, .int .i64 x.n] 33)) w.heap.size (wr.alloc (.cells #[.int .i64 x.o, .int .i64 x.n] 33)).heap.size [.row 3 1 j ((stL xs j).flatMap itD), inss [x]] [.slice ao j co, .slice (some ⟨wr.heap.size, 0, none⟩) 1 1]) := hide ((ownD_one HO.out).snoc hsz 33 2 1 #[.int .i64 x.o, .int .i64 x.n] (by omega) rfl)
      have HBA := hide (HB.out.alloc hsz (.cells #[.int .i64 x.o, .int .i64 x.n] 33))
      clear HO HB
      go_upto_region 6 with fail
      clear e0 e1
      generalize wr.alloc (.cells #[.int .i64 x.o, .int .i64 x.n] 33) = WA at *
      generalize wr.heap.size = p at *
      have hsA := HBA.out.size
      have HBx := hide (Box.new WA #[.int .i64 (s : Int)] 3)
      have bA := (Below.refl WA.heap.size WA).alloc (Nat.le_refl _) (.cells #[.int .i64 (s : Int)] 3)
      have HOx := hide (HP.out.below bA)
      have HDx : Hid (OwnDL (WA.alloc (.cells #[.int .i64 (s : Int)] 3)) WA.heap.size (WA.alloc (.cells #[.int .i64 (s : Int)] 3)).heap.size (itD (s : Int)) [.int .i64 (s : Int)]) := hide (OwnDL.val (ownDL_nil _ _ _))
      have hsx : WA.heap.size ≤ (WA.alloc (.cells #[.int .i64 (s : Int)] 3)).heap.size := bA.size
      have HBC := hide (HBA.out.trans (bA.mono hsA))
      clear bA HP HBA
      go_upto_region 8 with (at_builtin; refine appL rfl _ _ 35 rfl w.heap.size WA.heap.size WA.heap.size 3 i0 (.int .i64 0) 1 8 Tryd.underlying35 HI.out.1 HI.out.2.1 HI.out.2.2.1 HI.out.2.2.2 rfl (by decide) _ j ((stL xs j).flatMap itD) [] [inss [x]] [] [.slice (some ⟨p, 0, none⟩) 1 1] rfl HOx.out rfl WA.heap.size 1 [.int .i64 (s : Int)] (itD (s : Int)) rfl HBx.out HDx.out rfl (by simp [Value.oneCell']) (by omega) (by decide) (Nat.le_refl _) hsA hsx ?_; intro g9 c9 w6 o6 g6 q6; have HO6 := hide o6; have HB6 := hide (HBC.out.grown g6 (Nat.le_trans hsA hsx) (fun q hq => (q6 q hq).1)); clear o6 g6 q6)
      clear HBx HOx HDx HBC
      obtain ⟨f0, f1⟩ := box_ins (HO6.out.mid (c1 := [_]) (v1 := [_]) rfl)
      go_wp2_with fail
      refine (hasImpl _ x.o).mono ?_
      rintro e w7 ⟨rfl, b7⟩
      have HO7 := hide (((HO6.out.left (c1 := [_]) (v1 := [_]) rfl).below b7).up b7.size)
      have HB7 := hide (HB6.out.trans (b7.mono HB6.out.size))
      clear b7 HO6 HB6 f0 f1
      have HO8 : Hid (OwnD w7 w.heap.size w7.heap.size (.row 3 1 (j + 1) ((stL xs (j + 1)).flatMap itD)) (.slice (some ⟨g9, 0, none⟩) (j + 1) c9)) := hide (by rw [HN.out, List.flatMap_append]; exact ownDL_one HO7.out)
      cases c : hasB x.o with
      | true =>
        have hW : inW x = 2 := by unfold inW; rw [c]; rfl
        go_wp2
        exact ⟨⟨j + 1, _, _, by omega, rfl, by rw [HT2.out, hW]; exact congrArg (Value.int .i64) (by omega), by go_num, HO8, HB7⟩, by simp [intOf]; omega⟩
      | false =>
        have hW : inW x = 1 := by unfold inW; rw [c]; rfl
        go_wp2
        exact ⟨⟨j + 1, _, _, by omega, rfl, by rw [HT2.out, hW]; exact congrArg (Value.int .i64) (by omega), by go_num, HO8, HB7⟩, by simp [intOf]; omega⟩
    · obtain rfl : j = n := by omega
      have HF : Hid (OwnD wr w.heap.size wr.heap.size (ints (stL xs j)) (.slice ao j co)) := hide (by unfold ints; rw [stL_len]; exact HO.out)
      go_wp2
      go_ret
      exact ⟨_, rfl, HF.out, HB.out⟩
set_option maxRecDepth 100000 in
set_option maxHeartbeats 4000000 in
theorem codeBytesImpl (w : World) (v : Value) (xs : List Isn) (h : Reads w w.heap.size (inss xs) v) (hm : xs.length ≤ 1048576) :
    Calls Tryd.prog 28 #[v] w fun e w' => ∃ v', e = .returned (.tuple #[v', .bool (codeB xs)]) ∧ OwnD w' w.heap.size w'.heap.size (byts (encB xs)) v' ∧ Below w.heap.size w w' := by
  have HX : Hid (∀ wr, Below w.heap.size w wr → _) := hide (fun wr hb => ins_at (h.at hb))
  have HR := hide h
  have HB0 := hide (Below.refl w.heap.size w)
  have HNO : Hid (codeB xs = false → ∀ W, OwnD W w.heap.size W.heap.size (byts (encB xs)) (.slice none 0 0)) := hide (fun hc W => by unfold encB; rw [hc]; exact ownD_nil _ _ _ _ _)
  obtain ⟨i0, hi, hz0, hz1, hz2⟩ := info_parts Tryd.infoB8
  have HI := hide (And.intro hi (And.intro hz0 (And.intro hz1 hz2)))
  clear hi hz0 hz1 hz2
  obtain ⟨a, cap, rfl, _⟩ := ins_at h
  clear h
  cases c1 : inB (xs.length : Int) 1 90 with
  | false =>
    have hF := codeB_1 c1
    have HF := hide hF
    replace HNO := hide (HNO.out hF)
    clear hF
    generalize xs.length = n at *
    go_enter Tryd.func28, Tryd.ntmps28
    go_wp2_with (go_at_call 31; refine (inImpl _ _ _ _).mono ?_; rintro e y ⟨rfl, hy⟩; rw [hy, c1]; clear hy y)
    go_ret2
    exact ⟨_, by rw [HF.out]; rfl, HNO.out _, HB0.out⟩
  | true =>
    have h90 := inB_yes c1
    have hn1 : 1 ≤ xs.length := by omega
    have hn2 : xs.length ≤ 90 := by omega
    clear h90
    have HN3 : Hid (∀ j, j < xs.length → insB (xs.getD j default) xs.length = false → codeB xs = false) := hide (fun j hj h => codeB_3 hj h)
    have HN4 : Hid (endB (xs.getD (xs.length - 1) default).o = false → codeB xs = false) := hide codeB_4
    have HNY : Hid (stA xs xs.length ≤ 90 → (∀ j, j < xs.length → insB (xs.getD j default) xs.length = true) → endB (xs.getD (xs.length - 1) default).o = true → codeB xs = true) := hide (fun h2 h3 h4 => codeB_y c1 h2 h3 h4)
    have HN2 : Hid (¬ stA xs xs.length ≤ 90 → codeB xs = false) := hide codeB_2
    have HE : Hid (∀ j, j < xs.length → _) := hide (flat_next (encX xs) xs)
    have HEL : Hid (∀ j, ((xs.take j).flatMap (encX xs)).length = stA xs j) := hide (encT_len xs)
    have HSL : Hid (∀ j, stA xs j ≤ 2 * j) := hide (stA_le xs)
    have HFIN : Hid (codeB xs = true → (xs.take xs.length).flatMap (encX xs) = encB xs) := hide (fun hc => by rw [List.take_length]; unfold encB; rw [hc]; rfl)
    have HBG := hide (fun w v h => beginsImpl w v xs h (by omega))
    have HIB := hide (fun w x v h => insBImpl w x xs v h hn2)
    obtain ⟨b, o, rfl⟩ : ∃ b o, a = some ⟨b, o, none⟩ := by
      obtain ⟨a', cap', ea, _, _, hx⟩ := HX.out w HB0.out
      cases ea
      obtain ⟨b, o, e, _⟩ := hx (by omega)
      exact ⟨b, o, e⟩
    have HC : Hid (∀ wr, Below w.heap.size w wr → ∀ j, j < xs.length → wr.cell? ⟨b, o + j * 2, none⟩ = some (.int .i64 (xs.getD j default).o) ∧ wr.cell? ⟨b, o + j * 2 + 1, none⟩ = some (.int .i64 (xs.getD j default).n)) := hide (fun wr hb j hj => by
      obtain ⟨a', cap', ea, _, _, hx⟩ := HX.out wr hb
      cases ea
      obtain ⟨b', o', e', _, hc⟩ := hx (by omega)
      cases e'
      exact hc j hj)
    clear HX
    have HS2 := hide (stL_len xs xs.length)
    generalize hn : xs.length = n at *
    obtain ⟨m, rfl⟩ : ∃ m, n = m + 1 := ⟨n - 1, by omega⟩
    have e9 := (HC.out w HB0.out m (by omega)).1
    rw [Nat.add_sub_cancel] at HN4 HNY
    have c1' : inB ((m : Int) + 1) 1 90 = true := c1
    clear c1
    have c1 := c1'
    clear c1'
    obtain ⟨xl, hxl⟩ : ∃ xl, xs.getD m default = xl := ⟨_, rfl⟩
    rw [hxl] at e9 HN4 HNY
    clear hxl
    go_enter Tryd.func28, Tryd.ntmps28
    cases c2 : endB xl.o with
    | false =>
      have hF := HN4.out c2
      have HF := hide hF
      replace HNO := hide (HNO.out hF)
      clear hF
      go_wp2_with (first
        | (go_at_call 31; refine (inImpl _ _ _ _).mono ?_; rintro e y ⟨rfl, hy⟩; rw [hy, c1]; clear hy y)
        | (go_at_call 32; refine (endsImpl _ _).mono ?_; rintro e y ⟨rfl, hy⟩; rw [hy, c2]; clear hy y)
        | fail)
      go_ret2
      exact ⟨_, by rw [HF.out]; rfl, HNO.out _, HB0.out⟩
    | true =>
      go_wp2_with (first
        | (go_at_call 31; refine (inImpl _ _ _ _).mono ?_; rintro e y ⟨rfl, hy⟩; rw [hy, c1]; clear hy y)
        | (go_at_call 32; refine (endsImpl _ _).mono ?_; rintro e y ⟨rfl, hy⟩; rw [hy, c2]; clear hy y)
        | fail)
      clear e9 c1
      refine (HBG.out _ _ HR.out).mono ?_
      rintro e w1 ⟨bv, rfl, o1, b1⟩
      obtain ⟨sA, sC, hsv, _⟩ := int_at (o1.rd (Nat.le_refl _))
      rw [HS2.out] at hsv
      subst hsv
      have HO1 : Hid (OwnDL w1 w.heap.size w1.heap.size [.row 5 1 0 [], ints (stL xs (m + 1))] [.slice none 0 0, .slice sA (m + 1) sC]) := hide ((ownD_one (ownD_nil w1 w.heap.size w.heap.size 5 1)).push o1 (Nat.le_refl _) b1.size)
      have HB1 := hide b1
      clear o1 b1
      go_wp2_with fail
      go_loopw [5, 7, 8, 9, 29] (fun out _ _ _ i wr => ∃ (j q : Nat) (ao : Option Addr) (co : Nat), j ≤ (m + 1) ∧ out = .slice ao q co ∧ i = .int .i64 (j : Int) ∧ Hid (q = stA xs j) ∧ Hid (∀ k, k < j → insB (xs.getD k default) (m + 1) = true) ∧ Hid (OwnDL wr w.heap.size wr.heap.size [.row 5 1 q (((xs.take j).flatMap (encX xs)).flatMap byD), ints (stL xs (m + 1))] [.slice ao q co, .slice sA (m + 1) sC]) ∧ Hid (Below w.heap.size w wr)) (fun _ _ _ _ i _ => (m + 1) - (intOf i).toNat)
      case atStart => exact ⟨0, 0, _, _, Nat.zero_le _, rfl, rfl, hide rfl, hide (fun k hk => by omega), HO1, HB1⟩
      case round =>
        clear HO1 HB1
        obtain ⟨j, q, ao, co, hj, rfl, rfl, HQ, HA, HO, HB⟩ := hrel
        have hsz := HB.out.size
        have hq180 : q ≤ 180 := by have := HQ.out; have := HSL.out j; omega
        by_cases hlt : j < (m + 1)
        · obtain ⟨e0, e1⟩ := HC.out wr HB.out j hlt
          have hI := HN3.out j hlt
          have hE := HE.out j hlt
          have hL2 := HEL.out (j + 1)
          obtain ⟨x, hx9⟩ : ∃ x, xs.getD j default = x := ⟨_, rfl⟩
          rw [hx9] at e0 e1 hI hE
          have HX9 := hide hx9
          have HII := hide hI
          have HEE := hide hE
          have HL2 := hide hL2
          clear hx9 hI hE hL2
          have bA := (Below.refl wr.heap.size wr).alloc (Nat.le_refl _) (.cells #[.int .i64 x.o, .int .i64 x.n] 33)
          have HOA := hide ((HO.out.below bA).up bA.size)
          have HBA := hide (HB.out.trans (bA.mono hsz))
          have HXB := hide (Box.new wr #[.int .i64 x.o, .int .i64 x.n] 33)
          clear bA HO HB
          go_upto_region 8 with fail
          clear e0 e1
          generalize wr.alloc (.cells #[.int .i64 x.o, .int .i64 x.n] 33) = WA at *
          have d0 := HXB.out 0 _ rfl
          have d1 := HXB.out 1 _ rfl
          go_wp2_with fail
          refine (HIB.out _ x _ ((HOA.out.mid (c1 := [_]) (v1 := [_]) rfl).rd (Nat.le_refl _))).mono ?_
          rintro e w2 ⟨bv2, rfl, hob, b2⟩
          have HOB := hide hob
          have hs2 := b2.size
          have HO2 := hide (HOA.out.below b2)
          have HB2 := hide (HBA.out.trans (b2.mono HBA.out.size))
          have hsA := HBA.out.size
          clear b2 hob HOA HBA d0 d1 HXB
          cases c : insB x (m + 1) with
          | false =>
            have hF := HII.out c
            have HF := hide hF
            replace HNO := hide (HNO.out hF)
            clear hF
            go_wp2
            go_ret2
            exact ⟨_, by rw [HF.out]; rfl, HNO.out _, HB2.out⟩
          | true =>
            have HA2 : Hid (∀ k, k < j + 1 → insB (xs.getD k default) (m + 1) = true) := hide (fun k hk => by
              rcases Nat.lt_succ_iff_lt_or_eq.1 hk with h | rfl
              · exact HA.out k h
              · rw [HX9.out]; exact c)
            have hEl : 0 < (encX xs x).length := by rw [encX_len]; have := inW_le x; omega
            have hEl2 : (encX xs x).length ≤ 2 := by rw [encX_len]; have := inW_le x; omega
            obtain ⟨g2, c2', rfl, hcl, _⟩ := byts_own (HOB.out c) hEl
            have HCL := hide hcl
            have HVL := hide (vals_own w2 WA.heap.size w2.heap.size ((encX xs x).map (Value.int .u8)))
            have HLN : Hid (q + (encX xs x).length = stA xs (j + 1)) := hide (by
              have h1 := HL2.out
              rw [HEE.out, List.length_append] at h1
              have h2 := HEL.out j
              rw [← h1, h2, HQ.out])
            have HRW : Hid ((((xs.take j).flatMap (encX xs)).flatMap byD ++ ((encX xs x).map (Value.int .u8)).map Dt.val) = ((xs.take (j + 1)).flatMap (encX xs)).flatMap byD) := hide (by rw [HEE.out, List.flatMap_append, byts_cells (encX xs x)])
            clear HOB HA hcl
            generalize hel : (encX xs x).length = el at *
            go_wp2_with (first
              | (at_builtin; refine appLs rfl _ _ 22 rfl w.heap.size WA.heap.size WA.heap.size 5 i0 (.int .u8 0) 1 1 Tryd.underlying22 HI.out.1 HI.out.2.1 HI.out.2.2.1 HI.out.2.2.2 rfl (by decide) _ q (((xs.take j).flatMap (encX xs)).flatMap byD) [] [ints (stL xs (m + 1))] [] [.slice sA (m + 1) sC] rfl HO2.out rfl g2 el c2' ((encX xs x).map (Value.int .u8)) (((encX xs x).map (Value.int .u8)).map Dt.val) rfl HCL.out HVL.out (by simp [hel]) (byt_cells _) (by omega) (by decide) (Nat.le_refl _) hsA hs2 hEl ?_; intro g9 c9 w6 o6 g6 q6; have HO6 := hide o6; have HB6 := hide (HB2.out.grown g6 HB2.out.size (fun q hq => (q6 q hq).1)); clear o6 g6 q6)
              | fail)
            rw [HRW.out] at HO6
            exact ⟨⟨j + 1, q + el, _, _, by omega, rfl, by go_num, HLN, HA2, HO6, HB6⟩, by simp [intOf]; omega⟩
        · obtain rfl : j = m + 1 := by omega
          have hq9 := HQ.out
          rw [← hq9] at HN2 HNY
          have HNY2 := hide (fun h => HNY.out h HA.out c2)
          by_cases hs9 : q ≤ 90
          · have hc := HNY2.out hs9
            have HF := hide hc
            have hlen : ((xs.take (m + 1)).flatMap (encX xs)).length = q := by rw [HEL.out, hq9]
            have HF2 : Hid (OwnD wr w.heap.size wr.heap.size (byts (encB xs)) (.slice ao q co)) := hide (by
              have := HO.out.mid (c1 := []) (v1 := []) rfl
              rw [← HFIN.out hc]
              unfold byts
              rw [hlen]
              exact this)
            have hs' : ¬ (90 : Int) < (q : Int) := by omega
            clear hc hlen hq9 HQ
            go_wp2
            go_ret2
            exact ⟨_, by rw [HF.out]; rfl, HF2.out, HB.out⟩
          · have hF := HN2.out hs9
            have HF := hide hF
            replace HNO := hide (HNO.out hF)
            have hs' : (90 : Int) < (q : Int) := by omega
            clear hF hq9 HQ
            go_wp2
            go_ret2
            exact ⟨_, by rw [HF.out]; rfl, HNO.out _, HB.out⟩
set_option maxRecDepth 100000 in
set_option maxHeartbeats 4000000 in
theorem codeOkImpl (w : World) (v : Value) (xs : List Isn) (h : Reads w w.heap.size (inss xs) v) (hm : xs.length ≤ 1048576) :
    Calls Tryd.prog 18 #[v] w fun e w' => e = .returned (.bool (codeB xs)) ∧ Below w.heap.size w w' := by
  go_enter Tryd.func18, Tryd.ntmps18
  go_wp2_with (go_at_call 28; refine (codeBytesImpl _ _ xs h hm).mono ?_; rintro e w1 ⟨v1, rfl, _, b1⟩; have HB := hide b1; clear b1)
  go_ret
  exact ⟨rfl, HB.out⟩
end Go.Proofs.YtonkaomfahmchaaDoor
