/-
  Proved: whatever bytes are drawn from, what is sealed of drawn bytes is as its model seals it and is opened; with one bit turned it is not; turned twice it is as it was; sums, opened and turned bytes are the model's, and what is opened is sealed to what it was (the law FnSealed returns true), without any condition.
-/
import Derived.Test.YtpemnkfjeldgmaaRows
import Derived.Test.YtpemnkfjeldgmaaRowIn
import Derived.Test.YtpemnkfjeldgmaaSealedNone
import Derived.Test.YtpemnkfjeldgmaaSealedSome
import Derived.WalkKit
import Derived.ProofKit
import Derived.OpenShut
import Derived.ShutString
import Derived.ChangeOld
import Derived.Below
namespace Go.Proofs.Ytpemnkfjeldgmaa.fnSealed
open Go.ChangeShapes Go.WideShapes Go.ChangeAt Go.RowKit
open Go.ChangeMaps (open_string shut_string)
set_option linter.unusedVariables false

theorem own : ownKnob Try.prog.godebug = none := by kernel_rfl
theorem laidOut : laidOutB Try.prog = true := by kernel_rfl
/-- What is opened is sealed to what it was. -/
theorem sealed_opened (ys p : List Int) (hy : Byt ys) (h : opened ys = some p) : sealed p = ys := by
  unfold opened at h
  split at h
  · rename_i hc
    obtain rfl := Option.some.inj h
    have e := (told_iff (ys.take (ys.length - 4)) (ys.drop (ys.length - 4)) (fun z hz => hy z (List.mem_of_mem_drop hz)) (by simp; omega)).2 hc.2
    unfold sealed
    rw [e, List.take_append_drop]
  · cases h

theorem In.low2 {w w' : World} {a : Option Addr} {len : Nat} {ys : List Int} (h : In w w.heap.size a len ys) (hb : Below w.heap.size w w') : In w' w'.heap.size a len ys := h.at hb

set_option maxRecDepth 100000 in
set_option maxHeartbeats 40000000 in
theorem walk (a0 : Option Addr) (len0 cap0 : Nat) (z0 : List Int) (w : World) (w0 : IsRow .u8 w a0 len0 cap0 z0) :
    Calls Try.prog 3 #[.slice a0 len0 cap0] w fun e w' => e = .returned (.bool true) ∧ Below w.heap.size w w' := by
  by_cases hbig : (1048576 : Int) < (len0 : Int)
  · clear w0
    go_enter Try.func3, Try.ntmps3
    go_wp2_with (go_at_call 9; refine (bigYes _ _ _ _ hbig).mono ?_; rintro e wb ⟨rfl, rfl⟩)
    go_ret
    exact ⟨rfl, Below.refl _ _⟩
  · have hin := in_of w0 (by omega)
    clear w0
    generalize z0.take len0 = zs at hin
    have HIN := hide hin
    have HZ := hide (in_byt hin)
    clear hin
    go_enter Try.func3, Try.ntmps3
    go_wp2_with fail
    refine (bigNo _ _ _ _ (by omega)).mono ?_
    rintro e wb ⟨rfl, hw⟩
    subst wb
    go_wp2_with fail
    refine (drawSeal _ _ _ _ _ HIN.out).mono ?_
    rintro e w1 ⟨b1, c1, rfl, HD, hY, hyl, HB⟩
    have HY := hide hY
    replace HB := hide HB
    replace HD := hide HD
    clear hbig hY
    go_wp2_with fail
    refine (sealImpl _ _ _ _ _ (in_own HD.out rfl (by omega) HY.out.at (Nat.le_refl _)) (by simp)).mono ?_
    rintro e w2 ⟨vS, rfl, oS, b2⟩
    have HT : Hid (∀ n : Nat, n / 8 < (sealed (sealF zs)).length → opened (turned (sealed (sealF zs)) (n : Int)) = none) := hide (fun n hn => opened_turned _ HY.out n (by rw [sealed_len] at hn; exact hn))
    have HOS := hide (opened_sealed (sealF zs))
    have hsl : 4 ≤ (sealed (sealF zs)).length ∧ (sealed (sealF zs)).length ≤ 304 := by rw [sealed_len]; omega
    have HSB := hide (sealed_byt _ HY.out)
    have s1 := HB.out.size
    replace HB := hide (HB.out.trans (b2.mono HB.out.size))
    replace HD := hide (HD.out.below b2)
    generalize hQ : sealed (sealF zs) = sl at *
    have HQ := hide hQ
    clear hQ
    obtain ⟨aS, cS, rfl⟩ := own_shape oS
    have hcS : sl.length ≤ cS := (in_slice oS (by omega) HSB.out (Nat.le_refl _)).2
    have HS := hide (oS.mono s1)
    have HDd' := hide (in_own HD.out rfl (by omega) HY.out.at (Nat.le_refl _))
    have HDd : Hid (In w2.drew w2.drew.heap.size (some ⟨b1, 0, none⟩) (sealF zs).length (sealF zs)) := HDd'
    have hcv0 : (convert 22 9 (.slice aS sl.length cS)).run Try.prog w2.drew = .ok (.string (strOfNums sl)) w2.drew := own_str (HS.out.drewN 1)
    clear b2 oS HDd'
    go_upto_region 5 with fail
    go_cut [30] from 25 to 30 (fun s wr => s = .bool false ∧ Own wr w.heap.size (.slice aS sl.length cS) sl ∧ Own wr w.heap.size (.slice (some ⟨b1, 0, none⟩) (sealF zs).length c1) (sealF zs) ∧ Below w.heap.size w wr)
    case first =>
      go_region_with (go_at_call 12; refine (sealSpec _ _ _ _ _ HDd.out (by simp)).mono ?_; rintro e w4 ⟨v4, rfl, o4, b4⟩; rw [HQ.out] at o4; have hcv4 := own_str o4; have HS4 := hide (HS.out.below (below_of_drew b4)); have hcv5 := own_str HS4.out; have HD4 := hide (HD.out.below (below_of_drew b4)); have HB4 := hide (HB.out.trans ((below_of_drew b4).mono HB.out.size)); clear b4 o4)
      all_goals (go_wp2_with fail; go_meet; exact ⟨rfl, HS4.out, HD4.out, HB4.out⟩)
    case rest =>
      obtain ⟨rfl, hS, hD, hB⟩ := hcut
      replace HS := hide hS
      replace HB := hide hB
      replace HD := hide hD
      clear hS hB hD hcv0 HDd
      go_wp2_with fail
      refine (openImpl _ _ _ _ _ (in_slice HS.out (by omega) HSB.out (Nat.le_refl _)).1 hcS).mono ?_
      rintro e w5 ⟨hA, b5⟩
      rw [HOS.out] at hA
      obtain ⟨vO, rfl, HO⟩ := hA
      replace HO := hide HO
      have s4 := HB.out.size
      replace HB := hide (HB.out.trans (b5.mono HB.out.size))
      replace HS := hide (HS.out.below b5)
      replace HD := hide (HD.out.below b5)
      clear b5 HOS
      have x0 := atF_bd zs HZ.out 1
      go_wp2_with fail
      refine (atB _ _ _ _ _ _ 1 (by omega) (HIN.out.at HB.out)).mono ?_
      rintro e w6 ⟨rfl, hw⟩
      subst w6
      generalize atF zs 1 = x at *
      have hq : (x * 8 * (sl.length : Int) / 256 : Int) = x * (8 * (sl.length : Int)) / 256 := by rw [Int.mul_assoc]
      have hxl : x * (8 * (sl.length : Int)) ≤ 255 * (8 * (sl.length : Int)) := Int.mul_le_mul_of_nonneg_right (by omega) (by omega)
      have hxg : 0 ≤ x * (8 * (sl.length : Int)) := Int.mul_nonneg (by omega) (by omega)
      have hbit : 0 ≤ x * 8 * (sl.length : Int) / 256 ∧ x * 8 * (sl.length : Int) / 256 < 8 * (sl.length : Int) := by rw [hq]; omega
      have hpos : 0 ≤ x * 8 * (sl.length : Int) ∧ x * 8 * (sl.length : Int) ≤ 620160 := by rw [Int.mul_assoc]; omega
      clear hq hxl hxg
      go_wp2_with fail
      generalize x * 8 * (sl.length : Int) / 256 = bit at *
      obtain ⟨n, hn⟩ := Int.eq_ofNat_of_zero_le hbit.1
      have HTn := hide (HT.out n (by omega))
      have HTW := hide (turned_twice sl bit HSB.out)
      rw [← hn] at HTn
      clear hn hpos
      have hI : -9223372036854775808 ≤ bit ∧ bit ≤ 9223372036854775807 := by omega
      refine (turnImpl _ _ _ _ _ _ (in_slice HS.out (by omega) HSB.out (Nat.le_refl _)).1 HS.out.cap0 hI).mono ?_
      rintro e w7 ⟨v7, rfl, o7, b7⟩
      have HTL := hide (turned_len sl bit)
      have HTB := hide (turned_byt sl bit HSB.out)
      have s5 := HB.out.size
      replace HB := hide (HB.out.trans (b7.mono HB.out.size))
      replace HS := hide (HS.out.below b7)
      replace HD := hide (HD.out.below b7)
      replace HO := hide (HO.out.below b7)
      clear b7
      generalize turned sl bit = tl at *
      obtain ⟨a7, c7, rfl, i7, hc7⟩ := in_any o7 (by have := HTL.out; omega) HTB.out (Nat.le_refl _)
      have HT7 := hide o7
      clear o7 i7
      go_wp2_with fail
      refine (openImpl _ _ _ _ _ (in_slice HT7.out (by have := HTL.out; omega) HTB.out (Nat.le_refl _)).1 hc7).mono ?_
      rintro e w8 ⟨hA, b8⟩
      rw [HTn.out] at hA
      obtain ⟨v8, rfl, -⟩ := hA
      replace HB := hide (HB.out.trans (b8.mono HB.out.size))
      replace HS := hide (HS.out.below b8)
      replace HD := hide (HD.out.below b8)
      replace HO := hide (HO.out.below b8)
      replace HT7 := hide (HT7.out.below b8)
      clear b8 HTn
      have hcO : (convert 22 9 vO).run Try.prog w8.drew = .ok (.string (strOfNums (sealF zs))) w8.drew := own_str (HO.out.drewN 1)
      have hcD : (convert 22 9 (.slice (some ⟨b1, 0, none⟩) (sealF zs).length c1)).run Try.prog w8.drew = .ok (.string (strOfNums (sealF zs))) w8.drew := own_str (HD.out.drewN 1)
      have hcS' : (convert 22 9 (.slice aS sl.length cS)).run Try.prog w8.drew = .ok (.string (strOfNums sl)) w8.drew := own_str (HS.out.drewN 1)
      have HI7' := hide (in_slice HT7.out (by have := HTL.out; omega) HTB.out (Nat.le_refl _)).1
      have HI7 : Hid (In w8.drew w8.drew.heap.size a7 tl.length tl) := HI7'
      have H70 := hide HT7.out.cap0
      clear HI7'
      go_upto_region 11 with fail
      go_cut [71] from 51 to 71 (fun s wr => s = .bool false ∧ Below w.heap.size w wr)
      case first =>
        first
          | (go_region_held (fun w' => (convert 22 9 vO).run Try.prog w' = .ok (.string (strOfNums (sealF zs))) w' ∧ (convert 22 9 (.slice (some ⟨b1, 0, none⟩) (sealF zs).length c1)).run Try.prog w' = .ok (.string (strOfNums (sealF zs))) w' ∧ (convert 22 9 (.slice aS sl.length cS)).run Try.prog w' = .ok (.string (strOfNums sl)) w') (first | (exact ⟨hcO, hcD, hcS'⟩) | (exact ⟨hcO9, hcD9, hcS9⟩))
              (first | (go_at_call 15; refine (turnImpl _ _ _ _ _ _ HI7.out H70.out hI).mono ?_; rintro e w9 ⟨v9, rfl, o9, b9⟩; rw [HTW.out] at o9; have hcv9 := own_str o9; have hcS9 := own_str (HS.out.below (below_of_drew b9)); have hcO9 := own_str (HO.out.below (below_of_drew b9)); have hcD9 := own_str (HD.out.below (below_of_drew b9)); have HB9 := hide (HB.out.trans ((below_of_drew b9).mono HB.out.size)); clear b9 o9)))
          | fail
        all_goals (go_wp2_with fail; go_meet; exact ⟨rfl, HB9.out⟩)
      case rest =>
        obtain ⟨rfl, hB⟩ := hcut
        replace HB := hide hB
        clear hB HS HD HO HT7 HI7 H70 hcO hcD hcS' HTL HTB HTW HT HSB hsl hcS hc7 HQ hbit
        go_wp2_with fail
        refine (drawCheck _ _ _ _ _ (HIN.out.at HB.out)).mono ?_
        rintro e wC ⟨bC, cC, rfl, HC, -, -, bc⟩
        replace HC := hide HC
        replace HB := hide (HB.out.trans (bc.mono HB.out.size))
        clear bc
        go_wp2_with fail
        refine (drawOpen _ _ _ _ _ (HIN.out.at HB.out)).mono ?_
        rintro e wR ⟨vR, rfl, ⟨aR, lR, kR, rs, rfl, hR, hR304, hRk, hR0, hRs⟩, br⟩
        have HR := hide hR
        replace HB := hide (HB.out.trans (br.mono HB.out.size))
        replace HC := hide (HC.out.below br)
        clear br hR
        cases ho : opened rs with
        | none =>
          have HOP := hide ho
          clear ho
          go_wp2_with fail
          refine (openImpl _ _ _ _ _ HR.out hRk).mono ?_
          rintro e wP ⟨hA, bp⟩
          rw [HOP.out] at hA
          obtain ⟨vG, rfl, HG⟩ := hA
          obtain ⟨aG, cG, rfl⟩ := own_shape HG
          replace HR := hide (HR.out.at bp)
          replace HB := hide (HB.out.trans (bp.mono HB.out.size))
          replace HC := hide (HC.out.below bp)
          clear bp HG
          go_wp2_with fail
          refine (openSpec _ _ _ _ _ HR.out hRk).mono ?_
          rintro e wQ ⟨hA, bq⟩
          rw [HOP.out] at hA
          obtain ⟨vW, rfl, -⟩ := hA
          replace HB := hide (HB.out.trans (bq.mono HB.out.size))
          replace HC := hide (HC.out.below bq)
          clear bq HR HOP
          go_wp2_with fail
          refine (drawTurn _ _ _ _ _ (HIN.out.at HB.out)).mono ?_
          rintro e wU ⟨vU, kk, rfl, ⟨aU, lU, kU, us, rfl, hU, hU304, hUk, hU0, hUs⟩, hK, bu⟩
          have HU := hide hU
          replace HB := hide (HB.out.trans (bu.mono HB.out.size))
          replace HC := hide (HC.out.below bu)
          clear bu hU
          go_upto_region 18 with fail
          refine tailNone (hide (in_own HC.out rfl (by omega) HY.out.at (Nat.le_refl _))) HU hU0 hK ?_
          intro v91 v92 v93 v94 v95 v96 v97 v98 v99 v100 v101 v102 v103 v104 v105 v106 v107 v108 v109 v110 v111 v112 v113 v114 v115 v116 v117 v118 v119 v120 v121 v122 v123 v124 v125 v126 v127 v128 v129 v130 v131 wz hz
          replace HB := hide (HB.out.trans (hz.mono HB.out.size))
          clear hz
          go_wp2
          go_ret
          exact ⟨rfl, HB.out⟩
        | some p =>
          have HOP := hide ho
          have hp := sealed_opened rs p (in_byt HR.out) ho
          have hlr := HR.out.1
          have hpl : p.length + 4 = rs.length := by rw [← hp, sealed_len]
          have HPB : Hid (Byt p) := hide (fun z hz => in_byt HR.out z (by rw [← hp]; exact List.mem_append_left _ hz))
          have HP := hide hp
          clear ho hp
          go_wp2_with fail
          refine (openImpl _ _ _ _ _ HR.out hRk).mono ?_
          rintro e wP ⟨hA, bp⟩
          rw [HOP.out] at hA
          obtain ⟨vG, rfl, HG⟩ := hA
          obtain ⟨aG, cG, rfl⟩ := own_shape HG
          replace HG := hide HG
          replace HR := hide (HR.out.at bp)
          replace HB := hide (HB.out.trans (bp.mono HB.out.size))
          replace HC := hide (HC.out.below bp)
          clear bp
          go_wp2_with fail
          refine (openSpec _ _ _ _ _ HR.out hRk).mono ?_
          rintro e wQ ⟨hA, bq⟩
          rw [HOP.out] at hA
          obtain ⟨vW, rfl, -⟩ := hA
          replace HR := hide (HR.out.at bq)
          replace HB := hide (HB.out.trans (bq.mono HB.out.size))
          replace HC := hide (HC.out.below bq)
          replace HG := hide (HG.out.below bq)
          clear bq HOP
          go_wp2_with fail
          refine (drawTurn _ _ _ _ _ (HIN.out.at HB.out)).mono ?_
          rintro e wU ⟨vU, kk, rfl, ⟨aU, lU, kU, us, rfl, hU, hU304, hUk, hU0, hUs⟩, hK, bu⟩
          have HU := hide hU
          replace HR := hide (HR.out.at bu)
          replace HB := hide (HB.out.trans (bu.mono HB.out.size))
          replace HC := hide (HC.out.below bu)
          replace HG := hide (HG.out.below bu)
          clear bu hU
          go_upto_region 18 with fail
          refine tailSome (hide (in_own HC.out rfl (by omega) HY.out.at (Nat.le_refl _))) HU hU0 hK HR hR0 hRs HG (by omega) HPB HP ?_
          intro v91 v92 v93 v94 v95 v96 v97 v98 v99 v100 v101 v102 v103 v104 v105 v106 v107 v108 v109 v110 v111 v112 v113 v114 v115 v116 v117 v118 v119 v120 v121 v122 v123 v124 v125 v126 v127 v128 v129 v130 v131 wz hz
          replace HB := hide (HB.out.trans (hz.mono HB.out.size))
          clear hz
          go_wp2
          go_ret
          exact ⟨rfl, HB.out⟩

set_option maxRecDepth 100000 in
theorem lifted (os : Os) (started : os.Started) (H : Type) (enc : TypeId × Value → H) :
    ReturnsInHanded {} Try.checked os 3 .any (Rows.fnSealedSpec.pre6 enc Try.prog Try.f3 Rows.fnSealedRow.domain false) (Rows.fnSealedSpec.post enc Try.prog Try.f3 false true false false) := by
  refine returnsInHanded_of_change (C := Try.checked) own started (by kernel_rfl) Try.func3
    (ChangeSpec.witness6 (enc := enc) (C := Try.checked) false ⟨#[], #[.slice none 0 0], []⟩ 8 (by kernel_rfl) (by kernel_rfl) (by kernel_rfl) (by kernel_rfl)) ?_
  intro W base args ds gs before hval0 hW hcnd _
  have hval : ∀ (j : Nat) t v, Try.f3.params[j]? = some t → args[j]? = some v → Value.okWide Try.prog W .any base t v := hval0
  have hW' := hW
  obtain ⟨p, q, hA0, hV, rfl, hfz, hnd⟩ := hW
  have hA : DataW.TrodAll enc Try.prog W 0 (fun _ => true) true Try.f3.params.toList args.toList ds p := hA0
  rw [Try.params3] at hA hval
  obtain ⟨v0, vs0, d0, ds0, p0, q0, hargs, rfl, rfl, h0, r0⟩ := trodAll_cons hA
  obtain ⟨rfl, rfl, rfl⟩ := trodAll_nil r0
  obtain rfl : args = #[v0] := by cases args; simp_all
  obtain ⟨rfl, rfl⟩ := trodVars_none hV
  obtain ⟨a0, len0, cap0, rfl⟩ := okWide_slice Try.underlying22 (hval 0 22 v0 rfl rfl)
  have k0 := h0
  have lt0 : ∀ x ∈ p0, x.block < W.heap.size := by obtain ⟨m, hm⟩ := k0; exact DataW.trod_lt m _ _ _ hm
  obtain ⟨z0, w0⟩ : ∃ zs, IsRow .u8 W a0 len0 cap0 zs := by
    obtain ⟨fuel, hf⟩ := h0
    rcases open_ints Try.underlying22 Try.underlying5 (by kernel_rfl) hf with ⟨hcs, _⟩ | ⟨x, l, c, zs, hcs, _, hl, hm, hz, _, hcell, hwz⟩
    · simp [Value.cells] at hcs
      obtain ⟨rfl, rfl, rfl⟩ := hcs
      exact ⟨[], .inl ⟨rfl, rfl, rfl, rfl⟩⟩
    · simp [Value.cells] at hcs
      obtain ⟨rfl, rfl, rfl⟩ := hcs
      exact ⟨zs, .inr ⟨_, rfl, hl, hm, by simpa using hz, hcell, hwz⟩⟩
  clear hA0 hval0
  refine (walk a0 len0 cap0 z0 W w0).mono fun e W' ⟨he, bel⟩ => ?_
  subst he
  exact ⟨_, rfl, _, _, _, [], _, [], hW', trodAll_mk1 (shut_bool Try.underlying4 _), (trodAll_cons_mk (Below.trod laidOut (by kernel_rfl) (of_decide_eq_true (by kernel_rfl)) k0 bel lt0) trodAll_mk0), rfl, bel.frame _, fun h => by cases h⟩

theorem over : Rows.fnSealedRow.holds Try.pinned (OpenSpec.ofChange Rows.fnSealedSpec) :=
  OpenClaim.holds_of_wide 3 Try.f3 rfl rfl rfl rfl rfl rfl rfl ⟨rfl, rfl, rfl, rfl, rfl⟩ rfl rfl rfl rfl rfl (by kernel_rfl) Try.func3 (by kernel_rfl)
    (of_decide_eq_true (by kernel_rfl)) (by unfold Func.isWrapper; first | (rw [if_pos (by decide +kernel)]; kernel_rfl) | (rw [if_neg (by decide +kernel)]; exact ⟨rfl, rfl⟩))
    (fun os started H enc _ => lifted os started H enc)

end Go.Proofs.Ytpemnkfjeldgmaa.fnSealed
namespace Go.Proofs.Ytpemnkfjeldgmaa
theorem fnSealed_holds : Rows.FnSealedSaid := fnSealed.over
#print axioms fnSealed_holds
end Go.Proofs.Ytpemnkfjeldgmaa
