/-
  Proved: whatever bytes are drawn from, what is sealed of drawn bytes is as its model seals it, and with any one bit turned it is not opened and as long as it was (the law FnTurned returns true), without any condition.
-/
import Derived.Test.YtpemnkfjeldgmaaRows
import Derived.Test.YtpemnkfjeldgmaaRowIn
import Derived.Test.YtpemnkfjeldgmaaDrawBytesF
import Derived.WalkKit
import Derived.ProofKit
import Derived.OpenShut
import Derived.ShutString
import Derived.ChangeOld
import Derived.Below
namespace Go.Proofs.Ytpemnkfjeldgmaa.fnTurned
open Go.ChangeShapes Go.WideShapes Go.ChangeAt Go.RowKit
open Go.ChangeMaps (open_string shut_string)
set_option linter.unusedVariables false

theorem own : ownKnob Try.prog.godebug = none := by kernel_rfl
theorem laidOut : laidOutB Try.prog = true := by kernel_rfl
set_option maxRecDepth 100000 in
set_option maxHeartbeats 4000000 in
theorem walk (a0 : Option Addr) (len0 cap0 : Nat) (z0 : List Int) (w : World) (w0 : IsRow .u8 w a0 len0 cap0 z0) :
    Calls Try.prog 4 #[.slice a0 len0 cap0] w fun e w' => e = .returned (.bool true) ∧ Below w.heap.size w w' := by
  by_cases hbig : (1048576 : Int) < (len0 : Int)
  · clear w0
    go_enter Try.func4, Try.ntmps4
    go_wp2_with (go_at_call 9; refine (bigYes _ _ _ _ hbig).mono ?_; rintro e wb ⟨rfl, rfl⟩)
    go_ret
    exact ⟨rfl, Below.refl _ _⟩
  · have hin := in_of w0 (by omega)
    clear w0
    generalize z0.take len0 = zs at hin
    have HIN := hide hin
    have HZ := hide (in_byt hin)
    clear hin
    go_enter Try.func4, Try.ntmps4
    go_wp2_with fail
    refine (bigNo _ _ _ _ (by omega)).mono ?_
    rintro e wb ⟨rfl, hw⟩
    subst wb
    go_wp2_with fail
    refine (drawSeal _ _ _ _ _ HIN.out).mono ?_
    rintro e w1 ⟨b1, c1, rfl, o1, hY, hyl, HB⟩
    have HY := hide hY
    replace HB := hide HB
    have hin1 := hide (in_own o1 rfl (by omega) hY.at (Nat.le_refl _))
    clear o1 hbig hY
    go_wp2_with fail
    refine (sealImpl _ _ _ _ _ hin1.out (by simp)).mono ?_
    rintro e w2 ⟨vS, rfl, oS, b2⟩
    have HT : Hid (∀ n : Nat, n / 8 < (sealed (sealF zs)).length → opened (turned (sealed (sealF zs)) (n : Int)) = none) := hide (fun n hn => opened_turned _ HY.out n (by rw [sealed_len] at hn; exact hn))
    have hsl : 4 ≤ (sealed (sealF zs)).length ∧ (sealed (sealF zs)).length ≤ 304 := by rw [sealed_len]; omega
    have HSB := hide (sealed_byt _ HY.out)
    generalize hQ : sealed (sealF zs) = sl at *
    have HQ := hide hQ
    clear hQ
    have s1 := HB.out.size
    replace HB := hide (HB.out.trans (b2.mono HB.out.size))
    obtain ⟨aS, cS, rfl⟩ := own_shape oS
    have hcS : sl.length ≤ cS := (in_slice oS (by omega) HSB.out (Nat.le_refl _)).2
    have HS := hide (oS.mono s1)
    have HIN2' := hide (HIN.out.at HB.out)
    have HIN2 : Hid (In w2.drew w2.drew.heap.size a0 len0 zs) := HIN2'
    have hcv0 : (convert 22 9 (.slice aS sl.length cS)).run Try.prog w2.drew = .ok (.string (strOfNums sl)) w2.drew := own_str (HS.out.drewN 1)
    clear b2 hin1 oS
    go_upto_region 4 with fail
    go_cut [20] from 14 to 20 (fun s wr => s = .bool false ∧ Own wr w.heap.size (.slice aS sl.length cS) sl ∧ Below w.heap.size w wr)
    case first =>
      go_region_with (first
        | (go_at_call 10; refine (drawSeal _ _ _ _ _ HIN2.out).mono ?_; rintro e w3 ⟨b3, c3, rfl, o3, hY3, hyl3, b3'⟩; have hin3 := hide (in_own o3 rfl (by omega) hY3.at (Nat.le_refl _)); have HS3 := hide (HS.out.below (below_of_drew b3')); have hcv3 := own_str HS3.out; have HB3 := hide (HB.out.trans ((below_of_drew b3').mono HB.out.size)); clear o3 b3' hY3)
        | (go_at_call 12; refine (sealSpec _ _ _ _ _ hin3.out (by simp)).mono ?_; rintro e w4 ⟨v4, rfl, o4, b4⟩; rw [HQ.out] at o4; have hcv4 := own_str o4; have HS4 := hide (HS3.out.below b4); have hcv5 := own_str HS4.out; have HB4 := hide (HB3.out.trans (b4.mono HB3.out.size)); clear b4 o4))
      all_goals (go_wp2_with fail; go_meet; exact ⟨rfl, HS4.out, HB4.out⟩)
    case rest =>
      obtain ⟨rfl, hS, hB⟩ := hcut
      replace HS := hide hS
      replace HB := hide hB
      clear hS hB hcv0 HIN2
      go_wp2
      go_loopw [4] (fun i wr => ∃ k : Nat, k ≤ 40 ∧ i = .int .i64 (k : Int) ∧ Hid (Own wr w.heap.size (.slice aS sl.length cS) sl) ∧ Hid (Below w.heap.size w wr)) (fun i _ => 40 - (intOf i).toNat)
      case atStart => exact ⟨0, by omega, rfl, HS, HB⟩
      case round =>
        obtain ⟨k, hk, rfl, HS, HB⟩ := hrel
        by_cases hlt : k < 40
        · have hlt' : (k : Int) < 40 := by omega
          have x0 := atF_bd zs HZ.out k
          have x1 := atF_bd zs HZ.out (k + 1)
          go_wp2_with fail
          refine (atB _ _ _ _ _ _ k (by omega) (HIN.out.at HB.out)).mono ?_
          rintro e w5 ⟨rfl, rfl⟩
          go_wp2_with fail
          refine (atB _ _ _ _ _ _ (k + 1) (by omega) (HIN.out.at HB.out)).mono ?_
          rintro e w6 ⟨rfl, hw⟩
          subst w6
          have hbit : (0 : Int) ≤ (atF zs k * 256 + atF zs (k + 1)) % (8 * (sl.length : Int)) ∧ (atF zs k * 256 + atF zs (k + 1)) % (8 * (sl.length : Int)) < 8 * (sl.length : Int) := ⟨Int.emod_nonneg _ (by omega), Int.emod_lt_of_pos _ (by omega)⟩
          obtain ⟨n, hn⟩ := Int.eq_ofNat_of_zero_le hbit.1
          have hn8 : n / 8 < sl.length := by omega
          have HTn := hide (HT.out n hn8)
          rw [← hn] at HTn
          clear hn
          go_wp2_with fail
          refine (turnImpl _ _ _ _ _ _ (in_slice HS.out (by omega) HSB.out (Nat.le_refl _)).1 HS.out.cap0 (by omega)).mono ?_
          rintro e w7 ⟨v7, rfl, o7, b7⟩
          have HTL := hide (turned_len sl ((atF zs k * 256 + atF zs (k + 1)) % (8 * (sl.length : Int))))
          have HTB := hide (turned_byt sl ((atF zs k * 256 + atF zs (k + 1)) % (8 * (sl.length : Int))) HSB.out)
          generalize turned sl ((atF zs k * 256 + atF zs (k + 1)) % (8 * (sl.length : Int))) = tl at *
          replace HB := hide (HB.out.trans (b7.mono HB.out.size))
          replace HS := hide (HS.out.below b7)
          obtain ⟨a7, c7, rfl, i7, hc7⟩ := in_any o7 (by have := HTL.out; omega) HTB.out (Nat.le_refl _)
          have HI7 := hide i7
          rw [HTL.out] at hc7 ⊢
          clear b7 o7 i7
          go_wp2_with fail
          have HI8 := HI7.out
          rw [HTL.out] at HI8
          refine (openImpl _ _ _ _ _ HI8 hc7).mono ?_
          rintro e w8 ⟨hA, b8⟩
          rw [HTn.out] at hA
          obtain ⟨v8, rfl, -⟩ := hA
          replace HB := hide (HB.out.trans (b8.mono HB.out.size))
          replace HS := hide (HS.out.below b8)
          clear b8 HI8 HI7 HTL HTB HTn hbit x0 x1
          go_wp2
          exact ⟨⟨k + 1, by omega, by go_num, HS, HB⟩, by simp [intOf]; omega⟩
        · go_wp2
          go_ret
          exact ⟨rfl, HB.out⟩

set_option maxRecDepth 100000 in
theorem lifted (os : Os) (started : os.Started) (H : Type) (enc : TypeId × Value → H) :
    ReturnsInHanded {} Try.checked os 4 .any (Rows.fnTurnedSpec.pre6 enc Try.prog Try.f4 Rows.fnTurnedRow.domain false) (Rows.fnTurnedSpec.post enc Try.prog Try.f4 false true false false) := by
  refine returnsInHanded_of_change (C := Try.checked) own started (by kernel_rfl) Try.func4
    (ChangeSpec.witness6 (enc := enc) (C := Try.checked) false ⟨#[], #[.slice none 0 0], []⟩ 8 (by kernel_rfl) (by kernel_rfl) (by kernel_rfl) (by kernel_rfl)) ?_
  intro W base args ds gs before hval0 hW hcnd _
  have hval : ∀ (j : Nat) t v, Try.f4.params[j]? = some t → args[j]? = some v → Value.okWide Try.prog W .any base t v := hval0
  have hW' := hW
  obtain ⟨p, q, hA0, hV, rfl, hfz, hnd⟩ := hW
  have hA : DataW.TrodAll enc Try.prog W 0 (fun _ => true) true Try.f4.params.toList args.toList ds p := hA0
  rw [Try.params4] at hA hval
  obtain ⟨v0, vs0, d0, ds0, p0, q0, hargs, rfl, rfl, h0, r0⟩ := trodAll_cons hA
  obtain ⟨rfl, rfl, rfl⟩ := trodAll_nil r0
  obtain rfl : args = #[v0] := by cases args; simp_all
  obtain ⟨rfl, rfl⟩ := trodVars_none hV
  obtain ⟨a0, len0, cap0, rfl⟩ := okWide_slice Try.underlying22 (hval 0 22 v0 rfl rfl)
  have k0 := h0
  have lt0 : ∀ x ∈ p0, x.block < W.heap.size := by obtain ⟨m, hm⟩ := k0; exact DataW.trod_lt m _ _ _ hm
  obtain ⟨z0, w0⟩ : ∃ zs, IsRow .u8 W a0 len0 cap0 zs := by
    obtain ⟨fuel, hf⟩ := h0
    rcases open_ints Try.underlying22 Try.underlying5 (by kernel_rfl) hf with ⟨hcs, _⟩ | ⟨x, l, c, zs, hcs, _, hl, hm, hz, _, hcell, hwz⟩
    · simp [Value.cells] at hcs
      obtain ⟨rfl, rfl, rfl⟩ := hcs
      exact ⟨[], .inl ⟨rfl, rfl, rfl, rfl⟩⟩
    · simp [Value.cells] at hcs
      obtain ⟨rfl, rfl, rfl⟩ := hcs
      exact ⟨zs, .inr ⟨_, rfl, hl, hm, by simpa using hz, hcell, hwz⟩⟩
  clear hA0 hval0
  refine (walk a0 len0 cap0 z0 W w0).mono fun e W' ⟨he, bel⟩ => ?_
  subst he
  exact ⟨_, rfl, _, _, _, [], _, [], hW', trodAll_mk1 (shut_bool Try.underlying4 _), (trodAll_cons_mk (Below.trod laidOut (by kernel_rfl) (of_decide_eq_true (by kernel_rfl)) k0 bel lt0) trodAll_mk0), rfl, bel.frame _, fun h => by cases h⟩

theorem over : Rows.fnTurnedRow.holds Try.pinned (OpenSpec.ofChange Rows.fnTurnedSpec) :=
  OpenClaim.holds_of_wide 4 Try.f4 rfl rfl rfl rfl rfl rfl rfl ⟨rfl, rfl, rfl, rfl, rfl⟩ rfl rfl rfl rfl rfl (by kernel_rfl) Try.func4 (by kernel_rfl)
    (of_decide_eq_true (by kernel_rfl)) (by unfold Func.isWrapper; first | (rw [if_pos (by decide +kernel)]; kernel_rfl) | (rw [if_neg (by decide +kernel)]; exact ⟨rfl, rfl⟩))
    (fun os started H enc _ => lifted os started H enc)

end Go.Proofs.Ytpemnkfjeldgmaa.fnTurned
namespace Go.Proofs.Ytpemnkfjeldgmaa
theorem fnTurned_holds : Rows.FnTurnedSaid := fnTurned.over
#print axioms fnTurned_holds
end Go.Proofs.Ytpemnkfjeldgmaa
