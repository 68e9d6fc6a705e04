/-
  Proved: at every net and every place the program's Take answers as its model does, in memory of its own, and writes into no argument (the law FnExactTake returns true), without any condition.
-/
import Derived.Test.YtmdpbhikemmogaaRows
import Derived.Test.YtmdpbhikemmogaaNetLawP
import Derived.Test.YtmdpbhikemmogaaNetTakS
import Derived.Deep.CutRange
import Derived.Deep.RegionWith
import Derived.BigRegion
import Derived.WalkKit
import Derived.ProofKit
import Derived.OpenShut
import Derived.ShutString
import Derived.ChangeOld
import Derived.Below
namespace Go.Proofs.Ytmdpbhikemmogaa.fnExactTake
open Go.ChangeShapes Go.WideShapes Go.ChangeAt Go.RowKit
open Go.ChangeMaps (open_string shut_string)
set_option linter.unusedVariables false

theorem own : ownKnob Try.prog.godebug = none := by kernel_rfl
theorem laidOut : laidOutB Try.prog = true := by kernel_rfl
theorem RdPat {w w' : World} {v : Value} {ps : List Pk} (h : RdP w w.heap.size v ps) (hb : Below w.heap.size w w') : RdP w' w'.heap.size v ps := h.at hb
theorem takeN_small {size : Int} {ps : List Pk} {i : Int} (h : Good ps) : Small (takeN size ps i).1.1.2 ∧ ((takeN size ps i).1.2.b.length ≤ 1048576 ∧ Byt (takeN size ps i).1.2.b) := by
  cases hok : hasN size ps i
  · rw [takeN_no hok]
    exact ⟨asN_small h, by simp [zeroP], fun z hz => by simp [zeroP] at hz⟩
  · rw [takeN_yes hok]
    obtain ⟨j, rfl, hj, hnet⟩ := hasN_at hok
    obtain ⟨_, h2, h3⟩ := netOk_all hnet
    have hmem : ∀ p, p ∈ ps.take ((j : Nat) : Int).toNat ++ ps.drop (((j : Nat) : Int).toNat + 1) → p ∈ ps := fun p hp => by
      rcases List.mem_append.1 hp with hp | hp
      · exact List.mem_of_mem_take hp
      · exact List.mem_of_mem_drop hp
    exact ⟨⟨by simp; omega, fun p hp => pkOk_len (h3 p (hmem p hp)), fun p hp => h p (hmem p hp)⟩, h _ (getD_mem ps j hj)⟩
set_option maxRecDepth 100000 in
set_option maxHeartbeats 16000000 in
theorem walk (v0 : Value) (a1 : Int) (w : World) (h0 : IsNet w v0) (ha1 : -9223372036854775808 ≤ a1 ∧ a1 ≤ 9223372036854775807) :
    Calls Try.prog 7 #[v0, .int .i64 a1] w fun e w' => e = .returned (.bool true) ∧ Below w.heap.size w w' := by
  obtain ⟨size, lv, xs, rfl, hrd, hml, hraw⟩ := h0
  have HR := hide (And.intro hrd hraw)
  obtain ⟨_, a, cap, rfl, _⟩ := hrd
  clear hraw ha1
  generalize hn : xs.length = n at *
  have HN := hide hn
  clear hn
  have HX := hide (Bx.new w #[.int .i64 size, .slice a n cap] 46)
  have bA := (Below.refl w.heap.size w).alloc (Nat.le_refl _) (.cells #[.int .i64 size, .slice a n cap] 46)
  have HB := hide bA
  go_enter Try.func7, Try.ntmps7
  go_wp2_with fail
  refine (szNet _ size _ xs (by rw [HN.out]; exact HR.out.1.at bA) (fun x hx => raw_below (HR.out.2 x hx) bA) (by rw [HN.out]; exact hml)).mono ?_
  rintro e w1 ⟨r, rfl, hr, b1⟩
  have HRD : Hid (0 ≤ r → r = 1048576 - (tot (xs.map Prod.fst) : Int) ∧ RdP w w.heap.size (.slice a n cap) (xs.map Prod.fst)) := hide (fun h => ⟨(hr h).1, ⟨xs, rfl, by rw [HN.out]; exact HR.out.1, fun x hx => (HR.out.2 x hx).bt (by have h1 := (hr h).1; have h2 := tot_mem (List.mem_map_of_mem (f := Prod.fst) hx); omega)⟩⟩)
  replace HB := hide (HB.out.trans (b1.mono HB.out.size))
  replace HX := hide (HX.out.below b1)
  clear b1 bA hr HR
  by_cases hr0 : r < 0
  · go_wp2
    go_ret
    exact ⟨rfl, HB.out⟩
  · obtain ⟨ht, hrd⟩ := HRD.out (by omega)
    have hlen : n = (xs.map Prod.fst).length := by rw [← HN.out]; simp
    have htl := tot_len (xs.map Prod.fst)
    clear HRD HN
    generalize xs.map Prod.fst = ps at *
    subst hlen
    have hm2 : ps.length ≤ 1048576 := by omega
    have HT3 : Hid (1 + 3 * tot ps ≤ 100000000) := hide (by omega)
    have HI := hide hrd
    have HGD := hide hrd.good
    obtain ⟨R, hR⟩ : ∃ R, takeN size ps a1 = R := ⟨_, rfl⟩
    have HS : Hid (∀ (W : World) (V : Value), RdP W W.heap.size V ps → Calls Try.prog 18 #[netV size V, .int .i64 a1] W (ansR W R)) := hide (fun W V h => hR ▸ takeSpec W size V ps a1 h hm2)
    have HM : Hid (∀ (W : World) (V : Value), RdP W W.heap.size V ps → Calls Try.prog 16 #[netV size V, .int .i64 a1] W (ansT W R)) := hide (fun W V h => hR ▸ takeImpl W size V ps a1 h hm2)
    have HSM : Hid (Small R.1.1.2 ∧ (R.1.2.b.length ≤ 1048576 ∧ Byt R.1.2.b)) := hide (hR ▸ takeN_small hrd.good)
    clear hR hrd ht htl hml
    obtain ⟨⟨⟨sR, pR⟩, kR⟩, okR⟩ := R
    simp only at HSM
    have hl60 : pR.length ≤ 1048576 := by have := HSM.out.1.1; omega
    have HKL : Hid (kR.b.length ≤ 1048576) := hide HSM.out.2.1
    have HTR : Hid (1 + 3 * tot pR ≤ 10000000) := hide (by have := HSM.out.1.tot; omega)
    have hne : (okR != okR) = false := by simp
    have hlt0 := HX.out.lt
    have f0 := (box_of HX.out).1 0 _ rfl
    have f1 := (box_of HX.out).1 1 _ rfl
    go_wp2_with fail
    refine (toNet _ size _ ps (HI.out.at HB.out) hm2).mono ?_
    rintro e w2 ⟨v2, rfl, o2, b2⟩
    have hs2 := b2.size
    have HO := hide (o2.rd HGD.out (Nat.le_refl _))
    replace HB := hide (HB.out.trans (b2.mono HB.out.size))
    replace HX := hide (HX.out.below b2)
    clear b2 o2 f0 f1
    go_wp2_with fail
    refine (HS.out _ _ HO.out).mono ?_
    rintro e w3 ⟨vW, uW, rfl, rW, tW, b3⟩
    obtain ⟨aW, cW, rfl, _⟩ := pk_at rW
    have HWT := hide tW
    obtain ⟨bW, dW, rfl, _⟩ := tW
    have HW := hide rW
    have hs3 := b3.size
    replace HB := hide (HB.out.trans (b3.mono HB.out.size))
    replace HX := hide (HX.out.below b3)
    clear b3 HO
    unfold netV pkV
    simp only at HW HWT ⊢
    have bD := ((Below.refl w3.heap.size w3).alloc (Nat.le_refl _) (.cells #[.int .i64 sR, .slice aW pR.length cW] 26)).alloc (by simp) (.cells #[.int .i64 kR.f, .int .i64 kR.t, .slice bW kR.b.length dW, .bool kR.s] 28)
    have H6 : Hid (Bx ((w3.alloc (.cells #[.int .i64 sR, .slice aW pR.length cW] 26)).alloc (.cells #[.int .i64 kR.f, .int .i64 kR.t, .slice bW kR.b.length dW, .bool kR.s] 28)) w3.heap.size #[.int .i64 sR, .slice aW pR.length cW] 26) := hide ((Below.heap_alloc _ _ _ (by simp)).trans (heap_alloc_new w3 _))
    have H7 : Hid (Bx ((w3.alloc (.cells #[.int .i64 sR, .slice aW pR.length cW] 26)).alloc (.cells #[.int .i64 kR.f, .int .i64 kR.t, .slice bW kR.b.length dW, .bool kR.s] 28)) (w3.heap.size + 1) #[.int .i64 kR.f, .int .i64 kR.t, .slice bW kR.b.length dW, .bool kR.s] 28) := hide (by have := Bx.new (w3.alloc (.cells #[.int .i64 sR, .slice aW pR.length cW] 26)) #[.int .i64 kR.f, .int .i64 kR.t, .slice bW kR.b.length dW, .bool kR.s] 28; simpa only [World.size_alloc] using this)
    replace HW := hide (HW.out.at bD)
    replace HWT := hide (HWT.out.at bD)
    have hsw3' : ((w3.alloc (.cells #[.int .i64 sR, .slice aW pR.length cW] 26)).alloc (.cells #[.int .i64 kR.f, .int .i64 kR.t, .slice bW kR.b.length dW, .bool kR.s] 28)).heap.size = w3.heap.size + 1 + 1 := by simp
    replace HB := hide (HB.out.trans (bD.mono HB.out.size))
    replace HX := hide (HX.out.below bD)
    clear bD
    have hwB : w3.heap.size ≤ w3.heap.size + 1 + 1 := by omega
    have f0 := (box_of HX.out).1 0 _ rfl
    have f1 := (box_of HX.out).1 1 _ rfl
    go_wp2_with fail
    clear f0 f1
    generalize hgw : ((w3.alloc (.cells #[.int .i64 sR, .slice aW pR.length cW] 26)).alloc (.cells #[.int .i64 kR.f, .int .i64 kR.t, .slice bW kR.b.length dW, .bool kR.s] 28)) = w3a at *
    clear hgw
    generalize hgs : w3a.heap.size = s3 at *
    have HGS := hide hgs
    clear hgs
    refine (toNet _ size _ ps (HI.out.at HB.out) hm2).mono ?_
    rintro e w4 ⟨vX, rfl, oX, b4⟩
    obtain ⟨aX, cX, rfl⟩ := oX.shape
    have HXO : Hid (OwnP w4 s3 w4.heap.size (.slice aX ps.length cX) ps) := hide (HGS.out ▸ oX)
    have hs4 : s3 ≤ w4.heap.size := by have := b4.size; have := HGS.out; omega
    have HWK : Hid (∀ W, (∀ k, k < s3 → W.heap[k]? = w3a.heap[k]?) → s3 ≤ W.heap.size → RdP W W.heap.size (.slice aW pR.length cW) pR ∧ Bt W W.heap.size (.slice bW kR.b.length dW) kR.b) := hide (fun W hW hs => ⟨(HW.out.kept (fun k hk => hW k hk)).up hs, (HWT.out.kept (fun k hk => hW k hk)).up hs⟩)
    have HQ3 : Hid (∀ k, k < s3 → w4.heap[k]? = w3a.heap[k]?) := hide (fun k hk => b4.block k (by have := HGS.out; omega))
    replace HB := hide (HB.out.trans (b4.mono HB.out.size))
    replace HX := hide (HX.out.below b4)
    replace H6 := hide (H6.out.below b4)
    replace H7 := hide (H7.out.below b4)
    clear b4 oX HW HWT
    unfold netV
    have bD := (Below.refl w4.heap.size w4).alloc (Nat.le_refl _) (.cells #[.int .i64 size, .slice aX ps.length cX] 26)
    have H9 := hide (Bx.new w4 #[.int .i64 size, .slice aX ps.length cX] 26)
    have hs4' : (w4.alloc (.cells #[.int .i64 size, .slice aX ps.length cX] 26)).heap.size = w4.heap.size + 1 := by simp
    replace HQ3 := hide (fun k hk => (bD.block k (Nat.lt_of_lt_of_le hk hs4)).trans (HQ3.out k hk))
    replace HB := hide (HB.out.trans (bD.mono HB.out.size))
    replace HX := hide (HX.out.below bD)
    replace H6 := hide (H6.out.below bD)
    replace H7 := hide (H7.out.below bD)
    replace HXO := hide (HXO.out.below bD)
    clear bD
    go_wp2_with fail
    generalize w4.alloc (.cells #[.int .i64 size, .slice aX ps.length cX] 26) = w4a at *
    refine (HM.out _ _ (HXO.out.rd HGD.out (Nat.le_refl _))).mono ?_
    rintro e w5 ⟨vG, uG, lo, hi, rfl, hlo, hhi, oG, tG, apG, b5⟩
    obtain ⟨aG, cG, rfl⟩ := oG.shape
    obtain ⟨bG, dG, rfl⟩ := own_shape tG
    have HG := hide oG
    have HGT := hide tG
    have HAP := hide apG
    have HTL := hide (fun q hq => (tG.lt q hq).2)
    have hs5 := b5.size
    replace HQ3 := hide (fun k hk => (b5.block k (by omega)).trans (HQ3.out k hk))
    replace HB := hide (HB.out.trans (b5.mono HB.out.size))
    replace HX := hide (HX.out.below b5)
    replace H6 := hide (H6.out.below b5)
    replace H7 := hide (H7.out.below b5)
    replace HXO := hide (HXO.out.below b5)
    replace H9 := hide (H9.out.below b5)
    clear b5 oG tG apG
    unfold netV pkV
    simp only at HG HGT HAP hhi ⊢
    have bD := ((Below.refl w5.heap.size w5).alloc (Nat.le_refl _) (.cells #[.int .i64 sR, .slice aG pR.length cG] 26)).alloc (by simp) (.cells #[.int .i64 kR.f, .int .i64 kR.t, .slice bG kR.b.length dG, .bool kR.s] 28)
    have HA : Hid (Bx ((w5.alloc (.cells #[.int .i64 sR, .slice aG pR.length cG] 26)).alloc (.cells #[.int .i64 kR.f, .int .i64 kR.t, .slice bG kR.b.length dG, .bool kR.s] 28)) w5.heap.size #[.int .i64 sR, .slice aG pR.length cG] 26) := hide ((Below.heap_alloc _ _ _ (by simp)).trans (heap_alloc_new w5 _))
    have HC : Hid (Bx ((w5.alloc (.cells #[.int .i64 sR, .slice aG pR.length cG] 26)).alloc (.cells #[.int .i64 kR.f, .int .i64 kR.t, .slice bG kR.b.length dG, .bool kR.s] 28)) (w5.heap.size + 1) #[.int .i64 kR.f, .int .i64 kR.t, .slice bG kR.b.length dG, .bool kR.s] 28) := hide (by have := Bx.new (w5.alloc (.cells #[.int .i64 sR, .slice aG pR.length cG] 26)) #[.int .i64 kR.f, .int .i64 kR.t, .slice bG kR.b.length dG, .bool kR.s] 28; simpa only [World.size_alloc] using this)
    replace HQ3 := hide (fun k hk => (bD.block k (by omega)).trans (HQ3.out k hk))
    have hsw5' : ((w5.alloc (.cells #[.int .i64 sR, .slice aG pR.length cG] 26)).alloc (.cells #[.int .i64 kR.f, .int .i64 kR.t, .slice bG kR.b.length dG, .bool kR.s] 28)).heap.size = w5.heap.size + 1 + 1 := by simp
    replace HB := hide (HB.out.trans (bD.mono HB.out.size))
    replace HX := hide (HX.out.below bD)
    replace H6 := hide (H6.out.below bD)
    replace H7 := hide (H7.out.below bD)
    replace HXO := hide (HXO.out.below bD)
    replace H9 := hide (H9.out.below bD)
    replace HG := hide (HG.out.below bD)
    replace HGT := hide (HGT.out.below bD)
    clear bD
    have p0 := (box_of H6.out).1 0 _ rfl
    have p1 := (box_of H6.out).1 1 _ rfl
    go_wp2_with fail
    clear p0 p1
    generalize ((w5.alloc (.cells #[.int .i64 sR, .slice aG pR.length cG] 26)).alloc (.cells #[.int .i64 kR.f, .int .i64 kR.t, .slice bG kR.b.length dG, .bool kR.s] 28)) = w5a at *
    refine (eqNet _ sR _ _ pR _ _ (HG.out.rd HSM.out.1.2.2 (Nat.le_refl _)) (HWK.out w5a HQ3.out (by omega)).1 (Nat.le_refl _) (Nat.le_refl _) hl60).mono ?_
    rintro e w6 ⟨rfl, b6⟩
    have hs6 := b6.size
    replace HQ3 := hide (fun k hk => (b6.block k (by omega)).trans (HQ3.out k hk))
    replace HB := hide (HB.out.trans (b6.mono HB.out.size))
    replace HX := hide (HX.out.below b6)
    replace H6 := hide (H6.out.below b6)
    replace H7 := hide (H7.out.below b6)
    replace HXO := hide (HXO.out.below b6)
    replace H9 := hide (H9.out.below b6)
    replace HG := hide (HG.out.below b6)
    replace HGT := hide (HGT.out.below b6)
    replace HA := hide (HA.out.below b6)
    replace HC := hide (HC.out.below b6)
    clear b6
    have p0 := (box_of H7.out).1 0 _ rfl
    have p1 := (box_of H7.out).1 1 _ rfl
    have p2 := (box_of H7.out).1 2 _ rfl
    have p3 := (box_of H7.out).1 3 _ rfl
    have k0 := (box_of HC.out).1 0 _ rfl
    have k1 := (box_of HC.out).1 1 _ rfl
    have k2 := (box_of HC.out).1 2 _ rfl
    have k3 := (box_of HC.out).1 3 _ rfl
    go_wp2_with fail
    refine (eqPk _ kR _ _ (bt_own HGT.out HSM.out.2.1 HSM.out.2.2 (Nat.le_refl _)) (HWK.out w6 HQ3.out (by omega)).2).mono ?_
    rintro e w7 ⟨rfl, b7⟩
    have hs7 := b7.size
    replace HQ3 := hide (fun k hk => (b7.block k (by omega)).trans (HQ3.out k hk))
    replace HB := hide (HB.out.trans (b7.mono HB.out.size))
    replace HX := hide (HX.out.below b7)
    replace H6 := hide (H6.out.below b7)
    replace H7 := hide (H7.out.below b7)
    replace HXO := hide (HXO.out.below b7)
    replace H9 := hide (H9.out.below b7)
    replace HG := hide (HG.out.below b7)
    replace HGT := hide (HGT.out.below b7)
    replace HA := hide (HA.out.below b7)
    replace HC := hide (HC.out.below b7)
    clear b7 p0 p1 p2 p3 k0 k1 k2 k3
    have f0 := (box_of HX.out).1 0 _ rfl
    have f1 := (box_of HX.out).1 1 _ rfl
    have g0 := (box_of H9.out).1 0 _ rfl
    have g1 := (box_of H9.out).1 1 _ rfl
    go_wp2_with fail
    go_cut [60] from 56 to 60 (fun s wq => s = .bool false ∧ Below w7.heap.size w7 wq)
    case first =>
      have HQ : Hid (RdP w7.drew w7.drew.heap.size (.slice a ps.length cap) ps) := hide ((HI.out.at HB.out).drewN 1)
      go_region_with (first
        | (go_at_call 27; refine (toNet _ size _ ps HQ.out hm2).mono ?_; rintro e w8 ⟨v8, rfl, o8, b8⟩; have HO8 := hide (o8.rd HGD.out (Nat.le_refl _)); have HY8 := hide (H9.out.below (below_of_drew b8)); have y0 := (box_of HY8.out).1 0 _ rfl; have y1 := (box_of HY8.out).1 1 _ rfl; have HB8 := hide (below_of_drew b8); have K8 := hide ((HXO.out.below (below_of_drew b8)).rd HGD.out (Nat.le_refl _)); obtain ⟨a8, c8, rfl⟩ := o8.shape; clear b8 o8; unfold netV)
        | (go_at_call 28; refine (eqNet _ size _ _ ps _ _ K8.out HO8.out (Nat.le_refl _) (Nat.le_refl _) hm2).mono ?_; rintro e w9 ⟨rfl, b9⟩; have HB9 := hide (HB8.out.trans (b9.mono HB8.out.size)); clear b9))
      all_goals (go_wp2_with fail; go_meet; exact ⟨rfl, HB9.out⟩)
    case rest =>
      obtain ⟨rfl, b9⟩ := hcut
      have hs9 := b9.size
      replace HQ3 := hide (fun k hk => (b9.block k (by omega)).trans (HQ3.out k hk))
      replace HB := hide (HB.out.trans (b9.mono HB.out.size))
      replace HX := hide (HX.out.below b9)
      replace H6 := hide (H6.out.below b9)
      replace H7 := hide (H7.out.below b9)
      replace HXO := hide (HXO.out.below b9)
      replace H9 := hide (H9.out.below b9)
      replace HG := hide (HG.out.below b9)
      replace HGT := hide (HGT.out.below b9)
      replace HA := hide (HA.out.below b9)
      replace HC := hide (HC.out.below b9)
      clear b9 f0 f1 g0 g1
      have g0 := (box_of H9.out).1 0 _ rfl
      have g1 := (box_of H9.out).1 1 _ rfl
      go_wp2_with fail
      refine (markNet1 _ _ _ size _ ps HXO.out HT3.out).mono ?_
      rintro e w10 ⟨rfl, _, ob⟩
      have hsB := HB.out.size
      have hsA := ob.size
      replace HQ3 := hide (fun k hk => (ob.block k (by omega) (.inl hk)).trans (HQ3.out k hk))
      replace HGT := hide (HGT.out.out ob (.inr (by omega)))
      replace HB := hide (HB.out.trans (ob.below (by omega) HB.out.size))
      replace HX := hide (HX.out.out ob (by omega))
      replace H6 := hide (H6.out.out ob (by omega))
      replace H7 := hide (H7.out.out ob (by omega))
      replace HG := hide (HG.out.out ob (by omega))
      replace HA := hide (HA.out.out ob (by omega))
      replace HC := hide (HC.out.out ob (by omega))
      clear ob g0 g1 HXO H9
      have hk0 : ¬ (((endP 1 ps : Nat) : Int) < 0) := by omega
      have p0 := (box_of H6.out).1 0 _ rfl
      have p1 := (box_of H6.out).1 1 _ rfl
      have k0 := (box_of HA.out).1 0 _ rfl
      have k1 := (box_of HA.out).1 1 _ rfl
      go_wp2_with fail
      refine (eqNet _ sR _ _ pR _ _ (HG.out.rd HSM.out.1.2.2 (Nat.le_refl _)) (HWK.out w10 HQ3.out (by omega)).1 (Nat.le_refl _) (Nat.le_refl _) hl60).mono ?_
      rintro e w11 ⟨rfl, b11⟩
      have hs11 := b11.size
      replace HQ3 := hide (fun k hk => (b11.block k (by omega)).trans (HQ3.out k hk))
      replace HB := hide (HB.out.trans (b11.mono HB.out.size))
      replace HX := hide (HX.out.below b11)
      replace H6 := hide (H6.out.below b11)
      replace H7 := hide (H7.out.below b11)
      replace HG := hide (HG.out.below b11)
      replace HGT := hide (HGT.out.below b11)
      replace HA := hide (HA.out.below b11)
      replace HC := hide (HC.out.below b11)
      clear b11 p0 p1 k0 k1
      have p0 := (box_of H7.out).1 0 _ rfl
      have p1 := (box_of H7.out).1 1 _ rfl
      have p2 := (box_of H7.out).1 2 _ rfl
      have p3 := (box_of H7.out).1 3 _ rfl
      have k0 := (box_of HC.out).1 0 _ rfl
      have k1 := (box_of HC.out).1 1 _ rfl
      have k2 := (box_of HC.out).1 2 _ rfl
      have k3 := (box_of HC.out).1 3 _ rfl
      go_wp2_with fail
      refine (eqPk _ kR _ _ (bt_own HGT.out HSM.out.2.1 HSM.out.2.2 (Nat.le_refl _)) (HWK.out w11 HQ3.out (by omega)).2).mono ?_
      rintro e w12 ⟨rfl, b12⟩
      have hs12 := b12.size
      replace HQ3 := hide (fun k hk => (b12.block k (by omega)).trans (HQ3.out k hk))
      replace HB := hide (HB.out.trans (b12.mono HB.out.size))
      replace HX := hide (HX.out.below b12)
      replace H6 := hide (H6.out.below b12)
      replace H7 := hide (H7.out.below b12)
      replace HG := hide (HG.out.below b12)
      replace HGT := hide (HGT.out.below b12)
      replace HA := hide (HA.out.below b12)
      replace HC := hide (HC.out.below b12)
      clear b12 p0 p1 p2 p3 k0 k1 k2 k3 hk0
      have k0 := (box_of HA.out).1 0 _ rfl
      have k1 := (box_of HA.out).1 1 _ rfl
      go_wp2_with fail
      refine (markNet1 _ _ _ sR _ pR HG.out (by have := HTR.out; omega)).mono ?_
      rintro e w13 ⟨rfl, oG, ob⟩
      have hsB := HB.out.size
      have hsC := ob.size
      replace HQ3 := hide (fun k hk => (ob.block k (by omega) (.inl (by omega))).trans (HQ3.out k hk))
      replace HGT := hide (HGT.out.same (fun q hq => ob.block q (HGT.out.lt q hq).2 (HAP.out q hq)))
      replace HB := hide (HB.out.trans (ob.below (by omega) HB.out.size))
      replace HX := hide (HX.out.out ob (by omega))
      replace H6 := hide (H6.out.out ob (by omega))
      replace H7 := hide (H7.out.out ob (by omega))
      replace HA := hide (HA.out.out ob (by omega))
      replace HC := hide (HC.out.out ob (by omega))
      replace HG := hide oG
      clear ob oG k0 k1
      have hke : ((endP 1 pR : Nat) : Int) ≤ 20000000 := by have := endP_le 1 pR; have := HTR.out; omega
      have HKE := hide hke
      clear hke
      have k0 := (box_of HC.out).1 0 _ rfl
      have k1 := (box_of HC.out).1 1 _ rfl
      have k2 := (box_of HC.out).1 2 _ rfl
      have k3 := (box_of HC.out).1 3 _ rfl
      go_wp2_with fail
      refine (markPk _ _ (endP 1 pR) kR _ HGT.out (by have := HKE.out; have := HKL.out; omega)).mono ?_
      rintro e w14 ⟨rfl, oT, gb⟩
      have hsB := HB.out.size
      have hsD := gb.size
      have hTb : ∀ q, (Value.slice bG kR.b.length dG).ownBlock = some q → w4a.heap.size ≤ q ∧ q < w5.heap.size := fun q hq => ⟨(HGT.out.lt q hq).1, HTL.out q hq⟩
      have ob : Out w4a.heap.size w5.heap.size w13 w14 := Out.row gb hTb
      replace HQ3 := hide (fun k hk => (ob.block k (by omega) (.inl (by omega))).trans (HQ3.out k hk))
      replace HG := hide (HG.out.same (fun q h1 h2 h3 => gb.block q h3 (fun e => by have := HAP.out q e.symm; omega)))
      replace HB := hide (HB.out.trans (ob.below (by omega) HB.out.size))
      replace HX := hide (HX.out.out ob (by omega))
      replace H6 := hide (H6.out.out ob (by omega))
      replace H7 := hide (H7.out.out ob (by omega))
      replace HA := hide (HA.out.out ob (by omega))
      replace HC := hide (HC.out.out ob (by omega))
      replace HGT := hide oT
      clear ob oT gb k0 k1 k2 k3 hTb
      have hk1 : ¬ (((endP 1 pR : Nat) : Int) < 0) := by omega
      have hk3 : ¬ (((endP 1 pR + kR.b.length : Nat) : Int) < 0) := by omega
      have hk2 : (((endP 1 pR + kR.b.length : Nat) : Int) != ((endP 1 pR + kR.b.length : Nat) : Int)) = false := by simp
      have k0 := (box_of HA.out).1 0 _ rfl
      have k1 := (box_of HA.out).1 1 _ rfl
      go_wp2_with fail
      refine (heldNet1 _ _ _ sR _ pR HG.out (by have := HTR.out; omega)).mono ?_
      rintro e w15 ⟨rfl, b15⟩
      have hs15 := b15.size
      replace HQ3 := hide (fun k hk => (b15.block k (by omega)).trans (HQ3.out k hk))
      replace HB := hide (HB.out.trans (b15.mono HB.out.size))
      replace HX := hide (HX.out.below b15)
      replace H6 := hide (H6.out.below b15)
      replace H7 := hide (H7.out.below b15)
      replace HG := hide (HG.out.below b15)
      replace HGT := hide (HGT.out.below b15)
      replace HA := hide (HA.out.below b15)
      replace HC := hide (HC.out.below b15)
      clear b15 k0 k1
      have k0 := (box_of HC.out).1 0 _ rfl
      have k1 := (box_of HC.out).1 1 _ rfl
      have k2 := (box_of HC.out).1 2 _ rfl
      have k3 := (box_of HC.out).1 3 _ rfl
      go_wp2_with fail
      refine (heldPk _ _ (endP 1 pR) kR.b.length kR _ rfl HGT.out (by have := HKE.out; have := HKL.out; omega)).mono ?_
      rintro e w16 ⟨rfl, b16⟩
      have hs16 := b16.size
      replace HQ3 := hide (fun k hk => (b16.block k (by omega)).trans (HQ3.out k hk))
      replace HB := hide (HB.out.trans (b16.mono HB.out.size))
      replace HX := hide (HX.out.below b16)
      replace H6 := hide (H6.out.below b16)
      replace H7 := hide (H7.out.below b16)
      replace HG := hide (HG.out.below b16)
      replace HGT := hide (HGT.out.below b16)
      replace HA := hide (HA.out.below b16)
      replace HC := hide (HC.out.below b16)
      clear b16 k0 k1 k2 k3
      have f0 := (box_of HX.out).1 0 _ rfl
      have f1 := (box_of HX.out).1 1 _ rfl
      go_wp2_with fail
      refine (toNet _ size _ ps (HI.out.at HB.out) hm2).mono ?_
      rintro e w17 ⟨v17, rfl, o17, b17⟩
      have hs17 := b17.size
      have HO := hide (o17.rd HGD.out (Nat.le_refl _))
      replace HQ3 := hide (fun k hk => (b17.block k (by omega)).trans (HQ3.out k hk))
      replace HB := hide (HB.out.trans (b17.mono HB.out.size))
      replace H6 := hide (H6.out.below b17)
      replace H7 := hide (H7.out.below b17)
      replace HG := hide (HG.out.below b17)
      replace HGT := hide (HGT.out.below b17)
      replace HA := hide (HA.out.below b17)
      replace HC := hide (HC.out.below b17)
      clear b17 o17 f0 f1
      go_wp2_with fail
      refine (HM.out _ _ HO.out).mono ?_
      rintro e w18 ⟨vH, uH, lo2, hi2, rfl, hlo2, hhi2, oH, tH, _, b18⟩
      obtain ⟨aH, cH, rfl⟩ := oH.shape
      obtain ⟨bH, dH, rfl⟩ := own_shape tH
      have HH := hide oH
      have HHT := hide tH
      have hs18 := b18.size
      replace HQ3 := hide (fun k hk => (b18.block k (by omega)).trans (HQ3.out k hk))
      replace HB := hide (HB.out.trans (b18.mono HB.out.size))
      replace H6 := hide (H6.out.below b18)
      replace H7 := hide (H7.out.below b18)
      replace HG := hide (HG.out.below b18)
      replace HGT := hide (HGT.out.below b18)
      replace HA := hide (HA.out.below b18)
      replace HC := hide (HC.out.below b18)
      clear b18 oH tH HO
      unfold netV pkV
      simp only at HH HHT ⊢
      have bD := ((Below.refl w18.heap.size w18).alloc (Nat.le_refl _) (.cells #[.int .i64 sR, .slice aH pR.length cH] 26)).alloc (by simp) (.cells #[.int .i64 kR.f, .int .i64 kR.t, .slice bH kR.b.length dH, .bool kR.s] 28)
      have HHN : Hid (Bx ((w18.alloc (.cells #[.int .i64 sR, .slice aH pR.length cH] 26)).alloc (.cells #[.int .i64 kR.f, .int .i64 kR.t, .slice bH kR.b.length dH, .bool kR.s] 28)) w18.heap.size #[.int .i64 sR, .slice aH pR.length cH] 26) := hide ((Below.heap_alloc _ _ _ (by simp)).trans (heap_alloc_new w18 _))
      have HHP : Hid (Bx ((w18.alloc (.cells #[.int .i64 sR, .slice aH pR.length cH] 26)).alloc (.cells #[.int .i64 kR.f, .int .i64 kR.t, .slice bH kR.b.length dH, .bool kR.s] 28)) (w18.heap.size + 1) #[.int .i64 kR.f, .int .i64 kR.t, .slice bH kR.b.length dH, .bool kR.s] 28) := hide (by have := Bx.new (w18.alloc (.cells #[.int .i64 sR, .slice aH pR.length cH] 26)) #[.int .i64 kR.f, .int .i64 kR.t, .slice bH kR.b.length dH, .bool kR.s] 28; simpa only [World.size_alloc] using this)
      replace HQ3 := hide (fun k hk => (bD.block k (by omega)).trans (HQ3.out k hk))
      have hsw18' : ((w18.alloc (.cells #[.int .i64 sR, .slice aH pR.length cH] 26)).alloc (.cells #[.int .i64 kR.f, .int .i64 kR.t, .slice bH kR.b.length dH, .bool kR.s] 28)).heap.size = w18.heap.size + 1 + 1 := by simp
      replace HB := hide (HB.out.trans (bD.mono HB.out.size))
      replace H6 := hide (H6.out.below bD)
      replace H7 := hide (H7.out.below bD)
      replace HG := hide (HG.out.below bD)
      replace HGT := hide (HGT.out.below bD)
      replace HA := hide (HA.out.below bD)
      replace HC := hide (HC.out.below bD)
      replace HH := hide (HH.out.below bD)
      replace HHT := hide (HHT.out.below bD)
      clear bD
      have p0 := (box_of H6.out).1 0 _ rfl
      have p1 := (box_of H6.out).1 1 _ rfl
      go_wp2_with fail
      clear p0 p1
      generalize ((w18.alloc (.cells #[.int .i64 sR, .slice aH pR.length cH] 26)).alloc (.cells #[.int .i64 kR.f, .int .i64 kR.t, .slice bH kR.b.length dH, .bool kR.s] 28)) = w18a at *
      refine (eqNet _ sR _ _ pR _ _ (HH.out.rd HSM.out.1.2.2 (Nat.le_refl _)) (HWK.out w18a HQ3.out (by omega)).1 (Nat.le_refl _) (Nat.le_refl _) hl60).mono ?_
      rintro e w19 ⟨rfl, b19⟩
      have hs19 := b19.size
      replace HQ3 := hide (fun k hk => (b19.block k (by omega)).trans (HQ3.out k hk))
      replace HB := hide (HB.out.trans (b19.mono HB.out.size))
      replace H7 := hide (H7.out.below b19)
      replace HG := hide (HG.out.below b19)
      replace HGT := hide (HGT.out.below b19)
      replace HA := hide (HA.out.below b19)
      replace HC := hide (HC.out.below b19)
      replace HHT := hide (HHT.out.below b19)
      replace HHP := hide (HHP.out.below b19)
      clear b19
      have p0 := (box_of H7.out).1 0 _ rfl
      have p1 := (box_of H7.out).1 1 _ rfl
      have p2 := (box_of H7.out).1 2 _ rfl
      have p3 := (box_of H7.out).1 3 _ rfl
      have k0 := (box_of HHP.out).1 0 _ rfl
      have k1 := (box_of HHP.out).1 1 _ rfl
      have k2 := (box_of HHP.out).1 2 _ rfl
      have k3 := (box_of HHP.out).1 3 _ rfl
      go_wp2_with fail
      refine (eqPk _ kR _ _ (bt_own HHT.out HSM.out.2.1 HSM.out.2.2 (Nat.le_refl _)) (HWK.out w19 HQ3.out (by omega)).2).mono ?_
      rintro e w20 ⟨rfl, b20⟩
      replace HB := hide (HB.out.trans (b20.mono HB.out.size))
      replace HG := hide (HG.out.below b20)
      replace HGT := hide (HGT.out.below b20)
      replace HA := hide (HA.out.below b20)
      replace HC := hide (HC.out.below b20)
      clear b20 p0 p1 p2 p3 k0 k1 k2 k3
      have k0 := (box_of HA.out).1 0 _ rfl
      have k1 := (box_of HA.out).1 1 _ rfl
      go_wp2_with fail
      refine (heldNet1 _ _ _ sR _ pR HG.out (by have := HTR.out; omega)).mono ?_
      rintro e w21 ⟨rfl, b21⟩
      replace HB := hide (HB.out.trans (b21.mono HB.out.size))
      replace HGT := hide (HGT.out.below b21)
      replace HC := hide (HC.out.below b21)
      clear b21 k0 k1
      have k0 := (box_of HC.out).1 0 _ rfl
      have k1 := (box_of HC.out).1 1 _ rfl
      have k2 := (box_of HC.out).1 2 _ rfl
      have k3 := (box_of HC.out).1 3 _ rfl
      go_wp2_with fail
      refine (heldPk _ _ (endP 1 pR) kR.b.length kR _ rfl HGT.out (by have := HKE.out; have := HKL.out; omega)).mono ?_
      rintro e w22 ⟨rfl, b22⟩
      replace HB := hide (HB.out.trans (b22.mono HB.out.size))
      clear b22 k0 k1 k2 k3
      go_wp2
      go_ret
      exact ⟨rfl, HB.out⟩

set_option maxRecDepth 100000 in
theorem lifted (os : Os) (started : os.Started) (H : Type) (enc : TypeId × Value → H) :
    ReturnsInHanded {} Try.checked os 7 .any (Rows.fnExactTakeSpec.pre6 enc Try.prog Try.f7 Rows.fnExactTakeRow.domain false) (Rows.fnExactTakeSpec.post enc Try.prog Try.f7 false true false false) := by
  refine returnsInHanded_of_change (C := Try.checked) own started (by kernel_rfl) Try.func7
    (ChangeSpec.witness6 (enc := enc) (C := Try.checked) false ⟨#[], #[.agg #[.int .i64 0, .slice none 0 0], .int .i64 0], []⟩ 8 (by kernel_rfl) (by kernel_rfl) (by kernel_rfl) (by kernel_rfl)) ?_
  intro W base args ds gs before hval0 hW hcnd _
  have hval : ∀ (j : Nat) t v, Try.f7.params[j]? = some t → args[j]? = some v → Value.okWide Try.prog W .any base t v := hval0
  have hW' := hW
  obtain ⟨p, q, hA0, hV, rfl, hfz, hnd⟩ := hW
  have hA : DataW.TrodAll enc Try.prog W 0 (fun _ => true) true Try.f7.params.toList args.toList ds p := hA0
  rw [Try.params7] at hA hval
  obtain ⟨v0, vs0, d0, ds0, p0, q0, hargs, rfl, rfl, h0, r0⟩ := trodAll_cons hA
  obtain ⟨v1, vs1, d1, ds1, p1, q1, rfl, rfl, rfl, h1, r1⟩ := trodAll_cons r0
  obtain ⟨rfl, rfl, rfl⟩ := trodAll_nil r1
  obtain rfl : args = #[v0, v1] := by cases args; simp_all
  obtain ⟨rfl, rfl⟩ := trodVars_none hV
  have k0 := h0
  have lt0 : ∀ x ∈ p0, x.block < W.heap.size := by obtain ⟨m, hm⟩ := k0; exact DataW.trod_lt m _ _ _ hm
  have w0 := openNet (hval 0 46 v0 rfl rfl) h0
  obtain ⟨a1, rfl, rfl, rfl, w1⟩ := open_int Try.underlying3 (hval 1 3 v1 rfl rfl) h1
  clear hA0 hval0
  refine (walk v0 a1 W w0 (bounds_i64 w1)).mono fun e W' ⟨he, bel⟩ => ?_
  subst he
  exact ⟨_, rfl, _, _, _, [], _, [], hW', trodAll_mk1 (shut_bool Try.underlying4 _), (trodAll_cons_mk (Below.trod laidOut (by kernel_rfl) (of_decide_eq_true (by kernel_rfl)) k0 bel lt0) (trodAll_cons_mk (shut_int Try.underlying3 w1) trodAll_mk0)), rfl, bel.frame _, fun h => by cases h⟩

theorem over : Rows.fnExactTakeRow.holds Try.pinned (OpenSpec.ofChange Rows.fnExactTakeSpec) :=
  OpenClaim.holds_of_wide 7 Try.f7 rfl rfl rfl rfl rfl rfl rfl ⟨rfl, rfl, rfl, rfl, rfl⟩ rfl rfl rfl rfl rfl (by kernel_rfl) Try.func7 (by kernel_rfl)
    (of_decide_eq_true (by kernel_rfl)) (by unfold Func.isWrapper; first | (rw [if_pos (by decide +kernel)]; kernel_rfl) | (rw [if_neg (by decide +kernel)]; exact ⟨rfl, rfl⟩))
    (fun os started H enc _ => lifted os started H enc)

end Go.Proofs.Ytmdpbhikemmogaa.fnExactTake
namespace Go.Proofs.Ytmdpbhikemmogaa
theorem fnExactTake_holds : Rows.FnExactTakeSaid := fnExactTake.over
#print axioms fnExactTake_holds
end Go.Proofs.Ytmdpbhikemmogaa
