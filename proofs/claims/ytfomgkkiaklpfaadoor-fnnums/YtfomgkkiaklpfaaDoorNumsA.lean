/-
  The walk of the law on numbers and texts.
-/
import Derived.Test.YtfomgkkiaklpfaaDoorRows
import Derived.Test.YtfomgkkiaklpfaaDoorRowIn
import Derived.Test.YtfomgkkiaklpfaaDoorGtMath
import Derived.Test.YtfomgkkiaklpfaaDoorGetText
import Derived.Test.YtfomgkkiaklpfaaDoorStrW
import Derived.Test.YtfomgkkiaklpfaaDoorAtW
import Derived.Deep.RegionWith
import Derived.Deep.RegionHeld
import Derived.Deep.CutRange
import Derived.Deep.QuietTactic
import Derived.BigQuiet
namespace Go.Proofs.YtfomgkkiaklpfaaDoor
open Go.RowKit

theorem ans_any (r : Option (Int × Nat)) : ∃ (n nx : Int) (ok : Bool), ans r = .tuple #[.int .i64 n, .int .i64 nx, .bool ok] := by
  cases r with
  | none => exact ⟨_, _, _, rfl⟩
  | some q => exact ⟨_, _, _, rfl⟩

theorem ansT_any (r : Option (ByteArray × Nat)) : ∃ (g : ByteArray) (nx : Int) (ok : Bool), ansT r = .tuple #[.string g, .int .i64 nx, .bool ok] := by
  cases r with
  | none => exact ⟨_, _, _, rfl⟩
  | some q => exact ⟨_, _, _, rfl⟩
theorem pt_small (s : ByteArray) (h : 0 < (pt s).length) : s.size ≤ 200 := by
  by_cases hs : s.size ≤ 200
  · exact hs
  · rw [pt_out s (by omega)] at h; simp at h

set_option maxRecDepth 1000000 in
set_option maxHeartbeats 40000000 in
theorem numsWalk (a0 : Option Addr) (len0 cap0 : Nat) (z0 : List Int) (t : TypeId) (v : Value) (w : World) (w0 : IsRow .u8 w a0 len0 cap0 z0) (hE : Err w t v) (hp : 0 < w.heap.size) :
    Calls Tryd.prog 3 #[.slice a0 len0 cap0] w fun e w' => e = .returned (.bool true) ∧ Below w.heap.size w w' := by
  by_cases hbig : (1048576 : Int) < (len0 : Int)
  · clear w0 hE
    go_enter Tryd.func3, Tryd.ntmps3
    go_wp2_with (go_at_call 8; refine (bigYes _ _ _ _ hbig).mono ?_; rintro e wb ⟨rfl, rfl⟩)
    go_ret
    exact ⟨rfl, Below.refl _ _⟩
  · have hin := in_of w0 (by omega)
    clear w0
    generalize z0.take len0 = zs at hin
    have HIN := hide hin
    have HZ := hide (in_byt hin)
    have HE := hide hE
    clear hin hE
    go_enter Tryd.func3, Tryd.ntmps3
    go_wp2_with fail
    refine (bigNo _ _ _ _ (by omega)).mono ?_
    rintro e wb ⟨rfl, hw⟩
    subst wb
    go_wp2_with fail
    refine (drawPutNum _ _ _ _ _ HIN.out).mono ?_
    rintro e w1 ⟨x, rfl, hx, HB⟩
    replace HB := hide HB
    clear hbig
    go_wp2_with fail
    refine (putNumImpl _ _).mono ?_
    rintro e w2 ⟨v1, rfl, o1, b2⟩
    have s1 := HB.out.size
    replace HB := hide (HB.out.trans (b2.mono HB.out.size))
    obtain ⟨a1, c1, rfl⟩ := own_shape o1
    have hpl := pn_len x
    have HPB := hide (pn_byt x)
    have HG : Hid (0 < (pn x).length → ∀ y, gn (pn x ++ [y]) 0 = some (x, (pn x).length)) := hide (fun hl y => by
      have hx' : 0 ≤ x ∧ x ≤ 16777215 := by
        by_cases h : x < 0 ∨ 16777215 < x
        · rw [pn_out x h] at hl; simp at hl
        · omega
      have := gn_pn (pn x ++ [y]) 0 x hx'.1 hx'.2 (by simp) (fun i hi => by rw [Nat.zero_add]; simp [List.getElem?_append_left, hi])
      simpa using this)
    generalize hQ : pn x = ps at *
    have HQ := hide hQ
    clear hQ
    have HO := hide (o1.mono s1)
    have hcv0 : (convert 22 9 (.slice a1 ps.length c1)).run Tryd.prog w2.drew = .ok (.string (strOfNums ps)) w2.drew := own_str (HO.out.drewN 1)
    clear b2 o1
    go_upto_region 5 with fail
    go_cut [40] from 35 to 40 (fun s wr => s = .bool false ∧ Own wr w.heap.size (.slice a1 ps.length c1) ps ∧ Below w.heap.size w wr)
    case first =>
      go_region_with (go_at_call 11; refine (putNumSpec _ _).mono ?_; rintro e w4 ⟨v4, rfl, o4, b4⟩; rw [HQ.out] at o4; have hcv4 := own_str o4; have HO4 := hide (HO.out.below (below_of_drew b4)); have hcv5 := own_str HO4.out; have HB4 := hide (HB.out.trans ((below_of_drew b4).mono HB.out.size)); clear b4 o4)
      all_goals (go_wp2_with fail; go_meet; exact ⟨rfl, HO4.out, HB4.out⟩)
    case rest =>
      obtain ⟨rfl, hO, hB⟩ := hcut
      replace HO := hide hO
      replace HB := hide hB
      clear hO hB hcv0
      have HI1 := hide ((in_slice HO.out (by omega) HPB.out (Nat.le_refl _)).1.kept (w' := wc.alloc (.cells #[] 5)) (fun k hk => Below.heap_alloc wc _ k hk))
      have H10 := hide HO.out.cap0
      have HA := hide (own_empty wc w.heap.size HB.out.size)
      have hsz := HB.out.size
      go_wp2_with (at_builtin; refine app_in rfl _ _ rfl w.heap.size wc.heap.size _ [] rfl HA.out _ _ _ ps rfl H10.out HI1.out ?_ ?_ ?_; simp; (simp; omega); intro v3 w3 o3 g3 n3)
      have HR := hide o3
      replace HB := hide ((HB.out.alloc HB.out.size (.cells #[] 5)).grown g3 (by simp; omega) (fun q hq => (HA.out.lt q hq).1))
      clear o3 g3 n3 HA HI1
      have HR : Hid (Own w3 w.heap.size v3 ps) := HR
      have x0 := atF_bd zs HZ.out 1
      have hs3 := HB.out.size
      go_wp2_with fail
      refine (atB _ _ _ _ _ _ 1 (by omega) (HIN.out.at HB.out)).mono ?_
      rintro e w4 ⟨rfl, hw⟩
      subst w4
      generalize atF zs 1 = y at *
      obtain ⟨i0, hi, hz0, hz1, hz2⟩ := info_parts Tryd.info5
      go_wp2_with (at_builtin; refine wpList_append_own _ rfl _ _ 22 rfl w.heap.size 5 i0 (.int .u8 0) 1 1 Tryd.underlying22 hi hz0 hz1 hz2 rfl (by decide) _ _ _ rfl (World.ownsRow.alloc HR.out _) ⟨w3.heap.size, 0, none⟩ 1 1 [.int .u8 y] rfl rfl (cell_one_new _ _ _) (fun x hx => by simp at hx; subst hx; rfl) (by unfold maxLen; omega) (by omega) (by simp; omega) ?_; intro v' w5 hown' hgrow5 hnil5)
      have HR5 := hide (own_more (ys := [y]) hown')
      replace HB := hide ((HB.out.alloc HB.out.size _).grown hgrow5 (by simp; omega) (fun q hq => (HR.out.lt q hq).1))
      clear hown' hgrow5 hnil5 hi hz0 hz1 hz2 HR
      have hB5 : Byt (ps ++ [y]) := HPB.out.append (ys := [y]) (fun q hq => by simp at hq; omega)
      obtain ⟨a5, c5, rfl, i5, hc5⟩ := in_any HR5.out (by simp; omega) hB5 (Nat.le_refl _)
      have HI5 := hide i5
      clear i5 HR5
      have hE5 := hide (HE.out.low HB.out hp)
      have hp5 : 0 < w5.heap.size := Nat.lt_of_lt_of_le hp HB.out.size
      obtain ⟨n, nx, ok, hA⟩ := ans_any (gn (ps ++ [y]) 0)
      have HN : Hid (0 < ps.length → n = x ∧ nx = (ps.length : Int) ∧ ok = true) := hide (fun hl => by
        rw [HG.out hl y] at hA
        simp only [ans, Value.tuple.injEq] at hA
        simp at hA
        obtain ⟨h1, h2, h3⟩ := hA
        exact ⟨h1.symm, h2.symm, h3⟩)
      have HA := hide hA
      clear hA HG hB5
      go_wp2_with fail
      refine (getNumImpl _ _ _ _ _ _ _ _ hp5 HI5.out hE5.out).mono ?_
      rintro e w6 ⟨rfl, b6⟩
      rw [HA.out]
      replace HB := hide (HB.out.trans (b6.mono HB.out.size))
      clear b6 HI5 hE5 HA hc5
      go_upto_region 8 with fail
      go_cut [71] from 54 to 71 (fun s wr => s = .bool false ∧ wr = w6)
      case first =>
        by_cases hl : 0 < ps.length
        · obtain ⟨rfl, rfl, rfl⟩ := HN.out hl
          have hl' : (0 : Int) < (ps.length : Int) := by omega
          have e1 : (n != n) = false := by simp
          have e2 : ((ps.length : Int) != (ps.length : Int)) = false := by simp
          go_wp2_with fail
          go_meet
          exact ⟨rfl, rfl⟩
        · have hl' : ¬ (0 : Int) < (ps.length : Int) := by omega
          clear hl
          go_wp2_with fail
          go_meet
          exact ⟨rfl, rfl⟩
      case rest =>
        obtain ⟨rfl, hw⟩ := hcut
        subst wc
        clear HO HN
        go_wp2_with fail
        refine (drawGetNum _ _ _ _ _ (HIN.out.at HB.out)).mono ?_
        rintro e w7 ⟨vR, k, rfl, ⟨aR, lR, cR, rs, rfl, hR, hR300, hRc, hR0, hRs⟩, hk, b7⟩
        have HR := hide hR
        replace HB := hide (HB.out.trans (b7.mono HB.out.size))
        clear hR b7
        have hE7 := hide (HE.out.low HB.out hp)
        have hp7 : 0 < w7.heap.size := Nat.lt_of_lt_of_le hp HB.out.size
        obtain ⟨n2, nx2, ok2, hA2⟩ := ans_any (gn rs k)
        have HA2 := hide hA2
        clear hA2
        go_wp2_with fail
        refine (getNumImpl _ _ _ _ _ _ _ _ hp7 HR.out hE7.out).mono ?_
        rintro e w8 ⟨rfl, b8⟩
        rw [HA2.out]
        replace HR := hide (HR.out.at b8)
        replace HB := hide (HB.out.trans (b8.mono HB.out.size))
        clear b8 hE7
        go_wp2_with fail
        refine (getNumModel _ _ _ _ _ _ _ HR.out).mono ?_
        rintro e w9 ⟨rfl, hw⟩
        subst w9
        rw [HA2.out]
        go_upto_region 13 with fail
        go_cut [112] from 91 to 112 (fun s wr => s = .bool false ∧ Below w.heap.size w wr)
        case first =>
          have e1 : (ok2 != ok2) = false := by simp
          have e2 : (nx2 != nx2) = false := by simp
          cases hg : gn rs k with
          | none =>
            have hA := HA2.out
            rw [hg] at hA
            simp only [ans, Value.tuple.injEq] at hA
            simp at hA
            obtain ⟨rfl, rfl, rfl⟩ := hA
            clear hg HA2 e1 e2
            go_quiet (fail)
            go_wp2_with fail
            go_meet
            exact ⟨rfl, below_drewN HB.out _⟩
          | some r =>
            obtain ⟨m, nx⟩ := r
            have hA := HA2.out
            rw [hg] at hA
            simp only [ans, Value.tuple.injEq] at hA
            simp at hA
            obtain ⟨rfl, rfl, rfl⟩ := hA
            obtain ⟨hk0, hm0, hm1, ht, hnx, hle⟩ := gn_back rs (in_byt HR.out) k m nx hg
            obtain ⟨kn, rfl⟩ := Int.eq_ofNat_of_zero_le hk0
            rw [Int.toNat_natCast] at ht hnx
            have hlr := HR.out.1
            obtain ⟨bR, oR, rfl, _, _⟩ := HR.out.2.2.2 (by have := pn_pos m hm0 hm1; omega)
            have hkn : kn ≤ nx := by omega
            have hkn' : (kn : Int) ≤ (nx : Int) := by omega
            have hnc : nx ≤ cR := by omega
            have hnc' : (nx : Int) ≤ (cR : Int) := by omega
            have hpp := pn_pos m hm0 hm1
            have hne : ¬ cR = kn := by omega
            clear hpp
            have HT := hide ((HR.out.drop kn (by omega)).take (nx - kn) (by omega))
            rw [ht] at HT
            have HT' : Hid (In w8.drew w8.drew.heap.size (some ⟨bR, oR + kn, none⟩) (nx - kn) (pn m)) := HT
            have hr0 := in_str (cR - kn) HT'.out
            clear hg HA2 e1 e2 ht hnx hR0 hRs
            go_region_held (fun w' => (convert 22 9 (.slice (some ⟨bR, oR + kn, none⟩) (nx - kn) (cR - kn))).run Tryd.prog w' = .ok (.string (strOfNums (pn m))) w') (first | (exact hr0) | (exact hra))
              (first | (go_at_call 10; refine (putNumImpl _ _).mono ?_; rintro e wa ⟨va, rfl, oa, ba⟩; have hcva := own_str oa; have hra := in_str (cR - kn) (HT'.out.at ba); have HBa := hide (HB.out.trans ((below_of_drew ba).mono HB.out.size)); clear ba oa))
            all_goals (go_wp2_with fail; go_meet; exact ⟨rfl, HBa.out⟩)
        case rest =>
          obtain ⟨rfl, hB⟩ := hcut
          replace HB := hide hB
          clear hB HR HA2
          go_wp2_with fail
          refine (drawPutText _ _ _ _ _ (HIN.out.at HB.out)).mono ?_
          rintro e w10 ⟨st, rfl, hst, b10⟩
          replace HB := hide (HB.out.trans (b10.mono HB.out.size))
          clear b10
          go_wp2_with fail
          refine (putTextImpl _ _ (by unfold maxLen; omega)).mono ?_
          rintro e w11 ⟨vT, rfl, oT, b11⟩
          have s10 := HB.out.size
          replace HB := hide (HB.out.trans (b11.mono HB.out.size))
          have hptl := pt_len st
          have HTB := hide (pt_byt st)
          have HGT : Hid (0 < (pt st).length → gtOf (pt st) (gn (pt st) 0) = some (st, (pt st).length)) := hide (fun h => gt_pt st (pt_small st h))
          generalize hQT : pt st = ts at *
          have HQT := hide hQT
          clear hQT b11
          obtain ⟨aT, cT, rfl, iT, hcT⟩ := in_any oT (by omega) HTB.out (Nat.le_refl _)
          have HO := hide (oT.mono s10)
          have HIT := hide iT
          clear oT iT
          have hE11 := hide (HE.out.low HB.out hp)
          have hp11 : 0 < w11.heap.size := Nat.lt_of_lt_of_le hp HB.out.size
          obtain ⟨gs, n3, ok3, hA3⟩ := ansT_any (gtOf ts (gn ts 0))
          have HN3 : Hid (0 < ts.length → gs = st ∧ n3 = (ts.length : Int) ∧ ok3 = true) := hide (fun hl => by
            rw [HGT.out hl] at hA3
            simp only [ansT, Value.tuple.injEq] at hA3
            simp at hA3
            obtain ⟨h1, h2, h3⟩ := hA3
            exact ⟨h1.symm, h2.symm, h3⟩)
          have HA3 := hide hA3
          clear hA3 HGT
          go_wp2_with fail
          refine (getTextImpl _ _ _ _ _ _ _ _ hp11 HIT.out hcT hE11.out).mono ?_
          rintro e w12 ⟨rfl, b12⟩
          rw [HA3.out]
          replace HB := hide (HB.out.trans (b12.mono HB.out.size))
          replace HO := hide (HO.out.below b12)
          clear b12 HIT hE11 HA3
          have hcvt : (convert 22 9 (.slice aT ts.length cT)).run Tryd.prog w12.drew = .ok (.string (strOfNums ts)) w12.drew := own_str (HO.out.drewN 1)
          have hst' : st.size ≤ maxLen := by unfold maxLen; omega
          go_upto_region 18 with fail
          go_cut [148] from 123 to 148 (fun s wr => s = .bool false ∧ Below w.heap.size w wr)
          case first =>
            by_cases hl : 0 < ts.length
            · obtain ⟨rfl, rfl, rfl⟩ := HN3.out hl
              have hl' : (0 : Int) < (ts.length : Int) := by omega
              have e2 : ((ts.length : Int) != (ts.length : Int)) = false := by simp
              go_region_held (fun w' => (convert 22 9 (.slice aT ts.length cT)).run Tryd.prog w' = .ok (.string (strOfNums ts)) w') (first | (exact hcvt) | (exact hcva))
                (first | (go_at_call 19; refine (putTextSpec _ _ hst').mono ?_; rintro e wa ⟨va, rfl, oa, ba⟩; rw [HQT.out] at oa; have hcvb := own_str oa; have hcva := own_str (HO.out.below (below_of_drew ba)); have HBa := hide (HB.out.trans ((below_of_drew ba).mono HB.out.size)); clear ba oa))
              all_goals (go_wp2_with fail; go_meet; exact ⟨rfl, HBa.out⟩)
            · have hl' : ¬ (0 : Int) < (ts.length : Int) := by omega
              have hund : (undef : Value) = .tuple #[] := rfl
              clear hl
              first
                | (go_region_held (fun w' => (convert 22 9 (.slice aT ts.length cT)).run Tryd.prog w' = .ok (.string (strOfNums ts)) w') (first | (exact hcvt) | (exact hcva))
                    (first | (go_at_call 19; refine (putTextSpec _ _ hst').mono ?_; rintro e wa ⟨va, rfl, oa, ba⟩; rw [HQT.out] at oa; have hcvb := own_str oa; have hcva := own_str (HO.out.below (below_of_drew ba)); have HBa := hide (HB.out.trans ((below_of_drew ba).mono HB.out.size)); clear ba oa)))
                | fail
              all_goals (go_wp2_with fail; go_meet; exact ⟨rfl, HBa.out⟩)
          case rest =>
            obtain ⟨rfl, hB⟩ := hcut
            replace HB := hide hB
            clear hB HO hcvt HN3 HQT HTB
            go_wp2_with fail
            refine (drawGetText _ _ _ _ _ (HIN.out.at HB.out)).mono ?_
            rintro e w13 ⟨vU, pk, rfl, ⟨aU, lU, cU, us, rfl, hU, hU300, hUc, hU0, hUs⟩, hpk, b13⟩
            have HU := hide hU
            replace HB := hide (HB.out.trans (b13.mono HB.out.size))
            clear hU b13
            have hE13 := hide (HE.out.low HB.out hp)
            have hp13 : 0 < w13.heap.size := Nat.lt_of_lt_of_le hp HB.out.size
            cases hg : gtOf us (gn us pk) with
            | none =>
              have HGN := hide hg
              clear hg
              go_wp2_with fail
              refine (getTextImpl _ _ _ _ _ _ _ _ hp13 HU.out hUc hE13.out).mono ?_
              rintro e w14 ⟨rfl, b14⟩
              rw [HGN.out]
              unfold ansT
              simp only
              replace HU := hide (HU.out.at b14)
              replace HB := hide (HB.out.trans (b14.mono HB.out.size))
              clear b14 hE13
              go_wp2_with fail
              refine (getTextModel _ _ _ _ _ _ _ HU.out hUc).mono ?_
              rintro e w15 ⟨rfl, hw⟩
              subst w15
              rw [HGN.out]
              unfold ansT
              simp only
              clear HGN HU
              go_upto_region 23 with fail
              go_quiet (fail)
              go_wp2
              go_ret
              exact ⟨rfl, below_drewN HB.out _⟩
            | some r =>
              obtain ⟨tv, q⟩ := r
              have HGN := hide hg
              obtain ⟨hk0, hkq, hql, htt, htv⟩ := gt_back us (in_byt HU.out) pk tv q hg
              clear hg
              obtain ⟨kn, rfl⟩ := Int.eq_ofNat_of_zero_le hk0
              rw [Int.toNat_natCast] at hkq htt
              have hlr := HU.out.1
              have hpp : 0 < (pt tv).length := by rw [pt_in tv htv]; have := pn_pos tv.size (by omega) (by omega); simp; omega
              have hpq : kn < q := by
                rw [htt, List.length_take] at hpp
                omega
              obtain ⟨bU, oU, rfl, _, _⟩ := HU.out.2.2.2 (by omega)
              go_wp2_with fail
              refine (getTextImpl _ _ _ _ _ _ _ _ hp13 HU.out hUc hE13.out).mono ?_
              rintro e w14 ⟨rfl, b14⟩
              rw [HGN.out]
              unfold ansT
              simp only
              replace HU := hide (HU.out.at b14)
              replace HB := hide (HB.out.trans (b14.mono HB.out.size))
              clear b14 hE13
              go_wp2_with fail
              refine (getTextModel _ _ _ _ _ _ _ HU.out hUc).mono ?_
              rintro e w15 ⟨rfl, hw⟩
              subst w15
              rw [HGN.out]
              unfold ansT
              simp only
              have hkn' : (kn : Int) ≤ (q : Int) := by omega
              have hkn : kn ≤ q := by omega
              have hnc : q ≤ cU := by omega
              have hnc' : (q : Int) ≤ (cU : Int) := by omega
              have hne : ¬ cU = kn := by omega
              have HT := hide ((HU.out.drop kn (by omega)).take (q - kn) (by omega))
              rw [← htt] at HT
              have HT' : Hid (In w14.drew w14.drew.heap.size (some ⟨bU, oU + kn, none⟩) (q - kn) (pt tv)) := HT
              have hr0 := in_str (cU - kn) HT'.out
              have htv' : tv.size ≤ maxLen := by unfold maxLen; omega
              clear htt hpp hU0 hUs HGN HT
              go_upto_region 23 with fail
              go_region_held (fun w' => (convert 22 9 (.slice (some ⟨bU, oU + kn, none⟩) (q - kn) (cU - kn))).run Tryd.prog w' = .ok (.string (strOfNums (pt tv))) w') (first | (exact hr0) | (exact hra))
                (first | (go_at_call 17; refine (putTextImpl _ _ htv').mono ?_; rintro e wa ⟨va, rfl, oa, ba⟩; have hcva := own_str oa; have hra := in_str (cU - kn) (HT'.out.at ba); have HBa := hide (HB.out.trans ((below_of_drew ba).mono HB.out.size)); clear ba oa))
              all_goals
                go_wp2
                go_ret
                exact ⟨rfl, HBa.out⟩
end Go.Proofs.YtfomgkkiaklpfaaDoor
