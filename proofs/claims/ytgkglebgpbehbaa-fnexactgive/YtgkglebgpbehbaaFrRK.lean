/-
  Frames as data. Marks, and what is held.
-/
import Derived.Test.YtgkglebgpbehbaaFrR
namespace Go.Proofs.Ytgkglebgpbehbaa
open Go.ChangeShapes Go.WideShapes Go.RowKit

def frCnt (x : Fr) : Nat := 3 + cntVls x.l + cntVls x.s
def mkFr (k : Nat) (x : Fr) : Fr := ⟨((k : Nat) : Int), ((k : Nat) : Int) + 1, ((k : Nat) : Int) + 2, mkVls (k + 3) x.l, mkVls (k + 3 + cntVls x.l) x.s⟩
theorem frCnt_le (x : Fr) : frCnt x ≤ 8 * frW x + 8 := by
  have h_l := cntVls_le x.l
  have h_s := cntVls_le x.s
  unfold frCnt frW
  omega
def mkFrs : Nat → List Fr → List Fr
  | _, [] => []
  | k, x :: xs => mkFr k x :: mkFrs (k + frCnt x) xs
def cntFrs (xs : List Fr) : Nat := tot frCnt xs
theorem mkFrs_len : ∀ (k : Nat) (xs : List Fr), (mkFrs k xs).length = xs.length
  | _, [] => rfl
  | k, x :: xs => by simp [mkFrs, mkFrs_len _ xs]
theorem mkFrs_get : ∀ (k : Nat) (xs : List Fr) (j : Nat), j < xs.length → (mkFrs k xs).getD j default = mkFr (k + tot frCnt (xs.take j)) (xs.getD j default)
  | k, [], j, h => by simp at h
  | k, x :: xs, 0, h => by simp [mkFrs, tot]
  | k, x :: xs, j + 1, h => by
    rw [mkFrs, List.getD_cons_succ, mkFrs_get _ xs j (by simpa using h), List.getD_cons_succ]
    congr 1
    unfold tot
    rw [List.take_succ_cons, List.map_cons, List.sum_cons]; omega
theorem cntFrs_le (xs : List Fr) : cntFrs xs ≤ 8 * frsW xs := tot_cnt frCnt frW frCnt_le xs
set_option maxRecDepth 100000 in
set_option maxHeartbeats 4000000 in
theorem mkFrsR (w : World) (b K : Nat) (m : Int) (hmK : m = (K : Int)) (v : Value) (xs : List Fr) (F : List Nat) (h : Owns w b (frs xs) v F) (hnd : F.Nodup) (hK : 0 < K) (hm : K + cntFrs xs ≤ 100000000) :
    Calls Try.prog 33 #[v, .int .i64 m] w fun e w' => e = .returned (.int .i64 ((K + cntFrs xs : Nat) : Int)) ∧ Owns w' b (frs (mkFrs K xs)) v F ∧ Chg F w w' := by
  subst hmK
  have HCN : Hid (cntFrs xs = tot frCnt xs) := hide rfl
  rw [HCN.out] at hm
  have HST : Hid (Owns w b (.row 54 5 xs.length ((mixR frD (mkFrs K xs) xs 0).flatten)) v F) := hide (by rw [mixR_zero]; exact h)
  have HEN : Hid (∀ W, Owns W b (.row 54 5 xs.length ((mixR frD (mkFrs K xs) xs xs.length).flatten)) v F → Owns W b (frs (mkFrs K xs)) v F) := hide (fun W h => by rw [mixR_end _ (mkFrs_len K _)] at h; unfold frs; rw [mkFrs_len]; exact h)
  have hML := mkFrs_len K xs
  have HTS : Hid (∀ j, j < xs.length → tot frCnt (xs.take (j + 1)) = tot frCnt (xs.take j) + frCnt (xs.getD j default)) := hide (fun j hj => tot_step _ xs j hj)
  have HTL : Hid (∀ j, tot frCnt (xs.take j) ≤ tot frCnt xs) := hide (tot_le _ xs)
  have HTE : Hid (tot frCnt (xs.take xs.length) = tot frCnt xs) := hide (by rw [List.take_length])
  have HG : Hid (∀ j, j < xs.length → (mixR frD (mkFrs K xs) xs j).getD j [] = frD (xs.getD j default)) := hide (fun j hj => mixR_get _ hML hj)
  have HS : Hid (∀ j, j < xs.length → (mixR frD (mkFrs K xs) xs j).set j (frD (mkFr (K + tot frCnt (xs.take j)) (xs.getD j default))) = mixR frD (mkFrs K xs) xs (j + 1)) := hide (fun j hj => by rw [← mkFrs_get K xs j hj]; exact mixR_step _ hML hj)
  have HA : Hid (∀ j, ∀ r ∈ mixR frD (mkFrs K xs) xs j, r.length = 5) := hide (fun j => mixR_all (f := frD) (k := 5) (fun _ => rfl) _ _ j)
  have HLn : Hid (∀ j, j ≤ xs.length → (mixR frD (mkFrs K xs) xs j).length = xs.length) := hide (fun j hj => mixR_len _ hML hj)
  have hxl : xs.length ≤ tot frCnt xs := tot_one _ (fun _ => by unfold frCnt; omega) xs
  have hsl := h.slice
  clear h hML
  rw [HCN.out]
  generalize hn : xs.length = n at *
  rcases hsl with ⟨rfl, rfl⟩ | ⟨g, c, rfl⟩
  · have hx0 : xs = [] := List.eq_nil_of_length_eq_zero hn
    have HX0 : Hid (tot frCnt xs = 0) := hide (by rw [hx0]; rfl)
    go_enter Try.func33, Try.ntmps33
    go_wp2
    go_loopw [1, 5] (fun q i wr => q = .int .i64 (K : Int) ∧ i = .int .i64 0 ∧ wr = w) (fun _ _ _ => 0)
    case atStart => exact ⟨rfl, rfl, rfl⟩
    case round =>
      obtain ⟨rfl, rfl, rfl⟩ := hrel
      go_wp2
      go_ret
      exact ⟨by rw [HX0.out]; rfl, HEN.out _ HST.out, Chg.refl _ _⟩
  · go_enter Try.func33, Try.ntmps33
    go_wp2
    go_loopw [1, 5] (fun q i wr => ∃ j : Nat, j ≤ n ∧ q = .int .i64 ((K + tot frCnt (xs.take j) : Nat) : Int) ∧ i = .int .i64 (j : Int) ∧ Hid (Owns wr b (.row 54 5 n ((mixR frD (mkFrs K xs) xs j).flatten)) (.slice (some ⟨g, 0, none⟩) n c) F) ∧ Hid (Chg F w wr)) (fun _ i _ => n - (intOf i).toNat)
    case atStart => exact ⟨0, Nat.zero_le _, by simp [tot], rfl, HST, hide (Chg.refl _ _)⟩
    case round =>
      clear HST
      obtain ⟨j, hj, rfl, rfl, HO, HC⟩ := hrel
      by_cases hlt : j < n
      · have hcap : n ≤ c := by
          have := HO.out
          unfold Owns at this
          obtain ⟨us, G, h2, _⟩ := this
          obtain ⟨_, a, cap, e, h3, _⟩ := rd_own h2 (Nat.le_refl _)
          cases e
          exact h3
        obtain ⟨q, hq⟩ : ∃ q, K + tot frCnt (xs.take j) = q := ⟨_, rfl⟩
        have hq0 : 0 < q := by omega
        have hts := HTS.out j hlt
        have htl := HTL.out (j + 1)
        have HA1 := hide (HA.out j)
        have HL1 := hide (HLn.out j hj)
        have HG1 := HG.out j hlt
        have HS1 := HS.out j hlt
        obtain ⟨x, hx⟩ : ∃ x, xs.getD j default = x := ⟨_, rfl⟩
        rw [hx] at HG1 HS1 hts
        have hcm : frCnt x = 3 + cntVls x.l + cntVls x.s := rfl
        have hqm : q + (3 + cntVls x.l + cntVls x.s) ≤ 100000000 := by omega
        rw [hq] at HS1 ⊢
        have HG2 := hide HG1
        have HS2 := hide HS1
        have HQ := hide hq
        clear hx hq HG1 HS1
        obtain ⟨rs, hrs⟩ : ∃ rs, mixR frD (mkFrs K xs) xs j = rs := ⟨_, rfl⟩
        rw [hrs] at HO HA1 HL1 HG2 HS2
        clear hrs
        have h0 : ∀ i, i < 5 → rs.flatten[j * 5 + i]? = (frD x)[i]? := fun i hi => by rw [rows_get rs j i HA1.out (by have := HL1.out; omega) hi, HG2.out]
        obtain ⟨d0, z0, hgF, ho⟩ := HO.out.cell hnd (i := j * 5) (z := .int .i64 x.k) (by rw [show j * 5 = j * 5 + 0 from rfl, h0 0 (by omega)]; rfl) (.int .i64 (q : Int))
        replace HO := hide ho
        replace HC := hide (HC.out.set hgF (j * 5) (.int .i64 (q : Int)))
        clear ho
        obtain ⟨d1, z1, hgF, ho⟩ := HO.out.cell hnd (i := j * 5 + 1) (z := .int .i64 x.m) (by rw [List.getElem?_set_ne (by omega), h0 1 (by omega)]; rfl) (.int .i64 ((q : Int) + 1))
        replace HO := hide ho
        replace HC := hide (HC.out.set hgF (j * 5 + 1) (.int .i64 ((q : Int) + 1)))
        clear ho
        obtain ⟨d2, z2, hgF, ho⟩ := HO.out.cell hnd (i := j * 5 + 2) (z := .int .i64 x.p) (by rw [List.getElem?_set_ne (by omega), List.getElem?_set_ne (by omega), h0 2 (by omega)]; rfl) (.int .i64 ((q : Int) + 1 + 1))
        replace HO := hide ho
        replace HC := hide (HC.out.set hgF (j * 5 + 2) (.int .i64 ((q : Int) + 1 + 1)))
        clear ho
        obtain ⟨u3, G3, d3, p3, nd3, sb3, rc3⟩ := HO.out.part hnd (i := j * 5 + 3) (d := vls x.l) (by rw [List.getElem?_set_ne (by omega), List.getElem?_set_ne (by omega), List.getElem?_set_ne (by omega), h0 3 (by omega)]; rfl)
        obtain ⟨aa3, cc3, eu3⟩ := p3.sl
        subst eu3
        have HP := hide p3
        have HRC := hide rc3
        have HLT := hide (fun q hq => (Owns.lt _ _ _ HO.out q hq).2)
        clear p3 rc3
        go_wp2_with fail
        clear d0 z0 d1 z1 d2 z2 d3
        refine (mkVlsR _ b (q + 3) _ (by omega) _ x.l G3 HP.out nd3 (by omega) (by omega)).mono ?_
        rintro e w1 ⟨rfl, o1, ch1⟩
        replace HO := hide (HRC.out w1 (vls (mkVls (q + 3) x.l)) o1 (fun q hq hq' => ch1.block q (HLT.out q hq) hq'))
        replace HC := hide (HC.out.trans (ch1.mono sb3))
        clear o1 ch1 HP HRC HLT
        obtain ⟨r3, hr3⟩ : ∃ r, q + 3 + cntVls x.l = r := ⟨_, rfl⟩
        rw [hr3]
        have HRR3 := hide hr3
        obtain ⟨u4, G4, d4, p4, nd4, sb4, rc4⟩ := HO.out.part hnd (i := j * 5 + 4) (d := vls x.s) (by rw [List.getElem?_set_ne (by omega), List.getElem?_set_ne (by omega), List.getElem?_set_ne (by omega), List.getElem?_set_ne (by omega), h0 4 (by omega)]; rfl)
        obtain ⟨aa4, cc4, eu4⟩ := p4.sl
        subst eu4
        have HP := hide p4
        have HRC := hide rc4
        have HLT := hide (fun q hq => (Owns.lt _ _ _ HO.out q hq).2)
        clear p4 rc4
        go_wp2_with fail
        clear d4
        refine (mkVlsR _ b (r3) _ (by omega) _ x.s G4 HP.out nd4 (by omega) (by omega)).mono ?_
        rintro e w2 ⟨rfl, o2, ch2⟩
        replace HO := hide (HRC.out w2 (vls (mkVls (r3) x.s)) o2 (fun q hq hq' => ch2.block q (HLT.out q hq) hq'))
        replace HC := hide (HC.out.trans (ch2.mono sb4))
        clear o2 ch2 HP HRC HLT
        obtain ⟨r4, hr4⟩ : ∃ r, r3 + cntVls x.s = r := ⟨_, rfl⟩
        rw [hr4]
        have HRR4 := hide hr4
        have HZ : Hid ((((((rs.flatten.set (j * 5) (.val (.int .i64 (q : Int)))).set (j * 5 + 1) (.val (.int .i64 ((q : Int) + 1)))).set (j * 5 + 2) (.val (.int .i64 ((q : Int) + 1 + 1)))).set (j * 5 + 3) (vls (mkVls (q + 3) x.l))).set (j * 5 + 4) (vls (mkVls (r3) x.s))) = (rs.set j (frD (mkFr q x))).flatten) := hide (by
          have hl := HL1.out
          have hlen : ∀ (rs' : List (List Dt)) (r : List Dt), (∀ r ∈ rs', r.length = 5) → r.length = 5 → ∀ r' ∈ rs'.set j r, r'.length = 5 := fun rs' r h1 h2 r' hr => by
            rcases List.mem_or_eq_of_mem_set hr with h | h
            · exact h1 r' h
            · rw [h]; exact h2
          rw [show j * 5 = j * 5 + 0 from rfl]
          rw [rows_set rs j 0 _ HA1.out (by omega) (by omega), HG2.out]
          rw [rows_set _ j 1 _ (hlen _ _ HA1.out rfl) (by rw [List.length_set]; omega) (by omega), List.getD_eq_getElem?_getD, List.getElem?_set_self (by omega), Option.getD_some, List.set_set]
          rw [rows_set _ j 2 _ (hlen _ _ HA1.out rfl) (by rw [List.length_set]; omega) (by omega), List.getD_eq_getElem?_getD, List.getElem?_set_self (by omega), Option.getD_some, List.set_set]
          rw [rows_set _ j 3 _ (hlen _ _ HA1.out rfl) (by rw [List.length_set]; omega) (by omega), List.getD_eq_getElem?_getD, List.getElem?_set_self (by omega), Option.getD_some, List.set_set]
          rw [rows_set _ j 4 _ (hlen _ _ HA1.out rfl) (by rw [List.length_set]; omega) (by omega), List.getD_eq_getElem?_getD, List.getElem?_set_self (by omega), Option.getD_some, List.set_set]
          unfold frD mkFr
          rw [HRR3.out]
          rfl)
        rw [HZ.out, HS2.out] at HO
        go_wp2
        exact ⟨⟨j + 1, by omega, by have hh := HQ.out; congr 1; omega, by go_num, HO, HC⟩, by simp [intOf]; omega⟩
      · obtain rfl : j = n := by omega
        have HF := hide (HEN.out _ HO.out)
        go_wp2
        go_ret
        exact ⟨by rw [HTE.out]; rfl, HF.out, HC.out⟩
theorem mkFrsI (w : World) (b hi K : Nat) (m : Int) (hmK : m = (K : Int)) (v : Value) (xs : List Fr) (h : OwnD w b hi (frs xs) v) (hK : 0 < K) (hm : K + cntFrs xs ≤ 100000000) :
    Calls Try.prog 33 #[v, .int .i64 m] w fun e w' => e = .returned (.int .i64 ((K + cntFrs xs : Nat) : Int)) ∧ OwnD w' b hi (frs (mkFrs K xs)) v ∧ ChgI b hi w w' := by
  obtain ⟨F, h1, h2, h3⟩ := h
  have hl := Owns.lt _ _ _ h1
  refine (mkFrsR w b K m hmK v xs F h1 h2 hK hm).mono ?_
  rintro e w1 ⟨rfl, o1, c1⟩
  exact ⟨rfl, ⟨F, o1, h2, h3⟩, c1.int (fun q hq => ⟨(hl q hq).1, h3 q hq⟩)⟩
set_option maxRecDepth 100000 in
set_option maxHeartbeats 8000000 in
theorem heldFrsR (w : World) (K : Nat) (m : Int) (hmK : m = (K : Int)) (v : Value) (xs : List Fr) (h : Reads w w.heap.size (frs (mkFrs K xs)) v) (hK : 0 < K) (hm : K + cntFrs xs ≤ 100000000) :
    Calls Try.prog 34 #[v, .int .i64 m] w fun e w' => e = .returned (.int .i64 ((K + cntFrs xs : Nat) : Int)) ∧ Below w.heap.size w w' := by
  subst hmK
  have HCN : Hid (cntFrs xs = tot frCnt xs) := hide rfl
  rw [HCN.out] at hm ⊢
  have HX : Hid (∀ wr, Below w.heap.size w wr → _) := hide (fun wr hb => frame_at (h.at hb))
  have HTS : Hid (∀ j, j < xs.length → tot frCnt (xs.take (j + 1)) = tot frCnt (xs.take j) + frCnt (xs.getD j default)) := hide (fun j hj => tot_step _ xs j hj)
  have HTL : Hid (∀ j, tot frCnt (xs.take j) ≤ tot frCnt xs) := hide (fun j => tot_le _ xs j)
  have HGt : Hid (∀ j, j < xs.length → (mkFrs K xs).getD j default = mkFr (K + tot frCnt (xs.take j)) (xs.getD j default)) := hide (fun j hj => mkFrs_get K xs j hj)
  have HTE : Hid (tot frCnt (xs.take xs.length) = tot frCnt xs) := hide (by rw [List.take_length])
  have HLe := hide (mkFrs_len K xs)
  have hmx : xs.length ≤ tot frCnt xs := tot_one _ (fun _ => by unfold frCnt; omega) xs
  obtain ⟨a, cap, rfl, hlc, _⟩ := frame_at h
  rw [mkFrs_len] at hlc ⊢
  clear h
  obtain ⟨n, hn⟩ : ∃ n, xs.length = n := ⟨_, rfl⟩
  rw [hn] at hlc hmx ⊢
  have HLn := hide hn
  clear hn
  go_enter Try.func34, Try.ntmps34
  go_wp2
  go_loopw [1, 5] (fun q i wr => ∃ j : Nat, j ≤ n ∧ q = .int .i64 ((K + tot frCnt (xs.take j) : Nat) : Int) ∧ i = .int .i64 (j : Int) ∧ Hid (Below w.heap.size w wr)) (fun _ i _ => n - (intOf i).toNat)
  case atStart => exact ⟨0, Nat.zero_le _, by simp [tot], rfl, hide (Below.refl _ _)⟩
  case round =>
    obtain ⟨j, hj, rfl, rfl, HB⟩ := hrel
    by_cases hlt : j < n
    · have hlt' : j < xs.length := by have := HLn.out; omega
      have hts := HTS.out j hlt'
      have htl := HTL.out (j + 1)
      have hgt := HGt.out j hlt'
      obtain ⟨q, hq⟩ : ∃ q, K + tot frCnt (xs.take j) = q := ⟨_, rfl⟩
      obtain ⟨y, hy⟩ : ∃ y, xs.getD j default = y := ⟨_, rfl⟩
      rw [hy] at hts hgt
      rw [hq] at hgt ⊢
      have hcm : frCnt y = 3 + cntVls y.l + cntVls y.s := rfl
      have hq0 : 0 < q := by omega
      have hqm : q + (3 + cntVls y.l + cntVls y.s) ≤ 100000000 := by omega
      have HEND : Hid (K + tot frCnt (xs.take (j + 1)) = q + (3 + cntVls y.l + cntVls y.s)) := hide (by omega)
      obtain ⟨b, o, ha, hbb, pv1, pv2, f0, f1, f2, f3, f4, r3, r4⟩ : ∃ b o, a = some ⟨b, o, none⟩ ∧ b < wr.heap.size ∧ ∃ pv1, ∃ pv2, wr.cell? ⟨b, o + j * 5, none⟩ = some (.int .i64 (((q : Nat) : Int))) ∧ wr.cell? ⟨b, o + j * 5 + 1, none⟩ = some (.int .i64 (((q : Nat) : Int) + 1)) ∧ wr.cell? ⟨b, o + j * 5 + 2, none⟩ = some (.int .i64 (((q : Nat) : Int) + 2)) ∧ wr.cell? ⟨b, o + j * 5 + 3, none⟩ = some (pv1) ∧ wr.cell? ⟨b, o + j * 5 + 4, none⟩ = some (pv2) ∧ Reads wr wr.heap.size (vls (mkVls (q + 3) y.l)) pv1 ∧ Reads wr wr.heap.size (vls (mkVls (q + 3 + cntVls y.l) y.s)) pv2 := by
        obtain ⟨a', cap', e, _, _, hx⟩ := HX.out wr HB.out
        cases e
        obtain ⟨b, o, e, hb, hc⟩ := hx (by rw [HLe.out]; omega)
        obtain ⟨pv1, pv2, c0, c1, c2, c3, c4, r3, r4⟩ := hc j (by rw [HLe.out]; exact hlt')
        rw [hgt] at c0 c1 c2 r3 r4
        exact ⟨b, o, e, hb, pv1, pv2, c0, c1, c2, c3, c4, r3, r4⟩
      subst ha
      obtain ⟨la1, lc1, le1, _⟩ := r3.shape
      obtain ⟨la2, lc2, le2, _⟩ := r4.shape
      subst le1 le2
      have HD : Hid (∀ wq, Below wr.heap.size wr wq → wq.cell? ⟨b, o + j * 5, none⟩ = some (.int .i64 (((q : Nat) : Int))) ∧ wq.cell? ⟨b, o + j * 5 + 1, none⟩ = some (.int .i64 (((q : Nat) : Int) + 1)) ∧ wq.cell? ⟨b, o + j * 5 + 2, none⟩ = some (.int .i64 (((q : Nat) : Int) + 2)) ∧ wq.cell? ⟨b, o + j * 5 + 3, none⟩ = some (.slice la1 (mkVls (q + 3) y.l).length lc1) ∧ wq.cell? ⟨b, o + j * 5 + 4, none⟩ = some (.slice la2 (mkVls (q + 3 + cntVls y.l) y.s).length lc2) ∧ Reads wq wq.heap.size (vls (mkVls (q + 3) y.l)) (.slice la1 (mkVls (q + 3) y.l).length lc1) ∧ Reads wq wq.heap.size (vls (mkVls (q + 3 + cntVls y.l) y.s)) (.slice la2 (mkVls (q + 3 + cntVls y.l) y.s).length lc2)) := hide (fun wq hb =>
        ⟨(hb.cell (p := ⟨b, o + j * 5, none⟩) hbb).trans f0, (hb.cell (p := ⟨b, o + j * 5 + 1, none⟩) hbb).trans f1, (hb.cell (p := ⟨b, o + j * 5 + 2, none⟩) hbb).trans f2, (hb.cell (p := ⟨b, o + j * 5 + 3, none⟩) hbb).trans f3, (hb.cell (p := ⟨b, o + j * 5 + 4, none⟩) hbb).trans f4, r3.at hb, r4.at hb⟩)
      have HR := hide (Below.refl wr.heap.size wr)
      have HQ := hide hq
      clear hq f0 f1 f2 f3 f4 r3 r4 hts htl hgt hcm
      rw [mkVls_len, mkVls_len] at HD
      have d0 := (HD.out wr HR.out).1
      have n0 : ((((q : Nat) : Int)) != (((q : Nat) : Int))) = false := by simp
      have d1 := (HD.out wr HR.out).2.1
      have n1 : ((((q : Nat) : Int) + 1) != (((q : Nat) : Int) + 1)) = false := by simp
      have d2 := (HD.out wr HR.out).2.2.1
      have n2 : ((((q : Nat) : Int) + 2) != (((q : Nat) : Int) + 2)) = false := by simp
      have d3 := (HD.out wr HR.out).2.2.2.1
      go_wp2_with fail
      clear d0 n0 d1 n1 d2 n2 d3
      refine (heldVlsR _ (q + 3) _ (by omega) _ y.l (HD.out wr HR.out).2.2.2.2.2.1 (by omega) (by omega)).mono ?_
      rintro e wh1 ⟨rfl, b2⟩
      have HR2 := hide (HR.out.trans (b2.mono HR.out.size))
      clear b2 HR
      have hnn : ¬ (((q + 3 + cntVls y.l : Nat) : Int) < 0) := by omega
      have d4 := (HD.out wh1 HR2.out).2.2.2.2.1
      go_wp2_with fail
      clear hnn d4
      refine (heldVlsR _ (q + 3 + cntVls y.l) _ (by omega) _ y.s (HD.out wh1 HR2.out).2.2.2.2.2.2 (by omega) (by omega)).mono ?_
      rintro e wh2 ⟨rfl, b2⟩
      have HR3 := hide (HR2.out.trans (b2.mono HR2.out.size))
      clear b2 HR2
      have hnn : ¬ (((q + 3 + cntVls y.l + cntVls y.s : Nat) : Int) < 0) := by omega
      have HRZ := hide (HB.out.trans (HR3.out.mono HB.out.size))
      go_wp2
      exact ⟨⟨j + 1, hlt, by rw [HEND.out]; exact congrArg (Value.int .i64) (by omega), by go_num, HRZ⟩, by simp [intOf]; omega⟩
    · obtain rfl : j = n := by omega
      have HE9 : Hid (K + tot frCnt (xs.take j) = K + tot frCnt xs) := hide (by rw [← HLn.out, HTE.out])
      go_wp2
      go_ret
      exact ⟨by rw [HE9.out]; rfl, HB.out⟩
def mkoFr (k : Nat) (x : Fr) : Fr := ⟨x.k, x.m, x.p, mkVls (k) x.l, mkVls (k + cntVls x.l) x.s⟩
def frCto (x : Fr) : Nat := cntVls x.l + cntVls x.s
theorem frCto_le (x : Fr) : frCto x ≤ 8 * frW x := by
  have h_l := cntVls_le x.l
  have h_s := cntVls_le x.s
  unfold frCto frW
  omega
theorem frD_owns {w : World} {b : Nat} {x : Fr} {u1 u2 : Value} {F : List Nat} (h : OwnsL w b (frD x) [.int .i64 x.k, .int .i64 x.m, .int .i64 x.p, u1, u2] F) :
    ∃ F1 F2, F = F1 ++ (F2) ∧ Owns w b (vls x.l) u1 F1 ∧ Owns w b (vls x.s) u2 F2 := by
  unfold frD at h
  obtain ⟨_, _, _, _, e, rfl, h0, h⟩ := ownsL_cons h
  cases e
  unfold Owns at h0
  obtain ⟨_, _, _, _, e, rfl, h1, h⟩ := ownsL_cons h
  cases e
  unfold Owns at h1
  obtain ⟨_, _, _, _, e, rfl, h2, h⟩ := ownsL_cons h
  cases e
  unfold Owns at h2
  obtain ⟨_, _, F1, _, e, rfl, h3, h⟩ := ownsL_cons h
  cases e
  obtain ⟨_, _, F2, _, e, rfl, h4, h⟩ := ownsL_cons h
  cases e
  unfold OwnsL at h
  refine ⟨F1, F2, ?_, h3, h4⟩
  rw [h0.2, h1.2, h2.2, h.2]
  simp
theorem frD_mk {w : World} {b : Nat} {x : Fr} {u1 u2 : Value} {F1 F2 : List Nat} (h1 : Owns w b (vls x.l) u1 F1) (h2 : Owns w b (vls x.s) u2 F2) : OwnsL w b (frD x) [.int .i64 x.k, .int .i64 x.m, .int .i64 x.p, u1, u2] (F1 ++ (F2)) := by
  have := ownsL_mk (owns_val (w := w) (b := b) (u := .int .i64 x.k)) (ownsL_mk (owns_val (w := w) (b := b) (u := .int .i64 x.m)) (ownsL_mk (owns_val (w := w) (b := b) (u := .int .i64 x.p)) (ownsL_mk h1 (ownsL_mk h2 (ownsL_nil)))))
  simp at this
  exact this
end Go.Proofs.Ytgkglebgpbehbaa
