/-
  What marks leave of programs of one's own.
-/
import Derived.Test.YthlaihkpffddcaaPrgD
import Derived.Test.YthlaihkpffddcaaRecM
namespace Go.Proofs.Ythlaihkpffddcaa
open Go.ChangeShapes Go.WideShapes Go.RowKit

def coCnt (x : Co) : Nat := 4 + cntStrs x.ps + cntInss x.is
def mkCo (k : Nat) (x : Co) : Co := ⟨mtx (k), ((k : Nat) : Int) + 1, mkStrs (k + 2) x.ps, mtx (k + 2 + cntStrs x.ps), ((k + 2 + cntStrs x.ps : Nat) : Int) + 1, mkInss (k + 2 + cntStrs x.ps + 2) x.is⟩
theorem coCnt_le (x : Co) : coCnt x ≤ 8 * coW x + 8 := by
  have h_ps := cntStrs_le x.ps
  have h_is := cntInss_le x.is
  unfold coCnt coW
  omega
def mkCods : Nat → List Co → List Co
  | _, [] => []
  | k, x :: xs => mkCo k x :: mkCods (k + coCnt x) xs
def cntCods (xs : List Co) : Nat := tot coCnt xs
theorem mkCods_len : ∀ (k : Nat) (xs : List Co), (mkCods k xs).length = xs.length
  | _, [] => rfl
  | k, x :: xs => by simp [mkCods, mkCods_len _ xs]
theorem mkCods_get : ∀ (k : Nat) (xs : List Co) (j : Nat), j < xs.length → (mkCods k xs).getD j default = mkCo (k + tot coCnt (xs.take j)) (xs.getD j default)
  | k, [], j, h => by simp at h
  | k, x :: xs, 0, h => by simp [mkCods, tot]
  | k, x :: xs, j + 1, h => by
    rw [mkCods, List.getD_cons_succ, mkCods_get _ xs j (by simpa using h), List.getD_cons_succ]
    congr 1
    unfold tot
    rw [List.take_succ_cons, List.map_cons, List.sum_cons]; omega
theorem cntCods_le (xs : List Co) : cntCods xs ≤ 8 * codsW xs := tot_cnt coCnt coW coCnt_le xs
set_option maxRecDepth 100000 in
set_option maxHeartbeats 4000000 in
theorem mkCodsR (w : World) (b K : Nat) (m : Int) (hmK : m = (K : Int)) (v : Value) (xs : List Co) (F : List Nat) (h : Owns w b (cods xs) v F) (hnd : F.Nodup) (hK : 0 < K) (hm : K + cntCods xs ≤ 100000000) :
    Calls Try.prog 85 #[v, .int .i64 m] w fun e w' => e = .returned (.int .i64 ((K + cntCods xs : Nat) : Int)) ∧ Owns w' b (cods (mkCods K xs)) v F ∧ Chg F w w' := by
  subst hmK
  have HCN : Hid (cntCods xs = tot coCnt xs) := hide rfl
  rw [HCN.out] at hm
  have HST : Hid (Owns w b (.row 159 6 xs.length ((mixR coD (mkCods K xs) xs 0).flatten)) v F) := hide (by rw [mixR_zero]; exact h)
  have HEN : Hid (∀ W, Owns W b (.row 159 6 xs.length ((mixR coD (mkCods K xs) xs xs.length).flatten)) v F → Owns W b (cods (mkCods K xs)) v F) := hide (fun W h => by rw [mixR_end _ (mkCods_len K _)] at h; unfold cods; rw [mkCods_len]; exact h)
  have hML := mkCods_len K xs
  have HTS : Hid (∀ j, j < xs.length → tot coCnt (xs.take (j + 1)) = tot coCnt (xs.take j) + coCnt (xs.getD j default)) := hide (fun j hj => tot_step _ xs j hj)
  have HTL : Hid (∀ j, tot coCnt (xs.take j) ≤ tot coCnt xs) := hide (tot_le _ xs)
  have HTE : Hid (tot coCnt (xs.take xs.length) = tot coCnt xs) := hide (by rw [List.take_length])
  have HG : Hid (∀ j, j < xs.length → (mixR coD (mkCods K xs) xs j).getD j [] = coD (xs.getD j default)) := hide (fun j hj => mixR_get _ hML hj)
  have HS : Hid (∀ j, j < xs.length → (mixR coD (mkCods K xs) xs j).set j (coD (mkCo (K + tot coCnt (xs.take j)) (xs.getD j default))) = mixR coD (mkCods K xs) xs (j + 1)) := hide (fun j hj => by rw [← mkCods_get K xs j hj]; exact mixR_step _ hML hj)
  have HA : Hid (∀ j, ∀ r ∈ mixR coD (mkCods K xs) xs j, r.length = 6) := hide (fun j => mixR_all (f := coD) (k := 6) (fun _ => rfl) _ _ j)
  have HLn : Hid (∀ j, j ≤ xs.length → (mixR coD (mkCods K xs) xs j).length = xs.length) := hide (fun j hj => mixR_len _ hML hj)
  have hxl : xs.length ≤ tot coCnt xs := tot_one _ (fun _ => by unfold coCnt; omega) xs
  have hsl := h.slice
  clear h hML
  rw [HCN.out]
  generalize hn : xs.length = n at *
  rcases hsl with ⟨rfl, rfl⟩ | ⟨g, c, rfl⟩
  · have hx0 : xs = [] := List.eq_nil_of_length_eq_zero hn
    have HX0 : Hid (tot coCnt xs = 0) := hide (by rw [hx0]; rfl)
    go_enter Try.func85, Try.ntmps85
    go_wp2
    go_loopw [1, 5] (fun q i wr => q = .int .i64 (K : Int) ∧ i = .int .i64 0 ∧ wr = w) (fun _ _ _ => 0)
    case atStart => exact ⟨rfl, rfl, rfl⟩
    case round =>
      obtain ⟨rfl, rfl, rfl⟩ := hrel
      go_wp2
      go_ret
      exact ⟨by rw [HX0.out]; rfl, HEN.out _ HST.out, Chg.refl _ _⟩
  · go_enter Try.func85, Try.ntmps85
    go_wp2
    go_loopw [1, 5] (fun q i wr => ∃ j : Nat, j ≤ n ∧ q = .int .i64 ((K + tot coCnt (xs.take j) : Nat) : Int) ∧ i = .int .i64 (j : Int) ∧ Hid (Owns wr b (.row 159 6 n ((mixR coD (mkCods K xs) xs j).flatten)) (.slice (some ⟨g, 0, none⟩) n c) F) ∧ Hid (Chg F w wr)) (fun _ i _ => n - (intOf i).toNat)
    case atStart => exact ⟨0, Nat.zero_le _, by simp [tot], rfl, HST, hide (Chg.refl _ _)⟩
    case round =>
      clear HST
      obtain ⟨j, hj, rfl, rfl, HO, HC⟩ := hrel
      by_cases hlt : j < n
      · have hcap : n ≤ c := by
          have := HO.out
          unfold Owns at this
          obtain ⟨us, G, h2, _⟩ := this
          obtain ⟨_, a, cap, e, h3, _⟩ := rd_own h2 (Nat.le_refl _)
          cases e
          exact h3
        obtain ⟨q, hq⟩ : ∃ q, K + tot coCnt (xs.take j) = q := ⟨_, rfl⟩
        have hq0 : 0 < q := by omega
        have hts := HTS.out j hlt
        have htl := HTL.out (j + 1)
        have HA1 := hide (HA.out j)
        have HL1 := hide (HLn.out j hj)
        have HG1 := HG.out j hlt
        have HS1 := HS.out j hlt
        obtain ⟨x, hx⟩ : ∃ x, xs.getD j default = x := ⟨_, rfl⟩
        rw [hx] at HG1 HS1 hts
        have hcm : coCnt x = 4 + cntStrs x.ps + cntInss x.is := rfl
        have hqm : q + (4 + cntStrs x.ps + cntInss x.is) ≤ 100000000 := by omega
        rw [hq] at HS1 ⊢
        have HG2 := hide HG1
        have HS2 := hide HS1
        have HQ := hide hq
        clear hx hq HG1 HS1
        obtain ⟨rs, hrs⟩ : ∃ rs, mixR coD (mkCods K xs) xs j = rs := ⟨_, rfl⟩
        rw [hrs] at HO HA1 HL1 HG2 HS2
        clear hrs
        have h0 : ∀ i, i < 6 → rs.flatten[j * 6 + i]? = (coD x)[i]? := fun i hi => by rw [rows_get rs j i HA1.out (by have := HL1.out; omega) hi, HG2.out]
        go_wp2_with fail
        refine (markTextI _ _ (q) (by omega) (by omega) (by omega)).mono ?_
        rintro e w0 ⟨rfl, b0⟩
        replace HO := hide (HO.out.same (fun q hq => b0.block q (Owns.lt _ _ _ HO.out q hq).2))
        replace HC := hide (HC.out.trans (Chg.of_below b0))
        clear b0
        obtain ⟨d0, z0, hgF, ho⟩ := HO.out.cell hnd (i := j * 6) (z := .string x.n) (by rw [show j * 6 = j * 6 + 0 from rfl, h0 0 (by omega)]; rfl) (.string (mtx q))
        replace HO := hide ho
        replace HC := hide (HC.out.set hgF (j * 6) (.string (mtx q)))
        clear ho
        obtain ⟨d1, z1, hgF, ho⟩ := HO.out.cell hnd (i := j * 6 + 1) (z := .int .i64 x.o) (by rw [List.getElem?_set_ne (by omega), h0 1 (by omega)]; rfl) (.int .i64 ((q : Int) + 1))
        replace HO := hide ho
        replace HC := hide (HC.out.set hgF (j * 6 + 1) (.int .i64 ((q : Int) + 1)))
        clear ho
        obtain ⟨u2, G2, d2, p2, nd2, sb2, rc2⟩ := HO.out.part hnd (i := j * 6 + 2) (d := strs x.ps) (by rw [List.getElem?_set_ne (by omega), List.getElem?_set_ne (by omega), h0 2 (by omega)]; rfl)
        obtain ⟨aa2, cc2, eu2⟩ := p2.sl
        subst eu2
        have HP := hide p2
        have HRC := hide rc2
        have HLT := hide (fun q hq => (Owns.lt _ _ _ HO.out q hq).2)
        clear p2 rc2
        go_wp2_with fail
        clear d0 z0 d1 z1 d2
        refine (mkStrsR _ b (q + 2) _ (by omega) _ x.ps G2 HP.out nd2 (by omega) (by omega)).mono ?_
        rintro e w2 ⟨rfl, o2, ch2⟩
        replace HO := hide (HRC.out w2 (strs (mkStrs (q + 2) x.ps)) o2 (fun q hq hq' => ch2.block q (HLT.out q hq) hq'))
        replace HC := hide (HC.out.trans (ch2.mono sb2))
        clear o2 ch2 HP HRC HLT
        obtain ⟨r2, hr2⟩ : ∃ r, q + 2 + cntStrs x.ps = r := ⟨_, rfl⟩
        rw [hr2]
        have HRR2 := hide hr2
        go_wp2_with fail
        refine (markTextI _ _ (r2) (by omega) (by omega) (by omega)).mono ?_
        rintro e w2 ⟨rfl, b2⟩
        replace HO := hide (HO.out.same (fun q hq => b2.block q (Owns.lt _ _ _ HO.out q hq).2))
        replace HC := hide (HC.out.trans (Chg.of_below b2))
        clear b2
        obtain ⟨d3, z3, hgF, ho⟩ := HO.out.cell hnd (i := j * 6 + 3) (z := .string x.r) (by rw [List.getElem?_set_ne (by omega), List.getElem?_set_ne (by omega), List.getElem?_set_ne (by omega), h0 3 (by omega)]; rfl) (.string (mtx r2))
        replace HO := hide ho
        replace HC := hide (HC.out.set hgF (j * 6 + 3) (.string (mtx r2)))
        clear ho
        obtain ⟨d4, z4, hgF, ho⟩ := HO.out.cell hnd (i := j * 6 + 4) (z := .int .i64 x.l) (by rw [List.getElem?_set_ne (by omega), List.getElem?_set_ne (by omega), List.getElem?_set_ne (by omega), List.getElem?_set_ne (by omega), h0 4 (by omega)]; rfl) (.int .i64 ((r2 : Int) + 1))
        replace HO := hide ho
        replace HC := hide (HC.out.set hgF (j * 6 + 4) (.int .i64 ((r2 : Int) + 1)))
        clear ho
        obtain ⟨u5, G5, d5, p5, nd5, sb5, rc5⟩ := HO.out.part hnd (i := j * 6 + 5) (d := inss x.is) (by rw [List.getElem?_set_ne (by omega), List.getElem?_set_ne (by omega), List.getElem?_set_ne (by omega), List.getElem?_set_ne (by omega), List.getElem?_set_ne (by omega), h0 5 (by omega)]; rfl)
        obtain ⟨aa5, cc5, eu5⟩ := p5.sl
        subst eu5
        have HP := hide p5
        have HRC := hide rc5
        have HLT := hide (fun q hq => (Owns.lt _ _ _ HO.out q hq).2)
        clear p5 rc5
        go_wp2_with fail
        clear d3 z3 d4 z4 d5
        refine (mkInssR _ b (r2 + 2) _ (by omega) _ x.is G5 HP.out nd5 (by omega) (by omega)).mono ?_
        rintro e w4 ⟨rfl, o4, ch4⟩
        replace HO := hide (HRC.out w4 (inss (mkInss (r2 + 2) x.is)) o4 (fun q hq hq' => ch4.block q (HLT.out q hq) hq'))
        replace HC := hide (HC.out.trans (ch4.mono sb5))
        clear o4 ch4 HP HRC HLT
        obtain ⟨r5, hr5⟩ : ∃ r, r2 + 2 + cntInss x.is = r := ⟨_, rfl⟩
        rw [hr5]
        have HRR5 := hide hr5
        have HZ : Hid (((((((rs.flatten.set (j * 6) (.val (.string (mtx q)))).set (j * 6 + 1) (.val (.int .i64 ((q : Int) + 1)))).set (j * 6 + 2) (strs (mkStrs (q + 2) x.ps))).set (j * 6 + 3) (.val (.string (mtx r2)))).set (j * 6 + 4) (.val (.int .i64 ((r2 : Int) + 1)))).set (j * 6 + 5) (inss (mkInss (r2 + 2) x.is))) = (rs.set j (coD (mkCo q x))).flatten) := hide (by
          have hl := HL1.out
          have hlen : ∀ (rs' : List (List Dt)) (r : List Dt), (∀ r ∈ rs', r.length = 6) → r.length = 6 → ∀ r' ∈ rs'.set j r, r'.length = 6 := fun rs' r h1 h2 r' hr => by
            rcases List.mem_or_eq_of_mem_set hr with h | h
            · exact h1 r' h
            · rw [h]; exact h2
          rw [show j * 6 = j * 6 + 0 from rfl]
          rw [rows_set rs j 0 _ HA1.out (by omega) (by omega), HG2.out]
          rw [rows_set _ j 1 _ (hlen _ _ HA1.out rfl) (by rw [List.length_set]; omega) (by omega), List.getD_eq_getElem?_getD, List.getElem?_set_self (by omega), Option.getD_some, List.set_set]
          rw [rows_set _ j 2 _ (hlen _ _ HA1.out rfl) (by rw [List.length_set]; omega) (by omega), List.getD_eq_getElem?_getD, List.getElem?_set_self (by omega), Option.getD_some, List.set_set]
          rw [rows_set _ j 3 _ (hlen _ _ HA1.out rfl) (by rw [List.length_set]; omega) (by omega), List.getD_eq_getElem?_getD, List.getElem?_set_self (by omega), Option.getD_some, List.set_set]
          rw [rows_set _ j 4 _ (hlen _ _ HA1.out rfl) (by rw [List.length_set]; omega) (by omega), List.getD_eq_getElem?_getD, List.getElem?_set_self (by omega), Option.getD_some, List.set_set]
          rw [rows_set _ j 5 _ (hlen _ _ HA1.out rfl) (by rw [List.length_set]; omega) (by omega), List.getD_eq_getElem?_getD, List.getElem?_set_self (by omega), Option.getD_some, List.set_set]
          unfold coD mkCo
          rw [HRR2.out]
          rfl)
        rw [HZ.out, HS2.out] at HO
        go_wp2
        exact ⟨⟨j + 1, by omega, by have hh := HQ.out; congr 1; omega, by go_num, HO, HC⟩, by simp [intOf]; omega⟩
      · obtain rfl : j = n := by omega
        have HF := hide (HEN.out _ HO.out)
        go_wp2
        go_ret
        exact ⟨by rw [HTE.out]; rfl, HF.out, HC.out⟩
def kdCnt (x : Kd) : Nat := 2 + cntPool x.p + cntFlds x.f + cntCods x.m
def mkKd (k : Nat) (x : Kd) : Kd := ⟨mtx (k), ((k : Nat) : Int) + 1, mkPool (k + 2) x.p, mkFlds (k + 2 + cntPool x.p) x.f, mkCods (k + 2 + cntPool x.p + cntFlds x.f) x.m⟩
theorem kdCnt_le (x : Kd) : kdCnt x ≤ 8 * kdW x + 8 := by
  have h_p := cntPool_le x.p
  have h_f := cntFlds_le x.f
  have h_m := cntCods_le x.m
  unfold kdCnt kdW
  omega
def mkKins : Nat → List Kd → List Kd
  | _, [] => []
  | k, x :: xs => mkKd k x :: mkKins (k + kdCnt x) xs
def cntKins (xs : List Kd) : Nat := tot kdCnt xs
theorem mkKins_len : ∀ (k : Nat) (xs : List Kd), (mkKins k xs).length = xs.length
  | _, [] => rfl
  | k, x :: xs => by simp [mkKins, mkKins_len _ xs]
theorem mkKins_get : ∀ (k : Nat) (xs : List Kd) (j : Nat), j < xs.length → (mkKins k xs).getD j default = mkKd (k + tot kdCnt (xs.take j)) (xs.getD j default)
  | k, [], j, h => by simp at h
  | k, x :: xs, 0, h => by simp [mkKins, tot]
  | k, x :: xs, j + 1, h => by
    rw [mkKins, List.getD_cons_succ, mkKins_get _ xs j (by simpa using h), List.getD_cons_succ]
    congr 1
    unfold tot
    rw [List.take_succ_cons, List.map_cons, List.sum_cons]; omega
theorem cntKins_le (xs : List Kd) : cntKins xs ≤ 8 * kinsW xs := tot_cnt kdCnt kdW kdCnt_le xs
set_option maxRecDepth 100000 in
set_option maxHeartbeats 4000000 in
theorem mkKinsR (w : World) (b K : Nat) (m : Int) (hmK : m = (K : Int)) (v : Value) (xs : List Kd) (F : List Nat) (h : Owns w b (kins xs) v F) (hnd : F.Nodup) (hK : 0 < K) (hm : K + cntKins xs ≤ 100000000) :
    Calls Try.prog 55 #[v, .int .i64 m] w fun e w' => e = .returned (.int .i64 ((K + cntKins xs : Nat) : Int)) ∧ Owns w' b (kins (mkKins K xs)) v F ∧ Chg F w w' := by
  subst hmK
  have HCN : Hid (cntKins xs = tot kdCnt xs) := hide rfl
  rw [HCN.out] at hm
  have HST : Hid (Owns w b (.row 93 5 xs.length ((mixR kdD (mkKins K xs) xs 0).flatten)) v F) := hide (by rw [mixR_zero]; exact h)
  have HEN : Hid (∀ W, Owns W b (.row 93 5 xs.length ((mixR kdD (mkKins K xs) xs xs.length).flatten)) v F → Owns W b (kins (mkKins K xs)) v F) := hide (fun W h => by rw [mixR_end _ (mkKins_len K _)] at h; unfold kins; rw [mkKins_len]; exact h)
  have hML := mkKins_len K xs
  have HTS : Hid (∀ j, j < xs.length → tot kdCnt (xs.take (j + 1)) = tot kdCnt (xs.take j) + kdCnt (xs.getD j default)) := hide (fun j hj => tot_step _ xs j hj)
  have HTL : Hid (∀ j, tot kdCnt (xs.take j) ≤ tot kdCnt xs) := hide (tot_le _ xs)
  have HTE : Hid (tot kdCnt (xs.take xs.length) = tot kdCnt xs) := hide (by rw [List.take_length])
  have HG : Hid (∀ j, j < xs.length → (mixR kdD (mkKins K xs) xs j).getD j [] = kdD (xs.getD j default)) := hide (fun j hj => mixR_get _ hML hj)
  have HS : Hid (∀ j, j < xs.length → (mixR kdD (mkKins K xs) xs j).set j (kdD (mkKd (K + tot kdCnt (xs.take j)) (xs.getD j default))) = mixR kdD (mkKins K xs) xs (j + 1)) := hide (fun j hj => by rw [← mkKins_get K xs j hj]; exact mixR_step _ hML hj)
  have HA : Hid (∀ j, ∀ r ∈ mixR kdD (mkKins K xs) xs j, r.length = 5) := hide (fun j => mixR_all (f := kdD) (k := 5) (fun _ => rfl) _ _ j)
  have HLn : Hid (∀ j, j ≤ xs.length → (mixR kdD (mkKins K xs) xs j).length = xs.length) := hide (fun j hj => mixR_len _ hML hj)
  have hxl : xs.length ≤ tot kdCnt xs := tot_one _ (fun _ => by unfold kdCnt; omega) xs
  have hsl := h.slice
  clear h hML
  rw [HCN.out]
  generalize hn : xs.length = n at *
  rcases hsl with ⟨rfl, rfl⟩ | ⟨g, c, rfl⟩
  · have hx0 : xs = [] := List.eq_nil_of_length_eq_zero hn
    have HX0 : Hid (tot kdCnt xs = 0) := hide (by rw [hx0]; rfl)
    go_enter Try.func55, Try.ntmps55
    go_wp2
    go_loopw [1, 5] (fun q i wr => q = .int .i64 (K : Int) ∧ i = .int .i64 0 ∧ wr = w) (fun _ _ _ => 0)
    case atStart => exact ⟨rfl, rfl, rfl⟩
    case round =>
      obtain ⟨rfl, rfl, rfl⟩ := hrel
      go_wp2
      go_ret
      exact ⟨by rw [HX0.out]; rfl, HEN.out _ HST.out, Chg.refl _ _⟩
  · go_enter Try.func55, Try.ntmps55
    go_wp2
    go_loopw [1, 5] (fun q i wr => ∃ j : Nat, j ≤ n ∧ q = .int .i64 ((K + tot kdCnt (xs.take j) : Nat) : Int) ∧ i = .int .i64 (j : Int) ∧ Hid (Owns wr b (.row 93 5 n ((mixR kdD (mkKins K xs) xs j).flatten)) (.slice (some ⟨g, 0, none⟩) n c) F) ∧ Hid (Chg F w wr)) (fun _ i _ => n - (intOf i).toNat)
    case atStart => exact ⟨0, Nat.zero_le _, by simp [tot], rfl, HST, hide (Chg.refl _ _)⟩
    case round =>
      clear HST
      obtain ⟨j, hj, rfl, rfl, HO, HC⟩ := hrel
      by_cases hlt : j < n
      · have hcap : n ≤ c := by
          have := HO.out
          unfold Owns at this
          obtain ⟨us, G, h2, _⟩ := this
          obtain ⟨_, a, cap, e, h3, _⟩ := rd_own h2 (Nat.le_refl _)
          cases e
          exact h3
        obtain ⟨q, hq⟩ : ∃ q, K + tot kdCnt (xs.take j) = q := ⟨_, rfl⟩
        have hq0 : 0 < q := by omega
        have hts := HTS.out j hlt
        have htl := HTL.out (j + 1)
        have HA1 := hide (HA.out j)
        have HL1 := hide (HLn.out j hj)
        have HG1 := HG.out j hlt
        have HS1 := HS.out j hlt
        obtain ⟨x, hx⟩ : ∃ x, xs.getD j default = x := ⟨_, rfl⟩
        rw [hx] at HG1 HS1 hts
        have hcm : kdCnt x = 2 + cntPool x.p + cntFlds x.f + cntCods x.m := rfl
        have hqm : q + (2 + cntPool x.p + cntFlds x.f + cntCods x.m) ≤ 100000000 := by omega
        rw [hq] at HS1 ⊢
        have HG2 := hide HG1
        have HS2 := hide HS1
        have HQ := hide hq
        clear hx hq HG1 HS1
        obtain ⟨rs, hrs⟩ : ∃ rs, mixR kdD (mkKins K xs) xs j = rs := ⟨_, rfl⟩
        rw [hrs] at HO HA1 HL1 HG2 HS2
        clear hrs
        have h0 : ∀ i, i < 5 → rs.flatten[j * 5 + i]? = (kdD x)[i]? := fun i hi => by rw [rows_get rs j i HA1.out (by have := HL1.out; omega) hi, HG2.out]
        go_wp2_with fail
        refine (markTextI _ _ (q) (by omega) (by omega) (by omega)).mono ?_
        rintro e w0 ⟨rfl, b0⟩
        replace HO := hide (HO.out.same (fun q hq => b0.block q (Owns.lt _ _ _ HO.out q hq).2))
        replace HC := hide (HC.out.trans (Chg.of_below b0))
        clear b0
        obtain ⟨d0, z0, hgF, ho⟩ := HO.out.cell hnd (i := j * 5) (z := .string x.n) (by rw [show j * 5 = j * 5 + 0 from rfl, h0 0 (by omega)]; rfl) (.string (mtx q))
        replace HO := hide ho
        replace HC := hide (HC.out.set hgF (j * 5) (.string (mtx q)))
        clear ho
        obtain ⟨d1, z1, hgF, ho⟩ := HO.out.cell hnd (i := j * 5 + 1) (z := .int .i64 x.s) (by rw [List.getElem?_set_ne (by omega), h0 1 (by omega)]; rfl) (.int .i64 ((q : Int) + 1))
        replace HO := hide ho
        replace HC := hide (HC.out.set hgF (j * 5 + 1) (.int .i64 ((q : Int) + 1)))
        clear ho
        obtain ⟨u2, G2, d2, p2, nd2, sb2, rc2⟩ := HO.out.part hnd (i := j * 5 + 2) (d := pool x.p) (by rw [List.getElem?_set_ne (by omega), List.getElem?_set_ne (by omega), h0 2 (by omega)]; rfl)
        obtain ⟨aa2, cc2, eu2⟩ := p2.sl
        subst eu2
        have HP := hide p2
        have HRC := hide rc2
        have HLT := hide (fun q hq => (Owns.lt _ _ _ HO.out q hq).2)
        clear p2 rc2
        go_wp2_with fail
        clear d0 z0 d1 z1 d2
        refine (mkPoolR _ b (q + 2) _ (by omega) _ x.p G2 HP.out nd2 (by omega) (by omega)).mono ?_
        rintro e w2 ⟨rfl, o2, ch2⟩
        replace HO := hide (HRC.out w2 (pool (mkPool (q + 2) x.p)) o2 (fun q hq hq' => ch2.block q (HLT.out q hq) hq'))
        replace HC := hide (HC.out.trans (ch2.mono sb2))
        clear o2 ch2 HP HRC HLT
        obtain ⟨r2, hr2⟩ : ∃ r, q + 2 + cntPool x.p = r := ⟨_, rfl⟩
        rw [hr2]
        have HRR2 := hide hr2
        obtain ⟨u3, G3, d3, p3, nd3, sb3, rc3⟩ := HO.out.part hnd (i := j * 5 + 3) (d := flds x.f) (by rw [List.getElem?_set_ne (by omega), List.getElem?_set_ne (by omega), List.getElem?_set_ne (by omega), h0 3 (by omega)]; rfl)
        obtain ⟨aa3, cc3, eu3⟩ := p3.sl
        subst eu3
        have HP := hide p3
        have HRC := hide rc3
        have HLT := hide (fun q hq => (Owns.lt _ _ _ HO.out q hq).2)
        clear p3 rc3
        go_wp2_with fail
        clear d3
        refine (mkFldsR _ b (r2) _ (by omega) _ x.f G3 HP.out nd3 (by omega) (by omega)).mono ?_
        rintro e w3 ⟨rfl, o3, ch3⟩
        replace HO := hide (HRC.out w3 (flds (mkFlds (r2) x.f)) o3 (fun q hq hq' => ch3.block q (HLT.out q hq) hq'))
        replace HC := hide (HC.out.trans (ch3.mono sb3))
        clear o3 ch3 HP HRC HLT
        obtain ⟨r3, hr3⟩ : ∃ r, r2 + cntFlds x.f = r := ⟨_, rfl⟩
        rw [hr3]
        have HRR3 := hide hr3
        obtain ⟨u4, G4, d4, p4, nd4, sb4, rc4⟩ := HO.out.part hnd (i := j * 5 + 4) (d := cods x.m) (by rw [List.getElem?_set_ne (by omega), List.getElem?_set_ne (by omega), List.getElem?_set_ne (by omega), List.getElem?_set_ne (by omega), h0 4 (by omega)]; rfl)
        obtain ⟨aa4, cc4, eu4⟩ := p4.sl
        subst eu4
        have HP := hide p4
        have HRC := hide rc4
        have HLT := hide (fun q hq => (Owns.lt _ _ _ HO.out q hq).2)
        clear p4 rc4
        go_wp2_with fail
        clear d4
        refine (mkCodsR _ b (r3) _ (by omega) _ x.m G4 HP.out nd4 (by omega) (by omega)).mono ?_
        rintro e w4 ⟨rfl, o4, ch4⟩
        replace HO := hide (HRC.out w4 (cods (mkCods (r3) x.m)) o4 (fun q hq hq' => ch4.block q (HLT.out q hq) hq'))
        replace HC := hide (HC.out.trans (ch4.mono sb4))
        clear o4 ch4 HP HRC HLT
        obtain ⟨r4, hr4⟩ : ∃ r, r3 + cntCods x.m = r := ⟨_, rfl⟩
        rw [hr4]
        have HRR4 := hide hr4
        have HZ : Hid ((((((rs.flatten.set (j * 5) (.val (.string (mtx q)))).set (j * 5 + 1) (.val (.int .i64 ((q : Int) + 1)))).set (j * 5 + 2) (pool (mkPool (q + 2) x.p))).set (j * 5 + 3) (flds (mkFlds (r2) x.f))).set (j * 5 + 4) (cods (mkCods (r3) x.m))) = (rs.set j (kdD (mkKd q x))).flatten) := hide (by
          have hl := HL1.out
          have hlen : ∀ (rs' : List (List Dt)) (r : List Dt), (∀ r ∈ rs', r.length = 5) → r.length = 5 → ∀ r' ∈ rs'.set j r, r'.length = 5 := fun rs' r h1 h2 r' hr => by
            rcases List.mem_or_eq_of_mem_set hr with h | h
            · exact h1 r' h
            · rw [h]; exact h2
          rw [show j * 5 = j * 5 + 0 from rfl]
          rw [rows_set rs j 0 _ HA1.out (by omega) (by omega), HG2.out]
          rw [rows_set _ j 1 _ (hlen _ _ HA1.out rfl) (by rw [List.length_set]; omega) (by omega), List.getD_eq_getElem?_getD, List.getElem?_set_self (by omega), Option.getD_some, List.set_set]
          rw [rows_set _ j 2 _ (hlen _ _ HA1.out rfl) (by rw [List.length_set]; omega) (by omega), List.getD_eq_getElem?_getD, List.getElem?_set_self (by omega), Option.getD_some, List.set_set]
          rw [rows_set _ j 3 _ (hlen _ _ HA1.out rfl) (by rw [List.length_set]; omega) (by omega), List.getD_eq_getElem?_getD, List.getElem?_set_self (by omega), Option.getD_some, List.set_set]
          rw [rows_set _ j 4 _ (hlen _ _ HA1.out rfl) (by rw [List.length_set]; omega) (by omega), List.getD_eq_getElem?_getD, List.getElem?_set_self (by omega), Option.getD_some, List.set_set]
          unfold kdD mkKd
          rw [HRR2.out]
          rw [HRR3.out]
          rfl)
        rw [HZ.out, HS2.out] at HO
        go_wp2
        exact ⟨⟨j + 1, by omega, by have hh := HQ.out; congr 1; omega, by go_num, HO, HC⟩, by simp [intOf]; omega⟩
      · obtain rfl : j = n := by omega
        have HF := hide (HEN.out _ HO.out)
        go_wp2
        go_ret
        exact ⟨by rw [HTE.out]; rfl, HF.out, HC.out⟩
def mkoPg (k : Nat) (x : Pg) : Pg := ⟨mkKins (k) x.k⟩
def pgCto (x : Pg) : Nat := cntKins x.k
theorem pgCto_le (x : Pg) : pgCto x ≤ 8 * pgW x := by
  have h_k := cntKins_le x.k
  unfold pgCto pgW
  omega
theorem pgD_owns {w : World} {b : Nat} {x : Pg} {u1 : Value} {F : List Nat} (h : OwnsL w b (pgD x) [u1] F) :
    ∃ F1, F = F1 ∧ Owns w b (kins x.k) u1 F1 := by
  unfold pgD at h
  obtain ⟨_, _, F1, _, e, rfl, h0, h⟩ := ownsL_cons h
  cases e
  unfold OwnsL at h
  refine ⟨F1, ?_, h0⟩
  rw [h.2]
  simp
theorem pgD_mk {w : World} {b : Nat} {x : Pg} {u1 : Value} {F1 : List Nat} (h1 : Owns w b (kins x.k) u1 F1) : OwnsL w b (pgD x) [u1] (F1) := by
  have := ownsL_mk h1 (ownsL_nil)
  simp at this
  exact this
set_option maxRecDepth 100000 in
set_option maxHeartbeats 4000000 in
theorem mkPgO (w : World) (b K : Nat) (x : Pg) (u1 : Value) (F : List Nat) (h : OwnsL w b (pgD x) [u1] F) (hnd : F.Nodup) (hK : 0 < K) (hm : K + pgCto x ≤ 100000000) :
    Calls Try.prog 19 #[pgV x u1, .int .i64 (K : Int)] w fun e w' => e = .returned (.int .i64 ((K + pgCto x : Nat) : Int)) ∧ OwnsL w' b (pgD (mkoPg K x)) [u1] F ∧ Chg F w w' := by
  obtain ⟨F, rfl, h1⟩ := pgD_owns h
  obtain ⟨a1, k1, e1⟩ := h1.sl
  subst e1
  have hcc : pgCto x = cntKins x.k := rfl
  have G0 := hide (heap_alloc_new w (.cells #[.slice a1 x.k.length k1] 34))
  have bA := (Below.refl w.heap.size w).alloc (Nat.le_refl _) (.cells #[.slice a1 x.k.length k1] 34)
  have L1 := Owns.lt _ _ _ h1
  have H1 := hide (h1.same (fun q hq => bA.block q (L1 q hq).2))
  have HC := hide (Chg.of_below (F := F) bA)
  have D01 : Hid (w.heap.size ∉ F) := hide (fun hm => by have := (L1 _ hm).2; omega)
  have N1 := hide hnd
  have S1 : Hid (∀ q ∈ F, q ∈ F) := hide (fun q hq => by simp [hq])
  clear h1 L1 bA h
  unfold pgV
  go_enter Try.func19, Try.ntmps19
  go_wp2_with fail
  generalize w.alloc (.cells #[.slice a1 x.k.length k1] 34) = W at *
  refine (mkKinsR _ b (K) _ rfl _ x.k F H1.out N1.out (by omega) (by omega)).mono ?_
  rintro e w1 ⟨rfl, o1, c1⟩
  replace H1 := hide o1
  replace HC := hide (HC.out.trans (c1.mono S1.out))
  clear o1 c1
  have HF := hide (pgD_mk (x := mkoPg K x) H1.out)
  have HE : Hid (K + pgCto x = K + cntKins x.k) := hide (by omega)
  go_wp2
  go_ret
  exact ⟨by rw [HE.out]; rfl, HF.out, HC.out⟩
theorem mkPgI (w : World) (b hi K : Nat) (m : Int) (hmK : m = (K : Int)) (x : Pg) (u1 : Value) (h : OwnDL w b hi (pgD x) [u1]) (hK : 0 < K) (hm : K + pgCto x ≤ 100000000) :
    Calls Try.prog 19 #[pgV x u1, .int .i64 m] w fun e w' => e = .returned (.int .i64 ((K + pgCto x : Nat) : Int)) ∧ OwnDL w' b hi (pgD (mkoPg K x)) [u1] ∧ ChgI b hi w w' := by
  subst hmK
  obtain ⟨F, h1, h2, h3⟩ := h
  have hl := OwnsL.lt _ _ _ h1
  refine (mkPgO w b K x u1 F h1 h2 hK hm).mono ?_
  rintro e w1 ⟨rfl, o1, c1⟩
  exact ⟨rfl, ⟨F, o1, h2, h3⟩, c1.int (fun q hq => ⟨(hl q hq).1, h3 q hq⟩)⟩
end Go.Proofs.Ythlaihkpffddcaa
