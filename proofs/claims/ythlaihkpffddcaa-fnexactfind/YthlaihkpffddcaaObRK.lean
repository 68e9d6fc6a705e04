/-
  Objects as data. Marks, and what is held.
-/
import Derived.Test.YthlaihkpffddcaaObR
namespace Go.Proofs.Ythlaihkpffddcaa
open Go.ChangeShapes Go.WideShapes Go.RowKit

def obCnt (x : Ob) : Nat := 2 + cntVls x.f
def mkOb (k : Nat) (x : Ob) : Ob := ⟨((k : Nat) : Int), ((k : Nat) : Int) + 1, mkVls (k + 2) x.f⟩
theorem obCnt_le (x : Ob) : obCnt x ≤ 8 * obW x + 8 := by
  have h_f := cntVls_le x.f
  unfold obCnt obW
  omega
def mkObs : Nat → List Ob → List Ob
  | _, [] => []
  | k, x :: xs => mkOb k x :: mkObs (k + obCnt x) xs
def cntObs (xs : List Ob) : Nat := tot obCnt xs
theorem mkObs_len : ∀ (k : Nat) (xs : List Ob), (mkObs k xs).length = xs.length
  | _, [] => rfl
  | k, x :: xs => by simp [mkObs, mkObs_len _ xs]
theorem mkObs_get : ∀ (k : Nat) (xs : List Ob) (j : Nat), j < xs.length → (mkObs k xs).getD j default = mkOb (k + tot obCnt (xs.take j)) (xs.getD j default)
  | k, [], j, h => by simp at h
  | k, x :: xs, 0, h => by simp [mkObs, tot]
  | k, x :: xs, j + 1, h => by
    rw [mkObs, List.getD_cons_succ, mkObs_get _ xs j (by simpa using h), List.getD_cons_succ]
    congr 1
    unfold tot
    rw [List.take_succ_cons, List.map_cons, List.sum_cons]; omega
theorem cntObs_le (xs : List Ob) : cntObs xs ≤ 8 * obsW xs := tot_cnt obCnt obW obCnt_le xs
set_option maxRecDepth 100000 in
set_option maxHeartbeats 4000000 in
theorem mkObsR (w : World) (b K : Nat) (m : Int) (hmK : m = (K : Int)) (v : Value) (xs : List Ob) (F : List Nat) (h : Owns w b (obs xs) v F) (hnd : F.Nodup) (hK : 0 < K) (hm : K + cntObs xs ≤ 100000000) :
    Calls Try.prog 59 #[v, .int .i64 m] w fun e w' => e = .returned (.int .i64 ((K + cntObs xs : Nat) : Int)) ∧ Owns w' b (obs (mkObs K xs)) v F ∧ Chg F w w' := by
  subst hmK
  have HCN : Hid (cntObs xs = tot obCnt xs) := hide rfl
  rw [HCN.out] at hm
  have HST : Hid (Owns w b (.row 51 3 xs.length ((mixR obD (mkObs K xs) xs 0).flatten)) v F) := hide (by rw [mixR_zero]; exact h)
  have HEN : Hid (∀ W, Owns W b (.row 51 3 xs.length ((mixR obD (mkObs K xs) xs xs.length).flatten)) v F → Owns W b (obs (mkObs K xs)) v F) := hide (fun W h => by rw [mixR_end _ (mkObs_len K _)] at h; unfold obs; rw [mkObs_len]; exact h)
  have hML := mkObs_len K xs
  have HTS : Hid (∀ j, j < xs.length → tot obCnt (xs.take (j + 1)) = tot obCnt (xs.take j) + obCnt (xs.getD j default)) := hide (fun j hj => tot_step _ xs j hj)
  have HTL : Hid (∀ j, tot obCnt (xs.take j) ≤ tot obCnt xs) := hide (tot_le _ xs)
  have HTE : Hid (tot obCnt (xs.take xs.length) = tot obCnt xs) := hide (by rw [List.take_length])
  have HG : Hid (∀ j, j < xs.length → (mixR obD (mkObs K xs) xs j).getD j [] = obD (xs.getD j default)) := hide (fun j hj => mixR_get _ hML hj)
  have HS : Hid (∀ j, j < xs.length → (mixR obD (mkObs K xs) xs j).set j (obD (mkOb (K + tot obCnt (xs.take j)) (xs.getD j default))) = mixR obD (mkObs K xs) xs (j + 1)) := hide (fun j hj => by rw [← mkObs_get K xs j hj]; exact mixR_step _ hML hj)
  have HA : Hid (∀ j, ∀ r ∈ mixR obD (mkObs K xs) xs j, r.length = 3) := hide (fun j => mixR_all (f := obD) (k := 3) (fun _ => rfl) _ _ j)
  have HLn : Hid (∀ j, j ≤ xs.length → (mixR obD (mkObs K xs) xs j).length = xs.length) := hide (fun j hj => mixR_len _ hML hj)
  have hxl : xs.length ≤ tot obCnt xs := tot_one _ (fun _ => by unfold obCnt; omega) xs
  have hsl := h.slice
  clear h hML
  rw [HCN.out]
  generalize hn : xs.length = n at *
  rcases hsl with ⟨rfl, rfl⟩ | ⟨g, c, rfl⟩
  · have hx0 : xs = [] := List.eq_nil_of_length_eq_zero hn
    have HX0 : Hid (tot obCnt xs = 0) := hide (by rw [hx0]; rfl)
    go_enter Try.func59, Try.ntmps59
    go_wp2
    go_loopw [1, 5] (fun q i wr => q = .int .i64 (K : Int) ∧ i = .int .i64 0 ∧ wr = w) (fun _ _ _ => 0)
    case atStart => exact ⟨rfl, rfl, rfl⟩
    case round =>
      obtain ⟨rfl, rfl, rfl⟩ := hrel
      go_wp2
      go_ret
      exact ⟨by rw [HX0.out]; rfl, HEN.out _ HST.out, Chg.refl _ _⟩
  · go_enter Try.func59, Try.ntmps59
    go_wp2
    go_loopw [1, 5] (fun q i wr => ∃ j : Nat, j ≤ n ∧ q = .int .i64 ((K + tot obCnt (xs.take j) : Nat) : Int) ∧ i = .int .i64 (j : Int) ∧ Hid (Owns wr b (.row 51 3 n ((mixR obD (mkObs K xs) xs j).flatten)) (.slice (some ⟨g, 0, none⟩) n c) F) ∧ Hid (Chg F w wr)) (fun _ i _ => n - (intOf i).toNat)
    case atStart => exact ⟨0, Nat.zero_le _, by simp [tot], rfl, HST, hide (Chg.refl _ _)⟩
    case round =>
      clear HST
      obtain ⟨j, hj, rfl, rfl, HO, HC⟩ := hrel
      by_cases hlt : j < n
      · have hcap : n ≤ c := by
          have := HO.out
          unfold Owns at this
          obtain ⟨us, G, h2, _⟩ := this
          obtain ⟨_, a, cap, e, h3, _⟩ := rd_own h2 (Nat.le_refl _)
          cases e
          exact h3
        obtain ⟨q, hq⟩ : ∃ q, K + tot obCnt (xs.take j) = q := ⟨_, rfl⟩
        have hq0 : 0 < q := by omega
        have hts := HTS.out j hlt
        have htl := HTL.out (j + 1)
        have HA1 := hide (HA.out j)
        have HL1 := hide (HLn.out j hj)
        have HG1 := HG.out j hlt
        have HS1 := HS.out j hlt
        obtain ⟨x, hx⟩ : ∃ x, xs.getD j default = x := ⟨_, rfl⟩
        rw [hx] at HG1 HS1 hts
        have hcm : obCnt x = 2 + cntVls x.f := rfl
        have hqm : q + (2 + cntVls x.f) ≤ 100000000 := by omega
        rw [hq] at HS1 ⊢
        have HG2 := hide HG1
        have HS2 := hide HS1
        have HQ := hide hq
        clear hx hq HG1 HS1
        obtain ⟨rs, hrs⟩ : ∃ rs, mixR obD (mkObs K xs) xs j = rs := ⟨_, rfl⟩
        rw [hrs] at HO HA1 HL1 HG2 HS2
        clear hrs
        have h0 : ∀ i, i < 3 → rs.flatten[j * 3 + i]? = (obD x)[i]? := fun i hi => by rw [rows_get rs j i HA1.out (by have := HL1.out; omega) hi, HG2.out]
        obtain ⟨d0, z0, hgF, ho⟩ := HO.out.cell hnd (i := j * 3) (z := .int .i64 x.i) (by rw [show j * 3 = j * 3 + 0 from rfl, h0 0 (by omega)]; rfl) (.int .i64 (q : Int))
        replace HO := hide ho
        replace HC := hide (HC.out.set hgF (j * 3) (.int .i64 (q : Int)))
        clear ho
        obtain ⟨d1, z1, hgF, ho⟩ := HO.out.cell hnd (i := j * 3 + 1) (z := .int .i64 x.c) (by rw [List.getElem?_set_ne (by omega), h0 1 (by omega)]; rfl) (.int .i64 ((q : Int) + 1))
        replace HO := hide ho
        replace HC := hide (HC.out.set hgF (j * 3 + 1) (.int .i64 ((q : Int) + 1)))
        clear ho
        obtain ⟨u2, G2, d2, p2, nd2, sb2, rc2⟩ := HO.out.part hnd (i := j * 3 + 2) (d := vls x.f) (by rw [List.getElem?_set_ne (by omega), List.getElem?_set_ne (by omega), h0 2 (by omega)]; rfl)
        obtain ⟨aa2, cc2, eu2⟩ := p2.sl
        subst eu2
        have HP := hide p2
        have HRC := hide rc2
        have HLT := hide (fun q hq => (Owns.lt _ _ _ HO.out q hq).2)
        clear p2 rc2
        go_wp2_with fail
        clear d0 z0 d1 z1 d2
        refine (mkVlsR _ b (q + 2) _ (by omega) _ x.f G2 HP.out nd2 (by omega) (by omega)).mono ?_
        rintro e w1 ⟨rfl, o1, ch1⟩
        replace HO := hide (HRC.out w1 (vls (mkVls (q + 2) x.f)) o1 (fun q hq hq' => ch1.block q (HLT.out q hq) hq'))
        replace HC := hide (HC.out.trans (ch1.mono sb2))
        clear o1 ch1 HP HRC HLT
        obtain ⟨r2, hr2⟩ : ∃ r, q + 2 + cntVls x.f = r := ⟨_, rfl⟩
        rw [hr2]
        have HRR2 := hide hr2
        have HZ : Hid ((((rs.flatten.set (j * 3) (.val (.int .i64 (q : Int)))).set (j * 3 + 1) (.val (.int .i64 ((q : Int) + 1)))).set (j * 3 + 2) (vls (mkVls (q + 2) x.f))) = (rs.set j (obD (mkOb q x))).flatten) := hide (by
          have hl := HL1.out
          have hlen : ∀ (rs' : List (List Dt)) (r : List Dt), (∀ r ∈ rs', r.length = 3) → r.length = 3 → ∀ r' ∈ rs'.set j r, r'.length = 3 := fun rs' r h1 h2 r' hr => by
            rcases List.mem_or_eq_of_mem_set hr with h | h
            · exact h1 r' h
            · rw [h]; exact h2
          rw [show j * 3 = j * 3 + 0 from rfl]
          rw [rows_set rs j 0 _ HA1.out (by omega) (by omega), HG2.out]
          rw [rows_set _ j 1 _ (hlen _ _ HA1.out rfl) (by rw [List.length_set]; omega) (by omega), List.getD_eq_getElem?_getD, List.getElem?_set_self (by omega), Option.getD_some, List.set_set]
          rw [rows_set _ j 2 _ (hlen _ _ HA1.out rfl) (by rw [List.length_set]; omega) (by omega), List.getD_eq_getElem?_getD, List.getElem?_set_self (by omega), Option.getD_some, List.set_set]
          unfold obD mkOb
          rfl)
        rw [HZ.out, HS2.out] at HO
        go_wp2
        exact ⟨⟨j + 1, by omega, by have hh := HQ.out; congr 1; omega, by go_num, HO, HC⟩, by simp [intOf]; omega⟩
      · obtain rfl : j = n := by omega
        have HF := hide (HEN.out _ HO.out)
        go_wp2
        go_ret
        exact ⟨by rw [HTE.out]; rfl, HF.out, HC.out⟩
theorem mkObsI (w : World) (b hi K : Nat) (m : Int) (hmK : m = (K : Int)) (v : Value) (xs : List Ob) (h : OwnD w b hi (obs xs) v) (hK : 0 < K) (hm : K + cntObs xs ≤ 100000000) :
    Calls Try.prog 59 #[v, .int .i64 m] w fun e w' => e = .returned (.int .i64 ((K + cntObs xs : Nat) : Int)) ∧ OwnD w' b hi (obs (mkObs K xs)) v ∧ ChgI b hi w w' := by
  obtain ⟨F, h1, h2, h3⟩ := h
  have hl := Owns.lt _ _ _ h1
  refine (mkObsR w b K m hmK v xs F h1 h2 hK hm).mono ?_
  rintro e w1 ⟨rfl, o1, c1⟩
  exact ⟨rfl, ⟨F, o1, h2, h3⟩, c1.int (fun q hq => ⟨(hl q hq).1, h3 q hq⟩)⟩
set_option maxRecDepth 100000 in
set_option maxHeartbeats 8000000 in
theorem heldObsR (w : World) (K : Nat) (m : Int) (hmK : m = (K : Int)) (v : Value) (xs : List Ob) (h : Reads w w.heap.size (obs (mkObs K xs)) v) (hK : 0 < K) (hm : K + cntObs xs ≤ 100000000) :
    Calls Try.prog 64 #[v, .int .i64 m] w fun e w' => e = .returned (.int .i64 ((K + cntObs xs : Nat) : Int)) ∧ Below w.heap.size w w' := by
  subst hmK
  have HCN : Hid (cntObs xs = tot obCnt xs) := hide rfl
  rw [HCN.out] at hm ⊢
  have HX : Hid (∀ wr, Below w.heap.size w wr → _) := hide (fun wr hb => object_at (h.at hb))
  have HTS : Hid (∀ j, j < xs.length → tot obCnt (xs.take (j + 1)) = tot obCnt (xs.take j) + obCnt (xs.getD j default)) := hide (fun j hj => tot_step _ xs j hj)
  have HTL : Hid (∀ j, tot obCnt (xs.take j) ≤ tot obCnt xs) := hide (fun j => tot_le _ xs j)
  have HGt : Hid (∀ j, j < xs.length → (mkObs K xs).getD j default = mkOb (K + tot obCnt (xs.take j)) (xs.getD j default)) := hide (fun j hj => mkObs_get K xs j hj)
  have HTE : Hid (tot obCnt (xs.take xs.length) = tot obCnt xs) := hide (by rw [List.take_length])
  have HLe := hide (mkObs_len K xs)
  have hmx : xs.length ≤ tot obCnt xs := tot_one _ (fun _ => by unfold obCnt; omega) xs
  obtain ⟨a, cap, rfl, hlc, _⟩ := object_at h
  rw [mkObs_len] at hlc ⊢
  clear h
  obtain ⟨n, hn⟩ : ∃ n, xs.length = n := ⟨_, rfl⟩
  rw [hn] at hlc hmx ⊢
  have HLn := hide hn
  clear hn
  go_enter Try.func64, Try.ntmps64
  go_wp2
  go_loopw [1, 5] (fun q i wr => ∃ j : Nat, j ≤ n ∧ q = .int .i64 ((K + tot obCnt (xs.take j) : Nat) : Int) ∧ i = .int .i64 (j : Int) ∧ Hid (Below w.heap.size w wr)) (fun _ i _ => n - (intOf i).toNat)
  case atStart => exact ⟨0, Nat.zero_le _, by simp [tot], rfl, hide (Below.refl _ _)⟩
  case round =>
    obtain ⟨j, hj, rfl, rfl, HB⟩ := hrel
    by_cases hlt : j < n
    · have hlt' : j < xs.length := by have := HLn.out; omega
      have hts := HTS.out j hlt'
      have htl := HTL.out (j + 1)
      have hgt := HGt.out j hlt'
      obtain ⟨q, hq⟩ : ∃ q, K + tot obCnt (xs.take j) = q := ⟨_, rfl⟩
      obtain ⟨y, hy⟩ : ∃ y, xs.getD j default = y := ⟨_, rfl⟩
      rw [hy] at hts hgt
      rw [hq] at hgt ⊢
      have hcm : obCnt y = 2 + cntVls y.f := rfl
      have hq0 : 0 < q := by omega
      have hqm : q + (2 + cntVls y.f) ≤ 100000000 := by omega
      have HEND : Hid (K + tot obCnt (xs.take (j + 1)) = q + (2 + cntVls y.f)) := hide (by omega)
      obtain ⟨b, o, ha, hbb, pv1, f0, f1, f2, r2⟩ : ∃ b o, a = some ⟨b, o, none⟩ ∧ b < wr.heap.size ∧ ∃ pv1, wr.cell? ⟨b, o + j * 3, none⟩ = some (.int .i64 (((q : Nat) : Int))) ∧ wr.cell? ⟨b, o + j * 3 + 1, none⟩ = some (.int .i64 (((q : Nat) : Int) + 1)) ∧ wr.cell? ⟨b, o + j * 3 + 2, none⟩ = some (pv1) ∧ Reads wr wr.heap.size (vls (mkVls (q + 2) y.f)) pv1 := by
        obtain ⟨a', cap', e, _, _, hx⟩ := HX.out wr HB.out
        cases e
        obtain ⟨b, o, e, hb, hc⟩ := hx (by rw [HLe.out]; omega)
        obtain ⟨pv1, c0, c1, c2, r2⟩ := hc j (by rw [HLe.out]; exact hlt')
        rw [hgt] at c0 c1 r2
        exact ⟨b, o, e, hb, pv1, c0, c1, c2, r2⟩
      subst ha
      obtain ⟨la1, lc1, le1, _⟩ := r2.shape
      subst le1
      have HD : Hid (∀ wq, Below wr.heap.size wr wq → wq.cell? ⟨b, o + j * 3, none⟩ = some (.int .i64 (((q : Nat) : Int))) ∧ wq.cell? ⟨b, o + j * 3 + 1, none⟩ = some (.int .i64 (((q : Nat) : Int) + 1)) ∧ wq.cell? ⟨b, o + j * 3 + 2, none⟩ = some (.slice la1 (mkVls (q + 2) y.f).length lc1) ∧ Reads wq wq.heap.size (vls (mkVls (q + 2) y.f)) (.slice la1 (mkVls (q + 2) y.f).length lc1)) := hide (fun wq hb =>
        ⟨(hb.cell (p := ⟨b, o + j * 3, none⟩) hbb).trans f0, (hb.cell (p := ⟨b, o + j * 3 + 1, none⟩) hbb).trans f1, (hb.cell (p := ⟨b, o + j * 3 + 2, none⟩) hbb).trans f2, r2.at hb⟩)
      have HR := hide (Below.refl wr.heap.size wr)
      have HQ := hide hq
      clear hq f0 f1 f2 r2 hts htl hgt hcm
      rw [mkVls_len] at HD
      have d0 := (HD.out wr HR.out).1
      have n0 : ((((q : Nat) : Int)) != (((q : Nat) : Int))) = false := by simp
      have d1 := (HD.out wr HR.out).2.1
      have n1 : ((((q : Nat) : Int) + 1) != (((q : Nat) : Int) + 1)) = false := by simp
      have d2 := (HD.out wr HR.out).2.2.1
      go_wp2_with fail
      clear d0 n0 d1 n1 d2
      refine (heldVlsR _ (q + 2) _ (by omega) _ y.f (HD.out wr HR.out).2.2.2 (by omega) (by omega)).mono ?_
      rintro e wh1 ⟨rfl, b2⟩
      have HR2 := hide (HR.out.trans (b2.mono HR.out.size))
      clear b2 HR
      have hnn : ¬ (((q + 2 + cntVls y.f : Nat) : Int) < 0) := by omega
      have HRZ := hide (HB.out.trans (HR2.out.mono HB.out.size))
      go_wp2
      exact ⟨⟨j + 1, hlt, by rw [HEND.out]; exact congrArg (Value.int .i64) (by omega), by go_num, HRZ⟩, by simp [intOf]; omega⟩
    · obtain rfl : j = n := by omega
      have HE9 : Hid (K + tot obCnt (xs.take j) = K + tot obCnt xs) := hide (by rw [← HLn.out, HTE.out])
      go_wp2
      go_ret
      exact ⟨by rw [HE9.out]; rfl, HB.out⟩
def mkoOb (k : Nat) (x : Ob) : Ob := ⟨x.i, x.c, mkVls (k) x.f⟩
def obCto (x : Ob) : Nat := cntVls x.f
theorem obCto_le (x : Ob) : obCto x ≤ 8 * obW x := by
  have h_f := cntVls_le x.f
  unfold obCto obW
  omega
theorem obD_owns {w : World} {b : Nat} {x : Ob} {u1 : Value} {F : List Nat} (h : OwnsL w b (obD x) [.int .i64 x.i, .int .i64 x.c, u1] F) :
    ∃ F1, F = F1 ∧ Owns w b (vls x.f) u1 F1 := by
  unfold obD at h
  obtain ⟨_, _, _, _, e, rfl, h0, h⟩ := ownsL_cons h
  cases e
  unfold Owns at h0
  obtain ⟨_, _, _, _, e, rfl, h1, h⟩ := ownsL_cons h
  cases e
  unfold Owns at h1
  obtain ⟨_, _, F1, _, e, rfl, h2, h⟩ := ownsL_cons h
  cases e
  unfold OwnsL at h
  refine ⟨F1, ?_, h2⟩
  rw [h0.2, h1.2, h.2]
  simp
theorem obD_mk {w : World} {b : Nat} {x : Ob} {u1 : Value} {F1 : List Nat} (h1 : Owns w b (vls x.f) u1 F1) : OwnsL w b (obD x) [.int .i64 x.i, .int .i64 x.c, u1] (F1) := by
  have := ownsL_mk (owns_val (w := w) (b := b) (u := .int .i64 x.i)) (ownsL_mk (owns_val (w := w) (b := b) (u := .int .i64 x.c)) (ownsL_mk h1 (ownsL_nil)))
  simp at this
  exact this
set_option maxRecDepth 100000 in
set_option maxHeartbeats 4000000 in
theorem mkObO (w : World) (b K : Nat) (x : Ob) (u1 : Value) (F : List Nat) (h : OwnsL w b (obD x) [.int .i64 x.i, .int .i64 x.c, u1] F) (hnd : F.Nodup) (hK : 0 < K) (hm : K + obCto x ≤ 100000000) :
    Calls Try.prog 26 #[obV x u1, .int .i64 (K : Int)] w fun e w' => e = .returned (.int .i64 ((K + obCto x : Nat) : Int)) ∧ OwnsL w' b (obD (mkoOb K x)) [.int .i64 x.i, .int .i64 x.c, u1] F ∧ Chg F w w' := by
  obtain ⟨F, rfl, h1⟩ := obD_owns h
  obtain ⟨a1, k1, e1⟩ := h1.sl
  subst e1
  have hcc : obCto x = cntVls x.f := rfl
  have G0 := hide (heap_alloc_new w (.cells #[.int .i64 x.i, .int .i64 x.c, .slice a1 x.f.length k1] 51))
  have bA := (Below.refl w.heap.size w).alloc (Nat.le_refl _) (.cells #[.int .i64 x.i, .int .i64 x.c, .slice a1 x.f.length k1] 51)
  have L1 := Owns.lt _ _ _ h1
  have H1 := hide (h1.same (fun q hq => bA.block q (L1 q hq).2))
  have HC := hide (Chg.of_below (F := F) bA)
  have D01 : Hid (w.heap.size ∉ F) := hide (fun hm => by have := (L1 _ hm).2; omega)
  have N1 := hide hnd
  have S1 : Hid (∀ q ∈ F, q ∈ F) := hide (fun q hq => by simp [hq])
  clear h1 L1 bA h
  unfold obV
  go_enter Try.func26, Try.ntmps26
  go_wp2_with fail
  generalize w.alloc (.cells #[.int .i64 x.i, .int .i64 x.c, .slice a1 x.f.length k1] 51) = W at *
  refine (mkVlsR _ b (K) _ rfl _ x.f F H1.out N1.out (by omega) (by omega)).mono ?_
  rintro e w1 ⟨rfl, o1, c1⟩
  replace H1 := hide o1
  replace HC := hide (HC.out.trans (c1.mono S1.out))
  clear o1 c1
  have HF := hide (obD_mk (x := mkoOb K x) H1.out)
  have HE : Hid (K + obCto x = K + cntVls x.f) := hide (by omega)
  go_wp2
  go_ret
  exact ⟨by rw [HE.out]; rfl, HF.out, HC.out⟩
theorem mkObI (w : World) (b hi K : Nat) (m : Int) (hmK : m = (K : Int)) (x : Ob) (u1 : Value) (h : OwnDL w b hi (obD x) [.int .i64 x.i, .int .i64 x.c, u1]) (hK : 0 < K) (hm : K + obCto x ≤ 100000000) :
    Calls Try.prog 26 #[obV x u1, .int .i64 m] w fun e w' => e = .returned (.int .i64 ((K + obCto x : Nat) : Int)) ∧ OwnDL w' b hi (obD (mkoOb K x)) [.int .i64 x.i, .int .i64 x.c, u1] ∧ ChgI b hi w w' := by
  subst hmK
  obtain ⟨F, h1, h2, h3⟩ := h
  have hl := OwnsL.lt _ _ _ h1
  refine (mkObO w b K x u1 F h1 h2 hK hm).mono ?_
  rintro e w1 ⟨rfl, o1, c1⟩
  exact ⟨rfl, ⟨F, o1, h2, h3⟩, c1.int (fun q hq => ⟨(hl q hq).1, h3 q hq⟩)⟩
set_option maxRecDepth 100000 in
set_option maxHeartbeats 4000000 in
theorem heldObO (w : World) (K : Nat) (m : Int) (hmK : m = (K : Int)) (x : Ob) (u1 : Value) (h : ReadsL w w.heap.size (obD (mkoOb K x)) [.int .i64 x.i, .int .i64 x.c, u1]) (hK : 0 < K) (hm : K + obCto x ≤ 100000000) :
    Calls Try.prog 27 #[obV x u1, .int .i64 m] w fun e w' => e = .returned (.int .i64 ((K + obCto x : Nat) : Int)) ∧ Below w.heap.size w w' := by
  subst hmK
  obtain ⟨_, _, e, _, h⟩ := readsL_cons h
  cases e
  obtain ⟨_, _, e, _, h⟩ := readsL_cons h
  cases e
  obtain ⟨_, _, e, h1, h⟩ := readsL_cons h
  cases e
  replace h1 : Reads w w.heap.size (vls (mkVls (K) x.f)) u1 := h1
  obtain ⟨a1, k1, e1, _⟩ := h1.shape
  subst e1
  clear h
  rw [mkVls_len] at h1 ⊢
  have hc : obCto x = cntVls x.f := rfl
  have HC : Hid (K + obCto x = K + cntVls x.f) := hide (by omega)
  have bA := (Below.refl w.heap.size w).alloc (Nat.le_refl _) (.cells #[.int .i64 x.i, .int .i64 x.c, .slice a1 x.f.length k1] 51)
  have HX := hide (Box.new w #[.int .i64 x.i, .int .i64 x.c, .slice a1 x.f.length k1] 51)
  have HB := hide bA
  have H1 := hide (h1.at bA)
  have hgs : Hid (w.heap.size < (w.alloc (.cells #[.int .i64 x.i, .int .i64 x.c, .slice a1 x.f.length k1] 51)).heap.size) := hide (by simp)
  clear bA h1
  unfold obV
  go_enter Try.func27, Try.ntmps27
  go_wp2_with fail
  generalize w.alloc (.cells #[.int .i64 x.i, .int .i64 x.c, .slice a1 x.f.length k1] 51) = W at *
  refine (heldVlsR _ (K) _ rfl _ x.f H1.out (by omega) (by omega)).mono ?_
  rintro e w1 ⟨rfl, b1⟩
  replace HX := hide (HX.out.below hgs.out b1)
  replace hgs := hide (Nat.lt_of_lt_of_le hgs.out b1.size)
  replace HB := hide (HB.out.trans (b1.mono HB.out.size))
  clear b1
  have hn1 : ¬ (((K + cntVls x.f : Nat) : Int) < 0) := by omega
  go_wp2
  go_ret
  exact ⟨by rw [HC.out]; rfl, HB.out⟩
end Go.Proofs.Ythlaihkpffddcaa
