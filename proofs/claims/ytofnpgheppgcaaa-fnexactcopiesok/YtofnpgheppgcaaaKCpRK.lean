/-
  Copies as data. Marks, and what is held.
-/
import Derived.Test.YtofnpgheppgcaaaJ15
namespace Go.Proofs.Ytofnpgheppgcaaa
open Go.ChangeShapes Go.WideShapes Go.RowKit

def cpyCnt (x : Cpy) : Nat := 4 + cntVls x.f + cntVls x.t
def mkCpy (k : Nat) (x : Cpy) : Cpy := ⟨((k : Nat) : Int), ((k : Nat) : Int) + 1, ((k : Nat) : Int) + 2, ((((k : Nat) : Int) + 3) % 3 == 0), mkVls (k + 4) x.f, mkVls (k + 4 + cntVls x.f) x.t⟩
theorem cpyCnt_le (x : Cpy) : cpyCnt x ≤ 8 * cpyW x + 8 := by
  have h_f := cntVls_le x.f
  have h_t := cntVls_le x.t
  unfold cpyCnt cpyW
  omega
def mkCpys : Nat → List Cpy → List Cpy
  | _, [] => []
  | k, x :: xs => mkCpy k x :: mkCpys (k + cpyCnt x) xs
def cntCpys (xs : List Cpy) : Nat := tot cpyCnt xs
theorem mkCpys_len : ∀ (k : Nat) (xs : List Cpy), (mkCpys k xs).length = xs.length
  | _, [] => rfl
  | k, x :: xs => by simp [mkCpys, mkCpys_len _ xs]
theorem mkCpys_get : ∀ (k : Nat) (xs : List Cpy) (j : Nat), j < xs.length → (mkCpys k xs).getD j default = mkCpy (k + tot cpyCnt (xs.take j)) (xs.getD j default)
  | k, [], j, h => by simp at h
  | k, x :: xs, 0, h => by simp [mkCpys, tot]
  | k, x :: xs, j + 1, h => by
    rw [mkCpys, List.getD_cons_succ, mkCpys_get _ xs j (by simpa using h), List.getD_cons_succ]
    congr 1
    unfold tot
    rw [List.take_succ_cons, List.map_cons, List.sum_cons]; omega
theorem cntCpys_le (xs : List Cpy) : cntCpys xs ≤ 8 * cpysW xs := tot_cnt cpyCnt cpyW cpyCnt_le xs
set_option maxRecDepth 100000 in
set_option maxHeartbeats 4000000 in
theorem mkCpysR (w : World) (b K : Nat) (m : Int) (hmK : m = (K : Int)) (v : Value) (xs : List Cpy) (F : List Nat) (h : Owns w b (cpys xs) v F) (hnd : F.Nodup) (hK : 0 < K) (hm : K + cntCpys xs ≤ 100000000) :
    Calls Try.prog 20 #[v, .int .i64 m] w fun e w' => e = .returned (.int .i64 ((K + cntCpys xs : Nat) : Int)) ∧ Owns w' b (cpys (mkCpys K xs)) v F ∧ Chg F w w' := by
  subst hmK
  have HCN : Hid (cntCpys xs = tot cpyCnt xs) := hide rfl
  rw [HCN.out] at hm
  have HST : Hid (Owns w b (.row 40 6 xs.length ((mixR cpyD (mkCpys K xs) xs 0).flatten)) v F) := hide (by rw [mixR_zero]; exact h)
  have HEN : Hid (∀ W, Owns W b (.row 40 6 xs.length ((mixR cpyD (mkCpys K xs) xs xs.length).flatten)) v F → Owns W b (cpys (mkCpys K xs)) v F) := hide (fun W h => by rw [mixR_end _ (mkCpys_len K _)] at h; unfold cpys; rw [mkCpys_len]; exact h)
  have hML := mkCpys_len K xs
  have HTS : Hid (∀ j, j < xs.length → tot cpyCnt (xs.take (j + 1)) = tot cpyCnt (xs.take j) + cpyCnt (xs.getD j default)) := hide (fun j hj => tot_step _ xs j hj)
  have HTL : Hid (∀ j, tot cpyCnt (xs.take j) ≤ tot cpyCnt xs) := hide (tot_le _ xs)
  have HTE : Hid (tot cpyCnt (xs.take xs.length) = tot cpyCnt xs) := hide (by rw [List.take_length])
  have HG : Hid (∀ j, j < xs.length → (mixR cpyD (mkCpys K xs) xs j).getD j [] = cpyD (xs.getD j default)) := hide (fun j hj => mixR_get _ hML hj)
  have HS : Hid (∀ j, j < xs.length → (mixR cpyD (mkCpys K xs) xs j).set j (cpyD (mkCpy (K + tot cpyCnt (xs.take j)) (xs.getD j default))) = mixR cpyD (mkCpys K xs) xs (j + 1)) := hide (fun j hj => by rw [← mkCpys_get K xs j hj]; exact mixR_step _ hML hj)
  have HA : Hid (∀ j, ∀ r ∈ mixR cpyD (mkCpys K xs) xs j, r.length = 6) := hide (fun j => mixR_all (f := cpyD) (k := 6) (fun _ => rfl) _ _ j)
  have HLn : Hid (∀ j, j ≤ xs.length → (mixR cpyD (mkCpys K xs) xs j).length = xs.length) := hide (fun j hj => mixR_len _ hML hj)
  have hxl : xs.length ≤ tot cpyCnt xs := tot_one _ (fun _ => by unfold cpyCnt; omega) xs
  have hsl := h.slice
  clear h hML
  rw [HCN.out]
  generalize hn : xs.length = n at *
  rcases hsl with ⟨rfl, rfl⟩ | ⟨g, c, rfl⟩
  · have hx0 : xs = [] := List.eq_nil_of_length_eq_zero hn
    have HX0 : Hid (tot cpyCnt xs = 0) := hide (by rw [hx0]; rfl)
    go_enter Try.func20, Try.ntmps20
    go_wp2
    go_loopw [1, 5] (fun q i wr => q = .int .i64 (K : Int) ∧ i = .int .i64 0 ∧ wr = w) (fun _ _ _ => 0)
    case atStart => exact ⟨rfl, rfl, rfl⟩
    case round =>
      obtain ⟨rfl, rfl, rfl⟩ := hrel
      go_wp2
      go_ret
      exact ⟨by rw [HX0.out]; rfl, HEN.out _ HST.out, Chg.refl _ _⟩
  · go_enter Try.func20, Try.ntmps20
    go_wp2
    go_loopw [1, 5] (fun q i wr => ∃ j : Nat, j ≤ n ∧ q = .int .i64 ((K + tot cpyCnt (xs.take j) : Nat) : Int) ∧ i = .int .i64 (j : Int) ∧ Hid (Owns wr b (.row 40 6 n ((mixR cpyD (mkCpys K xs) xs j).flatten)) (.slice (some ⟨g, 0, none⟩) n c) F) ∧ Hid (Chg F w wr)) (fun _ i _ => n - (intOf i).toNat)
    case atStart => exact ⟨0, Nat.zero_le _, by simp [tot], rfl, HST, hide (Chg.refl _ _)⟩
    case round =>
      clear HST
      obtain ⟨j, hj, rfl, rfl, HO, HC⟩ := hrel
      by_cases hlt : j < n
      · have hcap : n ≤ c := by
          have := HO.out
          unfold Owns at this
          obtain ⟨us, G, h2, _⟩ := this
          obtain ⟨_, a, cap, e, h3, _⟩ := rd_own h2 (Nat.le_refl _)
          cases e
          exact h3
        obtain ⟨q, hq⟩ : ∃ q, K + tot cpyCnt (xs.take j) = q := ⟨_, rfl⟩
        have hq0 : 0 < q := by omega
        have hts := HTS.out j hlt
        have htl := HTL.out (j + 1)
        have HA1 := hide (HA.out j)
        have HL1 := hide (HLn.out j hj)
        have HG1 := HG.out j hlt
        have HS1 := HS.out j hlt
        obtain ⟨x, hx⟩ : ∃ x, xs.getD j default = x := ⟨_, rfl⟩
        rw [hx] at HG1 HS1 hts
        have hcm : cpyCnt x = 4 + cntVls x.f + cntVls x.t := rfl
        have hqm : q + (4 + cntVls x.f + cntVls x.t) ≤ 100000000 := by omega
        rw [hq] at HS1 ⊢
        have HG2 := hide HG1
        have HS2 := hide HS1
        have HQ := hide hq
        clear hx hq HG1 HS1
        obtain ⟨rs, hrs⟩ : ∃ rs, mixR cpyD (mkCpys K xs) xs j = rs := ⟨_, rfl⟩
        rw [hrs] at HO HA1 HL1 HG2 HS2
        clear hrs
        have h0 : ∀ i, i < 6 → rs.flatten[j * 6 + i]? = (cpyD x)[i]? := fun i hi => by rw [rows_get rs j i HA1.out (by have := HL1.out; omega) hi, HG2.out]
        obtain ⟨d0, z0, hgF, ho⟩ := HO.out.cell hnd (i := j * 6) (z := .int .i64 x.i) (by rw [show j * 6 = j * 6 + 0 from rfl, h0 0 (by omega)]; rfl) (.int .i64 (q : Int))
        replace HO := hide ho
        replace HC := hide (HC.out.set hgF (j * 6) (.int .i64 (q : Int)))
        clear ho
        obtain ⟨d1, z1, hgF, ho⟩ := HO.out.cell hnd (i := j * 6 + 1) (z := .int .i64 x.c) (by rw [List.getElem?_set_ne (by omega), h0 1 (by omega)]; rfl) (.int .i64 ((q : Int) + 1))
        replace HO := hide ho
        replace HC := hide (HC.out.set hgF (j * 6 + 1) (.int .i64 ((q : Int) + 1)))
        clear ho
        obtain ⟨d2, z2, hgF, ho⟩ := HO.out.cell hnd (i := j * 6 + 2) (z := .int .i64 x.n) (by rw [List.getElem?_set_ne (by omega), List.getElem?_set_ne (by omega), h0 2 (by omega)]; rfl) (.int .i64 ((q : Int) + 1 + 1))
        replace HO := hide ho
        replace HC := hide (HC.out.set hgF (j * 6 + 2) (.int .i64 ((q : Int) + 1 + 1)))
        clear ho
        obtain ⟨d3, z3, hgF, ho⟩ := HO.out.cell hnd (i := j * 6 + 3) (z := .bool x.v) (by rw [List.getElem?_set_ne (by omega), List.getElem?_set_ne (by omega), List.getElem?_set_ne (by omega), h0 3 (by omega)]; rfl) (.bool (((q : Int) + 1 + 1 + 1) % 3 == 0))
        replace HO := hide ho
        replace HC := hide (HC.out.set hgF (j * 6 + 3) (.bool (((q : Int) + 1 + 1 + 1) % 3 == 0)))
        clear ho
        obtain ⟨u4, G4, d4, p4, nd4, sb4, rc4⟩ := HO.out.part hnd (i := j * 6 + 4) (d := vls x.f) (by rw [List.getElem?_set_ne (by omega), List.getElem?_set_ne (by omega), List.getElem?_set_ne (by omega), List.getElem?_set_ne (by omega), h0 4 (by omega)]; rfl)
        obtain ⟨aa4, cc4, eu4⟩ := p4.sl
        subst eu4
        have HP := hide p4
        have HRC := hide rc4
        have HLT := hide (fun q hq => (Owns.lt _ _ _ HO.out q hq).2)
        clear p4 rc4
        go_wp2_with fail
        clear d0 z0 d1 z1 d2 z2 d3 z3 d4
        refine (mkVlsR _ b (q + 4) _ (by omega) _ x.f G4 HP.out nd4 (by omega) (by omega)).mono ?_
        rintro e w1 ⟨rfl, o1, ch1⟩
        replace HO := hide (HRC.out w1 (vls (mkVls (q + 4) x.f)) o1 (fun q hq hq' => ch1.block q (HLT.out q hq) hq'))
        replace HC := hide (HC.out.trans (ch1.mono sb4))
        clear o1 ch1 HP HRC HLT
        obtain ⟨r4, hr4⟩ : ∃ r, q + 4 + cntVls x.f = r := ⟨_, rfl⟩
        rw [hr4]
        have HRR4 := hide hr4
        obtain ⟨u5, G5, d5, p5, nd5, sb5, rc5⟩ := HO.out.part hnd (i := j * 6 + 5) (d := vls x.t) (by rw [List.getElem?_set_ne (by omega), List.getElem?_set_ne (by omega), List.getElem?_set_ne (by omega), List.getElem?_set_ne (by omega), List.getElem?_set_ne (by omega), h0 5 (by omega)]; rfl)
        obtain ⟨aa5, cc5, eu5⟩ := p5.sl
        subst eu5
        have HP := hide p5
        have HRC := hide rc5
        have HLT := hide (fun q hq => (Owns.lt _ _ _ HO.out q hq).2)
        clear p5 rc5
        go_wp2_with fail
        clear d5
        refine (mkVlsR _ b (r4) _ (by omega) _ x.t G5 HP.out nd5 (by omega) (by omega)).mono ?_
        rintro e w2 ⟨rfl, o2, ch2⟩
        replace HO := hide (HRC.out w2 (vls (mkVls (r4) x.t)) o2 (fun q hq hq' => ch2.block q (HLT.out q hq) hq'))
        replace HC := hide (HC.out.trans (ch2.mono sb5))
        clear o2 ch2 HP HRC HLT
        obtain ⟨r5, hr5⟩ : ∃ r, r4 + cntVls x.t = r := ⟨_, rfl⟩
        rw [hr5]
        have HRR5 := hide hr5
        have HZ : Hid (((((((rs.flatten.set (j * 6) (.val (.int .i64 (q : Int)))).set (j * 6 + 1) (.val (.int .i64 ((q : Int) + 1)))).set (j * 6 + 2) (.val (.int .i64 ((q : Int) + 1 + 1)))).set (j * 6 + 3) (.val (.bool (((q : Int) + 1 + 1 + 1) % 3 == 0)))).set (j * 6 + 4) (vls (mkVls (q + 4) x.f))).set (j * 6 + 5) (vls (mkVls (r4) x.t))) = (rs.set j (cpyD (mkCpy q x))).flatten) := hide (by
          have hl := HL1.out
          have hlen : ∀ (rs' : List (List Dt)) (r : List Dt), (∀ r ∈ rs', r.length = 6) → r.length = 6 → ∀ r' ∈ rs'.set j r, r'.length = 6 := fun rs' r h1 h2 r' hr => by
            rcases List.mem_or_eq_of_mem_set hr with h | h
            · exact h1 r' h
            · rw [h]; exact h2
          rw [show j * 6 = j * 6 + 0 from rfl]
          rw [rows_set rs j 0 _ HA1.out (by omega) (by omega), HG2.out]
          rw [rows_set _ j 1 _ (hlen _ _ HA1.out rfl) (by rw [List.length_set]; omega) (by omega), List.getD_eq_getElem?_getD, List.getElem?_set_self (by omega), Option.getD_some, List.set_set]
          rw [rows_set _ j 2 _ (hlen _ _ HA1.out rfl) (by rw [List.length_set]; omega) (by omega), List.getD_eq_getElem?_getD, List.getElem?_set_self (by omega), Option.getD_some, List.set_set]
          rw [rows_set _ j 3 _ (hlen _ _ HA1.out rfl) (by rw [List.length_set]; omega) (by omega), List.getD_eq_getElem?_getD, List.getElem?_set_self (by omega), Option.getD_some, List.set_set]
          rw [rows_set _ j 4 _ (hlen _ _ HA1.out rfl) (by rw [List.length_set]; omega) (by omega), List.getD_eq_getElem?_getD, List.getElem?_set_self (by omega), Option.getD_some, List.set_set]
          rw [rows_set _ j 5 _ (hlen _ _ HA1.out rfl) (by rw [List.length_set]; omega) (by omega), List.getD_eq_getElem?_getD, List.getElem?_set_self (by omega), Option.getD_some, List.set_set]
          unfold cpyD mkCpy
          rw [HRR4.out]
          rfl)
        rw [HZ.out, HS2.out] at HO
        go_wp2
        exact ⟨⟨j + 1, by omega, by have hh := HQ.out; congr 1; omega, by go_num, HO, HC⟩, by simp [intOf]; omega⟩
      · obtain rfl : j = n := by omega
        have HF := hide (HEN.out _ HO.out)
        go_wp2
        go_ret
        exact ⟨by rw [HTE.out]; rfl, HF.out, HC.out⟩
theorem mkCpysI (w : World) (b hi K : Nat) (m : Int) (hmK : m = (K : Int)) (v : Value) (xs : List Cpy) (h : OwnD w b hi (cpys xs) v) (hK : 0 < K) (hm : K + cntCpys xs ≤ 100000000) :
    Calls Try.prog 20 #[v, .int .i64 m] w fun e w' => e = .returned (.int .i64 ((K + cntCpys xs : Nat) : Int)) ∧ OwnD w' b hi (cpys (mkCpys K xs)) v ∧ ChgI b hi w w' := by
  obtain ⟨F, h1, h2, h3⟩ := h
  have hl := Owns.lt _ _ _ h1
  refine (mkCpysR w b K m hmK v xs F h1 h2 hK hm).mono ?_
  rintro e w1 ⟨rfl, o1, c1⟩
  exact ⟨rfl, ⟨F, o1, h2, h3⟩, c1.int (fun q hq => ⟨(hl q hq).1, h3 q hq⟩)⟩
set_option maxRecDepth 100000 in
set_option maxHeartbeats 8000000 in
theorem heldCpysR (w : World) (K : Nat) (m : Int) (hmK : m = (K : Int)) (v : Value) (xs : List Cpy) (h : Reads w w.heap.size (cpys (mkCpys K xs)) v) (hK : 0 < K) (hm : K + cntCpys xs ≤ 100000000) :
    Calls Try.prog 29 #[v, .int .i64 m] w fun e w' => e = .returned (.int .i64 ((K + cntCpys xs : Nat) : Int)) ∧ Below w.heap.size w w' := by
  subst hmK
  have HCN : Hid (cntCpys xs = tot cpyCnt xs) := hide rfl
  rw [HCN.out] at hm ⊢
  have HX : Hid (∀ wr, Below w.heap.size w wr → _) := hide (fun wr hb => copy_at (h.at hb))
  have HTS : Hid (∀ j, j < xs.length → tot cpyCnt (xs.take (j + 1)) = tot cpyCnt (xs.take j) + cpyCnt (xs.getD j default)) := hide (fun j hj => tot_step _ xs j hj)
  have HTL : Hid (∀ j, tot cpyCnt (xs.take j) ≤ tot cpyCnt xs) := hide (fun j => tot_le _ xs j)
  have HGt : Hid (∀ j, j < xs.length → (mkCpys K xs).getD j default = mkCpy (K + tot cpyCnt (xs.take j)) (xs.getD j default)) := hide (fun j hj => mkCpys_get K xs j hj)
  have HTE : Hid (tot cpyCnt (xs.take xs.length) = tot cpyCnt xs) := hide (by rw [List.take_length])
  have HLe := hide (mkCpys_len K xs)
  have hmx : xs.length ≤ tot cpyCnt xs := tot_one _ (fun _ => by unfold cpyCnt; omega) xs
  obtain ⟨a, cap, rfl, hlc, _⟩ := copy_at h
  rw [mkCpys_len] at hlc ⊢
  clear h
  obtain ⟨n, hn⟩ : ∃ n, xs.length = n := ⟨_, rfl⟩
  rw [hn] at hlc hmx ⊢
  have HLn := hide hn
  clear hn
  go_enter Try.func29, Try.ntmps29
  go_wp2
  go_loopw [1, 5] (fun q i wr => ∃ j : Nat, j ≤ n ∧ q = .int .i64 ((K + tot cpyCnt (xs.take j) : Nat) : Int) ∧ i = .int .i64 (j : Int) ∧ Hid (Below w.heap.size w wr)) (fun _ i _ => n - (intOf i).toNat)
  case atStart => exact ⟨0, Nat.zero_le _, by simp [tot], rfl, hide (Below.refl _ _)⟩
  case round =>
    obtain ⟨j, hj, rfl, rfl, HB⟩ := hrel
    by_cases hlt : j < n
    · have hlt' : j < xs.length := by have := HLn.out; omega
      have hts := HTS.out j hlt'
      have htl := HTL.out (j + 1)
      have hgt := HGt.out j hlt'
      obtain ⟨q, hq⟩ : ∃ q, K + tot cpyCnt (xs.take j) = q := ⟨_, rfl⟩
      obtain ⟨y, hy⟩ : ∃ y, xs.getD j default = y := ⟨_, rfl⟩
      rw [hy] at hts hgt
      rw [hq] at hgt ⊢
      have hcm : cpyCnt y = 4 + cntVls y.f + cntVls y.t := rfl
      have hq0 : 0 < q := by omega
      have hqm : q + (4 + cntVls y.f + cntVls y.t) ≤ 100000000 := by omega
      have HEND : Hid (K + tot cpyCnt (xs.take (j + 1)) = q + (4 + cntVls y.f + cntVls y.t)) := hide (by omega)
      obtain ⟨b, o, ha, hbb, pv1, pv2, f0, f1, f2, f3, f4, f5, r4, r5⟩ : ∃ b o, a = some ⟨b, o, none⟩ ∧ b < wr.heap.size ∧ ∃ pv1, ∃ pv2, wr.cell? ⟨b, o + j * 6, none⟩ = some (.int .i64 (((q : Nat) : Int))) ∧ wr.cell? ⟨b, o + j * 6 + 1, none⟩ = some (.int .i64 (((q : Nat) : Int) + 1)) ∧ wr.cell? ⟨b, o + j * 6 + 2, none⟩ = some (.int .i64 (((q : Nat) : Int) + 2)) ∧ wr.cell? ⟨b, o + j * 6 + 3, none⟩ = some (.bool (((((q : Nat) : Int) + 3) % 3 == 0))) ∧ wr.cell? ⟨b, o + j * 6 + 4, none⟩ = some (pv1) ∧ wr.cell? ⟨b, o + j * 6 + 5, none⟩ = some (pv2) ∧ Reads wr wr.heap.size (vls (mkVls (q + 4) y.f)) pv1 ∧ Reads wr wr.heap.size (vls (mkVls (q + 4 + cntVls y.f) y.t)) pv2 := by
        obtain ⟨a', cap', e, _, _, hx⟩ := HX.out wr HB.out
        cases e
        obtain ⟨b, o, e, hb, hc⟩ := hx (by rw [HLe.out]; omega)
        obtain ⟨pv1, pv2, c0, c1, c2, c3, c4, c5, r4, r5⟩ := hc j (by rw [HLe.out]; exact hlt')
        rw [hgt] at c0 c1 c2 c3 r4 r5
        exact ⟨b, o, e, hb, pv1, pv2, c0, c1, c2, c3, c4, c5, r4, r5⟩
      subst ha
      obtain ⟨la1, lc1, le1, _⟩ := r4.shape
      obtain ⟨la2, lc2, le2, _⟩ := r5.shape
      subst le1 le2
      have HD : Hid (∀ wq, Below wr.heap.size wr wq → wq.cell? ⟨b, o + j * 6, none⟩ = some (.int .i64 (((q : Nat) : Int))) ∧ wq.cell? ⟨b, o + j * 6 + 1, none⟩ = some (.int .i64 (((q : Nat) : Int) + 1)) ∧ wq.cell? ⟨b, o + j * 6 + 2, none⟩ = some (.int .i64 (((q : Nat) : Int) + 2)) ∧ wq.cell? ⟨b, o + j * 6 + 3, none⟩ = some (.bool (((((q : Nat) : Int) + 3) % 3 == 0))) ∧ wq.cell? ⟨b, o + j * 6 + 4, none⟩ = some (.slice la1 (mkVls (q + 4) y.f).length lc1) ∧ wq.cell? ⟨b, o + j * 6 + 5, none⟩ = some (.slice la2 (mkVls (q + 4 + cntVls y.f) y.t).length lc2) ∧ Reads wq wq.heap.size (vls (mkVls (q + 4) y.f)) (.slice la1 (mkVls (q + 4) y.f).length lc1) ∧ Reads wq wq.heap.size (vls (mkVls (q + 4 + cntVls y.f) y.t)) (.slice la2 (mkVls (q + 4 + cntVls y.f) y.t).length lc2)) := hide (fun wq hb =>
        ⟨(hb.cell (p := ⟨b, o + j * 6, none⟩) hbb).trans f0, (hb.cell (p := ⟨b, o + j * 6 + 1, none⟩) hbb).trans f1, (hb.cell (p := ⟨b, o + j * 6 + 2, none⟩) hbb).trans f2, (hb.cell (p := ⟨b, o + j * 6 + 3, none⟩) hbb).trans f3, (hb.cell (p := ⟨b, o + j * 6 + 4, none⟩) hbb).trans f4, (hb.cell (p := ⟨b, o + j * 6 + 5, none⟩) hbb).trans f5, r4.at hb, r5.at hb⟩)
      have HR := hide (Below.refl wr.heap.size wr)
      have HQ := hide hq
      clear hq f0 f1 f2 f3 f4 f5 r4 r5 hts htl hgt hcm
      rw [mkVls_len, mkVls_len] at HD
      have d0 := (HD.out wr HR.out).1
      have n0 : ((((q : Nat) : Int)) != (((q : Nat) : Int))) = false := by simp
      have d1 := (HD.out wr HR.out).2.1
      have n1 : ((((q : Nat) : Int) + 1) != (((q : Nat) : Int) + 1)) = false := by simp
      have d2 := (HD.out wr HR.out).2.2.1
      have n2 : ((((q : Nat) : Int) + 2) != (((q : Nat) : Int) + 2)) = false := by simp
      have p2 : ((((q : Nat) : Int) + 2) != (((q : Nat) : Int) + 1 + 1)) = false := bne_eq_false_iff_eq.2 (by omega)
      have d3 := (HD.out wr HR.out).2.2.2.1
      have n3 : ((((((q : Nat) : Int) + 3) % 3 == 0)) != (((((q : Nat) : Int) + 3) % 3 == 0))) = false := by simp
      have p3 : ((((q : Nat) : Int) % 3 == 0) != ((((q : Nat) : Int) + 1 + 1 + 1) % 3 == 0)) = false := by rw [show (((q : Nat) : Int) + 1 + 1 + 1) % 3 = ((q : Nat) : Int) % 3 by omega]; exact bne_self_eq_false _
      have o3 : (((q : Nat) : Int) + 1 + 1 + 1) % 3 = ((q : Nat) : Int) % 3 := by omega
      have d4 := (HD.out wr HR.out).2.2.2.2.1
      go_wp2_with fail
      clear d0 n0 d1 n1 d2 n2 p2 d3 n3 p3 o3 d4
      refine (heldVlsR _ (q + 4) _ (by omega) _ y.f (HD.out wr HR.out).2.2.2.2.2.2.1 (by omega) (by omega)).mono ?_
      rintro e wh1 ⟨rfl, b2⟩
      have HR2 := hide (HR.out.trans (b2.mono HR.out.size))
      clear b2 HR
      have hnn : ¬ (((q + 4 + cntVls y.f : Nat) : Int) < 0) := by omega
      have d5 := (HD.out wh1 HR2.out).2.2.2.2.2.1
      go_wp2_with fail
      clear hnn d5
      refine (heldVlsR _ (q + 4 + cntVls y.f) _ (by omega) _ y.t (HD.out wh1 HR2.out).2.2.2.2.2.2.2 (by omega) (by omega)).mono ?_
      rintro e wh2 ⟨rfl, b2⟩
      have HR3 := hide (HR2.out.trans (b2.mono HR2.out.size))
      clear b2 HR2
      have hnn : ¬ (((q + 4 + cntVls y.f + cntVls y.t : Nat) : Int) < 0) := by omega
      have HRZ := hide (HB.out.trans (HR3.out.mono HB.out.size))
      go_wp2
      exact ⟨⟨j + 1, hlt, by rw [HEND.out]; exact congrArg (Value.int .i64) (by omega), by go_num, HRZ⟩, by simp [intOf]; omega⟩
    · obtain rfl : j = n := by omega
      have HE9 : Hid (K + tot cpyCnt (xs.take j) = K + tot cpyCnt xs) := hide (by rw [← HLn.out, HTE.out])
      go_wp2
      go_ret
      exact ⟨by rw [HE9.out]; rfl, HB.out⟩
def mkoCpy (k : Nat) (x : Cpy) : Cpy := ⟨x.i, x.c, x.n, x.v, mkVls (k) x.f, mkVls (k + cntVls x.f) x.t⟩
def cpyCto (x : Cpy) : Nat := cntVls x.f + cntVls x.t
theorem cpyCto_le (x : Cpy) : cpyCto x ≤ 8 * cpyW x := by
  have h_f := cntVls_le x.f
  have h_t := cntVls_le x.t
  unfold cpyCto cpyW
  omega
theorem cpyD_owns {w : World} {b : Nat} {x : Cpy} {u1 u2 : Value} {F : List Nat} (h : OwnsL w b (cpyD x) [.int .i64 x.i, .int .i64 x.c, .int .i64 x.n, .bool x.v, u1, u2] F) :
    ∃ F1 F2, F = F1 ++ (F2) ∧ Owns w b (vls x.f) u1 F1 ∧ Owns w b (vls x.t) u2 F2 := by
  unfold cpyD at h
  obtain ⟨_, _, _, _, e, rfl, h0, h⟩ := ownsL_cons h
  cases e
  unfold Owns at h0
  obtain ⟨_, _, _, _, e, rfl, h1, h⟩ := ownsL_cons h
  cases e
  unfold Owns at h1
  obtain ⟨_, _, _, _, e, rfl, h2, h⟩ := ownsL_cons h
  cases e
  unfold Owns at h2
  obtain ⟨_, _, _, _, e, rfl, h3, h⟩ := ownsL_cons h
  cases e
  unfold Owns at h3
  obtain ⟨_, _, F1, _, e, rfl, h4, h⟩ := ownsL_cons h
  cases e
  obtain ⟨_, _, F2, _, e, rfl, h5, h⟩ := ownsL_cons h
  cases e
  unfold OwnsL at h
  refine ⟨F1, F2, ?_, h4, h5⟩
  rw [h0.2, h1.2, h2.2, h3.2, h.2]
  simp
theorem cpyD_mk {w : World} {b : Nat} {x : Cpy} {u1 u2 : Value} {F1 F2 : List Nat} (h1 : Owns w b (vls x.f) u1 F1) (h2 : Owns w b (vls x.t) u2 F2) : OwnsL w b (cpyD x) [.int .i64 x.i, .int .i64 x.c, .int .i64 x.n, .bool x.v, u1, u2] (F1 ++ (F2)) := by
  have := ownsL_mk (owns_val (w := w) (b := b) (u := .int .i64 x.i)) (ownsL_mk (owns_val (w := w) (b := b) (u := .int .i64 x.c)) (ownsL_mk (owns_val (w := w) (b := b) (u := .int .i64 x.n)) (ownsL_mk (owns_val (w := w) (b := b) (u := .bool x.v)) (ownsL_mk h1 (ownsL_mk h2 (ownsL_nil))))))
  simp at this
  exact this
set_option maxRecDepth 100000 in
set_option maxHeartbeats 4000000 in
theorem mkCpyO (w : World) (b K : Nat) (x : Cpy) (u1 u2 : Value) (F : List Nat) (h : OwnsL w b (cpyD x) [.int .i64 x.i, .int .i64 x.c, .int .i64 x.n, .bool x.v, u1, u2] F) (hnd : F.Nodup) (hK : 0 < K) (hm : K + cpyCto x ≤ 100000000) :
    Calls Try.prog 21 #[cpyV x u1 u2, .int .i64 (K : Int)] w fun e w' => e = .returned (.int .i64 ((K + cpyCto x : Nat) : Int)) ∧ OwnsL w' b (cpyD (mkoCpy K x)) [.int .i64 x.i, .int .i64 x.c, .int .i64 x.n, .bool x.v, u1, u2] F ∧ Chg F w w' := by
  obtain ⟨F1, F2, rfl, h1, h2⟩ := cpyD_owns h
  obtain ⟨a1, k1, e1⟩ := h1.sl
  obtain ⟨a2, k2, e2⟩ := h2.sl
  subst e1 e2
  have n1 := List.nodup_append.1 hnd
  have hcc : cpyCto x = cntVls x.f + cntVls x.t := rfl
  have G0 := hide (heap_alloc_new w (.cells #[.int .i64 x.i, .int .i64 x.c, .int .i64 x.n, .bool x.v, .slice a1 x.f.length k1, .slice a2 x.t.length k2] 40))
  have bA := (Below.refl w.heap.size w).alloc (Nat.le_refl _) (.cells #[.int .i64 x.i, .int .i64 x.c, .int .i64 x.n, .bool x.v, .slice a1 x.f.length k1, .slice a2 x.t.length k2] 40)
  have L1 := Owns.lt _ _ _ h1
  have H1 := hide (h1.same (fun q hq => bA.block q (L1 q hq).2))
  have L2 := Owns.lt _ _ _ h2
  have H2 := hide (h2.same (fun q hq => bA.block q (L2 q hq).2))
  have HC := hide (Chg.of_below (F := F1 ++ (F2)) bA)
  have D01 : Hid (w.heap.size ∉ F1) := hide (fun hm => by have := (L1 _ hm).2; omega)
  have D02 : Hid (w.heap.size ∉ F2) := hide (fun hm => by have := (L2 _ hm).2; omega)
  have D12 : Hid (∀ q ∈ F2, q ∉ F1) := hide (fun q hq hq' => n1.2.2 q hq' q (by simp [hq]) rfl)
  have D21 : Hid (∀ q ∈ F1, q ∉ F2) := hide (fun q hq hq' => n1.2.2 q hq q (by simp [hq']) rfl)
  have N1 := hide n1.1
  have S1 : Hid (∀ q ∈ F1, q ∈ F1 ++ (F2)) := hide (fun q hq => by simp [hq])
  have N2 := hide n1.2.1
  have S2 : Hid (∀ q ∈ F2, q ∈ F1 ++ (F2)) := hide (fun q hq => by simp [hq])
  clear h1 L1 h2 L2 n1 bA h
  unfold cpyV
  go_enter Try.func21, Try.ntmps21
  go_wp2_with fail
  generalize w.alloc (.cells #[.int .i64 x.i, .int .i64 x.c, .int .i64 x.n, .bool x.v, .slice a1 x.f.length k1, .slice a2 x.t.length k2] 40) = W at *
  refine (mkVlsR _ b (K) _ rfl _ x.f F1 H1.out N1.out (by omega) (by omega)).mono ?_
  rintro e w1 ⟨rfl, o1, c1⟩
  replace H1 := hide o1
  replace H2 := hide (H2.out.same (fun q hq => c1.block q (Owns.lt _ _ _ H2.out q hq).2 (D12.out q hq)))
  replace G0 := hide ((c1.block _ (Array.getElem?_eq_some_iff.1 G0.out).1 D01.out).trans G0.out)
  replace HC := hide (HC.out.trans (c1.mono S1.out))
  clear o1 c1
  have f5 := (box_of G0.out).1 5 _ rfl
  go_wp2_with fail
  clear f5
  refine (mkVlsR _ b (K + cntVls x.f) _ rfl _ x.t F2 H2.out N2.out (by omega) (by omega)).mono ?_
  rintro e w2 ⟨rfl, o2, c2⟩
  replace H2 := hide o2
  replace H1 := hide (H1.out.same (fun q hq => c2.block q (Owns.lt _ _ _ H1.out q hq).2 (D21.out q hq)))
  replace HC := hide (HC.out.trans (c2.mono S2.out))
  clear o2 c2
  have HF := hide (cpyD_mk (x := mkoCpy K x) H1.out H2.out)
  have HE : Hid (K + cpyCto x = K + cntVls x.f + cntVls x.t) := hide (by omega)
  go_wp2
  go_ret
  exact ⟨by rw [HE.out]; rfl, HF.out, HC.out⟩
theorem mkCpyI (w : World) (b hi K : Nat) (m : Int) (hmK : m = (K : Int)) (x : Cpy) (u1 u2 : Value) (h : OwnDL w b hi (cpyD x) [.int .i64 x.i, .int .i64 x.c, .int .i64 x.n, .bool x.v, u1, u2]) (hK : 0 < K) (hm : K + cpyCto x ≤ 100000000) :
    Calls Try.prog 21 #[cpyV x u1 u2, .int .i64 m] w fun e w' => e = .returned (.int .i64 ((K + cpyCto x : Nat) : Int)) ∧ OwnDL w' b hi (cpyD (mkoCpy K x)) [.int .i64 x.i, .int .i64 x.c, .int .i64 x.n, .bool x.v, u1, u2] ∧ ChgI b hi w w' := by
  subst hmK
  obtain ⟨F, h1, h2, h3⟩ := h
  have hl := OwnsL.lt _ _ _ h1
  refine (mkCpyO w b K x u1 u2 F h1 h2 hK hm).mono ?_
  rintro e w1 ⟨rfl, o1, c1⟩
  exact ⟨rfl, ⟨F, o1, h2, h3⟩, c1.int (fun q hq => ⟨(hl q hq).1, h3 q hq⟩)⟩
set_option maxRecDepth 100000 in
set_option maxHeartbeats 4000000 in
theorem heldCpyO (w : World) (K : Nat) (m : Int) (hmK : m = (K : Int)) (x : Cpy) (u1 u2 : Value) (h : ReadsL w w.heap.size (cpyD (mkoCpy K x)) [.int .i64 x.i, .int .i64 x.c, .int .i64 x.n, .bool x.v, u1, u2]) (hK : 0 < K) (hm : K + cpyCto x ≤ 100000000) :
    Calls Try.prog 22 #[cpyV x u1 u2, .int .i64 m] w fun e w' => e = .returned (.int .i64 ((K + cpyCto x : Nat) : Int)) ∧ Below w.heap.size w w' := by
  subst hmK
  obtain ⟨_, _, e, _, h⟩ := readsL_cons h
  cases e
  obtain ⟨_, _, e, _, h⟩ := readsL_cons h
  cases e
  obtain ⟨_, _, e, _, h⟩ := readsL_cons h
  cases e
  obtain ⟨_, _, e, _, h⟩ := readsL_cons h
  cases e
  obtain ⟨_, _, e, h1, h⟩ := readsL_cons h
  cases e
  obtain ⟨_, _, e, h2, h⟩ := readsL_cons h
  cases e
  replace h1 : Reads w w.heap.size (vls (mkVls (K) x.f)) u1 := h1
  replace h2 : Reads w w.heap.size (vls (mkVls (K + cntVls x.f) x.t)) u2 := h2
  obtain ⟨a1, k1, e1, _⟩ := h1.shape
  obtain ⟨a2, k2, e2, _⟩ := h2.shape
  subst e1 e2
  clear h
  rw [mkVls_len] at h1 ⊢
  rw [mkVls_len] at h2 ⊢
  have hc : cpyCto x = cntVls x.f + cntVls x.t := rfl
  have HC : Hid (K + cpyCto x = K + cntVls x.f + cntVls x.t) := hide (by omega)
  have bA := (Below.refl w.heap.size w).alloc (Nat.le_refl _) (.cells #[.int .i64 x.i, .int .i64 x.c, .int .i64 x.n, .bool x.v, .slice a1 x.f.length k1, .slice a2 x.t.length k2] 40)
  have HX := hide (Box.new w #[.int .i64 x.i, .int .i64 x.c, .int .i64 x.n, .bool x.v, .slice a1 x.f.length k1, .slice a2 x.t.length k2] 40)
  have HB := hide bA
  have H1 := hide (h1.at bA)
  have H2 := hide (h2.at bA)
  have hgs : Hid (w.heap.size < (w.alloc (.cells #[.int .i64 x.i, .int .i64 x.c, .int .i64 x.n, .bool x.v, .slice a1 x.f.length k1, .slice a2 x.t.length k2] 40)).heap.size) := hide (by simp)
  clear bA h1 h2
  unfold cpyV
  go_enter Try.func22, Try.ntmps22
  go_wp2_with fail
  generalize w.alloc (.cells #[.int .i64 x.i, .int .i64 x.c, .int .i64 x.n, .bool x.v, .slice a1 x.f.length k1, .slice a2 x.t.length k2] 40) = W at *
  refine (heldVlsR _ (K) _ rfl _ x.f H1.out (by omega) (by omega)).mono ?_
  rintro e w1 ⟨rfl, b1⟩
  replace HX := hide (HX.out.below hgs.out b1)
  replace hgs := hide (Nat.lt_of_lt_of_le hgs.out b1.size)
  replace H2 := hide (H2.out.at b1)
  replace HB := hide (HB.out.trans (b1.mono HB.out.size))
  clear b1
  have hn1 : ¬ (((K + cntVls x.f : Nat) : Int) < 0) := by omega
  have f5 := HX.out 5 _ rfl
  go_wp2_with fail
  clear f5 hn1
  refine (heldVlsR _ (K + cntVls x.f) _ rfl _ x.t H2.out (by omega) (by omega)).mono ?_
  rintro e w2 ⟨rfl, b2⟩
  replace HX := hide (HX.out.below hgs.out b2)
  replace hgs := hide (Nat.lt_of_lt_of_le hgs.out b2.size)
  replace HB := hide (HB.out.trans (b2.mono HB.out.size))
  clear b2
  have hn2 : ¬ (((K + cntVls x.f + cntVls x.t : Nat) : Int) < 0) := by omega
  go_wp2
  go_ret
  exact ⟨by rw [HC.out]; rfl, HB.out⟩
end Go.Proofs.Ytofnpgheppgcaaa
