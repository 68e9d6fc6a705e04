/-
  What marks leave of flows of one's own, and what is answered of them.
-/
import Derived.Test.YtobomcfiincpoaaTypD
import Derived.Test.YtobomcfiincpoaaRecM
namespace Go.Proofs.Ytobomcfiincpoaa
open Go.ChangeShapes Go.WideShapes Go.RowKit

def tyCnt (_x : Ty) : Nat := 2
def mkTy (k : Nat) (_x : Ty) : Ty := ⟨((k : Nat) : Int), ((k : Nat) : Int) + 1⟩
def mkTys : Nat → List Ty → List Ty
  | _, [] => []
  | k, x :: xs => mkTy k x :: mkTys (k + tyCnt x) xs
def cntTys (xs : List Ty) : Nat := tot tyCnt xs
theorem mkTys_len : ∀ (k : Nat) (xs : List Ty), (mkTys k xs).length = xs.length
  | _, [] => rfl
  | k, x :: xs => by simp [mkTys, mkTys_len _ xs]
theorem mkTys_get : ∀ (k : Nat) (xs : List Ty) (j : Nat), j < xs.length → (mkTys k xs).getD j default = mkTy (k + tot tyCnt (xs.take j)) (xs.getD j default)
  | k, [], j, h => by simp at h
  | k, x :: xs, 0, h => by simp [mkTys, tot]
  | k, x :: xs, j + 1, h => by
    rw [mkTys, List.getD_cons_succ, mkTys_get _ xs j (by simpa using h), List.getD_cons_succ]
    congr 1
    unfold tot
    rw [List.take_succ_cons, List.map_cons, List.sum_cons]; omega
theorem cntTys_le (xs : List Ty) : cntTys xs ≤ 8 * tysW xs := tot_cnt0 tyCnt (fun _ => by unfold tyCnt; omega) xs
set_option maxRecDepth 100000 in
set_option maxHeartbeats 4000000 in
theorem mkTysR (w : World) (b K : Nat) (m : Int) (hmK : m = (K : Int)) (v : Value) (xs : List Ty) (F : List Nat) (h : Owns w b (tys xs) v F) (hnd : F.Nodup) (hK : 0 < K) (hm : K + cntTys xs ≤ 100000000) :
    Calls Try.prog 33 #[v, .int .i64 m] w fun e w' => e = .returned (.int .i64 ((K + cntTys xs : Nat) : Int)) ∧ Owns w' b (tys (mkTys K xs)) v F ∧ Chg F w w' := by
  subst hmK
  have HCN : Hid (cntTys xs = tot tyCnt xs) := hide rfl
  rw [HCN.out] at hm
  have HST : Hid (Owns w b (.row 51 2 xs.length ((mixR tyD (mkTys K xs) xs 0).flatten)) v F) := hide (by rw [mixR_zero]; exact h)
  have HEN : Hid (∀ W, Owns W b (.row 51 2 xs.length ((mixR tyD (mkTys K xs) xs xs.length).flatten)) v F → Owns W b (tys (mkTys K xs)) v F) := hide (fun W h => by rw [mixR_end _ (mkTys_len K _)] at h; unfold tys; rw [mkTys_len]; exact h)
  have hML := mkTys_len K xs
  have HTS : Hid (∀ j, j < xs.length → tot tyCnt (xs.take (j + 1)) = tot tyCnt (xs.take j) + tyCnt (xs.getD j default)) := hide (fun j hj => tot_step _ xs j hj)
  have HTL : Hid (∀ j, tot tyCnt (xs.take j) ≤ tot tyCnt xs) := hide (tot_le _ xs)
  have HTE : Hid (tot tyCnt (xs.take xs.length) = tot tyCnt xs) := hide (by rw [List.take_length])
  have HG : Hid (∀ j, j < xs.length → (mixR tyD (mkTys K xs) xs j).getD j [] = tyD (xs.getD j default)) := hide (fun j hj => mixR_get _ hML hj)
  have HS : Hid (∀ j, j < xs.length → (mixR tyD (mkTys K xs) xs j).set j (tyD (mkTy (K + tot tyCnt (xs.take j)) (xs.getD j default))) = mixR tyD (mkTys K xs) xs (j + 1)) := hide (fun j hj => by rw [← mkTys_get K xs j hj]; exact mixR_step _ hML hj)
  have HA : Hid (∀ j, ∀ r ∈ mixR tyD (mkTys K xs) xs j, r.length = 2) := hide (fun j => mixR_all (f := tyD) (k := 2) (fun _ => rfl) _ _ j)
  have HLn : Hid (∀ j, j ≤ xs.length → (mixR tyD (mkTys K xs) xs j).length = xs.length) := hide (fun j hj => mixR_len _ hML hj)
  have hxl : xs.length ≤ tot tyCnt xs := tot_one _ (fun _ => by unfold tyCnt; omega) xs
  have hsl := h.slice
  clear h hML
  rw [HCN.out]
  generalize hn : xs.length = n at *
  rcases hsl with ⟨rfl, rfl⟩ | ⟨g, c, rfl⟩
  · have hx0 : xs = [] := List.eq_nil_of_length_eq_zero hn
    have HX0 : Hid (tot tyCnt xs = 0) := hide (by rw [hx0]; rfl)
    go_enter Try.func33, Try.ntmps33
    go_wp2
    go_loopw [1, 5] (fun q i wr => q = .int .i64 (K : Int) ∧ i = .int .i64 0 ∧ wr = w) (fun _ _ _ => 0)
    case atStart => exact ⟨rfl, rfl, rfl⟩
    case round =>
      obtain ⟨rfl, rfl, rfl⟩ := hrel
      go_wp2
      go_ret
      exact ⟨by rw [HX0.out]; rfl, HEN.out _ HST.out, Chg.refl _ _⟩
  · go_enter Try.func33, Try.ntmps33
    go_wp2
    go_loopw [1, 5] (fun q i wr => ∃ j : Nat, j ≤ n ∧ q = .int .i64 ((K + tot tyCnt (xs.take j) : Nat) : Int) ∧ i = .int .i64 (j : Int) ∧ Hid (Owns wr b (.row 51 2 n ((mixR tyD (mkTys K xs) xs j).flatten)) (.slice (some ⟨g, 0, none⟩) n c) F) ∧ Hid (Chg F w wr)) (fun _ i _ => n - (intOf i).toNat)
    case atStart => exact ⟨0, Nat.zero_le _, by simp [tot], rfl, HST, hide (Chg.refl _ _)⟩
    case round =>
      clear HST
      obtain ⟨j, hj, rfl, rfl, HO, HC⟩ := hrel
      by_cases hlt : j < n
      · have hcap : n ≤ c := by
          have := HO.out
          unfold Owns at this
          obtain ⟨us, G, h2, _⟩ := this
          obtain ⟨_, a, cap, e, h3, _⟩ := rd_own h2 (Nat.le_refl _)
          cases e
          exact h3
        obtain ⟨q, hq⟩ : ∃ q, K + tot tyCnt (xs.take j) = q := ⟨_, rfl⟩
        have hq0 : 0 < q := by omega
        have hts := HTS.out j hlt
        have htl := HTL.out (j + 1)
        have HA1 := hide (HA.out j)
        have HL1 := hide (HLn.out j hj)
        have HG1 := HG.out j hlt
        have HS1 := HS.out j hlt
        obtain ⟨x, hx⟩ : ∃ x, xs.getD j default = x := ⟨_, rfl⟩
        rw [hx] at HG1 HS1 hts
        have hcm : tyCnt x = 2 := rfl
        have hqm : q + (2) ≤ 100000000 := by omega
        rw [hq] at HS1 ⊢
        have HG2 := hide HG1
        have HS2 := hide HS1
        have HQ := hide hq
        clear hx hq HG1 HS1
        obtain ⟨rs, hrs⟩ : ∃ rs, mixR tyD (mkTys K xs) xs j = rs := ⟨_, rfl⟩
        rw [hrs] at HO HA1 HL1 HG2 HS2
        clear hrs
        have h0 : ∀ i, i < 2 → rs.flatten[j * 2 + i]? = (tyD x)[i]? := fun i hi => by rw [rows_get rs j i HA1.out (by have := HL1.out; omega) hi, HG2.out]
        obtain ⟨d0, z0, hgF, ho⟩ := HO.out.cell hnd (i := j * 2) (z := .int .i64 x.k) (by rw [show j * 2 = j * 2 + 0 from rfl, h0 0 (by omega)]; rfl) (.int .i64 (q : Int))
        replace HO := hide ho
        replace HC := hide (HC.out.set hgF (j * 2) (.int .i64 (q : Int)))
        clear ho
        obtain ⟨d1, z1, hgF, ho⟩ := HO.out.cell hnd (i := j * 2 + 1) (z := .int .i64 x.c) (by rw [List.getElem?_set_ne (by omega), h0 1 (by omega)]; rfl) (.int .i64 ((q : Int) + 1))
        replace HO := hide ho
        replace HC := hide (HC.out.set hgF (j * 2 + 1) (.int .i64 ((q : Int) + 1)))
        clear ho
        have HZ : Hid (((rs.flatten.set (j * 2) (.val (.int .i64 (q : Int)))).set (j * 2 + 1) (.val (.int .i64 ((q : Int) + 1)))) = (rs.set j (tyD (mkTy q x))).flatten) := hide (by
          have hl := HL1.out
          have hlen : ∀ (rs' : List (List Dt)) (r : List Dt), (∀ r ∈ rs', r.length = 2) → r.length = 2 → ∀ r' ∈ rs'.set j r, r'.length = 2 := fun rs' r h1 h2 r' hr => by
            rcases List.mem_or_eq_of_mem_set hr with h | h
            · exact h1 r' h
            · rw [h]; exact h2
          rw [show j * 2 = j * 2 + 0 from rfl]
          rw [rows_set rs j 0 _ HA1.out (by omega) (by omega), HG2.out]
          rw [rows_set _ j 1 _ (hlen _ _ HA1.out rfl) (by rw [List.length_set]; omega) (by omega), List.getD_eq_getElem?_getD, List.getElem?_set_self (by omega), Option.getD_some, List.set_set]
          unfold tyD mkTy
          rfl)
        rw [HZ.out, HS2.out] at HO
        go_wp2
        exact ⟨⟨j + 1, by omega, by have hh := HQ.out; congr 1; omega, by go_num, HO, HC⟩, by simp [intOf]; omega⟩
      · obtain rfl : j = n := by omega
        have HF := hide (HEN.out _ HO.out)
        go_wp2
        go_ret
        exact ⟨by rw [HTE.out]; rfl, HF.out, HC.out⟩
set_option maxRecDepth 100000 in
set_option maxHeartbeats 8000000 in
theorem heldTysR (w : World) (K : Nat) (m : Int) (hmK : m = (K : Int)) (v : Value) (xs : List Ty) (h : Reads w w.heap.size (tys (mkTys K xs)) v) (hK : 0 < K) (hm : K + cntTys xs ≤ 100000000) :
    Calls Try.prog 34 #[v, .int .i64 m] w fun e w' => e = .returned (.int .i64 ((K + cntTys xs : Nat) : Int)) ∧ Below w.heap.size w w' := by
  subst hmK
  have HCN : Hid (cntTys xs = tot tyCnt xs) := hide rfl
  rw [HCN.out] at hm ⊢
  have HX : Hid (∀ wr, Below w.heap.size w wr → _) := hide (fun wr hb => type_at (h.at hb))
  have HTS : Hid (∀ j, j < xs.length → tot tyCnt (xs.take (j + 1)) = tot tyCnt (xs.take j) + tyCnt (xs.getD j default)) := hide (fun j hj => tot_step _ xs j hj)
  have HTL : Hid (∀ j, tot tyCnt (xs.take j) ≤ tot tyCnt xs) := hide (fun j => tot_le _ xs j)
  have HGt : Hid (∀ j, j < xs.length → (mkTys K xs).getD j default = mkTy (K + tot tyCnt (xs.take j)) (xs.getD j default)) := hide (fun j hj => mkTys_get K xs j hj)
  have HTE : Hid (tot tyCnt (xs.take xs.length) = tot tyCnt xs) := hide (by rw [List.take_length])
  have HLe := hide (mkTys_len K xs)
  have hmx : xs.length ≤ tot tyCnt xs := tot_one _ (fun _ => by unfold tyCnt; omega) xs
  obtain ⟨a, cap, rfl, hlc, _⟩ := type_at h
  rw [mkTys_len] at hlc ⊢
  clear h
  obtain ⟨n, hn⟩ : ∃ n, xs.length = n := ⟨_, rfl⟩
  rw [hn] at hlc hmx ⊢
  have HLn := hide hn
  clear hn
  go_enter Try.func34, Try.ntmps34
  go_wp2
  go_loopw [1, 5] (fun q i wr => ∃ j : Nat, j ≤ n ∧ q = .int .i64 ((K + tot tyCnt (xs.take j) : Nat) : Int) ∧ i = .int .i64 (j : Int) ∧ Hid (Below w.heap.size w wr)) (fun _ i _ => n - (intOf i).toNat)
  case atStart => exact ⟨0, Nat.zero_le _, by simp [tot], rfl, hide (Below.refl _ _)⟩
  case round =>
    obtain ⟨j, hj, rfl, rfl, HB⟩ := hrel
    by_cases hlt : j < n
    · have hlt' : j < xs.length := by have := HLn.out; omega
      have hts := HTS.out j hlt'
      have htl := HTL.out (j + 1)
      have hgt := HGt.out j hlt'
      obtain ⟨q, hq⟩ : ∃ q, K + tot tyCnt (xs.take j) = q := ⟨_, rfl⟩
      obtain ⟨y, hy⟩ : ∃ y, xs.getD j default = y := ⟨_, rfl⟩
      rw [hy] at hts hgt
      rw [hq] at hgt ⊢
      have hcm : tyCnt y = 2 := rfl
      have hq0 : 0 < q := by omega
      have hqm : q + (2) ≤ 100000000 := by omega
      have HEND : Hid (K + tot tyCnt (xs.take (j + 1)) = q + (2)) := hide (by omega)
      obtain ⟨b, o, ha, hbb, f0, f1⟩ : ∃ b o, a = some ⟨b, o, none⟩ ∧ b < wr.heap.size ∧ wr.cell? ⟨b, o + j * 2, none⟩ = some (.int .i64 (((q : Nat) : Int))) ∧ wr.cell? ⟨b, o + j * 2 + 1, none⟩ = some (.int .i64 (((q : Nat) : Int) + 1)) := by
        obtain ⟨a', cap', e, _, _, hx⟩ := HX.out wr HB.out
        cases e
        obtain ⟨b, o, e, hb, hc⟩ := hx (by rw [HLe.out]; omega)
        obtain ⟨c0, c1⟩ := hc j (by rw [HLe.out]; exact hlt')
        rw [hgt] at c0 c1
        exact ⟨b, o, e, hb, c0, c1⟩
      subst ha
      have HD : Hid (∀ wq, Below wr.heap.size wr wq → wq.cell? ⟨b, o + j * 2, none⟩ = some (.int .i64 (((q : Nat) : Int))) ∧ wq.cell? ⟨b, o + j * 2 + 1, none⟩ = some (.int .i64 (((q : Nat) : Int) + 1))) := hide (fun wq hb =>
        ⟨(hb.cell (p := ⟨b, o + j * 2, none⟩) hbb).trans f0, (hb.cell (p := ⟨b, o + j * 2 + 1, none⟩) hbb).trans f1⟩)
      have HR := hide (Below.refl wr.heap.size wr)
      have HQ := hide hq
      clear hq f0 f1 hts htl hgt hcm
      have d0 := (HD.out wr HR.out).1
      have n0 : ((((q : Nat) : Int)) != (((q : Nat) : Int))) = false := by simp
      have d1 := (HD.out wr HR.out).2
      have n1 : ((((q : Nat) : Int) + 1) != (((q : Nat) : Int) + 1)) = false := by simp
      have HRZ := hide (HB.out.trans (HR.out.mono HB.out.size))
      go_wp2
      exact ⟨⟨j + 1, hlt, by rw [HEND.out]; exact congrArg (Value.int .i64) (by omega), by go_num, HRZ⟩, by simp [intOf]; omega⟩
    · obtain rfl : j = n := by omega
      have HE9 : Hid (K + tot tyCnt (xs.take j) = K + tot tyCnt xs) := hide (by rw [← HLn.out, HTE.out])
      go_wp2
      go_ret
      exact ⟨by rw [HE9.out]; rfl, HB.out⟩
def mkoFl (k : Nat) (x : Fl) : Fl := ⟨mkTys (k) x.lo, mkTys (k + cntTys x.lo) x.st, x.h⟩
def flCto (x : Fl) : Nat := cntTys x.lo + cntTys x.st
theorem flCto_le (x : Fl) : flCto x ≤ 8 * flW x := by
  have h_lo := cntTys_le x.lo
  have h_st := cntTys_le x.st
  unfold flCto flW
  omega
theorem flD_owns {w : World} {b : Nat} {x : Fl} {u1 u2 : Value} {F : List Nat} (h : OwnsL w b (flD x) [u1, u2, .int .i64 x.h] F) :
    ∃ F1 F2, F = F1 ++ (F2) ∧ Owns w b (tys x.lo) u1 F1 ∧ Owns w b (tys x.st) u2 F2 := by
  unfold flD at h
  obtain ⟨_, _, F1, _, e, rfl, h0, h⟩ := ownsL_cons h
  cases e
  obtain ⟨_, _, F2, _, e, rfl, h1, h⟩ := ownsL_cons h
  cases e
  obtain ⟨_, _, _, _, e, rfl, h2, h⟩ := ownsL_cons h
  cases e
  unfold Owns at h2
  unfold OwnsL at h
  refine ⟨F1, F2, ?_, h0, h1⟩
  rw [h2.2, h.2]
  simp
theorem flD_mk {w : World} {b : Nat} {x : Fl} {u1 u2 : Value} {F1 F2 : List Nat} (h1 : Owns w b (tys x.lo) u1 F1) (h2 : Owns w b (tys x.st) u2 F2) : OwnsL w b (flD x) [u1, u2, .int .i64 x.h] (F1 ++ (F2)) := by
  have := ownsL_mk h1 (ownsL_mk h2 (ownsL_mk (owns_val (w := w) (b := b) (u := .int .i64 x.h)) (ownsL_nil)))
  simp at this
  exact this
set_option maxRecDepth 100000 in
set_option maxHeartbeats 4000000 in
theorem mkFlO (w : World) (b K : Nat) (x : Fl) (u1 u2 : Value) (F : List Nat) (h : OwnsL w b (flD x) [u1, u2, .int .i64 x.h] F) (hnd : F.Nodup) (hK : 0 < K) (hm : K + flCto x ≤ 100000000) :
    Calls Try.prog 16 #[flV x u1 u2, .int .i64 (K : Int)] w fun e w' => e = .returned (.int .i64 ((K + flCto x : Nat) : Int)) ∧ OwnsL w' b (flD (mkoFl K x)) [u1, u2, .int .i64 x.h] F ∧ Chg F w w' := by
  obtain ⟨F1, F2, rfl, h1, h2⟩ := flD_owns h
  obtain ⟨a1, k1, e1⟩ := h1.sl
  obtain ⟨a2, k2, e2⟩ := h2.sl
  subst e1 e2
  have n1 := List.nodup_append.1 hnd
  have hcc : flCto x = cntTys x.lo + cntTys x.st := rfl
  have G0 := hide (heap_alloc_new w (.cells #[.slice a1 x.lo.length k1, .slice a2 x.st.length k2, .int .i64 x.h] 37))
  have bA := (Below.refl w.heap.size w).alloc (Nat.le_refl _) (.cells #[.slice a1 x.lo.length k1, .slice a2 x.st.length k2, .int .i64 x.h] 37)
  have L1 := Owns.lt _ _ _ h1
  have H1 := hide (h1.same (fun q hq => bA.block q (L1 q hq).2))
  have L2 := Owns.lt _ _ _ h2
  have H2 := hide (h2.same (fun q hq => bA.block q (L2 q hq).2))
  have HC := hide (Chg.of_below (F := F1 ++ (F2)) bA)
  have D01 : Hid (w.heap.size ∉ F1) := hide (fun hm => by have := (L1 _ hm).2; omega)
  have D02 : Hid (w.heap.size ∉ F2) := hide (fun hm => by have := (L2 _ hm).2; omega)
  have D12 : Hid (∀ q ∈ F2, q ∉ F1) := hide (fun q hq hq' => n1.2.2 q hq' q (by simp [hq]) rfl)
  have D21 : Hid (∀ q ∈ F1, q ∉ F2) := hide (fun q hq hq' => n1.2.2 q hq q (by simp [hq']) rfl)
  have N1 := hide n1.1
  have S1 : Hid (∀ q ∈ F1, q ∈ F1 ++ (F2)) := hide (fun q hq => by simp [hq])
  have N2 := hide n1.2.1
  have S2 : Hid (∀ q ∈ F2, q ∈ F1 ++ (F2)) := hide (fun q hq => by simp [hq])
  clear h1 L1 h2 L2 n1 bA h
  unfold flV
  go_enter Try.func16, Try.ntmps16
  go_wp2_with fail
  generalize w.alloc (.cells #[.slice a1 x.lo.length k1, .slice a2 x.st.length k2, .int .i64 x.h] 37) = W at *
  refine (mkTysR _ b (K) _ rfl _ x.lo F1 H1.out N1.out (by omega) (by omega)).mono ?_
  rintro e w1 ⟨rfl, o1, c1⟩
  replace H1 := hide o1
  replace H2 := hide (H2.out.same (fun q hq => c1.block q (Owns.lt _ _ _ H2.out q hq).2 (D12.out q hq)))
  replace G0 := hide ((c1.block _ (Array.getElem?_eq_some_iff.1 G0.out).1 D01.out).trans G0.out)
  replace HC := hide (HC.out.trans (c1.mono S1.out))
  clear o1 c1
  have f1 := (box_of G0.out).1 1 _ rfl
  go_wp2_with fail
  clear f1
  refine (mkTysR _ b (K + cntTys x.lo) _ rfl _ x.st F2 H2.out N2.out (by omega) (by omega)).mono ?_
  rintro e w2 ⟨rfl, o2, c2⟩
  replace H2 := hide o2
  replace H1 := hide (H1.out.same (fun q hq => c2.block q (Owns.lt _ _ _ H1.out q hq).2 (D21.out q hq)))
  replace HC := hide (HC.out.trans (c2.mono S2.out))
  clear o2 c2
  have HF := hide (flD_mk (x := mkoFl K x) H1.out H2.out)
  have HE : Hid (K + flCto x = K + cntTys x.lo + cntTys x.st) := hide (by omega)
  go_wp2
  go_ret
  exact ⟨by rw [HE.out]; rfl, HF.out, HC.out⟩
theorem mkFlI (w : World) (b hi K : Nat) (m : Int) (hmK : m = (K : Int)) (x : Fl) (u1 u2 : Value) (h : OwnDL w b hi (flD x) [u1, u2, .int .i64 x.h]) (hK : 0 < K) (hm : K + flCto x ≤ 100000000) :
    Calls Try.prog 16 #[flV x u1 u2, .int .i64 m] w fun e w' => e = .returned (.int .i64 ((K + flCto x : Nat) : Int)) ∧ OwnDL w' b hi (flD (mkoFl K x)) [u1, u2, .int .i64 x.h] ∧ ChgI b hi w w' := by
  subst hmK
  obtain ⟨F, h1, h2, h3⟩ := h
  have hl := OwnsL.lt _ _ _ h1
  refine (mkFlO w b K x u1 u2 F h1 h2 hK hm).mono ?_
  rintro e w1 ⟨rfl, o1, c1⟩
  exact ⟨rfl, ⟨F, o1, h2, h3⟩, c1.int (fun q hq => ⟨(hl q hq).1, h3 q hq⟩)⟩
set_option maxRecDepth 100000 in
set_option maxHeartbeats 4000000 in
theorem heldFlO (w : World) (K : Nat) (m : Int) (hmK : m = (K : Int)) (x : Fl) (u1 u2 : Value) (h : ReadsL w w.heap.size (flD (mkoFl K x)) [u1, u2, .int .i64 x.h]) (hK : 0 < K) (hm : K + flCto x ≤ 100000000) :
    Calls Try.prog 17 #[flV x u1 u2, .int .i64 m] w fun e w' => e = .returned (.int .i64 ((K + flCto x : Nat) : Int)) ∧ Below w.heap.size w w' := by
  subst hmK
  obtain ⟨_, _, e, h1, h⟩ := readsL_cons h
  cases e
  obtain ⟨_, _, e, h2, h⟩ := readsL_cons h
  cases e
  obtain ⟨_, _, e, _, h⟩ := readsL_cons h
  cases e
  replace h1 : Reads w w.heap.size (tys (mkTys (K) x.lo)) u1 := h1
  replace h2 : Reads w w.heap.size (tys (mkTys (K + cntTys x.lo) x.st)) u2 := h2
  obtain ⟨a1, k1, e1, _⟩ := h1.shape
  obtain ⟨a2, k2, e2, _⟩ := h2.shape
  subst e1 e2
  clear h
  rw [mkTys_len] at h1 ⊢
  rw [mkTys_len] at h2 ⊢
  have hc : flCto x = cntTys x.lo + cntTys x.st := rfl
  have HC : Hid (K + flCto x = K + cntTys x.lo + cntTys x.st) := hide (by omega)
  have bA := (Below.refl w.heap.size w).alloc (Nat.le_refl _) (.cells #[.slice a1 x.lo.length k1, .slice a2 x.st.length k2, .int .i64 x.h] 37)
  have HX := hide (Box.new w #[.slice a1 x.lo.length k1, .slice a2 x.st.length k2, .int .i64 x.h] 37)
  have HB := hide bA
  have H1 := hide (h1.at bA)
  have H2 := hide (h2.at bA)
  have hgs : Hid (w.heap.size < (w.alloc (.cells #[.slice a1 x.lo.length k1, .slice a2 x.st.length k2, .int .i64 x.h] 37)).heap.size) := hide (by simp)
  clear bA h1 h2
  unfold flV
  go_enter Try.func17, Try.ntmps17
  go_wp2_with fail
  generalize w.alloc (.cells #[.slice a1 x.lo.length k1, .slice a2 x.st.length k2, .int .i64 x.h] 37) = W at *
  refine (heldTysR _ (K) _ rfl _ x.lo H1.out (by omega) (by omega)).mono ?_
  rintro e w1 ⟨rfl, b1⟩
  replace HX := hide (HX.out.below hgs.out b1)
  replace hgs := hide (Nat.lt_of_lt_of_le hgs.out b1.size)
  replace H2 := hide (H2.out.at b1)
  replace HB := hide (HB.out.trans (b1.mono HB.out.size))
  clear b1
  have hn1 : ¬ (((K + cntTys x.lo : Nat) : Int) < 0) := by omega
  have f1 := HX.out 1 _ rfl
  go_wp2_with fail
  clear f1 hn1
  refine (heldTysR _ (K + cntTys x.lo) _ rfl _ x.st H2.out (by omega) (by omega)).mono ?_
  rintro e w2 ⟨rfl, b2⟩
  replace HX := hide (HX.out.below hgs.out b2)
  replace hgs := hide (Nat.lt_of_lt_of_le hgs.out b2.size)
  replace HB := hide (HB.out.trans (b2.mono HB.out.size))
  clear b2
  have hn2 : ¬ (((K + cntTys x.lo + cntTys x.st : Nat) : Int) < 0) := by omega
  go_wp2
  go_ret
  exact ⟨by rw [HC.out]; rfl, HB.out⟩
end Go.Proofs.Ytobomcfiincpoaa
