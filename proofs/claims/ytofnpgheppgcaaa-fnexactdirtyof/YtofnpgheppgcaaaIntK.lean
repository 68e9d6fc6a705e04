/-
  Rows of numbers: marks, and what is held.
-/
import Derived.Test.YtofnpgheppgcaaaIntR
import Derived.Test.YtofnpgheppgcaaaDeepMk
namespace Go.Proofs.Ytofnpgheppgcaaa
open Go.ChangeShapes Go.WideShapes Go.RowKit

def niCnt (_x : Int) : Nat := 1
def mkNi (k : Nat) (_x : Int) : Int := ((k : Nat) : Int)
def mkInts : Nat → List Int → List Int
  | _, [] => []
  | k, x :: xs => mkNi k x :: mkInts (k + niCnt x) xs
def cntInts (xs : List Int) : Nat := tot niCnt xs
theorem mkInts_len : ∀ (k : Nat) (xs : List Int), (mkInts k xs).length = xs.length
  | _, [] => rfl
  | k, x :: xs => by simp [mkInts, mkInts_len _ xs]
theorem mkInts_get : ∀ (k : Nat) (xs : List Int) (j : Nat), j < xs.length → (mkInts k xs).getD j default = mkNi (k + tot niCnt (xs.take j)) (xs.getD j default)
  | k, [], j, h => by simp at h
  | k, x :: xs, 0, h => by simp [mkInts, tot]
  | k, x :: xs, j + 1, h => by
    rw [mkInts, List.getD_cons_succ, mkInts_get _ xs j (by simpa using h), List.getD_cons_succ]
    congr 1
    unfold tot
    rw [List.take_succ_cons, List.map_cons, List.sum_cons]; omega
theorem cntInts_le (xs : List Int) : cntInts xs ≤ 8 * intsW xs := tot_cnt0 niCnt (fun _ => by unfold niCnt; omega) xs
set_option maxRecDepth 100000 in
set_option maxHeartbeats 4000000 in
theorem mkIntsR (w : World) (b K : Nat) (m : Int) (hmK : m = (K : Int)) (v : Value) (xs : List Int) (F : List Nat) (h : Owns w b (ints xs) v F) (hnd : F.Nodup) (hK : 0 < K) (hm : K + cntInts xs ≤ 100000000) :
    Calls Try.prog 33 #[v, .int .i64 m] w fun e w' => e = .returned (.int .i64 ((K + cntInts xs : Nat) : Int)) ∧ Owns w' b (ints (mkInts K xs)) v F ∧ Chg F w w' := by
  subst hmK
  have HCN : Hid (cntInts xs = tot niCnt xs) := hide rfl
  rw [HCN.out] at hm
  have HST : Hid (Owns w b (.row 3 1 xs.length ((mixR niD (mkInts K xs) xs 0).flatten)) v F) := hide (by rw [mixR_zero]; exact h)
  have HEN : Hid (∀ W, Owns W b (.row 3 1 xs.length ((mixR niD (mkInts K xs) xs xs.length).flatten)) v F → Owns W b (ints (mkInts K xs)) v F) := hide (fun W h => by rw [mixR_end _ (mkInts_len K _)] at h; unfold ints; rw [mkInts_len]; exact h)
  have hML := mkInts_len K xs
  have HTS : Hid (∀ j, j < xs.length → tot niCnt (xs.take (j + 1)) = tot niCnt (xs.take j) + niCnt (xs.getD j default)) := hide (fun j hj => tot_step _ xs j hj)
  have HTL : Hid (∀ j, tot niCnt (xs.take j) ≤ tot niCnt xs) := hide (tot_le _ xs)
  have HTE : Hid (tot niCnt (xs.take xs.length) = tot niCnt xs) := hide (by rw [List.take_length])
  have HG : Hid (∀ j, j < xs.length → (mixR niD (mkInts K xs) xs j).getD j [] = niD (xs.getD j default)) := hide (fun j hj => mixR_get _ hML hj)
  have HS : Hid (∀ j, j < xs.length → (mixR niD (mkInts K xs) xs j).set j (niD (mkNi (K + tot niCnt (xs.take j)) (xs.getD j default))) = mixR niD (mkInts K xs) xs (j + 1)) := hide (fun j hj => by rw [← mkInts_get K xs j hj]; exact mixR_step _ hML hj)
  have HA : Hid (∀ j, ∀ r ∈ mixR niD (mkInts K xs) xs j, r.length = 1) := hide (fun j => mixR_all (f := niD) (k := 1) (fun _ => rfl) _ _ j)
  have HLn : Hid (∀ j, j ≤ xs.length → (mixR niD (mkInts K xs) xs j).length = xs.length) := hide (fun j hj => mixR_len _ hML hj)
  have hxl : xs.length ≤ tot niCnt xs := tot_one _ (fun _ => by unfold niCnt; omega) xs
  have hsl := h.slice
  clear h hML
  rw [HCN.out]
  generalize hn : xs.length = n at *
  rcases hsl with ⟨rfl, rfl⟩ | ⟨g, c, rfl⟩
  · have hx0 : xs = [] := List.eq_nil_of_length_eq_zero hn
    have HX0 : Hid (tot niCnt xs = 0) := hide (by rw [hx0]; rfl)
    go_enter Try.func33, Try.ntmps33
    go_wp2
    go_loopw [1, 5] (fun q i wr => q = .int .i64 (K : Int) ∧ i = .int .i64 0 ∧ wr = w) (fun _ _ _ => 0)
    case atStart => exact ⟨rfl, rfl, rfl⟩
    case round =>
      obtain ⟨rfl, rfl, rfl⟩ := hrel
      go_wp2
      go_ret
      exact ⟨by rw [HX0.out]; rfl, HEN.out _ HST.out, Chg.refl _ _⟩
  · go_enter Try.func33, Try.ntmps33
    go_wp2
    go_loopw [1, 5] (fun q i wr => ∃ j : Nat, j ≤ n ∧ q = .int .i64 ((K + tot niCnt (xs.take j) : Nat) : Int) ∧ i = .int .i64 (j : Int) ∧ Hid (Owns wr b (.row 3 1 n ((mixR niD (mkInts K xs) xs j).flatten)) (.slice (some ⟨g, 0, none⟩) n c) F) ∧ Hid (Chg F w wr)) (fun _ i _ => n - (intOf i).toNat)
    case atStart => exact ⟨0, Nat.zero_le _, by simp [tot], rfl, HST, hide (Chg.refl _ _)⟩
    case round =>
      clear HST
      obtain ⟨j, hj, rfl, rfl, HO, HC⟩ := hrel
      by_cases hlt : j < n
      · have hcap : n ≤ c := by
          have := HO.out
          unfold Owns at this
          obtain ⟨us, G, h2, _⟩ := this
          obtain ⟨_, a, cap, e, h3, _⟩ := rd_own h2 (Nat.le_refl _)
          cases e
          exact h3
        obtain ⟨q, hq⟩ : ∃ q, K + tot niCnt (xs.take j) = q := ⟨_, rfl⟩
        have hq0 : 0 < q := by omega
        have hts := HTS.out j hlt
        have htl := HTL.out (j + 1)
        have HA1 := hide (HA.out j)
        have HL1 := hide (HLn.out j hj)
        have HG1 := HG.out j hlt
        have HS1 := HS.out j hlt
        obtain ⟨x, hx⟩ : ∃ x, xs.getD j default = x := ⟨_, rfl⟩
        rw [hx] at HG1 HS1 hts
        have hcm : niCnt x = 1 := rfl
        have hqm : q + (1) ≤ 100000000 := by omega
        rw [hq] at HS1 ⊢
        have HG2 := hide HG1
        have HS2 := hide HS1
        have HQ := hide hq
        clear hx hq HG1 HS1
        obtain ⟨rs, hrs⟩ : ∃ rs, mixR niD (mkInts K xs) xs j = rs := ⟨_, rfl⟩
        rw [hrs] at HO HA1 HL1 HG2 HS2
        clear hrs
        have h0 : ∀ i, i < 1 → rs.flatten[j * 1 + i]? = (niD x)[i]? := fun i hi => by rw [rows_get rs j i HA1.out (by have := HL1.out; omega) hi, HG2.out]
        obtain ⟨d0, z0, hgF, ho⟩ := HO.out.cell hnd (i := j) (z := .int .i64 x) (by rw [show j = j * 1 + 0 from by omega, h0 0 (by omega)]; rfl) (.int .i64 (q : Int))
        replace HO := hide ho
        replace HC := hide (HC.out.set hgF (j) (.int .i64 (q : Int)))
        clear ho
        have HZ : Hid ((rs.flatten.set (j * 1) (.val (.int .i64 (q : Int)))) = (rs.set j (niD (mkNi q x))).flatten) := hide (by
          have hl := HL1.out
          rw [show j * 1 = j * 1 + 0 from rfl]
          rw [rows_set rs j 0 _ HA1.out (by omega) (by omega), HG2.out]
          unfold niD mkNi
          rfl)
        rw [Nat.mul_one] at HZ
        rw [HZ.out, HS2.out] at HO
        go_wp2
        exact ⟨⟨j + 1, by omega, by have hh := HQ.out; congr 1; omega, by go_num, HO, HC⟩, by simp [intOf]; omega⟩
      · obtain rfl : j = n := by omega
        have HF := hide (HEN.out _ HO.out)
        go_wp2
        go_ret
        exact ⟨by rw [HTE.out]; rfl, HF.out, HC.out⟩
theorem mkIntsI (w : World) (b hi K : Nat) (m : Int) (hmK : m = (K : Int)) (v : Value) (xs : List Int) (h : OwnD w b hi (ints xs) v) (hK : 0 < K) (hm : K + cntInts xs ≤ 100000000) :
    Calls Try.prog 33 #[v, .int .i64 m] w fun e w' => e = .returned (.int .i64 ((K + cntInts xs : Nat) : Int)) ∧ OwnD w' b hi (ints (mkInts K xs)) v ∧ ChgI b hi w w' := by
  obtain ⟨F, h1, h2, h3⟩ := h
  have hl := Owns.lt _ _ _ h1
  refine (mkIntsR w b K m hmK v xs F h1 h2 hK hm).mono ?_
  rintro e w1 ⟨rfl, o1, c1⟩
  exact ⟨rfl, ⟨F, o1, h2, h3⟩, c1.int (fun q hq => ⟨(hl q hq).1, h3 q hq⟩)⟩
set_option maxRecDepth 100000 in
set_option maxHeartbeats 8000000 in
theorem heldIntsR (w : World) (K : Nat) (m : Int) (hmK : m = (K : Int)) (v : Value) (xs : List Int) (h : Reads w w.heap.size (ints (mkInts K xs)) v) (hK : 0 < K) (hm : K + cntInts xs ≤ 100000000) :
    Calls Try.prog 34 #[v, .int .i64 m] w fun e w' => e = .returned (.int .i64 ((K + cntInts xs : Nat) : Int)) ∧ Below w.heap.size w w' := by
  subst hmK
  have HCN : Hid (cntInts xs = tot niCnt xs) := hide rfl
  rw [HCN.out] at hm ⊢
  have HX : Hid (∀ wr, Below w.heap.size w wr → _) := hide (fun wr hb => int_at (h.at hb))
  have HTS : Hid (∀ j, j < xs.length → tot niCnt (xs.take (j + 1)) = tot niCnt (xs.take j) + niCnt (xs.getD j default)) := hide (fun j hj => tot_step _ xs j hj)
  have HTL : Hid (∀ j, tot niCnt (xs.take j) ≤ tot niCnt xs) := hide (fun j => tot_le _ xs j)
  have HGt : Hid (∀ j, j < xs.length → (mkInts K xs).getD j default = mkNi (K + tot niCnt (xs.take j)) (xs.getD j default)) := hide (fun j hj => mkInts_get K xs j hj)
  have HTE : Hid (tot niCnt (xs.take xs.length) = tot niCnt xs) := hide (by rw [List.take_length])
  have HLe := hide (mkInts_len K xs)
  have hmx : xs.length ≤ tot niCnt xs := tot_one _ (fun _ => by unfold niCnt; omega) xs
  obtain ⟨a, cap, rfl, hlc, _⟩ := int_at h
  rw [mkInts_len] at hlc ⊢
  clear h
  obtain ⟨n, hn⟩ : ∃ n, xs.length = n := ⟨_, rfl⟩
  rw [hn] at hlc hmx ⊢
  have HLn := hide hn
  clear hn
  go_enter Try.func34, Try.ntmps34
  go_wp2
  go_loopw [1, 5] (fun q i wr => ∃ j : Nat, j ≤ n ∧ q = .int .i64 ((K + tot niCnt (xs.take j) : Nat) : Int) ∧ i = .int .i64 (j : Int) ∧ Hid (Below w.heap.size w wr)) (fun _ i _ => n - (intOf i).toNat)
  case atStart => exact ⟨0, Nat.zero_le _, by simp [tot], rfl, hide (Below.refl _ _)⟩
  case round =>
    obtain ⟨j, hj, rfl, rfl, HB⟩ := hrel
    by_cases hlt : j < n
    · have hlt' : j < xs.length := by have := HLn.out; omega
      have hts := HTS.out j hlt'
      have htl := HTL.out (j + 1)
      have hgt := HGt.out j hlt'
      obtain ⟨q, hq⟩ : ∃ q, K + tot niCnt (xs.take j) = q := ⟨_, rfl⟩
      obtain ⟨y, hy⟩ : ∃ y, xs.getD j default = y := ⟨_, rfl⟩
      rw [hy] at hts hgt
      rw [hq] at hgt ⊢
      have hcm : niCnt y = 1 := rfl
      have hq0 : 0 < q := by omega
      have hqm : q + (1) ≤ 100000000 := by omega
      have HEND : Hid (K + tot niCnt (xs.take (j + 1)) = q + (1)) := hide (by omega)
      obtain ⟨b, o, ha, hbb, f0⟩ : ∃ b o, a = some ⟨b, o, none⟩ ∧ b < wr.heap.size ∧ wr.cell? ⟨b, o + j, none⟩ = some (.int .i64 (((q : Nat) : Int))) := by
        obtain ⟨a', cap', e, _, _, hx⟩ := HX.out wr HB.out
        cases e
        obtain ⟨b, o, e, hb, hc⟩ := hx (by rw [HLe.out]; omega)
        have c0 := hc j (by rw [HLe.out]; exact hlt')
        rw [hgt] at c0
        exact ⟨b, o, e, hb, c0⟩
      subst ha
      have HD : Hid (∀ wq, Below wr.heap.size wr wq → wq.cell? ⟨b, o + j, none⟩ = some (.int .i64 (((q : Nat) : Int)))) := hide (fun wq hb => (hb.cell (p := ⟨b, o + j, none⟩) hbb).trans f0)
      have HR := hide (Below.refl wr.heap.size wr)
      have HQ := hide hq
      clear hq f0 hts htl hgt hcm
      have d0 := (HD.out wr HR.out)
      have n0 : ((((q : Nat) : Int)) != (((q : Nat) : Int))) = false := by simp
      have HRZ := hide (HB.out.trans (HR.out.mono HB.out.size))
      go_wp2
      exact ⟨⟨j + 1, hlt, by rw [HEND.out]; exact congrArg (Value.int .i64) (by omega), by go_num, HRZ⟩, by simp [intOf]; omega⟩
    · obtain rfl : j = n := by omega
      have HE9 : Hid (K + tot niCnt (xs.take j) = K + tot niCnt xs) := hide (by rw [← HLn.out, HTE.out])
      go_wp2
      go_ret
      exact ⟨by rw [HE9.out]; rfl, HB.out⟩
end Go.Proofs.Ytofnpgheppgcaaa
