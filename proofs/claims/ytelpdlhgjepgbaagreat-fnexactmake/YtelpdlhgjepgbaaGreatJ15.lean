/-
  Joined: MkTx, KfMk.
-/
import Derived.Test.YtelpdlhgjepgbaaGreatJ14
import Derived.Test.YtelpdlhgjepgbaaGreatJ4
import Derived.Test.YtelpdlhgjepgbaaGreatJ10
/-
  The text of a mark.
-/
namespace Go.Proofs.YtelpdlhgjepgbaaGreat
open Go.RowKit

/-- The digits of m, ahead of s. -/
def mF : Nat → Int → ByteArray → ByteArray
  | 0, _, s => s
  | f + 1, m, s => if m ≤ 0 then s else mF f (m / 10) (strOfNums [48 + m % 10] ++ s)
def mtx (k : Nat) : ByteArray := ⟨#[109]⟩ ++ mF 19 (k : Int) ⟨#[]⟩
theorem mF_step (f : Nat) (m : Int) (s : ByteArray) (h : 0 < m) : mF (f + 1) m s = mF f (m / 10) (strOfNums [48 + m % 10] ++ s) := by
  rw [mF, if_neg (by omega)]
theorem mF_end : ∀ (f : Nat) (s : ByteArray), mF f 0 s = s
  | 0, _ => rfl
  | f + 1, s => by rw [mF, if_pos (by omega)]
theorem one_size (z : Int) : (strOfNums [z]).size = 1 := rfl

set_option maxRecDepth 100000 in
set_option maxHeartbeats 2000000 in
theorem markText (w : World) (k : Nat) (h0 : 0 < k) (h1 : k ≤ 1000000000) :
    Calls Tryz.prog 53 #[.int .i64 (k : Int)] w fun e w' => e = .returned (.string (mtx k)) ∧ Below w.heap.size w w' := by
  have HF : Hid (mtx k = ⟨#[109]⟩ ++ mF 19 (k : Int) ⟨#[]⟩) := hide rfl
  have hk : ¬ (k : Int) ≤ 0 := by omega
  go_enter Tryz.func53, Tryz.ntmps53
  go_wp2
  go_loopw [0, 3] (fun m s wr => ∃ (f M : Nat) (S : ByteArray), m = .int .i64 (M : Int) ∧ s = .string S ∧ M ≤ 1000000000 ∧ Hid (M < 10 ^ f) ∧ f + S.size ≤ 19 ∧ Hid (mF 19 (k : Int) ⟨#[]⟩ = mF f (M : Int) S) ∧ Hid (Below w.heap.size w wr)) (fun m _ _ => (intOf m).toNat)
  case atStart => exact ⟨19, k, ⟨#[]⟩, rfl, rfl, h1, hide (by omega), by simp [ByteArray.size], hide rfl, hide (Below.refl _ _)⟩
  case round =>
    obtain ⟨f, M, S, rfl, rfl, hM, HL, hf, HE, HB⟩ := hrel
    by_cases hp : 0 < (M : Int)
    · have hz : (M : Int).tmod 10 = (M : Int) % 10 := Int.tmod_eq_emod_of_nonneg (by omega)
      have hq : (M : Int).tdiv 10 = ((M / 10 : Nat) : Int) := by rw [Int.tdiv_eq_ediv_of_nonneg (by omega)]; omega
      have HO : Hid (Own (wr.alloc (.cells #[.int .u8 (48 + (M : Int) % 10)] 5)) wr.heap.size (.slice (some ⟨wr.heap.size, 0, none⟩) 1 1) [48 + (M : Int) % 10]) := hide (World.ownsRow_lit wr #[.int .u8 (48 + (M : Int) % 10)] 1 (Nat.le_refl _) (by unfold maxLen; omega) rfl)
      have hcv := own_str HO.out
      have h1s := one_size (48 + (M : Int) % 10)
      obtain ⟨f', rfl⟩ : ∃ f', f = f' + 1 := ⟨f - 1, by
        have := HL.out
        rcases Nat.eq_zero_or_pos f with h | h
        · subst h; simp at this; omega
        · omega⟩
      have HE2 : Hid (mF 19 (k : Int) ⟨#[]⟩ = mF f' ((M / 10 : Nat) : Int) (strOfNums [48 + (M : Int) % 10] ++ S)) := hide (by rw [HE.out, mF_step f' _ _ hp]; congr 1)
      have HL2 : Hid (M / 10 < 10 ^ f') := hide (by have := HL.out; rw [Nat.pow_succ] at this; omega)
      have HB2 := hide (HB.out.alloc HB.out.size (.cells #[.int .u8 (48 + (M : Int) % 10)] 5))
      generalize hT : strOfNums [48 + (M : Int) % 10] = T at *
      have hsz : ¬ (T.size + S.size > 9223372036854775807) := by omega
      clear HE HL HB HO
      go_wp2
      exact ⟨⟨f', M / 10, T ++ S, by go_num, rfl, by omega, HL2, by simp; omega, HE2, HB2⟩, by simp [intOf]; omega⟩
    · obtain rfl : M = 0 := by omega
      have HS : Hid (mF 19 (k : Int) ⟨#[]⟩ = S) := hide (by rw [HE.out]; exact mF_end _ _)
      have h1s : (ByteArray.mk #[109]).size = 1 := rfl
      have hsz : ¬ ((ByteArray.mk #[109]).size + S.size > 9223372036854775807) := by omega
      go_wp2
      go_ret
      exact ⟨by rw [HF.out, HS.out]; rfl, HB.out⟩
end Go.Proofs.YtelpdlhgjepgbaaGreat
/-
  What marks leave of rows of texts, consts, fields and bytes.
-/
namespace Go.Proofs.YtelpdlhgjepgbaaGreat
open Go.RowKit

def mkSs (k n : Nat) : List ByteArray := (List.range n).map fun i => mtx (k + i)
def mkKc (k : Nat) : Kc := ⟨(k : Int), ((k + 1 : Nat) : Int), mtx (k + 2), mtx (k + 3)⟩
def mkFd (k : Nat) : Fd := ⟨mtx k, mtx (k + 1)⟩
def mkKs (k n : Nat) : List Kc := (List.range n).map fun i => mkKc (k + 4 * i)
def mkFs (k n : Nat) : List Fd := (List.range n).map fun i => mkFd (k + 2 * i)
theorem mkSs_len (k n : Nat) : (mkSs k n).length = n := by simp [mkSs]
theorem mkKs_len (k n : Nat) : (mkKs k n).length = n := by simp [mkKs]
theorem mkFs_len (k n : Nat) : (mkFs k n).length = n := by simp [mkFs]
theorem mkSs_get (k n j : Nat) (h : j < n) : (mkSs k n).getD j default = mtx (k + j) := by simp [mkSs, h]
theorem mkKs_get (k n j : Nat) (h : j < n) : (mkKs k n).getD j default = mkKc (k + 4 * j) := by simp [mkKs, h]
theorem mkFs_get (k n j : Nat) (h : j < n) : (mkFs k n).getD j default = mkFd (k + 2 * j) := by simp [mkFs, h]
theorem markTextI (w : World) (m : Int) (k : Nat) (h : m = (k : Int)) (h0 : 0 < k) (h1 : k ≤ 1000000000) :
    Calls Tryz.prog 53 #[.int .i64 m] w fun e w' => e = .returned (.string (mtx k)) ∧ Below w.heap.size w w' := by
  subst h
  exact markText w k h0 h1
set_option maxRecDepth 100000 in
set_option maxHeartbeats 4000000 in
theorem mkSt (w : World) (b K : Nat) (v : Value) (xs : List ByteArray) (F : List Nat) (h : Owns w b (strs xs) v F) (hnd : F.Nodup) (hK : 0 < K) (hm : K + 1 * xs.length ≤ 100000000) :
    Calls Tryz.prog 79 #[v, .int .i64 (K : Int)] w fun e w' => e = .returned (.int .i64 ((K + 1 * xs.length : Nat) : Int)) ∧ Owns w' b (strs (mkSs K xs.length)) v F ∧ Chg F w w' := by
  have HST : Hid (Owns w b (.row 9 1 xs.length ((mixR txD (mkSs K xs.length) xs 0).flatten)) v F) := hide (by rw [mixR_zero]; exact h)
  have HEN : Hid (∀ W, Owns W b (.row 9 1 xs.length ((mixR txD (mkSs K xs.length) xs xs.length).flatten)) v F → Owns W b (strs (mkSs K xs.length)) v F) := hide (fun W h => by rw [mixR_end _ (mkSs_len K _)] at h; unfold strs; rw [mkSs_len]; exact h)
  have hML := mkSs_len K xs.length
  have HG : Hid (∀ j, j < xs.length → (mixR txD (mkSs K xs.length) xs j).getD j [] = txD (xs.getD j default)) := hide (fun j hj => mixR_get _ hML hj)
  have HS : Hid (∀ j, j < xs.length → (mixR txD (mkSs K xs.length) xs j).set j (txD (mtx (K + 1 * j))) = mixR txD (mkSs K xs.length) xs (j + 1)) := hide (fun j hj => by rw [Nat.one_mul, ← mkSs_get K _ j hj]; exact mixR_step _ hML hj)
  have HA : Hid (∀ j, ∀ r ∈ mixR txD (mkSs K xs.length) xs j, r.length = 1) := hide (fun j => mixR_all (f := txD) (k := 1) (fun _ => rfl) _ _ j)
  have HLn : Hid (∀ j, j ≤ xs.length → (mixR txD (mkSs K xs.length) xs j).length = xs.length) := hide (fun j hj => mixR_len _ hML hj)
  have hsl := h.slice
  clear h hML
  generalize hn : xs.length = n at *
  rcases hsl with ⟨rfl, rfl⟩ | ⟨g, c, rfl⟩
  · go_enter Tryz.func79, Tryz.ntmps79
    go_wp2
    go_loopw [1, 5] (fun q i wr => q = .int .i64 (K : Int) ∧ i = .int .i64 0 ∧ wr = w) (fun _ _ _ => 0)
    case atStart => exact ⟨rfl, rfl, rfl⟩
    case round =>
      obtain ⟨rfl, rfl, rfl⟩ := hrel
      go_wp2
      go_ret
      exact ⟨by simp, HEN.out _ HST.out, Chg.refl _ _⟩
  · go_enter Tryz.func79, Tryz.ntmps79
    go_wp2
    go_loopw [1, 5] (fun q i wr => ∃ j : Nat, j ≤ n ∧ q = .int .i64 ((K + 1 * j : Nat) : Int) ∧ i = .int .i64 (j : Int) ∧ Hid (Owns wr b (.row 9 1 n ((mixR txD (mkSs K n) xs j).flatten)) (.slice (some ⟨g, 0, none⟩) n c) F) ∧ Hid (Chg F w wr)) (fun _ i _ => n - (intOf i).toNat)
    case atStart => exact ⟨0, Nat.zero_le _, by simp, rfl, HST, hide (Chg.refl _ _)⟩
    case round =>
      clear HST
      obtain ⟨j, hj, rfl, rfl, HO, HC⟩ := hrel
      by_cases hlt : j < n
      · have hcap : n ≤ c := by
          have := HO.out
          unfold Owns at this
          obtain ⟨us, G, h2, _⟩ := this
          obtain ⟨_, a, cap, e, h3, _⟩ := rd_own h2 (Nat.le_refl _)
          cases e
          exact h3
        obtain ⟨q, hq⟩ : ∃ q, K + 1 * j = q := ⟨_, rfl⟩
        have hq0 : 0 < q := by omega
        have hqm : q + 1 ≤ 100000000 := by omega
        have HA1 := hide (HA.out j)
        have HL1 := hide (HLn.out j hj)
        have HG1 := HG.out j hlt
        have HS1 := HS.out j hlt
        obtain ⟨x, hx⟩ : ∃ x, xs.getD j default = x := ⟨_, rfl⟩
        rw [hx] at HG1
        rw [hq] at HS1 ⊢
        have HG2 := hide HG1
        have HS2 := hide HS1
        have HQ := hide hq
        clear hx hq HG1 HS1
        obtain ⟨rs, hrs⟩ : ∃ rs, mixR txD (mkSs K n) xs j = rs := ⟨_, rfl⟩
        rw [hrs] at HO HA1 HL1 HG2 HS2
        clear hrs
        have h0 : ∀ i, i < 1 → rs.flatten[j * 1 + i]? = (txD x)[i]? := fun i hi => by rw [rows_get rs j i HA1.out (by have := HL1.out; omega) hi, HG2.out]
        go_wp2_with fail
        refine (markTextI _ _ (q) (by omega) (by omega) (by omega)).mono ?_
        rintro e w0 ⟨rfl, b0⟩
        replace HO := hide (HO.out.same (fun q hq => b0.block q (Owns.lt _ _ _ HO.out q hq).2))
        replace HC := hide (HC.out.trans (Chg.of_below b0))
        clear b0
        obtain ⟨d0, z0, hgF, ho⟩ := HO.out.cell hnd (i := j) (z := .string x) (by rw [show j = j * 1 + 0 from by omega, h0 0 (by omega)]; rfl) (.string (mtx q))
        replace HO := hide ho
        replace HC := hide (HC.out.set hgF (j) (.string (mtx q)))
        clear ho
        have HZ : Hid (rs.flatten.set j (.val (.string (mtx q))) = (rs.set j (txD (mtx q))).flatten) := hide (by
          rw [show rs.flatten.set j (Dt.val (.string (mtx q))) = rs.flatten.set (j * 1 + 0) (Dt.val (.string (mtx q))) from by rw [Nat.mul_one, Nat.add_zero], rows_set rs j 0 _ HA1.out (by have := HL1.out; omega) (by omega), HG2.out]
          rfl)
        rw [HZ.out, HS2.out] at HO
        go_wp2
        exact ⟨⟨j + 1, by omega, by have hh := HQ.out; congr 1; omega, by go_num, HO, HC⟩, by simp [intOf]; omega⟩
      · obtain rfl : j = n := by omega
        have HF := hide (HEN.out _ HO.out)
        go_wp2
        go_ret
        exact ⟨rfl, HF.out, HC.out⟩
set_option maxRecDepth 100000 in
set_option maxHeartbeats 4000000 in
theorem mkFds (w : World) (b K : Nat) (v : Value) (xs : List Fd) (F : List Nat) (h : Owns w b (flds xs) v F) (hnd : F.Nodup) (hK : 0 < K) (hm : K + 2 * xs.length ≤ 100000000) :
    Calls Tryz.prog 55 #[v, .int .i64 (K : Int)] w fun e w' => e = .returned (.int .i64 ((K + 2 * xs.length : Nat) : Int)) ∧ Owns w' b (flds (mkFs K xs.length)) v F ∧ Chg F w w' := by
  have HST : Hid (Owns w b (.row 83 2 xs.length ((mixR fdD (mkFs K xs.length) xs 0).flatten)) v F) := hide (by rw [mixR_zero]; exact h)
  have HEN : Hid (∀ W, Owns W b (.row 83 2 xs.length ((mixR fdD (mkFs K xs.length) xs xs.length).flatten)) v F → Owns W b (flds (mkFs K xs.length)) v F) := hide (fun W h => by rw [mixR_end _ (mkFs_len K _)] at h; unfold flds; rw [mkFs_len]; exact h)
  have hML := mkFs_len K xs.length
  have HG : Hid (∀ j, j < xs.length → (mixR fdD (mkFs K xs.length) xs j).getD j [] = fdD (xs.getD j default)) := hide (fun j hj => mixR_get _ hML hj)
  have HS : Hid (∀ j, j < xs.length → (mixR fdD (mkFs K xs.length) xs j).set j (fdD (mkFd (K + 2 * j))) = mixR fdD (mkFs K xs.length) xs (j + 1)) := hide (fun j hj => by rw [← mkFs_get K _ j hj]; exact mixR_step _ hML hj)
  have HA : Hid (∀ j, ∀ r ∈ mixR fdD (mkFs K xs.length) xs j, r.length = 2) := hide (fun j => mixR_all (f := fdD) (k := 2) (fun _ => rfl) _ _ j)
  have HLn : Hid (∀ j, j ≤ xs.length → (mixR fdD (mkFs K xs.length) xs j).length = xs.length) := hide (fun j hj => mixR_len _ hML hj)
  have hsl := h.slice
  clear h hML
  generalize hn : xs.length = n at *
  rcases hsl with ⟨rfl, rfl⟩ | ⟨g, c, rfl⟩
  · go_enter Tryz.func55, Tryz.ntmps55
    go_wp2
    go_loopw [1, 5] (fun q i wr => q = .int .i64 (K : Int) ∧ i = .int .i64 0 ∧ wr = w) (fun _ _ _ => 0)
    case atStart => exact ⟨rfl, rfl, rfl⟩
    case round =>
      obtain ⟨rfl, rfl, rfl⟩ := hrel
      go_wp2
      go_ret
      exact ⟨by simp, HEN.out _ HST.out, Chg.refl _ _⟩
  · go_enter Tryz.func55, Tryz.ntmps55
    go_wp2
    go_loopw [1, 5] (fun q i wr => ∃ j : Nat, j ≤ n ∧ q = .int .i64 ((K + 2 * j : Nat) : Int) ∧ i = .int .i64 (j : Int) ∧ Hid (Owns wr b (.row 83 2 n ((mixR fdD (mkFs K n) xs j).flatten)) (.slice (some ⟨g, 0, none⟩) n c) F) ∧ Hid (Chg F w wr)) (fun _ i _ => n - (intOf i).toNat)
    case atStart => exact ⟨0, Nat.zero_le _, by simp, rfl, HST, hide (Chg.refl _ _)⟩
    case round =>
      clear HST
      obtain ⟨j, hj, rfl, rfl, HO, HC⟩ := hrel
      by_cases hlt : j < n
      · have hcap : n ≤ c := by
          have := HO.out
          unfold Owns at this
          obtain ⟨us, G, h2, _⟩ := this
          obtain ⟨_, a, cap, e, h3, _⟩ := rd_own h2 (Nat.le_refl _)
          cases e
          exact h3
        obtain ⟨q, hq⟩ : ∃ q, K + 2 * j = q := ⟨_, rfl⟩
        have hq0 : 0 < q := by omega
        have hqm : q + 2 ≤ 100000000 := by omega
        have HA1 := hide (HA.out j)
        have HL1 := hide (HLn.out j hj)
        have HG1 := HG.out j hlt
        have HS1 := HS.out j hlt
        obtain ⟨x, hx⟩ : ∃ x, xs.getD j default = x := ⟨_, rfl⟩
        rw [hx] at HG1
        rw [hq] at HS1 ⊢
        have HG2 := hide HG1
        have HS2 := hide HS1
        have HQ := hide hq
        clear hx hq HG1 HS1
        obtain ⟨rs, hrs⟩ : ∃ rs, mixR fdD (mkFs K n) xs j = rs := ⟨_, rfl⟩
        rw [hrs] at HO HA1 HL1 HG2 HS2
        clear hrs
        have h0 : ∀ i, i < 2 → rs.flatten[j * 2 + i]? = (fdD x)[i]? := fun i hi => by rw [rows_get rs j i HA1.out (by have := HL1.out; omega) hi, HG2.out]
        go_wp2_with fail
        refine (markTextI _ _ (q) (by omega) (by omega) (by omega)).mono ?_
        rintro e w0 ⟨rfl, b0⟩
        replace HO := hide (HO.out.same (fun q hq => b0.block q (Owns.lt _ _ _ HO.out q hq).2))
        replace HC := hide (HC.out.trans (Chg.of_below b0))
        clear b0
        obtain ⟨d0, z0, hgF, ho⟩ := HO.out.cell hnd (i := j * 2) (z := .string x.n) (by rw [show j * 2 = j * 2 + 0 from rfl, h0 0 (by omega)]; rfl) (.string (mtx q))
        replace HO := hide ho
        replace HC := hide (HC.out.set hgF (j * 2) (.string (mtx q)))
        clear ho
        go_wp2_with fail
        clear d0 z0
        refine (markTextI _ _ (q + 1) (by omega) (by omega) (by omega)).mono ?_
        rintro e w1 ⟨rfl, b1⟩
        replace HO := hide (HO.out.same (fun q hq => b1.block q (Owns.lt _ _ _ HO.out q hq).2))
        replace HC := hide (HC.out.trans (Chg.of_below b1))
        clear b1
        obtain ⟨d1, z1, hgF, ho⟩ := HO.out.cell hnd (i := j * 2 + 1) (z := .string x.t) (by rw [List.getElem?_set_ne (by omega), h0 1 (by omega)]; rfl) (.string (mtx (q + 1)))
        replace HO := hide ho
        replace HC := hide (HC.out.set hgF (j * 2 + 1) (.string (mtx (q + 1))))
        clear ho
        have HZ : Hid (((rs.flatten.set (j * 2) (.val (.string (mtx q)))).set (j * 2 + 1) (.val (.string (mtx (q + 1))))) = (rs.set j (fdD (mkFd q))).flatten) := hide (by
          have hl := HL1.out
          have hlen : ∀ (rs' : List (List Dt)) (r : List Dt), (∀ r ∈ rs', r.length = 2) → r.length = 2 → ∀ r' ∈ rs'.set j r, r'.length = 2 := fun rs' r h1 h2 r' hr => by
            rcases List.mem_or_eq_of_mem_set hr with h | h
            · exact h1 r' h
            · rw [h]; exact h2
          rw [show j * 2 = j * 2 + 0 from rfl]
          rw [rows_set rs j 0 _ HA1.out (by omega) (by omega), HG2.out]
          rw [rows_set _ j 1 _ (hlen _ _ HA1.out rfl) (by rw [List.length_set]; omega) (by omega), List.getD_eq_getElem?_getD, List.getElem?_set_self (by omega), Option.getD_some, List.set_set]
          rfl)
        rw [HZ.out, HS2.out] at HO
        go_wp2
        exact ⟨⟨j + 1, by omega, by have hh := HQ.out; congr 1; omega, by go_num, HO, HC⟩, by simp [intOf]; omega⟩
      · obtain rfl : j = n := by omega
        have HF := hide (HEN.out _ HO.out)
        go_wp2
        go_ret
        exact ⟨rfl, HF.out, HC.out⟩
set_option maxRecDepth 100000 in
set_option maxHeartbeats 4000000 in
theorem mkKcs (w : World) (b K : Nat) (v : Value) (xs : List Kc) (F : List Nat) (h : Owns w b (pool xs) v F) (hnd : F.Nodup) (hK : 0 < K) (hm : K + 4 * xs.length ≤ 100000000) :
    Calls Tryz.prog 54 #[v, .int .i64 (K : Int)] w fun e w' => e = .returned (.int .i64 ((K + 4 * xs.length : Nat) : Int)) ∧ Owns w' b (pool (mkKs K xs.length)) v F ∧ Chg F w w' := by
  have HST : Hid (Owns w b (.row 132 4 xs.length ((mixR kcD (mkKs K xs.length) xs 0).flatten)) v F) := hide (by rw [mixR_zero]; exact h)
  have HEN : Hid (∀ W, Owns W b (.row 132 4 xs.length ((mixR kcD (mkKs K xs.length) xs xs.length).flatten)) v F → Owns W b (pool (mkKs K xs.length)) v F) := hide (fun W h => by rw [mixR_end _ (mkKs_len K _)] at h; unfold pool; rw [mkKs_len]; exact h)
  have hML := mkKs_len K xs.length
  have HG : Hid (∀ j, j < xs.length → (mixR kcD (mkKs K xs.length) xs j).getD j [] = kcD (xs.getD j default)) := hide (fun j hj => mixR_get _ hML hj)
  have HS : Hid (∀ j, j < xs.length → (mixR kcD (mkKs K xs.length) xs j).set j (kcD (mkKc (K + 4 * j))) = mixR kcD (mkKs K xs.length) xs (j + 1)) := hide (fun j hj => by rw [← mkKs_get K _ j hj]; exact mixR_step _ hML hj)
  have HA : Hid (∀ j, ∀ r ∈ mixR kcD (mkKs K xs.length) xs j, r.length = 4) := hide (fun j => mixR_all (f := kcD) (k := 4) (fun _ => rfl) _ _ j)
  have HLn : Hid (∀ j, j ≤ xs.length → (mixR kcD (mkKs K xs.length) xs j).length = xs.length) := hide (fun j hj => mixR_len _ hML hj)
  have hsl := h.slice
  clear h hML
  generalize hn : xs.length = n at *
  rcases hsl with ⟨rfl, rfl⟩ | ⟨g, c, rfl⟩
  · go_enter Tryz.func54, Tryz.ntmps54
    go_wp2
    go_loopw [1, 5] (fun q i wr => q = .int .i64 (K : Int) ∧ i = .int .i64 0 ∧ wr = w) (fun _ _ _ => 0)
    case atStart => exact ⟨rfl, rfl, rfl⟩
    case round =>
      obtain ⟨rfl, rfl, rfl⟩ := hrel
      go_wp2
      go_ret
      exact ⟨by simp, HEN.out _ HST.out, Chg.refl _ _⟩
  · go_enter Tryz.func54, Tryz.ntmps54
    go_wp2
    go_loopw [1, 5] (fun q i wr => ∃ j : Nat, j ≤ n ∧ q = .int .i64 ((K + 4 * j : Nat) : Int) ∧ i = .int .i64 (j : Int) ∧ Hid (Owns wr b (.row 132 4 n ((mixR kcD (mkKs K n) xs j).flatten)) (.slice (some ⟨g, 0, none⟩) n c) F) ∧ Hid (Chg F w wr)) (fun _ i _ => n - (intOf i).toNat)
    case atStart => exact ⟨0, Nat.zero_le _, by simp, rfl, HST, hide (Chg.refl _ _)⟩
    case round =>
      clear HST
      obtain ⟨j, hj, rfl, rfl, HO, HC⟩ := hrel
      by_cases hlt : j < n
      · have hcap : n ≤ c := by
          have := HO.out
          unfold Owns at this
          obtain ⟨us, G, h2, _⟩ := this
          obtain ⟨_, a, cap, e, h3, _⟩ := rd_own h2 (Nat.le_refl _)
          cases e
          exact h3
        obtain ⟨q, hq⟩ : ∃ q, K + 4 * j = q := ⟨_, rfl⟩
        have hq0 : 0 < q := by omega
        have hqm : q + 4 ≤ 100000000 := by omega
        have HA1 := hide (HA.out j)
        have HL1 := hide (HLn.out j hj)
        have HG1 := HG.out j hlt
        have HS1 := HS.out j hlt
        obtain ⟨x, hx⟩ : ∃ x, xs.getD j default = x := ⟨_, rfl⟩
        rw [hx] at HG1
        rw [hq] at HS1 ⊢
        have HG2 := hide HG1
        have HS2 := hide HS1
        have HQ := hide hq
        clear hx hq HG1 HS1
        obtain ⟨rs, hrs⟩ : ∃ rs, mixR kcD (mkKs K n) xs j = rs := ⟨_, rfl⟩
        rw [hrs] at HO HA1 HL1 HG2 HS2
        clear hrs
        have h0 : ∀ i, i < 4 → rs.flatten[j * 4 + i]? = (kcD x)[i]? := fun i hi => by rw [rows_get rs j i HA1.out (by have := HL1.out; omega) hi, HG2.out]
        obtain ⟨d0, z0, hgF, ho⟩ := HO.out.cell hnd (i := j * 4) (z := .int .i64 x.k) (by rw [show j * 4 = j * 4 + 0 from rfl, h0 0 (by omega)]; rfl) (.int .i64 (q : Int))
        replace HO := hide ho
        replace HC := hide (HC.out.set hgF (j * 4) (.int .i64 (q : Int)))
        clear ho
        have e0 := d0
        have y0 := z0
        have OW := HO
        obtain ⟨d1, z1, hgF, ho⟩ := HO.out.cell hnd (i := j * 4 + 1) (z := .int .i64 x.n) (by rw [List.getElem?_set_ne (by omega), h0 1 (by omega)]; rfl) (.int .i64 ((q : Int) + 1))
        replace HO := hide ho
        replace HC := hide (HC.out.set hgF (j * 4 + 1) (.int .i64 ((q : Int) + 1)))
        clear ho
        clear OW e0 y0
        go_wp2_with fail
        clear d0 z0 d1 z1
        refine (markTextI _ _ (q + 2) (by omega) (by omega) (by omega)).mono ?_
        rintro e w2 ⟨rfl, b2⟩
        replace HO := hide (HO.out.same (fun q hq => b2.block q (Owns.lt _ _ _ HO.out q hq).2))
        replace HC := hide (HC.out.trans (Chg.of_below b2))
        clear b2
        obtain ⟨d2, z2, hgF, ho⟩ := HO.out.cell hnd (i := j * 4 + 2) (z := .string x.a) (by rw [List.getElem?_set_ne (by omega), List.getElem?_set_ne (by omega), h0 2 (by omega)]; rfl) (.string (mtx (q + 2)))
        replace HO := hide ho
        replace HC := hide (HC.out.set hgF (j * 4 + 2) (.string (mtx (q + 2))))
        clear ho
        go_wp2_with fail
        clear d2 z2
        refine (markTextI _ _ (q + 3) (by omega) (by omega) (by omega)).mono ?_
        rintro e w3 ⟨rfl, b3⟩
        replace HO := hide (HO.out.same (fun q hq => b3.block q (Owns.lt _ _ _ HO.out q hq).2))
        replace HC := hide (HC.out.trans (Chg.of_below b3))
        clear b3
        obtain ⟨d3, z3, hgF, ho⟩ := HO.out.cell hnd (i := j * 4 + 3) (z := .string x.b) (by rw [List.getElem?_set_ne (by omega), List.getElem?_set_ne (by omega), List.getElem?_set_ne (by omega), h0 3 (by omega)]; rfl) (.string (mtx (q + 3)))
        replace HO := hide ho
        replace HC := hide (HC.out.set hgF (j * 4 + 3) (.string (mtx (q + 3))))
        clear ho
        have HZ : Hid (((((rs.flatten.set (j * 4) (.val (.int .i64 (q : Int)))).set (j * 4 + 1) (.val (.int .i64 ((q : Int) + 1)))).set (j * 4 + 2) (.val (.string (mtx (q + 2))))).set (j * 4 + 3) (.val (.string (mtx (q + 3))))) = (rs.set j (kcD (mkKc q))).flatten) := hide (by
          have hl := HL1.out
          have hlen : ∀ (rs' : List (List Dt)) (r : List Dt), (∀ r ∈ rs', r.length = 4) → r.length = 4 → ∀ r' ∈ rs'.set j r, r'.length = 4 := fun rs' r h1 h2 r' hr => by
            rcases List.mem_or_eq_of_mem_set hr with h | h
            · exact h1 r' h
            · rw [h]; exact h2
          rw [show j * 4 = j * 4 + 0 from rfl]
          rw [rows_set rs j 0 _ HA1.out (by omega) (by omega), HG2.out]
          rw [rows_set _ j 1 _ (hlen _ _ HA1.out rfl) (by rw [List.length_set]; omega) (by omega), List.getD_eq_getElem?_getD, List.getElem?_set_self (by omega), Option.getD_some, List.set_set]
          rw [rows_set _ j 2 _ (hlen _ _ HA1.out rfl) (by rw [List.length_set]; omega) (by omega), List.getD_eq_getElem?_getD, List.getElem?_set_self (by omega), Option.getD_some, List.set_set]
          rw [rows_set _ j 3 _ (hlen _ _ HA1.out rfl) (by rw [List.length_set]; omega) (by omega), List.getD_eq_getElem?_getD, List.getElem?_set_self (by omega), Option.getD_some, List.set_set]
          unfold mkKc kcD
          simp only [Int.natCast_add]
          rfl)
        rw [HZ.out, HS2.out] at HO
        go_wp2
        exact ⟨⟨j + 1, by omega, by have hh := HQ.out; congr 1; omega, by go_num, HO, HC⟩, by simp [intOf]; omega⟩
      · obtain rfl : j = n := by omega
        have HF := hide (HEN.out _ HO.out)
        go_wp2
        go_ret
        exact ⟨rfl, HF.out, HC.out⟩
theorem mkStI (w : World) (b K : Nat) (m : Int) (hmK : m = (K : Int)) (v : Value) (xs : List ByteArray) (F : List Nat) (h : Owns w b (strs xs) v F) (hnd : F.Nodup) (hK : 0 < K) (hm : K + xs.length ≤ 100000000) :
    Calls Tryz.prog 79 #[v, .int .i64 m] w fun e w' => e = .returned (.int .i64 ((K + xs.length : Nat) : Int)) ∧ Owns w' b (strs (mkSs K xs.length)) v F ∧ Chg F w w' := by
  subst hmK
  have := mkSt w b K v xs F h hnd hK (by omega)
  rwa [Nat.one_mul] at this
end Go.Proofs.YtelpdlhgjepgbaaGreat
