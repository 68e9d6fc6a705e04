/-
  Joined: ClsMk, ClsMk2, KfHe.
-/
import Derived.Test.YtpgmipbanpofaaaGreatDoorJ17
import Derived.Test.YtpgmipbanpofaaaGreatDoorJ27
import Derived.Test.YtpgmipbanpofaaaGreatDoorJ2
import Derived.Test.YtpgmipbanpofaaaGreatDoorJ18
import Derived.Test.YtpgmipbanpofaaaGreatDoorJ22
import Derived.Deep.CutRange
import Derived.Deep.RegionWith
import Derived.BigRegion
/-
  What marks leave of classes of one's own.
-/
namespace Go.Proofs.YtpgmipbanpofaaaGreatDoor
open Go.RowKit

def cntM (x : Me) : Nat := x.ps.length + x.c.length + 3
def mkMe (k : Nat) (x : Me) : Me := ⟨mtx k, mkSs (k + 1) x.ps.length, mtx (k + 1 + x.ps.length), ((k + 1 + x.ps.length : Nat) : Int) + 1, marks (k + 1 + x.ps.length + 2) x.c.length⟩
def mkMs : Nat → List Me → List Me
  | _, [] => []
  | k, x :: xs => mkMe k x :: mkMs (k + cntM x) xs
theorem mkMs_len : ∀ (k : Nat) (xs : List Me), (mkMs k xs).length = xs.length
  | _, [] => rfl
  | k, x :: xs => by simp [mkMs, mkMs_len _ xs]
theorem mkMs_get : ∀ (k : Nat) (xs : List Me) (j : Nat), j < xs.length → (mkMs k xs).getD j default = mkMe (k + tot cntM (xs.take j)) (xs.getD j default)
  | k, [], j, h => by simp at h
  | k, x :: xs, 0, h => by simp [mkMs, tot]
  | k, x :: xs, j + 1, h => by
    rw [mkMs, List.getD_cons_succ, mkMs_get _ xs j (by simpa using h), List.getD_cons_succ]
    congr 1
    unfold tot
    rw [List.take_succ_cons, List.map_cons, List.sum_cons]; omega
theorem tot_len : ∀ (xs : List Me), xs.length ≤ tot cntM xs
  | [] => by simp [tot]
  | x :: xs => by
    have := tot_len xs
    have h : tot cntM (x :: xs) = cntM x + tot cntM xs := by simp [tot]
    have h2 : cntM x = x.ps.length + x.c.length + 3 := rfl
    rw [h, List.length_cons]; omega
set_option maxRecDepth 100000 in
set_option maxHeartbeats 4000000 in
theorem mkMes (w : World) (b K : Nat) (v : Value) (xs : List Me) (F : List Nat) (h : Owns w b (mets xs) v F) (hnd : F.Nodup) (hK : 0 < K) (hm : K + tot cntM xs ≤ 100000000) :
    Calls Tryz.prog 25 #[v, .int .i64 (K : Int)] w fun e w' => e = .returned (.int .i64 ((K + tot cntM xs : Nat) : Int)) ∧ Owns w' b (mets (mkMs K xs)) v F ∧ Chg F w w' := by
  have HST : Hid (Owns w b (.row 48 5 xs.length ((mixR meD (mkMs K xs) xs 0).flatten)) v F) := hide (by rw [mixR_zero]; exact h)
  have HEN : Hid (∀ W, Owns W b (.row 48 5 xs.length ((mixR meD (mkMs K xs) xs xs.length).flatten)) v F → Owns W b (mets (mkMs K xs)) v F) := hide (fun W h => by rw [mixR_end _ (mkMs_len K _)] at h; unfold mets; rw [mkMs_len]; exact h)
  have hML := mkMs_len K xs
  have HTS : Hid (∀ j, j < xs.length → tot cntM (xs.take (j + 1)) = tot cntM (xs.take j) + cntM (xs.getD j default)) := hide (fun j hj => tot_step _ xs j hj)
  have HTL : Hid (∀ j, tot cntM (xs.take j) ≤ tot cntM xs) := hide (tot_le _ xs)
  have HTE : Hid (tot cntM (xs.take xs.length) = tot cntM xs) := hide (by rw [List.take_length])
  have hxl : xs.length ≤ tot cntM xs := tot_len xs
  have HG : Hid (∀ j, j < xs.length → (mixR meD (mkMs K xs) xs j).getD j [] = meD (xs.getD j default)) := hide (fun j hj => mixR_get _ hML hj)
  have HS : Hid (∀ j, j < xs.length → (mixR meD (mkMs K xs) xs j).set j (meD (mkMe (K + tot cntM (xs.take j)) (xs.getD j default))) = mixR meD (mkMs K xs) xs (j + 1)) := hide (fun j hj => by rw [← mkMs_get K xs j hj]; exact mixR_step _ hML hj)
  have HA : Hid (∀ j, ∀ r ∈ mixR meD (mkMs K xs) xs j, r.length = 5) := hide (fun j => mixR_all (f := meD) (k := 5) (fun _ => rfl) _ _ j)
  have HLn : Hid (∀ j, j ≤ xs.length → (mixR meD (mkMs K xs) xs j).length = xs.length) := hide (fun j hj => mixR_len _ hML hj)
  have hsl := h.slice
  clear h hML
  generalize hn : xs.length = n at *
  rcases hsl with ⟨rfl, rfl⟩ | ⟨g, c, rfl⟩
  · go_enter Tryz.func25, Tryz.ntmps25
    go_wp2
    go_loopw [1, 5] (fun q i wr => q = .int .i64 (K : Int) ∧ i = .int .i64 0 ∧ wr = w) (fun _ _ _ => 0)
    case atStart => exact ⟨rfl, rfl, rfl⟩
    case round =>
      obtain ⟨rfl, rfl, rfl⟩ := hrel
      go_wp2
      go_ret
      have hx0 : xs = [] := List.eq_nil_of_length_eq_zero hn
      exact ⟨by rw [hx0]; simp [tot], HEN.out _ HST.out, Chg.refl _ _⟩
  · go_enter Tryz.func25, Tryz.ntmps25
    go_wp2
    go_loopw [1, 5] (fun q i wr => ∃ j : Nat, j ≤ n ∧ q = .int .i64 ((K + tot cntM (xs.take j) : Nat) : Int) ∧ i = .int .i64 (j : Int) ∧ Hid (Owns wr b (.row 48 5 n ((mixR meD (mkMs K xs) xs j).flatten)) (.slice (some ⟨g, 0, none⟩) n c) F) ∧ Hid (Chg F w wr)) (fun _ i _ => n - (intOf i).toNat)
    case atStart => exact ⟨0, Nat.zero_le _, by simp [tot], rfl, HST, hide (Chg.refl _ _)⟩
    case round =>
      clear HST
      obtain ⟨j, hj, rfl, rfl, HO, HC⟩ := hrel
      by_cases hlt : j < n
      · have hcap : n ≤ c := by
          have := HO.out
          unfold Owns at this
          obtain ⟨us, G, h2, _⟩ := this
          obtain ⟨_, a, cap, e, h3, _⟩ := rd_own h2 (Nat.le_refl _)
          cases e
          exact h3
        obtain ⟨q, hq⟩ : ∃ q, K + tot cntM (xs.take j) = q := ⟨_, rfl⟩
        have hq0 : 0 < q := by omega
        have hts := HTS.out j hlt
        have htl := HTL.out (j + 1)
        have HA1 := hide (HA.out j)
        have HL1 := hide (HLn.out j hj)
        have HG1 := HG.out j hlt
        have HS1 := HS.out j hlt
        obtain ⟨x, hx⟩ : ∃ x, xs.getD j default = x := ⟨_, rfl⟩
        rw [hx] at HG1 HS1 hts
        have hcm : cntM x = x.ps.length + x.c.length + 3 := rfl
        have hqm : q + (x.ps.length + x.c.length + 3) ≤ 100000000 := by omega
        rw [hq] at HS1 ⊢
        have HG2 := hide HG1
        have HS2 := hide HS1
        have HQ := hide hq
        clear hx hq HG1 HS1
        obtain ⟨rs, hrs⟩ : ∃ rs, mixR meD (mkMs K xs) xs j = rs := ⟨_, rfl⟩
        rw [hrs] at HO HA1 HL1 HG2 HS2
        clear hrs
        have h0 : ∀ i, i < 5 → rs.flatten[j * 5 + i]? = (meD x)[i]? := fun i hi => by rw [rows_get rs j i HA1.out (by have := HL1.out; omega) hi, HG2.out]
        go_wp2_with fail
        refine (markTextI _ _ (q) (by omega) (by omega) (by omega)).mono ?_
        rintro e w0 ⟨rfl, b0⟩
        replace HO := hide (HO.out.same (fun q hq => b0.block q (Owns.lt _ _ _ HO.out q hq).2))
        replace HC := hide (HC.out.trans (Chg.of_below b0))
        clear b0
        obtain ⟨d0, z0, hgF, ho⟩ := HO.out.cell hnd (i := j * 5) (z := .string x.n) (by rw [show j * 5 = j * 5 + 0 from rfl, h0 0 (by omega)]; rfl) (.string (mtx q))
        replace HO := hide ho
        replace HC := hide (HC.out.set hgF (j * 5) (.string (mtx q)))
        clear ho
        obtain ⟨u1, G1, d1, p1, nd1, sb1, rc1⟩ := HO.out.part hnd (i := j * 5 + 1) (d := strs x.ps) (by rw [List.getElem?_set_ne (by omega), h0 1 (by omega)]; rfl)
        obtain ⟨aa1, cc1, eu1⟩ := p1.sl
        subst eu1
        have HP := hide p1
        have HRC := hide rc1
        have HLT := hide (fun q hq => (Owns.lt _ _ _ HO.out q hq).2)
        clear p1 rc1
        go_wp2_with fail
        clear d0 z0 d1
        refine (mkStI _ b (q + 1) _ (by omega) _ x.ps G1 HP.out nd1 (by omega) (by omega)).mono ?_
        rintro e w1 ⟨rfl, o1, ch1⟩
        replace HO := hide (HRC.out w1 (strs (mkSs (q + 1) x.ps.length)) o1 (fun q hq hq' => ch1.block q (HLT.out q hq) hq'))
        replace HC := hide (HC.out.trans (ch1.mono sb1))
        clear o1 ch1 HP HRC HLT
        obtain ⟨r, hr⟩ : ∃ r, q + 1 + x.ps.length = r := ⟨_, rfl⟩
        rw [hr]
        have HRR := hide hr
        go_wp2_with fail
        refine (markTextI _ _ (r) (by omega) (by omega) (by omega)).mono ?_
        rintro e w2 ⟨rfl, b2⟩
        replace HO := hide (HO.out.same (fun q hq => b2.block q (Owns.lt _ _ _ HO.out q hq).2))
        replace HC := hide (HC.out.trans (Chg.of_below b2))
        clear b2
        obtain ⟨d2, z2, hgF, ho⟩ := HO.out.cell hnd (i := j * 5 + 2) (z := .string x.r) (by rw [List.getElem?_set_ne (by omega), List.getElem?_set_ne (by omega), h0 2 (by omega)]; rfl) (.string (mtx r))
        replace HO := hide ho
        replace HC := hide (HC.out.set hgF (j * 5 + 2) (.string (mtx r)))
        clear ho
        obtain ⟨d3, z3, hgF, ho⟩ := HO.out.cell hnd (i := j * 5 + 3) (z := .int .i64 x.l) (by rw [List.getElem?_set_ne (by omega), List.getElem?_set_ne (by omega), List.getElem?_set_ne (by omega), h0 3 (by omega)]; rfl) (.int .i64 ((r : Int) + 1))
        replace HO := hide ho
        replace HC := hide (HC.out.set hgF (j * 5 + 3) (.int .i64 ((r : Int) + 1)))
        clear ho
        obtain ⟨u4, G4, d4, p4, nd4, sb4, rc4⟩ := HO.out.part hnd (i := j * 5 + 4) (d := byts x.c) (by rw [List.getElem?_set_ne (by omega), List.getElem?_set_ne (by omega), List.getElem?_set_ne (by omega), List.getElem?_set_ne (by omega), h0 4 (by omega)]; rfl)
        obtain ⟨aa4, cc4, eu4⟩ := p4.sl
        subst eu4
        have HP := hide p4
        have HRC := hide rc4
        have HLT := hide (fun q hq => (Owns.lt _ _ _ HO.out q hq).2)
        clear p4 rc4
        go_wp2_with fail
        clear d2 z2 d3 z3 d4
        refine (mkByI _ b (r + 2) _ (by omega) _ x.c G4 HP.out (by omega)).mono ?_
        rintro e w4 ⟨rfl, o4, ch4⟩
        replace HO := hide (HRC.out w4 (byts (marks (r + 2) x.c.length)) o4 (fun q hq hq' => ch4.block q (HLT.out q hq) hq'))
        replace HC := hide (HC.out.trans (ch4.mono sb4))
        clear o4 ch4 HP HRC HLT
        have HZ : Hid ((((((rs.flatten.set (j * 5) (.val (.string (mtx q)))).set (j * 5 + 1) (strs (mkSs (q + 1) x.ps.length))).set (j * 5 + 2) (.val (.string (mtx r)))).set (j * 5 + 3) (.val (.int .i64 ((r : Int) + 1)))).set (j * 5 + 4) (byts (marks (r + 2) x.c.length))) = (rs.set j (meD (mkMe q x))).flatten) := hide (by
          have hl := HL1.out
          have hlen : ∀ (rs' : List (List Dt)) (r : List Dt), (∀ r ∈ rs', r.length = 5) → r.length = 5 → ∀ r' ∈ rs'.set j r, r'.length = 5 := fun rs' r h1 h2 r' hr => by
            rcases List.mem_or_eq_of_mem_set hr with h | h
            · exact h1 r' h
            · rw [h]; exact h2
          rw [show j * 5 = j * 5 + 0 from rfl]
          rw [rows_set rs j 0 _ HA1.out (by omega) (by omega), HG2.out]
          rw [rows_set _ j 1 _ (hlen _ _ HA1.out rfl) (by rw [List.length_set]; omega) (by omega), List.getD_eq_getElem?_getD, List.getElem?_set_self (by omega), Option.getD_some, List.set_set]
          rw [rows_set _ j 2 _ (hlen _ _ HA1.out rfl) (by rw [List.length_set]; omega) (by omega), List.getD_eq_getElem?_getD, List.getElem?_set_self (by omega), Option.getD_some, List.set_set]
          rw [rows_set _ j 3 _ (hlen _ _ HA1.out rfl) (by rw [List.length_set]; omega) (by omega), List.getD_eq_getElem?_getD, List.getElem?_set_self (by omega), Option.getD_some, List.set_set]
          rw [rows_set _ j 4 _ (hlen _ _ HA1.out rfl) (by rw [List.length_set]; omega) (by omega), List.getD_eq_getElem?_getD, List.getElem?_set_self (by omega), Option.getD_some, List.set_set]
          unfold mkMe meD
          rw [HRR.out]
          rfl)
        rw [HZ.out, HS2.out] at HO
        go_wp2
        exact ⟨⟨j + 1, by omega, by have hh := HQ.out; congr 1; omega, by go_num, HO, HC⟩, by simp [intOf]; omega⟩
      · obtain rfl : j = n := by omega
        have HF := hide (HEN.out _ HO.out)
        go_wp2
        go_ret
        exact ⟨by rw [HTE.out]; rfl, HF.out, HC.out⟩
end Go.Proofs.YtpgmipbanpofaaaGreatDoor
/-
  What marks leave of a class of one's own.
-/
namespace Go.Proofs.YtpgmipbanpofaaaGreatDoor
open Go.RowKit

def cntC (x : Cl) : Nat := 4 * x.p.length + 2 * x.f.length + tot cntM x.m
def mkC (k : Nat) (x : Cl) : Cl := ⟨x.n, x.s, mkKs k x.p.length, mkFs (k + 4 * x.p.length) x.f.length, mkMs (k + 4 * x.p.length + 2 * x.f.length) x.m⟩
/-- The three rows of a class, each with its blocks. -/
theorem clD_owns {w : World} {b : Nat} {x : Cl} {s t u1 u2 u3 : Value} {F : List Nat} (h : OwnsL w b (clD x) [s, t, u1, u2, u3] F) :
    ∃ F1 F2 F3, F = F1 ++ (F2 ++ F3) ∧ s = .string x.n ∧ t = .string x.s ∧ Owns w b (pool x.p) u1 F1 ∧ Owns w b (flds x.f) u2 F2 ∧ Owns w b (mets x.m) u3 F3 := by
  unfold clD at h
  obtain ⟨_, _, _, _, e, rfl, h1, h⟩ := ownsL_cons h
  cases e
  unfold Owns at h1
  obtain ⟨_, _, _, _, e, rfl, h2, h⟩ := ownsL_cons h
  cases e
  unfold Owns at h2
  obtain ⟨_, _, F1, _, e, rfl, h3, h⟩ := ownsL_cons h
  cases e
  obtain ⟨_, _, F2, _, e, rfl, h4, h⟩ := ownsL_cons h
  cases e
  obtain ⟨_, _, F3, _, e, rfl, h5, h⟩ := ownsL_cons h
  cases e
  unfold OwnsL at h
  refine ⟨F1, F2, F3, ?_, h1.1, h2.1, h3, h4, h5⟩
  rw [h1.2, h2.2, h.2]
  simp
theorem clD_mk {w : World} {b : Nat} {x : Cl} {u1 u2 u3 : Value} {F1 F2 F3 : List Nat} (h1 : Owns w b (pool x.p) u1 F1) (h2 : Owns w b (flds x.f) u2 F2) (h3 : Owns w b (mets x.m) u3 F3) : OwnsL w b (clD x) [.string x.n, .string x.s, u1, u2, u3] (F1 ++ (F2 ++ F3)) := by
  have := ownsL_mk (owns_val (w := w) (b := b) (u := .string x.n)) (ownsL_mk (owns_val (u := .string x.s)) (ownsL_mk h1 (ownsL_mk h2 (ownsL_mk h3 ownsL_nil))))
  simp only [List.nil_append, List.append_nil] at this
  exact this
set_option maxRecDepth 100000 in
set_option maxHeartbeats 4000000 in
theorem mkCls (w : World) (b K : Nat) (x : Cl) (u1 u2 u3 : Value) (F : List Nat) (h : OwnsL w b (clD x) [.string x.n, .string x.s, u1, u2, u3] F) (hnd : F.Nodup) (hK : 0 < K) (hm : K + cntC x ≤ 100000000) :
    Calls Tryz.prog 10 #[clV x u1 u2 u3, .int .i64 (K : Int)] w fun e w' => e = .returned (.int .i64 ((K + cntC x : Nat) : Int)) ∧ OwnsL w' b (clD (mkC K x)) [.string x.n, .string x.s, u1, u2, u3] F ∧ Chg F w w' := by
  obtain ⟨F1, F2, F3, rfl, _, _, h1, h2, h3⟩ := clD_owns h
  obtain ⟨a1, k1, e1⟩ := h1.sl
  obtain ⟨a2, k2, e2⟩ := h2.sl
  obtain ⟨a3, k3, e3⟩ := h3.sl
  subst e1 e2 e3
  have n1 := List.nodup_append.1 hnd
  have n2 := List.nodup_append.1 n1.2.1
  have hcc : cntC x = 4 * x.p.length + 2 * x.f.length + tot cntM x.m := rfl
  have G0 := hide (heap_alloc_new w (.cells #[.string x.n, .string x.s, .slice a1 x.p.length k1, .slice a2 x.f.length k2, .slice a3 x.m.length k3] 27))
  have bA := (Below.refl w.heap.size w).alloc (Nat.le_refl _) (.cells #[.string x.n, .string x.s, .slice a1 x.p.length k1, .slice a2 x.f.length k2, .slice a3 x.m.length k3] 27)
  have L1 := Owns.lt _ _ _ h1
  have L2 := Owns.lt _ _ _ h2
  have L3 := Owns.lt _ _ _ h3
  have H1 := hide (h1.same (fun q hq => bA.block q (L1 q hq).2))
  have H2 := hide (h2.same (fun q hq => bA.block q (L2 q hq).2))
  have H3 := hide (h3.same (fun q hq => bA.block q (L3 q hq).2))
  have HC := hide (Chg.of_below (F := F1 ++ (F2 ++ F3)) bA)
  have D0 : Hid (w.heap.size ∉ F1 ∧ w.heap.size ∉ F2 ∧ w.heap.size ∉ F3) := hide ⟨fun hm => by have := (L1 _ hm).2; omega, fun hm => by have := (L2 _ hm).2; omega, fun hm => by have := (L3 _ hm).2; omega⟩
  have D12 : Hid (∀ q ∈ F2, q ∉ F1) := hide (fun q hq hq' => n1.2.2 q hq' q (by simp [hq]) rfl)
  have D13 : Hid (∀ q ∈ F3, q ∉ F1) := hide (fun q hq hq' => n1.2.2 q hq' q (by simp [hq]) rfl)
  have D23 : Hid (∀ q ∈ F3, q ∉ F2) := hide (fun q hq hq' => n2.2.2 q hq' q hq rfl)
  have D21 : Hid (∀ q ∈ F1, q ∉ F2) := hide (fun q hq hq' => n1.2.2 q hq q (by simp [hq']) rfl)
  have D31 : Hid (∀ q ∈ F1, q ∉ F3) := hide (fun q hq hq' => n1.2.2 q hq q (by simp [hq']) rfl)
  have D32 : Hid (∀ q ∈ F2, q ∉ F3) := hide (fun q hq hq' => n2.2.2 q hq q hq' rfl)
  have N1 := hide n1.1
  have N2 := hide n2.1
  have N3 := hide n2.2.1
  have S1 : Hid (∀ q ∈ F1, q ∈ F1 ++ (F2 ++ F3)) := hide (fun q hq => by simp [hq])
  have S2 : Hid (∀ q ∈ F2, q ∈ F1 ++ (F2 ++ F3)) := hide (fun q hq => by simp [hq])
  have S3 : Hid (∀ q ∈ F3, q ∈ F1 ++ (F2 ++ F3)) := hide (fun q hq => by simp [hq])
  clear h1 h2 h3 n1 n2 L1 L2 L3 bA h
  unfold clV
  go_enter Tryz.func10, Tryz.ntmps10
  go_wp2_with fail
  generalize w.alloc (.cells #[.string x.n, .string x.s, .slice a1 x.p.length k1, .slice a2 x.f.length k2, .slice a3 x.m.length k3] 27) = W at *
  refine (mkKcs _ b K _ x.p F1 H1.out N1.out hK (by omega)).mono ?_
  rintro e w1 ⟨rfl, o1, c1⟩
  replace H1 := hide o1
  replace H2 := hide (H2.out.same (fun q hq => c1.block q (Owns.lt _ _ _ H2.out q hq).2 (D12.out q hq)))
  replace H3 := hide (H3.out.same (fun q hq => c1.block q (Owns.lt _ _ _ H3.out q hq).2 (D13.out q hq)))
  replace G0 := hide ((c1.block _ (Array.getElem?_eq_some_iff.1 G0.out).1 D0.out.1).trans G0.out)
  replace HC := hide (HC.out.trans (c1.mono S1.out))
  clear o1 c1
  have f3 := (box_of G0.out).1 3 _ rfl
  go_wp2_with fail
  clear f3
  refine (mkFds _ b (K + 4 * x.p.length) _ x.f F2 H2.out N2.out (by omega) (by omega)).mono ?_
  rintro e w2 ⟨rfl, o2, c2⟩
  replace H2 := hide o2
  replace H1 := hide (H1.out.same (fun q hq => c2.block q (Owns.lt _ _ _ H1.out q hq).2 (D21.out q hq)))
  replace H3 := hide (H3.out.same (fun q hq => c2.block q (Owns.lt _ _ _ H3.out q hq).2 (D23.out q hq)))
  replace G0 := hide ((c2.block _ (Array.getElem?_eq_some_iff.1 G0.out).1 D0.out.2.1).trans G0.out)
  replace HC := hide (HC.out.trans (c2.mono S2.out))
  clear o2 c2
  have f4 := (box_of G0.out).1 4 _ rfl
  go_wp2_with fail
  clear f4
  refine (mkMes _ b (K + 4 * x.p.length + 2 * x.f.length) _ x.m F3 H3.out N3.out (by omega) (by omega)).mono ?_
  rintro e w3 ⟨rfl, o3, c3⟩
  replace H1 := hide (H1.out.same (fun q hq => c3.block q (Owns.lt _ _ _ H1.out q hq).2 (D31.out q hq)))
  replace H2 := hide (H2.out.same (fun q hq => c3.block q (Owns.lt _ _ _ H2.out q hq).2 (D32.out q hq)))
  replace HC := hide (HC.out.trans (c3.mono S3.out))
  have HF : Hid (OwnsL w3 b (clD (mkC K x)) [.string x.n, .string x.s, .slice a1 x.p.length k1, .slice a2 x.f.length k2, .slice a3 x.m.length k3] (F1 ++ (F2 ++ F3))) := hide (clD_mk (x := mkC K x) H1.out H2.out o3)
  clear o3 c3
  go_wp2
  go_ret
  exact ⟨by rw [hcc, show K + (4 * x.p.length + 2 * x.f.length + tot cntM x.m) = K + 4 * x.p.length + 2 * x.f.length + tot cntM x.m from by omega]; rfl, HF.out, HC.out⟩
end Go.Proofs.YtpgmipbanpofaaaGreatDoor
/-
  What is answered of marked rows of texts, consts and fields.
-/
namespace Go.Proofs.YtpgmipbanpofaaaGreatDoor
open Go.RowKit

set_option maxRecDepth 100000 in
set_option maxHeartbeats 4000000 in
theorem heldSt (w : World) (K n : Nat) (v : Value) (h : Reads w w.heap.size (strs (mkSs K n)) v) (hK : 0 < K) (hm : K + 1 * n ≤ 100000000) :
    Calls Tryz.prog 51 #[v, .int .i64 (K : Int)] w fun e w' => e = .returned (.int .i64 ((K + 1 * n : Nat) : Int)) ∧ Below w.heap.size w w' := by
  have HX : Hid (∀ wr, Below w.heap.size w wr → _) := hide (fun wr hb => str_at (h.at hb))
  obtain ⟨a, cap, rfl, hlc, _⟩ := str_at h
  rw [mkSs_len] at hlc ⊢
  clear h
  go_enter Tryz.func51, Tryz.ntmps51
  go_wp2
  go_loopw [1, 5] (fun q i wr => ∃ j : Nat, j ≤ n ∧ q = .int .i64 ((K + 1 * j : Nat) : Int) ∧ i = .int .i64 (j : Int) ∧ Hid (Below w.heap.size w wr)) (fun _ i _ => n - (intOf i).toNat)
  case atStart => exact ⟨0, Nat.zero_le _, by simp, rfl, hide (Below.refl _ _)⟩
  case round =>
    obtain ⟨j, hj, rfl, rfl, HB⟩ := hrel
    have hs := HB.out.size
    by_cases hlt : j < n
    · obtain ⟨q, hq⟩ : ∃ q, K + 1 * j = q := ⟨_, rfl⟩
      have hq0 : 0 < q := by omega
      have hqm : q + 1 ≤ 100000000 := by omega
      obtain ⟨b, o, ha⟩ : ∃ b o, a = some ⟨b, o, none⟩ := by
        obtain ⟨a', cap', e, _, _, hx⟩ := HX.out wr HB.out
        cases e
        obtain ⟨b, o, e, _⟩ := hx (by rw [mkSs_len]; omega)
        exact ⟨b, o, e⟩
      subst ha
      have HD : Hid (∀ wq, Below w.heap.size w wq → wq.cell? ⟨b, o + j, none⟩ = some (.string (mtx q))) := hide (fun wq hb => by
        obtain ⟨a', cap', e, _, _, hx⟩ := HX.out wq hb
        cases e
        obtain ⟨b', o', e, _, hc⟩ := hx (by rw [mkSs_len]; omega)
        cases e
        have := hc j (by rw [mkSs_len]; exact hlt)
        rw [mkSs_get K n j hlt] at this
        first | (rw [hq] at this; exact this) | (rw [Nat.one_mul] at hq; rw [hq] at this; exact this))
      have HQ := hide hq
      rw [hq]
      clear hq
      have d0 := HD.out wr HB.out
      have hT : ((mtx q).toList == (mtx q).toList) = true := by simp
      go_upto_region 4 with fail
      go_cut [18] from 6 to 20 (fun s wq => s = .bool false ∧ Hid (Below w.heap.size w wq))
      case first =>
        go_region_with (go_at_call 49; refine (markTextI _ _ q (by omega) (by omega) (by omega)).mono ?_; rintro e w1 ⟨rfl, b1⟩; have HB1 := hide (HB.out.trans (below_of_drew b1 |>.mono hs)); have k1 := HD.out w1 HB1.out; clear b1)
        all_goals (go_wp2_with fail; go_meet; exact ⟨rfl, HB1⟩)
      case rest =>
        obtain ⟨rfl, HB2⟩ := hcut
        clear d0 hT
        go_wp2
        exact ⟨⟨j + 1, hlt, by have := HQ.out; go_num, by go_num, HB2⟩, by simp [intOf]; omega⟩
    · obtain rfl : j = n := by omega
      go_wp2
      go_ret
      exact ⟨rfl, HB.out⟩
set_option maxRecDepth 100000 in
set_option maxHeartbeats 4000000 in
theorem heldKcs (w : World) (K n : Nat) (v : Value) (h : Reads w w.heap.size (pool (mkKs K n)) v) (hK : 0 < K) (hm : K + 4 * n ≤ 100000000) :
    Calls Tryz.prog 26 #[v, .int .i64 (K : Int)] w fun e w' => e = .returned (.int .i64 ((K + 4 * n : Nat) : Int)) ∧ Below w.heap.size w w' := by
  have HX : Hid (∀ wr, Below w.heap.size w wr → _) := hide (fun wr hb => const_at (h.at hb))
  obtain ⟨a, cap, rfl, hlc, _⟩ := const_at h
  rw [mkKs_len] at hlc ⊢
  clear h
  go_enter Tryz.func26, Tryz.ntmps26
  go_wp2
  go_loopw [1, 5] (fun q i wr => ∃ j : Nat, j ≤ n ∧ q = .int .i64 ((K + 4 * j : Nat) : Int) ∧ i = .int .i64 (j : Int) ∧ Hid (Below w.heap.size w wr)) (fun _ i _ => n - (intOf i).toNat)
  case atStart => exact ⟨0, Nat.zero_le _, by simp, rfl, hide (Below.refl _ _)⟩
  case round =>
    obtain ⟨j, hj, rfl, rfl, HB⟩ := hrel
    have hs := HB.out.size
    by_cases hlt : j < n
    · obtain ⟨q, hq⟩ : ∃ q, K + 4 * j = q := ⟨_, rfl⟩
      have hq0 : 0 < q := by omega
      have hqm : q + 4 ≤ 100000000 := by omega
      obtain ⟨b, o, ha⟩ : ∃ b o, a = some ⟨b, o, none⟩ := by
        obtain ⟨a', cap', e, _, _, hx⟩ := HX.out wr HB.out
        cases e
        obtain ⟨b, o, e, _⟩ := hx (by rw [mkKs_len]; omega)
        exact ⟨b, o, e⟩
      subst ha
      have HD : Hid (∀ wq, Below w.heap.size w wq → wq.cell? ⟨b, o + j * 4, none⟩ = some (.int .i64 (mkKc q).k) ∧ wq.cell? ⟨b, o + j * 4 + 1, none⟩ = some (.int .i64 (mkKc q).n) ∧ wq.cell? ⟨b, o + j * 4 + 2, none⟩ = some (.string (mkKc q).a) ∧ wq.cell? ⟨b, o + j * 4 + 3, none⟩ = some (.string (mkKc q).b)) := hide (fun wq hb => by
        obtain ⟨a', cap', e, _, _, hx⟩ := HX.out wq hb
        cases e
        obtain ⟨b', o', e, _, hc⟩ := hx (by rw [mkKs_len]; omega)
        cases e
        have := hc j (by rw [mkKs_len]; exact hlt)
        rw [mkKs_get K n j hlt] at this
        first | (rw [hq] at this; exact this) | (rw [Nat.one_mul] at hq; rw [hq] at this; exact this))
      have HQ := hide hq
      rw [hq]
      clear hq
      have e0 : wr.cell? ⟨b, o + j * 4, none⟩ = some (.int .i64 (q : Int)) := (HD.out wr HB.out).1
      have e1 : wr.cell? ⟨b, o + j * 4 + 1, none⟩ = some (.int .i64 ((q : Int) + 1)) := by have := (HD.out wr HB.out).2.1; simpa [mkKc] using this
      have n0 : ((q : Int) != (q : Int)) = false := by simp
      have n1 : (((q : Int) + 1) != ((q : Int) + 1)) = false := by simp
      simp only [mkKc] at HD
      go_upto_region 10 with fail
      have hT10 : ((mtx (q + 2)).toList == (mtx (q + 2)).toList) = true := by simp
      go_cut [37] from 6 to 49 (fun s wq => s = .bool false ∧ Hid (Below w.heap.size w wq))
      case first =>
        have d0 := (HD.out wr HB.out).2.2.1
        go_region_with (go_at_call 49; refine (markTextI _ _ (q + 2) (by omega) (by omega) (by omega)).mono ?_; rintro e w1 ⟨rfl, b1⟩; have HB1 := hide (HB.out.trans (below_of_drew b1 |>.mono hs)); have k1 := (HD.out w1 HB1.out).2.2.1; clear b1)
        all_goals (go_wp2_with fail; go_meet; exact ⟨rfl, HB1⟩)
      case rest =>
        obtain ⟨rfl, HB2⟩ := hcut
        clear hT10
        have hs2 := HB2.out.size
        have e9 := (HD.out wc HB2.out)
        clear e9
        go_upto_region 13 with fail
        have hT13 : ((mtx (q + 3)).toList == (mtx (q + 3)).toList) = true := by simp
        go_cut [47] from 6 to 49 (fun s wq => s = .bool false ∧ Hid (Below w.heap.size w wq))
        case first =>
          have d0 := (HD.out wc HB2.out).2.2.2
          go_region_with (go_at_call 49; refine (markTextI _ _ (q + 3) (by omega) (by omega) (by omega)).mono ?_; rintro e w1 ⟨rfl, b1⟩; have HB1 := hide (HB2.out.trans (below_of_drew b1 |>.mono hs2)); have k1 := (HD.out w1 HB1.out).2.2.2; clear b1)
          all_goals (go_wp2_with fail; go_meet; exact ⟨rfl, HB1⟩)
        case rest =>
          obtain ⟨rfl, HB3⟩ := hcut
          clear hT13
          go_wp2
          exact ⟨⟨j + 1, hlt, by have := HQ.out; go_num, by go_num, HB3⟩, by simp [intOf]; omega⟩
    · obtain rfl : j = n := by omega
      go_wp2
      go_ret
      exact ⟨rfl, HB.out⟩
set_option maxRecDepth 100000 in
set_option maxHeartbeats 4000000 in
theorem heldFds (w : World) (K n : Nat) (v : Value) (h : Reads w w.heap.size (flds (mkFs K n)) v) (hK : 0 < K) (hm : K + 2 * n ≤ 100000000) :
    Calls Tryz.prog 27 #[v, .int .i64 (K : Int)] w fun e w' => e = .returned (.int .i64 ((K + 2 * n : Nat) : Int)) ∧ Below w.heap.size w w' := by
  have HX : Hid (∀ wr, Below w.heap.size w wr → _) := hide (fun wr hb => field_at (h.at hb))
  obtain ⟨a, cap, rfl, hlc, _⟩ := field_at h
  rw [mkFs_len] at hlc ⊢
  clear h
  go_enter Tryz.func27, Tryz.ntmps27
  go_wp2
  go_loopw [1, 5] (fun q i wr => ∃ j : Nat, j ≤ n ∧ q = .int .i64 ((K + 2 * j : Nat) : Int) ∧ i = .int .i64 (j : Int) ∧ Hid (Below w.heap.size w wr)) (fun _ i _ => n - (intOf i).toNat)
  case atStart => exact ⟨0, Nat.zero_le _, by simp, rfl, hide (Below.refl _ _)⟩
  case round =>
    obtain ⟨j, hj, rfl, rfl, HB⟩ := hrel
    have hs := HB.out.size
    by_cases hlt : j < n
    · obtain ⟨q, hq⟩ : ∃ q, K + 2 * j = q := ⟨_, rfl⟩
      have hq0 : 0 < q := by omega
      have hqm : q + 2 ≤ 100000000 := by omega
      obtain ⟨b, o, ha⟩ : ∃ b o, a = some ⟨b, o, none⟩ := by
        obtain ⟨a', cap', e, _, _, hx⟩ := HX.out wr HB.out
        cases e
        obtain ⟨b, o, e, _⟩ := hx (by rw [mkFs_len]; omega)
        exact ⟨b, o, e⟩
      subst ha
      have HD : Hid (∀ wq, Below w.heap.size w wq → wq.cell? ⟨b, o + j * 2, none⟩ = some (.string (mkFd q).n) ∧ wq.cell? ⟨b, o + j * 2 + 1, none⟩ = some (.string (mkFd q).t)) := hide (fun wq hb => by
        obtain ⟨a', cap', e, _, _, hx⟩ := HX.out wq hb
        cases e
        obtain ⟨b', o', e, _, hc⟩ := hx (by rw [mkFs_len]; omega)
        cases e
        have := hc j (by rw [mkFs_len]; exact hlt)
        rw [mkFs_get K n j hlt] at this
        first | (rw [hq] at this; exact this) | (rw [Nat.one_mul] at hq; rw [hq] at this; exact this))
      have HQ := hide hq
      rw [hq]
      clear hq
      simp only [mkFd] at HD
      go_upto_region 4 with fail
      have hT4 : ((mtx (q)).toList == (mtx (q)).toList) = true := by simp
      go_cut [19] from 6 to 31 (fun s wq => s = .bool false ∧ Hid (Below w.heap.size w wq))
      case first =>
        have d0 := (HD.out wr HB.out).1
        go_region_with (go_at_call 49; refine (markTextI _ _ (q) (by omega) (by omega) (by omega)).mono ?_; rintro e w1 ⟨rfl, b1⟩; have HB1 := hide (HB.out.trans (below_of_drew b1 |>.mono hs)); have k1 := (HD.out w1 HB1.out).1; clear b1)
        all_goals (go_wp2_with fail; go_meet; exact ⟨rfl, HB1⟩)
      case rest =>
        obtain ⟨rfl, HB2⟩ := hcut
        clear hT4
        have hs2 := HB2.out.size
        go_upto_region 7 with fail
        have hT7 : ((mtx (q + 1)).toList == (mtx (q + 1)).toList) = true := by simp
        go_cut [29] from 6 to 31 (fun s wq => s = .bool false ∧ Hid (Below w.heap.size w wq))
        case first =>
          have d0 := (HD.out wc HB2.out).2
          go_region_with (go_at_call 49; refine (markTextI _ _ (q + 1) (by omega) (by omega) (by omega)).mono ?_; rintro e w1 ⟨rfl, b1⟩; have HB1 := hide (HB2.out.trans (below_of_drew b1 |>.mono hs2)); have k1 := (HD.out w1 HB1.out).2; clear b1)
          all_goals (go_wp2_with fail; go_meet; exact ⟨rfl, HB1⟩)
        case rest =>
          obtain ⟨rfl, HB3⟩ := hcut
          clear hT7
          go_wp2
          exact ⟨⟨j + 1, hlt, by have := HQ.out; go_num, by go_num, HB3⟩, by simp [intOf]; omega⟩
    · obtain rfl : j = n := by omega
      go_wp2
      go_ret
      exact ⟨rfl, HB.out⟩
end Go.Proofs.YtpgmipbanpofaaaGreatDoor
