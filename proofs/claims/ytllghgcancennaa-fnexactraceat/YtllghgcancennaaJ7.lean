/-
  Joined: DeepCh, ClkR.
-/
import Derived.Test.YtllghgcancennaaJ6
import Derived.Laws.StructEq
/-
  All old blocks but those of an interval are as they were; sums and counts.
-/
namespace Go.Proofs.Ytllghgcancennaa
open Go.RowKit

/-- All old blocks but those from b on up to hi are as they were. -/
structure ChgI (b hi : Nat) (w w' : World) : Prop where
  os : w'.os = w.os
  tape : w'.tape = w.tape
  output : w'.output = w.output
  size : w.heap.size ≤ w'.heap.size
  block : ∀ q, q < w.heap.size → (q < b ∨ hi ≤ q) → w'.heap[q]? = w.heap[q]?
theorem Chg.int {F : List Nat} {b hi : Nat} {w w' : World} (h : Chg F w w') (hF : ∀ q ∈ F, b ≤ q ∧ q < hi) : ChgI b hi w w' := ⟨h.os, h.tape, h.output, h.size, fun q hq hr => h.block q hq (fun hm => by have := hF q hm; omega)⟩
theorem ChgI.below {b hi B : Nat} {w w' : World} (h : ChgI b hi w w') (hB : B ≤ b) (hs : B ≤ w.heap.size) : Below B w w' := ⟨h.os, h.tape, h.output, h.size, fun q hq => h.block q (by omega) (.inl (by omega))⟩
theorem OwnDL.apart {w w' : World} {b hi b' hi' : Nat} {cs : List Dt} {us : List Value} (h : OwnDL w b hi cs us) (hc : ChgI b' hi' w w') (ha : hi ≤ b' ∨ hi' ≤ b) : OwnDL w' b hi cs us := h.same (fun q h1 h2 h3 => hc.block q h3 (by omega))
theorem Reads.apart {w w' : World} {B b hi : Nat} {d : Dt} {v : Value} (h : Reads w B d v) (hc : ChgI b hi w w') (hB : B ≤ b) (hs : B ≤ w.heap.size) : Reads w' B d v := h.kept (fun k hk => hc.block k (by omega) (.inl (by omega)))
theorem tot_cnt {α : Type} (c g : α → Nat) (h : ∀ x, c x ≤ 8 * g x + 8) : ∀ xs : List α, tot c xs ≤ 8 * (xs.length + tot g xs)
  | [] => by simp [tot]
  | x :: xs => by
    have h1 := tot_cnt c g h xs
    have h2 := h x
    have e1 : tot c (x :: xs) = c x + tot c xs := by simp [tot]
    have e2 : tot g (x :: xs) = g x + tot g xs := by simp [tot]
    rw [e1, e2, List.length_cons]; omega
theorem tot_cnt0 {α : Type} (c : α → Nat) (h : ∀ x, c x ≤ 8) : ∀ xs : List α, tot c xs ≤ 8 * xs.length
  | [] => by simp [tot]
  | x :: xs => by
    have h1 := tot_cnt0 c h xs
    have h2 := h x
    have e1 : tot c (x :: xs) = c x + tot c xs := by simp [tot]
    rw [e1, List.length_cons]; omega
theorem tot_one {α : Type} (c : α → Nat) (h : ∀ x, 1 ≤ c x) : ∀ xs : List α, xs.length ≤ tot c xs
  | [] => by simp [tot]
  | x :: xs => by
    have h1 := tot_one c h xs
    have h2 := h x
    have e1 : tot c (x :: xs) = c x + tot c xs := by simp [tot]
    rw [e1, List.length_cons]; omega
theorem OwnD.apart {w w' : World} {b hi b' hi' : Nat} {d : Dt} {v : Value} (h : OwnD w b hi d v) (hc : ChgI b' hi' w w') (ha : hi ≤ b' ∨ hi' ≤ b) : OwnD w' b hi d v := h.same (fun q h1 h2 h3 => hc.block q h3 (by omega))
end Go.Proofs.Ytllghgcancennaa
/-
  Stamps as data: how they come in, how great they are, copies, comparison, marks.
-/
namespace Go.Proofs.Ytllghgcancennaa
open Go.ChangeShapes Go.WideShapes Go.RowKit

structure Smp where
  w : Int
  n : Int
instance : Inhabited Smp := ⟨⟨0, 0⟩⟩
def smpD (x : Smp) : List Dt := [.val (.int .i64 x.w), .val (.int .i64 x.n)]
def smpV (x : Smp) : Value := .agg #[.int .i64 x.w, .int .i64 x.n]
def smps (xs : List Smp) : Dt := .row 72 2 xs.length (xs.flatMap smpD)
theorem stamp_at {w : World} {B : Nat} {v : Value} {xs : List Smp} (h : Reads w B (smps xs) v) :
    ∃ a cap, v = .slice a xs.length cap ∧ xs.length ≤ cap ∧ (a = none → cap = 0) ∧ (0 < xs.length → ∃ b o, a = some ⟨b, o, none⟩ ∧ b < B ∧ ∀ j, j < xs.length → w.cell? ⟨b, o + j * 2, none⟩ = some (.int .i64 (xs.getD j default).w) ∧ w.cell? ⟨b, o + j * 2 + 1, none⟩ = some (.int .i64 (xs.getD j default).n)) := by
  obtain ⟨a, cap, rfl, h1, h2, h3⟩ := row_at (f := smpD) (k := 2) (fun _ => rfl) rfl h
  refine ⟨a, cap, rfl, h1, h2, fun hp => ?_⟩
  obtain ⟨b, o, rfl, hb, hc⟩ := h3 hp
  refine ⟨b, o, rfl, hb, fun j hj => ?_⟩
  obtain ⟨vs, h4, h5⟩ := hc j hj
  obtain ⟨u0, vs0, rfl, q0, h4⟩ := readsL_cons h4
  obtain ⟨u1, vs1, rfl, q1, h4⟩ := readsL_cons h4
  obtain rfl := readsL_nil h4
  obtain rfl := reads_val q0
  obtain rfl := reads_val q1
  have c0 := h5 0 (by omega)
  have c1 := h5 1 (by omega)
  rw [Nat.add_zero] at c0
  exact ⟨c0, c1⟩
structure SmpR (x : Smp) : Prop where
  w : -9223372036854775808 ≤ x.w ∧ x.w ≤ 9223372036854775807
  n : -9223372036854775808 ≤ x.n ∧ x.n ≤ 9223372036854775807
def smpW (_x : Smp) : Nat := 0
structure SmpG (x : Smp) : Prop where
  w : -9223372036854775808 ≤ x.w ∧ x.w ≤ 9223372036854775807
  n : -9223372036854775808 ≤ x.n ∧ x.n ≤ 9223372036854775807
theorem smpG_of {x : Smp} (hr : SmpR x) (_hw : smpW x ≤ 1048576) : SmpG x := ⟨hr.w, hr.n⟩
def smpsR (xs : List Smp) : Prop := xs.length ≤ maxLen ∧ ∀ y ∈ xs, SmpR y
def smpsW (xs : List Smp) : Nat := xs.length
def smpsG (xs : List Smp) : Prop := xs.length ≤ 1048576 ∧ ∀ y ∈ xs, SmpG y
theorem smpsG_of {xs : List Smp} (hr : smpsR xs) (hw : smpsW xs ≤ 1048576) : smpsG xs := ⟨hw, fun y hy => smpG_of (hr.2 y hy) (Nat.zero_le _)⟩
theorem Try.infoSmp : (Try.prog.info? 72).map (fun i => (i.zero, i.size, i.bytes)) = some (some (.agg #[.int .i64 0, .int .i64 0]), 2, 16) := by kernel_rfl
theorem loadSmp {w : World} {g : Nat} {a0 a1 : Value} (h : w.heap[g]? = some (.cells #[a0, a1] 72 (0, 0))) : (loadVar 72 ⟨g, 0, none⟩).run Try.prog w = .ok (.agg #[a0, a1]) w :=
  run_loadVar_row w g 72 72 #[a0, a1] (0, 0) _ h Try.underlying72 rfl (by kernel_rfl)
set_option maxRecDepth 100000 in
set_option maxHeartbeats 4000000 in
theorem eqSmp (w : World) (x : Smp) : Calls Try.prog 66 #[smpV x, smpV x] w fun e w' => e = .returned (.bool true) ∧ Below w.heap.size w w' := by
  have n_w : (x.w != x.w) = false := by simp
  have n_n : (x.n != x.n) = false := by simp
  unfold smpV
  go_enter Try.func66, Try.ntmps66
  go_wp2
  go_ret
  exact ⟨rfl, ((Below.refl _ _).alloc (Nat.le_refl _) _).alloc (by simp) _⟩
set_option maxRecDepth 100000 in
set_option maxHeartbeats 4000000 in
theorem eqSmps (w : World) (v1 v2 : Value) (xs : List Smp) (h1 : Reads w w.heap.size (smps xs) v1) (h2 : Reads w w.heap.size (smps xs) v2) (hg : smpsG xs) :
    Calls Try.prog 41 #[v1, v2] w fun e w' => e = .returned (.bool true) ∧ Below w.heap.size w w' := by
  obtain ⟨hm, hgd⟩ := hg
  have HX1 : Hid (∀ wr, Below w.heap.size w wr → _) := hide (fun wr hb => stamp_at (h1.at hb))
  have HX2 : Hid (∀ wr, Below w.heap.size w wr → _) := hide (fun wr hb => stamp_at (h2.at hb))
  have HG : Hid (∀ j, j < xs.length → SmpG (xs.getD j default)) := hide (fun j hj => getD_mem hgd j hj)
  clear hgd
  obtain ⟨a1, cap1, rfl, _⟩ := stamp_at h1
  obtain ⟨a2, cap2, rfl, _⟩ := stamp_at h2
  clear h1 h2
  generalize hn : xs.length = n at *
  have hne : ((n : Int) != (n : Int)) = false := by simp
  go_enter Try.func41, Try.ntmps41
  go_wp2
  go_loopw [5] (fun i wr => ∃ j : Nat, j ≤ n ∧ i = .int .i64 (j : Int) ∧ Below w.heap.size w wr) (fun i _ => n - (intOf i).toNat)
  case atStart => exact ⟨0, Nat.zero_le _, rfl, Below.refl _ _⟩
  case round =>
    obtain ⟨j, hj, rfl, hb⟩ := hrel
    have HB := hide hb
    have hs := hb.size
    clear hb
    by_cases hlt : j < n
    · obtain ⟨a1', cap1', ea1, _, _, hx1⟩ := HX1.out wr HB.out
      cases ea1
      obtain ⟨b1, o1, rfl, hb1, hc1⟩ := hx1 (by omega)
      obtain ⟨a2', cap2', ea2, _, _, hx2⟩ := HX2.out wr HB.out
      cases ea2
      obtain ⟨b2, o2, rfl, hb2, hc2⟩ := hx2 (by omega)
      obtain ⟨e0, e1⟩ := hc1 j hlt
      obtain ⟨d0, d1⟩ := hc2 j hlt
      have HGj := hide (HG.out j hlt)
      clear hx1 hx2 hc1 hc2
      generalize xs.getD j default = p at *
      go_wp2
      go_cut [26] from 11 to 26 (fun s wq => s = .bool false ∧ Below w.heap.size w wq)
      case first =>
        go_region_with (go_at_call 66; refine (eqSmp _ p).mono ?_; rintro e w1 ⟨rfl, b1⟩; have HB1 := hide (HB.out.trans (below_of_drew b1 |>.mono hs)); clear b1)
        all_goals (go_wp2_with fail; go_meet; exact ⟨rfl, HB1.out⟩)
      case rest =>
        obtain ⟨rfl, hB⟩ := hcut
        have HB2 := hide hB
        clear hB
        go_wp2
        exact ⟨⟨j + 1, hlt, by go_num, HB2.out⟩, by simp [intOf]; omega⟩
    · go_wp2
      go_ret
      exact ⟨rfl, HB.out⟩
def smpCnt (_x : Smp) : Nat := 2
def mkSmp (k : Nat) (_x : Smp) : Smp := ⟨((k : Nat) : Int), ((k : Nat) : Int) + 1⟩
def mkSmps : Nat → List Smp → List Smp
  | _, [] => []
  | k, x :: xs => mkSmp k x :: mkSmps (k + smpCnt x) xs
def cntSmps (xs : List Smp) : Nat := tot smpCnt xs
theorem mkSmps_len : ∀ (k : Nat) (xs : List Smp), (mkSmps k xs).length = xs.length
  | _, [] => rfl
  | k, x :: xs => by simp [mkSmps, mkSmps_len _ xs]
theorem mkSmps_get : ∀ (k : Nat) (xs : List Smp) (j : Nat), j < xs.length → (mkSmps k xs).getD j default = mkSmp (k + tot smpCnt (xs.take j)) (xs.getD j default)
  | k, [], j, h => by simp at h
  | k, x :: xs, 0, h => by simp [mkSmps, tot]
  | k, x :: xs, j + 1, h => by
    rw [mkSmps, List.getD_cons_succ, mkSmps_get _ xs j (by simpa using h), List.getD_cons_succ]
    congr 1
    unfold tot
    rw [List.take_succ_cons, List.map_cons, List.sum_cons]; omega
theorem cntSmps_le (xs : List Smp) : cntSmps xs ≤ 8 * smpsW xs := tot_cnt0 smpCnt (fun _ => by unfold smpCnt; omega) xs
set_option maxRecDepth 100000 in
set_option maxHeartbeats 4000000 in
theorem mkSmpsR (w : World) (b K : Nat) (m : Int) (hmK : m = (K : Int)) (v : Value) (xs : List Smp) (F : List Nat) (h : Owns w b (smps xs) v F) (hnd : F.Nodup) (hK : 0 < K) (hm : K + cntSmps xs ≤ 100000000) :
    Calls Try.prog 42 #[v, .int .i64 m] w fun e w' => e = .returned (.int .i64 ((K + cntSmps xs : Nat) : Int)) ∧ Owns w' b (smps (mkSmps K xs)) v F ∧ Chg F w w' := by
  subst hmK
  have HCN : Hid (cntSmps xs = tot smpCnt xs) := hide rfl
  rw [HCN.out] at hm
  have HST : Hid (Owns w b (.row 72 2 xs.length ((mixR smpD (mkSmps K xs) xs 0).flatten)) v F) := hide (by rw [mixR_zero]; exact h)
  have HEN : Hid (∀ W, Owns W b (.row 72 2 xs.length ((mixR smpD (mkSmps K xs) xs xs.length).flatten)) v F → Owns W b (smps (mkSmps K xs)) v F) := hide (fun W h => by rw [mixR_end _ (mkSmps_len K _)] at h; unfold smps; rw [mkSmps_len]; exact h)
  have hML := mkSmps_len K xs
  have HTS : Hid (∀ j, j < xs.length → tot smpCnt (xs.take (j + 1)) = tot smpCnt (xs.take j) + smpCnt (xs.getD j default)) := hide (fun j hj => tot_step _ xs j hj)
  have HTL : Hid (∀ j, tot smpCnt (xs.take j) ≤ tot smpCnt xs) := hide (tot_le _ xs)
  have HTE : Hid (tot smpCnt (xs.take xs.length) = tot smpCnt xs) := hide (by rw [List.take_length])
  have HG : Hid (∀ j, j < xs.length → (mixR smpD (mkSmps K xs) xs j).getD j [] = smpD (xs.getD j default)) := hide (fun j hj => mixR_get _ hML hj)
  have HS : Hid (∀ j, j < xs.length → (mixR smpD (mkSmps K xs) xs j).set j (smpD (mkSmp (K + tot smpCnt (xs.take j)) (xs.getD j default))) = mixR smpD (mkSmps K xs) xs (j + 1)) := hide (fun j hj => by rw [← mkSmps_get K xs j hj]; exact mixR_step _ hML hj)
  have HA : Hid (∀ j, ∀ r ∈ mixR smpD (mkSmps K xs) xs j, r.length = 2) := hide (fun j => mixR_all (f := smpD) (k := 2) (fun _ => rfl) _ _ j)
  have HLn : Hid (∀ j, j ≤ xs.length → (mixR smpD (mkSmps K xs) xs j).length = xs.length) := hide (fun j hj => mixR_len _ hML hj)
  have hxl : xs.length ≤ tot smpCnt xs := tot_one _ (fun _ => by unfold smpCnt; omega) xs
  have hsl := h.slice
  clear h hML
  rw [HCN.out]
  generalize hn : xs.length = n at *
  rcases hsl with ⟨rfl, rfl⟩ | ⟨g, c, rfl⟩
  · have hx0 : xs = [] := List.eq_nil_of_length_eq_zero hn
    have HX0 : Hid (tot smpCnt xs = 0) := hide (by rw [hx0]; rfl)
    go_enter Try.func42, Try.ntmps42
    go_wp2
    go_loopw [1, 5] (fun q i wr => q = .int .i64 (K : Int) ∧ i = .int .i64 0 ∧ wr = w) (fun _ _ _ => 0)
    case atStart => exact ⟨rfl, rfl, rfl⟩
    case round =>
      obtain ⟨rfl, rfl, rfl⟩ := hrel
      go_wp2
      go_ret
      exact ⟨by rw [HX0.out]; rfl, HEN.out _ HST.out, Chg.refl _ _⟩
  · go_enter Try.func42, Try.ntmps42
    go_wp2
    go_loopw [1, 5] (fun q i wr => ∃ j : Nat, j ≤ n ∧ q = .int .i64 ((K + tot smpCnt (xs.take j) : Nat) : Int) ∧ i = .int .i64 (j : Int) ∧ Hid (Owns wr b (.row 72 2 n ((mixR smpD (mkSmps K xs) xs j).flatten)) (.slice (some ⟨g, 0, none⟩) n c) F) ∧ Hid (Chg F w wr)) (fun _ i _ => n - (intOf i).toNat)
    case atStart => exact ⟨0, Nat.zero_le _, by simp [tot], rfl, HST, hide (Chg.refl _ _)⟩
    case round =>
      clear HST
      obtain ⟨j, hj, rfl, rfl, HO, HC⟩ := hrel
      by_cases hlt : j < n
      · have hcap : n ≤ c := by
          have := HO.out
          unfold Owns at this
          obtain ⟨us, G, h2, _⟩ := this
          obtain ⟨_, a, cap, e, h3, _⟩ := rd_own h2 (Nat.le_refl _)
          cases e
          exact h3
        obtain ⟨q, hq⟩ : ∃ q, K + tot smpCnt (xs.take j) = q := ⟨_, rfl⟩
        have hq0 : 0 < q := by omega
        have hts := HTS.out j hlt
        have htl := HTL.out (j + 1)
        have HA1 := hide (HA.out j)
        have HL1 := hide (HLn.out j hj)
        have HG1 := HG.out j hlt
        have HS1 := HS.out j hlt
        obtain ⟨x, hx⟩ : ∃ x, xs.getD j default = x := ⟨_, rfl⟩
        rw [hx] at HG1 HS1 hts
        have hcm : smpCnt x = 2 := rfl
        have hqm : q + (2) ≤ 100000000 := by omega
        rw [hq] at HS1 ⊢
        have HG2 := hide HG1
        have HS2 := hide HS1
        have HQ := hide hq
        clear hx hq HG1 HS1
        obtain ⟨rs, hrs⟩ : ∃ rs, mixR smpD (mkSmps K xs) xs j = rs := ⟨_, rfl⟩
        rw [hrs] at HO HA1 HL1 HG2 HS2
        clear hrs
        have h0 : ∀ i, i < 2 → rs.flatten[j * 2 + i]? = (smpD x)[i]? := fun i hi => by rw [rows_get rs j i HA1.out (by have := HL1.out; omega) hi, HG2.out]
        obtain ⟨d0, z0, hgF, ho⟩ := HO.out.cell hnd (i := j * 2) (z := .int .i64 x.w) (by rw [show j * 2 = j * 2 + 0 from rfl, h0 0 (by omega)]; rfl) (.int .i64 (q : Int))
        replace HO := hide ho
        replace HC := hide (HC.out.set hgF (j * 2) (.int .i64 (q : Int)))
        clear ho
        obtain ⟨d1, z1, hgF, ho⟩ := HO.out.cell hnd (i := j * 2 + 1) (z := .int .i64 x.n) (by rw [List.getElem?_set_ne (by omega), h0 1 (by omega)]; rfl) (.int .i64 ((q : Int) + 1))
        replace HO := hide ho
        replace HC := hide (HC.out.set hgF (j * 2 + 1) (.int .i64 ((q : Int) + 1)))
        clear ho
        have HZ : Hid (((rs.flatten.set (j * 2) (.val (.int .i64 (q : Int)))).set (j * 2 + 1) (.val (.int .i64 ((q : Int) + 1)))) = (rs.set j (smpD (mkSmp q x))).flatten) := hide (by
          have hl := HL1.out
          have hlen : ∀ (rs' : List (List Dt)) (r : List Dt), (∀ r ∈ rs', r.length = 2) → r.length = 2 → ∀ r' ∈ rs'.set j r, r'.length = 2 := fun rs' r h1 h2 r' hr => by
            rcases List.mem_or_eq_of_mem_set hr with h | h
            · exact h1 r' h
            · rw [h]; exact h2
          rw [show j * 2 = j * 2 + 0 from rfl]
          rw [rows_set rs j 0 _ HA1.out (by omega) (by omega), HG2.out]
          rw [rows_set _ j 1 _ (hlen _ _ HA1.out rfl) (by rw [List.length_set]; omega) (by omega), List.getD_eq_getElem?_getD, List.getElem?_set_self (by omega), Option.getD_some, List.set_set]
          unfold smpD mkSmp
          rfl)
        rw [HZ.out, HS2.out] at HO
        go_wp2
        exact ⟨⟨j + 1, by omega, by have hh := HQ.out; congr 1; omega, by go_num, HO, HC⟩, by simp [intOf]; omega⟩
      · obtain rfl : j = n := by omega
        have HF := hide (HEN.out _ HO.out)
        go_wp2
        go_ret
        exact ⟨by rw [HTE.out]; rfl, HF.out, HC.out⟩
theorem mkSmpsI (w : World) (b hi K : Nat) (m : Int) (hmK : m = (K : Int)) (v : Value) (xs : List Smp) (h : OwnD w b hi (smps xs) v) (hK : 0 < K) (hm : K + cntSmps xs ≤ 100000000) :
    Calls Try.prog 42 #[v, .int .i64 m] w fun e w' => e = .returned (.int .i64 ((K + cntSmps xs : Nat) : Int)) ∧ OwnD w' b hi (smps (mkSmps K xs)) v ∧ ChgI b hi w w' := by
  obtain ⟨F, h1, h2, h3⟩ := h
  have hl := Owns.lt _ _ _ h1
  refine (mkSmpsR w b K m hmK v xs F h1 h2 hK hm).mono ?_
  rintro e w1 ⟨rfl, o1, c1⟩
  exact ⟨rfl, ⟨F, o1, h2, h3⟩, c1.int (fun q hq => ⟨(hl q hq).1, h3 q hq⟩)⟩
set_option maxRecDepth 100000 in
set_option maxHeartbeats 8000000 in
theorem heldSmpsR (w : World) (K : Nat) (m : Int) (hmK : m = (K : Int)) (v : Value) (xs : List Smp) (h : Reads w w.heap.size (smps (mkSmps K xs)) v) (hK : 0 < K) (hm : K + cntSmps xs ≤ 100000000) :
    Calls Try.prog 43 #[v, .int .i64 m] w fun e w' => e = .returned (.int .i64 ((K + cntSmps xs : Nat) : Int)) ∧ Below w.heap.size w w' := by
  subst hmK
  have HCN : Hid (cntSmps xs = tot smpCnt xs) := hide rfl
  rw [HCN.out] at hm ⊢
  have HX : Hid (∀ wr, Below w.heap.size w wr → _) := hide (fun wr hb => stamp_at (h.at hb))
  have HTS : Hid (∀ j, j < xs.length → tot smpCnt (xs.take (j + 1)) = tot smpCnt (xs.take j) + smpCnt (xs.getD j default)) := hide (fun j hj => tot_step _ xs j hj)
  have HTL : Hid (∀ j, tot smpCnt (xs.take j) ≤ tot smpCnt xs) := hide (fun j => tot_le _ xs j)
  have HGt : Hid (∀ j, j < xs.length → (mkSmps K xs).getD j default = mkSmp (K + tot smpCnt (xs.take j)) (xs.getD j default)) := hide (fun j hj => mkSmps_get K xs j hj)
  have HTE : Hid (tot smpCnt (xs.take xs.length) = tot smpCnt xs) := hide (by rw [List.take_length])
  have HLe := hide (mkSmps_len K xs)
  have hmx : xs.length ≤ tot smpCnt xs := tot_one _ (fun _ => by unfold smpCnt; omega) xs
  obtain ⟨a, cap, rfl, hlc, _⟩ := stamp_at h
  rw [mkSmps_len] at hlc ⊢
  clear h
  obtain ⟨n, hn⟩ : ∃ n, xs.length = n := ⟨_, rfl⟩
  rw [hn] at hlc hmx ⊢
  have HLn := hide hn
  clear hn
  go_enter Try.func43, Try.ntmps43
  go_wp2
  go_loopw [1, 5] (fun q i wr => ∃ j : Nat, j ≤ n ∧ q = .int .i64 ((K + tot smpCnt (xs.take j) : Nat) : Int) ∧ i = .int .i64 (j : Int) ∧ Hid (Below w.heap.size w wr)) (fun _ i _ => n - (intOf i).toNat)
  case atStart => exact ⟨0, Nat.zero_le _, by simp [tot], rfl, hide (Below.refl _ _)⟩
  case round =>
    obtain ⟨j, hj, rfl, rfl, HB⟩ := hrel
    by_cases hlt : j < n
    · have hlt' : j < xs.length := by have := HLn.out; omega
      have hts := HTS.out j hlt'
      have htl := HTL.out (j + 1)
      have hgt := HGt.out j hlt'
      obtain ⟨q, hq⟩ : ∃ q, K + tot smpCnt (xs.take j) = q := ⟨_, rfl⟩
      obtain ⟨y, hy⟩ : ∃ y, xs.getD j default = y := ⟨_, rfl⟩
      rw [hy] at hts hgt
      rw [hq] at hgt ⊢
      have hcm : smpCnt y = 2 := rfl
      have hq0 : 0 < q := by omega
      have hqm : q + (2) ≤ 100000000 := by omega
      have HEND : Hid (K + tot smpCnt (xs.take (j + 1)) = q + (2)) := hide (by omega)
      obtain ⟨b, o, ha, hbb, f0, f1⟩ : ∃ b o, a = some ⟨b, o, none⟩ ∧ b < wr.heap.size ∧ wr.cell? ⟨b, o + j * 2, none⟩ = some (.int .i64 (((q : Nat) : Int))) ∧ wr.cell? ⟨b, o + j * 2 + 1, none⟩ = some (.int .i64 (((q : Nat) : Int) + 1)) := by
        obtain ⟨a', cap', e, _, _, hx⟩ := HX.out wr HB.out
        cases e
        obtain ⟨b, o, e, hb, hc⟩ := hx (by rw [HLe.out]; omega)
        obtain ⟨c0, c1⟩ := hc j (by rw [HLe.out]; exact hlt')
        rw [hgt] at c0 c1
        exact ⟨b, o, e, hb, c0, c1⟩
      subst ha
      have HD : Hid (∀ wq, Below wr.heap.size wr wq → wq.cell? ⟨b, o + j * 2, none⟩ = some (.int .i64 (((q : Nat) : Int))) ∧ wq.cell? ⟨b, o + j * 2 + 1, none⟩ = some (.int .i64 (((q : Nat) : Int) + 1))) := hide (fun wq hb =>
        ⟨(hb.cell (p := ⟨b, o + j * 2, none⟩) hbb).trans f0, (hb.cell (p := ⟨b, o + j * 2 + 1, none⟩) hbb).trans f1⟩)
      have HR := hide (Below.refl wr.heap.size wr)
      have HQ := hide hq
      clear hq f0 f1 hts htl hgt hcm
      have d0 := (HD.out wr HR.out).1
      have n0 : ((((q : Nat) : Int)) != (((q : Nat) : Int))) = false := by simp
      have d1 := (HD.out wr HR.out).2
      have n1 : ((((q : Nat) : Int) + 1) != (((q : Nat) : Int) + 1)) = false := by simp
      have HRZ := hide (HB.out.trans (HR.out.mono HB.out.size))
      go_wp2
      exact ⟨⟨j + 1, hlt, by rw [HEND.out]; exact congrArg (Value.int .i64) (by omega), by go_num, HRZ⟩, by simp [intOf]; omega⟩
    · obtain rfl : j = n := by omega
      have HE9 : Hid (K + tot smpCnt (xs.take j) = K + tot smpCnt xs) := hide (by rw [← HLn.out, HTE.out])
      go_wp2
      go_ret
      exact ⟨by rw [HE9.out]; rfl, HB.out⟩
end Go.Proofs.Ytllghgcancennaa
