/-
  Joined: ClcZ, RowIn.
-/
import Derived.Test.YtllghgcancennaaJ28
import Derived.Test.YtllghgcancennaaJ29
import Derived.Test.YtllghgcancennaaJ1
import Derived.WalkKit
import Derived.ProofKit
import Derived.OpenShut
/-
  The program's RaceAt.
-/
namespace Go.Proofs.Ytllghgcancennaa
open Go.RowKit Go.Maps

theorem rd_hi {w : World} {b e sz n hi : Nat} {v : Value} {cs : List Value} (h : w.ownsRow b e sz v n cs) (hB : ∀ q, v.ownBlock = some q → q < hi) : Rd w hi sz v n cs := by
  obtain ⟨h0, a, cap, rfl, h2, h3, h4⟩ := rd_own h (Nat.le_refl _)
  refine ⟨h0, a, cap, rfl, h2, h3, fun hp => ?_⟩
  obtain ⟨b', o, ha, _, hc⟩ := h4 hp
  exact ⟨b', o, ha, hB b' (by rw [ha]; rfl), hc⟩
mutual
theorem Owns.readsHi {w : World} {b hi : Nat} : ∀ (d : Dt) (v : Value) (F : List Nat), (∀ q ∈ F, q < hi) → Owns w b d v F → Reads w hi d v
  | .val u, v, F, _, h => by unfold Owns at h; unfold Reads; exact h.1
  | .row T k n cs, v, F, hF, h => by
    unfold Owns at h
    unfold Reads
    obtain ⟨us, G, h1, h2, rfl⟩ := h
    exact ⟨us, rd_hi h1 (fun q hq => hF q (by rw [hq]; simp)), OwnsL.readsHi cs us G (fun q hq => hF q (by simp [hq])) h2⟩
theorem OwnsL.readsHi {w : World} {b hi : Nat} : ∀ (cs : List Dt) (us : List Value) (F : List Nat), (∀ q ∈ F, q < hi) → OwnsL w b cs us F → ReadsL w hi cs us
  | [], us, F, _, h => by unfold OwnsL at h; unfold ReadsL; exact h.1
  | c :: cs, us, F, hF, h => by
    unfold OwnsL at h
    unfold ReadsL
    obtain ⟨u, us', F1, F2, rfl, rfl, h1, h2⟩ := h
    exact ⟨u, us', rfl, Owns.readsHi c u F1 (fun q hq => hF q (by simp [hq])) h1, OwnsL.readsHi cs us' F2 (fun q hq => hF q (by simp [hq])) h2⟩
end
theorem Out.readsHi {w : World} {B hi : Nat} {cs : List (List Smp)} {v : Value} {us : List Value} (h : Out w B hi cs v us) {j : Nat} (hj : j < cs.length) : Reads w hi (smps (cs.getD j [])) (us.getD j undef) := by
  obtain ⟨_, F, h1, _, h3⟩ := h
  have h2 := OwnsL.readsHi _ _ F h3 h1
  unfold outD at h2
  obtain ⟨u, us', e, _, h4⟩ := readsL_cons h2
  cases e
  exact smps_reads h4 hj
theorem Out.grownHi {w w' : World} {B hi p : Nat} {cs : List (List Smp)} {v : Value} {us : List Value} (h : Out w B hi cs v us) (hg : w.grownBy w' (some p)) (hp : hi ≤ p) : Out w' B hi cs v us := ⟨h.1, h.2.same (fun q _ hq hq' => hg.block q hq' (fun e => by injection e with e; omega))⟩
theorem evAt_R {y : Evt} (h : evAt y = true) : EvtR y := by
  unfold evAt at h
  simp only [Bool.and_eq_true] at h
  have h1 := inB_yes h.1
  have h2 := inB_yes h.2.1
  have h3 := inB_yes h.2.2.1
  have h4 := inB_yes h.2.2.2
  exact ⟨by omega, by omega, by omega, by omega⟩
theorem evAt_in2 {y : Evt} (h : evAt y = true) : (0 ≤ y.i ∧ y.i ≤ 1000000) ∧ (0 ≤ y.a ∧ y.a ≤ 1000000) := by
  unfold evAt at h
  simp only [Bool.and_eq_true] at h
  have h3 := inB_yes h.2.2.1
  have h4 := inB_yes h.2.2.2
  exact ⟨h3, by omega⟩
def FldOk (w : World) (xs : List Evt) (j B0 : Nat) (F : Int → Int → Option Nat) : Prop := ∀ p q, (0 ≤ p ∧ p ≤ 1000000) → (0 ≤ q ∧ q ≤ 1000000) →
  (F p q = none → ∀ a, accF xs p q j a = none) ∧ ∀ b, F p q = some b → B0 ≤ b ∧ AccM w b j (accF xs p q j)
def FldInj (F : Int → Int → Option Nat) : Prop := ∀ p q p' q' b, (0 ≤ p ∧ p ≤ 1000000) → (0 ≤ q ∧ q ≤ 1000000) → (0 ≤ p' ∧ p' ≤ 1000000) → (0 ≤ q' ∧ q' ≤ 1000000) → F p q = some b → F p' q' = some b → p = p' ∧ q = q'
theorem FldOk.below {w w' : World} {xs : List Evt} {j B0 : Nat} {F : Int → Int → Option Nat} (h : FldOk w xs j B0 F) (hb : Below w.heap.size w w') : FldOk w' xs j B0 F := fun p q hp hq =>
  ⟨(h p q hp hq).1, fun b hF => ⟨((h p q hp hq).2 b hF).1, ((h p q hp hq).2 b hF).2.below hb⟩⟩
theorem fld_fresh {w : World} {xs : List Evt} {j B0 : Nat} {F : Int → Int → Option Nat} (h : FldOk w xs j B0 F) : ∀ p q, (0 ≤ p ∧ p ≤ 1000000) → (0 ≤ q ∧ q ≤ 1000000) → F p q ≠ some w.heap.size := fun p q hp hq e => by
  have := ((h p q hp hq).2 _ e).2.lt
  omega
theorem fld_past {w : World} {xs : List Evt} {j B0 : Nat} {F : Int → Int → Option Nat} (h : FldOk w xs j B0 F) (hn : ∀ p q, ¬ tch xs p q j) : FldOk w xs (j + 1) B0 F := fun p q hp hq =>
  ⟨fun hF a => (accF_no (hn p q) a).trans ((h p q hp hq).1 hF a), fun b hF => ⟨((h p q hp hq).2 b hF).1, (((h p q hp hq).2 b hF).2.mono (Nat.le_succ j)).congr (accF_no (hn p q))⟩⟩
theorem fld_new {w w' : World} {xs : List Evt} {j B0 g bb : Nat} {F : Int → Int → Option Nat} {p0 q0 : Int} (h : FldOk w xs j B0 F) (hFn : F p0 q0 = none) (hg : w.grownBy w' (some g)) (hgB : g < B0) (hbb : B0 ≤ bb) (hN : AccM w' bb 0 (fun _ => none)) (hp0 : 0 ≤ p0 ∧ p0 ≤ 1000000 := by omega) (hq0 : 0 ≤ q0 ∧ q0 ≤ 1000000 := by omega) : FldOk w' xs j B0 (putS F p0 q0 bb) := fun p q hp hq => by
  unfold putS
  by_cases e : p = p0 ∧ q = q0
  · obtain ⟨rfl, rfl⟩ := e
    rw [if_pos ⟨rfl, rfl⟩]
    refine ⟨fun h => (by cases h), fun b hb => ?_⟩
    cases hb
    exact ⟨hbb, (hN.mono (Nat.zero_le _)).congr ((h p q hp hq).1 hFn)⟩
  · rw [if_neg e]
    exact ⟨(h p q hp hq).1, fun b hF => ⟨((h p q hp hq).2 b hF).1, ((h p q hp hq).2 b hF).2.grown hg (by have := ((h p q hp hq).2 b hF).1; omega)⟩⟩
theorem fld_inj_new {F : Int → Int → Option Nat} {p0 q0 : Int} {bb : Nat} (h : FldInj F) (hne : ∀ p q, (0 ≤ p ∧ p ≤ 1000000) → (0 ≤ q ∧ q ≤ 1000000) → F p q ≠ some bb) : FldInj (putS F p0 q0 bb) := fun p q p' q' b hp hq hp' hq' h1 h2 => by
  unfold putS at h1 h2
  split at h1
  · rename_i e1
    cases h1
    split at h2
    · rename_i e2
      exact ⟨e1.1.trans e2.1.symm, e1.2.trans e2.2.symm⟩
    · exact absurd h2 (hne p' q' hp' hq')
  · split at h2
    · cases h2
      exact absurd h1 (hne p q hp hq)
    · exact h p q p' q' b hp hq hp' hq' h1 h2
theorem fld_takes {w w' : World} {xs : List Evt} {j B0 bb : Nat} {F : Int → Int → Option Nat} {y : Evt} (h : FldOk w xs j B0 F) (hI : FldInj F) (hyi : 0 ≤ y.i ∧ y.i ≤ 1000000) (hya : 0 ≤ y.a ∧ y.a ≤ 1000000) (hF : F y.i y.a = some bb) (hg : w.grownBy w' (some bb)) (_hs : B0 ≤ w.heap.size)
    (hy : xs.getD j default = y) (hrw : rwB y.k = true) (hA : AccM w' bb (j + 1) (accPut (if y.k = 2 then (fun _ => none) else accF xs y.i y.a j) y (cntX (clk xs j) y.w))) : FldOk w' xs (j + 1) B0 F := fun p q hp hq => by
  by_cases e : p = y.i ∧ q = y.a
  · obtain ⟨rfl, rfl⟩ := e
    have ht : tch xs y.i y.a j := ⟨by rw [hy]; exact hrw, by rw [hy], by rw [hy]⟩
    refine ⟨fun h => (by rw [hF] at h; cases h), fun b hb => ?_⟩
    rw [hF] at hb
    cases hb
    refine ⟨((h y.i y.a hyi hya).2 bb hF).1, hA.congr (fun a => ?_)⟩
    rw [accF_yes ht, hy]
    unfold accPut who
    rw [hy]
    split
    · rfl
    · split <;> rfl
  · have ht : ¬ tch xs p q j := fun t => e ⟨by rw [← t.2.1, hy], by rw [← t.2.2, hy]⟩
    refine ⟨fun hFn a => (accF_no ht a).trans ((h p q hp hq).1 hFn a), fun b hb => ?_⟩
    have h2 := (h p q hp hq).2 b hb
    refine ⟨h2.1, ((h2.2.grown hg (fun eb => ?_)).mono (Nat.le_succ j)).congr (accF_no ht)⟩
    subst eb
    exact e (hI p q y.i y.a b hp hq hyi hya hb hF)
set_option maxRecDepth 100000 in
set_option maxHeartbeats 16000000 in
theorem raceI (w : World) (xs : List Evt) (v : Value) (h : Reads w w.heap.size (evts xs) v) (hm : xs.length ≤ 1048576) :
    Calls Try.prog 21 #[v] w fun e w' => e = .returned (.int .i64 (raceX xs)) ∧ Below w.heap.size w w' := by
  have HR0 := hide h
  obtain ⟨a1, c1, e1, _⟩ := h.shape
  subst e1
  clear h
  have hmm := @run_makeMap Try.prog
  have HF0 := hide (FldM.made w)
  have HB0 := hide ((Below.refl w.heap.size w).alloc (Nat.le_refl _) (.map #[] 0))
  have hB1 : (w.alloc (.map #[] 0)).heap.size = w.heap.size + 1 := by simp
  go_enter Try.func21, Try.ntmps21
  go_upto_region 2 with fail
  obtain ⟨g, hg⟩ : ∃ g, w.heap.size = g := ⟨_, rfl⟩
  rw [hg] at HF0 HR0 HB0 hB1 ⊢
  have HG := hide hg
  clear hg
  generalize w.alloc (.map #[] 0) = W1 at *
  go_wp2_with fail
  refine (clocksI W1 xs _ ((HR0.out.kept (fun k hk => HB0.out.block k (by omega))).up (by omega)) hm).mono ?_
  rintro e x2 ⟨u2, rfl, p2, b2⟩
  have hz2 := b2.size
  have HR := hide ((HR0.out.kept (fun k hk => HB0.out.block k (by omega))).kept (fun k hk => b2.block k (by omega)))
  have HF := hide (HF0.out.below b2)
  have HB := hide (HB0.out.trans (b2.mono (by omega)))
  cases he : evB xs with
  | false =>
    have hX : clocksX xs = [] := by unfold clocksX; rw [he]; rfl
    rw [hX] at p2
    obtain ⟨ra, rc, re⟩ := p2.shape
    subst re
    have hl0 : ([] : List (List Smp)).length = 0 := rfl
    have HV := hide (raceX_no he)
    rw [hl0]
    clear p2 b2
    go_wp2
    go_loopw [13] (fun i wr => i = .int .i64 (0 : Int) ∧ Hid (Below g w wr)) (fun _ _ => 0)
    case atStart => exact ⟨rfl, HB⟩
    case round =>
      obtain ⟨rfl, HB⟩ := hrel
      go_wp2
      go_ret
      exact ⟨by rw [HV.out]; rfl, by rw [HG.out]; exact HB.out⟩
  | true =>
    have hx := evB_len he
    have HEv := hide (evB_in he).2
    have hX : clocksX xs = clkN xs xs.length := by unfold clocksX; rw [if_pos he]
    rw [hX] at p2
    obtain ⟨us, ho⟩ := Out.of p2
    obtain ⟨ra, rc, re⟩ := p2.shape
    subst re
    rw [clkN_len] at ho ⊢
    obtain ⟨B1, hB1e⟩ : ∃ B, W1.heap.size = B := ⟨_, rfl⟩
    obtain ⟨B0, hB0e⟩ : ∃ B, x2.heap.size = B := ⟨_, rfl⟩
    have hgB : g < B1 := by omega
    have hB10 : B1 ≤ B0 := by omega
    rw [hB1e, hB0e] at ho
    have HX := hide ho
    have HX1 : Hid (B0 ≤ x2.heap.size) := hide (by omega)
    clear p2 b2 ho hX hB1e hB0e hz2 hB1 HR0 HF0 HB0
    go_wp2
    go_loopw [13] (fun i wr => ∃ (j : Nat) (F : Int → Int → Option Nat) (nf : Nat), j ≤ xs.length ∧ i = .int .i64 (j : Int) ∧ Hid (Reads wr g (evts xs) (.slice a1 xs.length c1)) ∧ Hid (Out wr B1 B0 (clkN xs xs.length) (.slice ra xs.length rc) us) ∧ Hid (B0 ≤ wr.heap.size) ∧ Hid (FldM wr g nf F) ∧ nf ≤ j ∧ Hid (FldOk wr xs j B0 F) ∧ Hid (FldInj F) ∧ Hid (Below g w wr) ∧ Hid (∀ i, i < j → racesAt xs i = false)) (fun i _ => xs.length - (intOf i).toNat)
    case atStart => exact ⟨0, fun _ _ => none, 0, Nat.zero_le _, rfl, HR, HX, HX1, HF, Nat.le_refl _, hide (fun p q _ _ => ⟨fun _ a => rfl, fun b h => by cases h⟩), hide (fun p q p' q' b _ _ _ _ h => by cases h), HB, hide (fun i hi => by omega)⟩
    case round =>
      clear HR HX HX1 HF HB
      obtain ⟨j, F, nf, hj, rfl, HR, HX, HX1, HF, hnf, HO, HI, HB, hAll⟩ := hrel
      by_cases hlt : j < xs.length
      · have hjx := hlt
        obtain ⟨a', cap', ea, hcap, _, hc⟩ := event_at HR.out
        cases ea
        obtain ⟨b, o, rfl, hbb, hcell⟩ := hc (by omega)
        obtain ⟨d0, d1, d2, d3⟩ := hcell j hlt
        clear hc hcell
        obtain ⟨y, hy⟩ : ∃ y, xs.getD j default = y := ⟨_, rfl⟩
        rw [hy] at d0 d1 d2 d3
        have HYe := hide hy
        have hyAt : evAt y = true := by rw [← hy]; exact HEv.out j hlt
        have hyR := evAt_R hyAt
        have hyin := evAt_in2 hyAt
        have hyi : 0 ≤ y.i ∧ y.i ≤ 1000000 := hyin.1
        have hya : 0 ≤ y.a ∧ y.a ≤ 1000000 := hyin.2
        clear hy hyAt hyin
        obtain ⟨g2, o2, c2, e2, hc2⟩ := HX.out.cell (j := j) (by rw [clkN_len]; exact hlt)
        rw [clkN_len] at e2
        cases e2
        have HSU : Hid (∃ pu qu, us.getD j undef = .slice pu (clk xs j).length qu) := hide (by
          have h := HX.out.reads (j := j) (by rw [clkN_len]; exact hlt)
          rw [clkN_clk xs hlt] at h
          obtain ⟨p, q, e, _⟩ := h.shape
          exact ⟨p, q, e⟩)
        obtain ⟨pu, qu, hsu⟩ := HSU.out
        rw [hsu] at hc2
        have HCE : Hid (∀ W, Reads W W.heap.size (smps ((clkN xs xs.length).getD j [])) (us.getD j undef) → Reads W W.heap.size (smps (clk xs j)) (.slice pu (clk xs j).length qu)) := hide (fun W h => by rw [clkN_clk xs hlt, hsu] at h; exact h)
        have HCE2 : Hid (∀ W, Reads W B0 (smps ((clkN xs xs.length).getD j [])) (us.getD j undef) → Reads W B0 (smps (clk xs j)) (.slice pu (clk xs j).length qu)) := hide (fun W h => by rw [clkN_clk xs hlt, hsu] at h; exact h)
        have hcl : (clk xs j).length ≤ 1048576 := by have := (clk_good hlt).len; omega
        have hcn : 0 ≤ cntX (clk xs j) y.w ∧ cntX (clk xs j) y.w ≤ 16777215 := cnt_hi (srt_clkB (clk_good hlt).1)
        have HAR : Hid (∀ a k, accF xs y.i y.a j a = some k → EvtR a) := hide (fun a k h => by
          obtain ⟨i, h1, h2, _⟩ := acc_sound h
          rw [← h2]
          exact evAt_R (HEv.out i (by omega)))
        have hltI : (j : Int) < (xs.length : Int) := by omega
        clear HSU hsu
        go_upto_region 6 with fail
        clear d0 d1 d2 d3 hc2
        have hgfB := HX1.out
        have EF := hide (heap_alloc_new wr (.cells #[.int .i64 y.w, .int .i64 y.k, .int .i64 y.i, .int .i64 y.a] 40))
        have b1 := (Below.refl wr.heap.size wr).alloc (Nat.le_refl _) (.cells #[.int .i64 y.w, .int .i64 y.k, .int .i64 y.i, .int .i64 y.a] 40)
        replace HR := hide (HR.out.kept (fun k hk => b1.block k (by have := HX1.out; omega)))
        replace HX := hide (HX.out.below b1)
        replace HF := hide (HF.out.below b1)
        replace HO := hide (HO.out.below b1)
        replace HB := hide (HB.out.trans (b1.mono (by have := HX1.out; omega)))
        replace HX1 := hide (show B0 ≤ _ from Nat.le_trans HX1.out b1.size)
        clear b1 hbb
        obtain ⟨gf, hgf⟩ : ∃ g, wr.heap.size = g := ⟨_, rfl⟩
        rw [hgf] at EF hgfB ⊢
        have HGF := hide hgfB
        clear hgf hgfB
        generalize wr.alloc (.cells #[.int .i64 y.w, .int .i64 y.k, .int .i64 y.i, .int .i64 y.a] 40) = W2 at *
        have k0 := (box_of EF.out).1 0 _ rfl
        have k1 := (box_of EF.out).1 1 _ rfl
        have k2 := (box_of EF.out).1 2 _ rfl
        have k3 := (box_of EF.out).1 3 _ rfl
        go_wp2_with fail
        refine (touchI W2 y).mono ?_
        rintro e x3 ⟨rfl, b1⟩
        clear k0 k1 k2 k3
        replace HR := hide (HR.out.kept (fun k hk => b1.block k (by have := HX1.out; omega)))
        replace HX := hide (HX.out.below b1)
        replace HF := hide (HF.out.below b1)
        replace HO := hide (HO.out.below b1)
        replace HB := hide (HB.out.trans (b1.mono (by have := HX1.out; omega)))
        replace EF := hide ((b1.block _ (Array.getElem?_eq_some_iff.1 EF.out).1).trans EF.out)
        replace HX1 := hide (show B0 ≤ _ from Nat.le_trans HX1.out b1.size)
        clear b1
        cases hrw : rwB y.k with
        | false =>
          have HO9 := hide (fld_past HO.out (j := j) (fun p q h => by have h1 := h.1; rw [HYe.out, hrw] at h1; cases h1))
          have hall9 : Hid (∀ i, i < j + 1 → racesAt xs i = false) := hide (fun i hi => by
            rcases Nat.lt_succ_iff_lt_or_eq.1 hi with h | rfl
            · exact hAll.out i h
            · exact race_rw (by rw [HYe.out]; exact hrw))
          go_wp2
          exact ⟨⟨j + 1, _, _, by omega, by go_num, HR, HX, HX1, HF, by omega, HO9, HI, HB, hall9⟩, by simp [intOf]; omega⟩
        | true =>
          have k0 := (box_of EF.out).1 0 _ rfl
          have k1 := (box_of EF.out).1 1 _ rfl
          have k2 := (box_of EF.out).1 2 _ rfl
          have k3 := (box_of EF.out).1 3 _ rfl
          go_wp2_with fail
          refine (spotI _ y).mono ?_
          rintro e x4 ⟨rfl, b1⟩
          clear k0 k1 k2 k3
          replace HR := hide (HR.out.kept (fun k hk => b1.block k (by have := HX1.out; omega)))
          replace HX := hide (HX.out.below b1)
          replace HF := hide (HF.out.below b1)
          replace HO := hide (HO.out.below b1)
          replace HB := hide (HB.out.trans (b1.mono (by have := HX1.out; omega)))
          replace EF := hide ((b1.block _ (Array.getElem?_eq_some_iff.1 EF.out).1).trans EF.out)
          replace HX1 := hide (show B0 ≤ _ from Nat.le_trans HX1.out b1.size)
          clear b1
          have lk := HF.out.look hyi hya
          cases hFp : F y.i y.a with
          | some bb =>
            rw [hFp] at lk
            have HFb := hide hFp
            clear hFp
            go_upto_region 11 with fail
            clear lk
            have HAY := hide ((HO.out y.i y.a hyi hya).2 bb HFb.out)
            have hbB := HAY.out.1
            have HT := hide (acc_tells he hjx hAll.out HYe.out)
            have k0 := (box_of EF.out).1 0 _ rfl
            have k1 := (box_of EF.out).1 1 _ rfl
            have k2 := (box_of EF.out).1 2 _ rfl
            have k3 := (box_of EF.out).1 3 _ rfl
            go_wp2_with fail
            refine (unordI _ bb j (accF xs y.i y.a j) y (clk xs j) _ (racesAt xs j) HAY.out.2 HAR.out (HX.out.reads (j := j) (by rw [clkN_len]; exact hjx) |> HCE.out _) hcl HT.out).mono ?_
            rintro e x5 ⟨rfl, b1⟩
            clear k0 k1 k2 k3
            replace HR := hide (HR.out.kept (fun k hk => b1.block k (by have := HX1.out; omega)))
            replace HX := hide (HX.out.below b1)
            replace HF := hide (HF.out.below b1)
            replace HO := hide (HO.out.below b1)
            replace HB := hide (HB.out.trans (b1.mono (by have := HX1.out; omega)))
            replace EF := hide ((b1.block _ (Array.getElem?_eq_some_iff.1 EF.out).1).trans EF.out)
            replace HX1 := hide (show B0 ≤ _ from Nat.le_trans HX1.out b1.size)
            clear b1 HAY
            cases hrc : racesAt xs j with
            | true =>
              have HV := hide (raceX_hit he hjx hrc hAll.out)
              go_wp2
              go_ret
              exact ⟨by rw [HV.out]; rfl, by rw [HG.out]; exact HB.out⟩
            | false =>
              have HAY := hide ((HO.out y.i y.a hyi hya).2 bb HFb.out)
              have HCB := hide (HX.out.readsHi (j := j) (by rw [clkN_len]; exact hjx) |> HCE2.out _)
              have k0 := (box_of EF.out).1 0 _ rfl
              have k1 := (box_of EF.out).1 1 _ rfl
              have k2 := (box_of EF.out).1 2 _ rfl
              have k3 := (box_of EF.out).1 3 _ rfl
              go_wp2_with fail
              refine (takesI _ bb j (accF xs y.i y.a j) y (clk xs j) _ HAY.out.2 (by omega) hyR B0 HCB.out HAY.out.1 hcl hcn).mono ?_
              rintro e x9 ⟨rfl, g9, a9⟩
              clear k0 k1 k2 k3
              have hg9 := g9.size
              have HR9 := hide (HR.out.kept (fun k hk => g9.block k (by have := HX1.out; omega) (fun e => by injection e with e; omega)))
              have HX9 := hide (HX.out.grownHi g9 hbB)
              have HF9 := hide (HF.out.grown g9 (by omega))
              have HB9 := hide (HB.out.grown g9 (by have := HX1.out; omega) (fun q hq => by injection hq with hq; omega))
              have HO9 := hide (fld_takes HO.out HI.out hyi hya HFb.out g9 (by have := HX1.out; omega) HYe.out hrw a9)
              have hall9 : Hid (∀ i, i < j + 1 → racesAt xs i = false) := hide (fun i hi => by
                rcases Nat.lt_succ_iff_lt_or_eq.1 hi with h | rfl
                · exact hAll.out i h
                · exact hrc)
              have HX19 : Hid (B0 ≤ x9.heap.size) := hide (by have := HX1.out; omega)
              clear g9 a9
              go_wp2
              exact ⟨⟨j + 1, _, _, by omega, by go_num, HR9, HX9, HX19, HF9, by omega, HO9, HI, HB9, hall9⟩, by simp [intOf]; omega⟩
          | none =>
            rw [hFp] at lk
            have HFn := hide hFp
            clear hFp
            go_upto_region 10 with fail
            clear lk
            have hx4 := HX1.out
            have hON := fld_fresh HO.out
            have HN := hide (AccM.made x4)
            have b1 := (Below.refl x4.heap.size x4).alloc (Nat.le_refl _) (.map #[] 0)
            replace HR := hide (HR.out.kept (fun k hk => b1.block k (by have := HX1.out; omega)))
            replace HX := hide (HX.out.below b1)
            replace HF := hide (HF.out.below b1)
            replace HO := hide (HO.out.below b1)
            replace HB := hide (HB.out.trans (b1.mono (by have := HX1.out; omega)))
            replace EF := hide ((b1.block _ (Array.getElem?_eq_some_iff.1 EF.out).1).trans EF.out)
            replace HX1 := hide (show B0 ≤ _ from Nat.le_trans HX1.out b1.size)
            clear b1
            obtain ⟨bb, hbbe⟩ : ∃ g, x4.heap.size = g := ⟨_, rfl⟩
            rw [hbbe] at HN hx4 hON ⊢
            have HON := hide hON
            clear hbbe hON
            generalize x4.alloc (.map #[] 0) = W4 at *
            have k0 := (box_of EF.out).1 0 _ rfl
            have k1 := (box_of EF.out).1 1 _ rfl
            have k2 := (box_of EF.out).1 2 _ rfl
            have k3 := (box_of EF.out).1 3 _ rfl
            go_wp2_with fail
            refine (spotI _ y).mono ?_
            rintro e x5 ⟨rfl, b1⟩
            clear k0 k1 k2 k3
            replace HN := hide (HN.out.below b1)
            replace HR := hide (HR.out.kept (fun k hk => b1.block k (by have := HX1.out; omega)))
            replace HX := hide (HX.out.below b1)
            replace HF := hide (HF.out.below b1)
            replace HO := hide (HO.out.below b1)
            replace HB := hide (HB.out.trans (b1.mono (by have := HX1.out; omega)))
            replace EF := hide ((b1.block _ (Array.getElem?_eq_some_iff.1 EF.out).1).trans EF.out)
            replace HX1 := hide (show B0 ≤ _ from Nat.le_trans HX1.out b1.size)
            clear b1
            go_upto_region 11 with (first
              | (refine wp_field rfl _ _ _ rfl g nf F rfl HF.out (by unfold maxLen; omega) y.i y.a hyi hya rfl bb rfl ?_; intro x6 h6 g6; have HF6 := hide h6; have HG6 := hide g6; clear h6 g6)
              | fail)
            have hg6 := HG6.out.size
            replace HN := hide (HN.out.grown HG6.out (by omega))
            replace HR := hide (HR.out.kept (fun k hk => HG6.out.block k (by have := HX1.out; omega) (fun e => by injection e with e; omega)))
            replace HX := hide (HX.out.grownP HG6.out hgB)
            replace EF := hide ((HG6.out.block _ (Array.getElem?_eq_some_iff.1 EF.out).1 (fun e => by injection e with e; have := HGF.out; omega)).trans EF.out)
            replace HB := hide (HB.out.grown HG6.out (by have := HX1.out; omega) (fun q hq => by injection hq with hq; omega))
            replace HX1 := hide (Nat.le_trans HX1.out hg6)
            have HO2 := hide (fld_new HO.out HFn.out HG6.out (by omega) hx4 HN.out)
            have HI2 := hide (fld_inj_new (p0 := y.i) (q0 := y.a) HI.out HON.out)
            replace HO := HO2
            replace HI := HI2
            replace HF := HF6
            have HFb : Hid (putS F y.i y.a bb y.i y.a = some bb) := hide (if_pos ⟨rfl, rfl⟩)
            clear HO2 HI2 HF6 HG6 HFn HN
            have HAY := hide ((HO.out y.i y.a hyi hya).2 bb HFb.out)
            have hbB := HAY.out.1
            have HT := hide (acc_tells he hjx hAll.out HYe.out)
            have k0 := (box_of EF.out).1 0 _ rfl
            have k1 := (box_of EF.out).1 1 _ rfl
            have k2 := (box_of EF.out).1 2 _ rfl
            have k3 := (box_of EF.out).1 3 _ rfl
            go_wp2_with fail
            refine (unordI _ bb j (accF xs y.i y.a j) y (clk xs j) _ (racesAt xs j) HAY.out.2 HAR.out (HX.out.reads (j := j) (by rw [clkN_len]; exact hjx) |> HCE.out _) hcl HT.out).mono ?_
            rintro e x7 ⟨rfl, b1⟩
            clear k0 k1 k2 k3
            replace HR := hide (HR.out.kept (fun k hk => b1.block k (by have := HX1.out; omega)))
            replace HX := hide (HX.out.below b1)
            replace HF := hide (HF.out.below b1)
            replace HO := hide (HO.out.below b1)
            replace HB := hide (HB.out.trans (b1.mono (by have := HX1.out; omega)))
            replace EF := hide ((b1.block _ (Array.getElem?_eq_some_iff.1 EF.out).1).trans EF.out)
            replace HX1 := hide (show B0 ≤ _ from Nat.le_trans HX1.out b1.size)
            clear b1 HAY
            cases hrc : racesAt xs j with
            | true =>
              have HV := hide (raceX_hit he hjx hrc hAll.out)
              go_wp2
              go_ret
              exact ⟨by rw [HV.out]; rfl, by rw [HG.out]; exact HB.out⟩
            | false =>
              have HAY := hide ((HO.out y.i y.a hyi hya).2 bb HFb.out)
              have HCB := hide (HX.out.readsHi (j := j) (by rw [clkN_len]; exact hjx) |> HCE2.out _)
              have k0 := (box_of EF.out).1 0 _ rfl
              have k1 := (box_of EF.out).1 1 _ rfl
              have k2 := (box_of EF.out).1 2 _ rfl
              have k3 := (box_of EF.out).1 3 _ rfl
              go_wp2_with fail
              refine (takesI _ bb j (accF xs y.i y.a j) y (clk xs j) _ HAY.out.2 (by omega) hyR B0 HCB.out HAY.out.1 hcl hcn).mono ?_
              rintro e x9 ⟨rfl, g9, a9⟩
              clear k0 k1 k2 k3
              have hg9 := g9.size
              have HR9 := hide (HR.out.kept (fun k hk => g9.block k (by have := HX1.out; omega) (fun e => by injection e with e; omega)))
              have HX9 := hide (HX.out.grownHi g9 hbB)
              have HF9 := hide (HF.out.grown g9 (by omega))
              have HB9 := hide (HB.out.grown g9 (by have := HX1.out; omega) (fun q hq => by injection hq with hq; omega))
              have HO9 := hide (fld_takes HO.out HI.out hyi hya HFb.out g9 (by have := HX1.out; omega) HYe.out hrw a9)
              have hall9 : Hid (∀ i, i < j + 1 → racesAt xs i = false) := hide (fun i hi => by
                rcases Nat.lt_succ_iff_lt_or_eq.1 hi with h | rfl
                · exact hAll.out i h
                · exact hrc)
              have HX19 : Hid (B0 ≤ x9.heap.size) := hide (by have := HX1.out; omega)
              clear g9 a9
              go_wp2
              exact ⟨⟨j + 1, _, _, by omega, by go_num, HR9, HX9, HX19, HF9, by omega, HO9, HI, HB9, hall9⟩, by simp [intOf]; omega⟩
      · obtain rfl : j = xs.length := by omega
        have hnl : ¬ (xs.length : Int) < (xs.length : Int) := by omega
        have HV := hide (raceX_none hAll.out)
        go_wp2
        go_ret
        exact ⟨by rw [HV.out]; rfl, by rw [HG.out]; exact HB.out⟩
end Go.Proofs.Ytllghgcancennaa
/-
  A row of bytes that came in, as the walks take it.
-/
namespace Go.Proofs.Ytllghgcancennaa
open Go.ChangeShapes Go.WideShapes Go.ChangeAt Go.RowKit

def IsRow (k : IntKind) (w : World) (a : Option Addr) (len cap : Nat) (zs : List Int) : Prop :=
  (a = none ∧ len = 0 ∧ cap = 0 ∧ zs = []) ∨
  ∃ x, a = some x ∧ len ≤ cap ∧ cap ≤ maxLen ∧ zs.length = cap ∧ (∀ i, i < zs.length → w.cell? (x.add i) = some (.int k (zs.getD i 0))) ∧ ∀ n ∈ zs, (Lit.int k n).wf = true

theorem in_of {w : World} {a : Option Addr} {len cap : Nat} {zs : List Int} (h : IsRow .u8 w a len cap zs) (hl : len ≤ 1048576) : In w w.heap.size a len (zs.take len) := by
  rcases h with ⟨rfl, rfl, rfl, rfl⟩ | ⟨x, rfl, hlc, hm, hz, hcell, hwz⟩
  · exact ⟨rfl, by omega, fun j hj => by omega, fun h => by omega⟩
  · have hlen : (zs.take len).length = len := by simp; omega
    have hget : ∀ j, j < len → (zs.take len).getD j 0 = zs.getD j 0 := fun j hj => by simp [List.getD, hj]
    refine ⟨hlen, hl, fun j hj => ?_, fun hp => ?_⟩
    · rw [hget j hj]
      have := hwz (zs.getD j 0) (by rw [List.getD_eq_getElem?_getD, List.getElem?_eq_getElem (by omega)]; simp)
      exact bounds_u8 this
    · obtain ⟨b, off, spot⟩ := x
      have hc := hcell 0 (by omega)
      have hspot : spot = none := by simpa [Addr.add] using World.cell?_spot hc
      subst hspot
      refine ⟨b, off, rfl, World.block_lt_of_cell? w _ (by simpa [Addr.add] using hc), fun j hj => ?_⟩
      rw [hget j hj]
      have hcj := hcell j (by omega)
      rw [Addr.add_lit] at hcj
      exact hcj


end Go.Proofs.Ytllghgcancennaa
