/-
  Joined: ClcZ, ClcR.
-/
import Derived.Test.YtbanifnfkabelaaJ32
import Derived.Test.YtbanifnfkabelaaJ28
import Derived.Test.YtbanifnfkabelaaJ18
import Derived.Test.YtbanifnfkabelaaKClcT
import Derived.Test.YtbanifnfkabelaaJ21
import Derived.Test.YtbanifnfkabelaaJ12
import Derived.Deep.RegionHeld
/-
  The program's RaceAt.
-/
namespace Go.Proofs.Ytbanifnfkabelaa
open Go.RowKit Go.Maps

theorem rd_hi {w : World} {b e sz n hi : Nat} {v : Value} {cs : List Value} (h : w.ownsRow b e sz v n cs) (hB : ∀ q, v.ownBlock = some q → q < hi) : Rd w hi sz v n cs := by
  obtain ⟨h0, a, cap, rfl, h2, h3, h4⟩ := rd_own h (Nat.le_refl _)
  refine ⟨h0, a, cap, rfl, h2, h3, fun hp => ?_⟩
  obtain ⟨b', o, ha, _, hc⟩ := h4 hp
  exact ⟨b', o, ha, hB b' (by rw [ha]; rfl), hc⟩
mutual
theorem Owns.readsHi {w : World} {b hi : Nat} : ∀ (d : Dt) (v : Value) (F : List Nat), (∀ q ∈ F, q < hi) → Owns w b d v F → Reads w hi d v
  | .val u, v, F, _, h => by unfold Owns at h; unfold Reads; exact h.1
  | .row T k n cs, v, F, hF, h => by
    unfold Owns at h
    unfold Reads
    obtain ⟨us, G, h1, h2, rfl⟩ := h
    exact ⟨us, rd_hi h1 (fun q hq => hF q (by rw [hq]; simp)), OwnsL.readsHi cs us G (fun q hq => hF q (by simp [hq])) h2⟩
theorem OwnsL.readsHi {w : World} {b hi : Nat} : ∀ (cs : List Dt) (us : List Value) (F : List Nat), (∀ q ∈ F, q < hi) → OwnsL w b cs us F → ReadsL w hi cs us
  | [], us, F, _, h => by unfold OwnsL at h; unfold ReadsL; exact h.1
  | c :: cs, us, F, hF, h => by
    unfold OwnsL at h
    unfold ReadsL
    obtain ⟨u, us', F1, F2, rfl, rfl, h1, h2⟩ := h
    exact ⟨u, us', rfl, Owns.readsHi c u F1 (fun q hq => hF q (by simp [hq])) h1, OwnsL.readsHi cs us' F2 (fun q hq => hF q (by simp [hq])) h2⟩
end
theorem Out.readsHi {w : World} {B hi : Nat} {cs : List (List Smp)} {v : Value} {us : List Value} (h : Out w B hi cs v us) {j : Nat} (hj : j < cs.length) : Reads w hi (smps (cs.getD j [])) (us.getD j undef) := by
  obtain ⟨_, F, h1, _, h3⟩ := h
  have h2 := OwnsL.readsHi _ _ F h3 h1
  unfold outD at h2
  obtain ⟨u, us', e, _, h4⟩ := readsL_cons h2
  cases e
  exact smps_reads h4 hj
theorem Out.grownHi {w w' : World} {B hi p : Nat} {cs : List (List Smp)} {v : Value} {us : List Value} (h : Out w B hi cs v us) (hg : w.grownBy w' (some p)) (hp : hi ≤ p) : Out w' B hi cs v us := ⟨h.1, h.2.same (fun q _ hq hq' => hg.block q hq' (fun e => by injection e with e; omega))⟩
theorem evAt_R {y : Evt} (h : evAt y = true) : EvtR y := by
  unfold evAt at h
  simp only [Bool.and_eq_true] at h
  have h1 := inB_yes h.1
  have h2 := inB_yes h.2.1
  have h3 := inB_yes h.2.2.1
  have h4 := inB_yes h.2.2.2
  exact ⟨by omega, by omega, by omega, by omega⟩
theorem evAt_in2 {y : Evt} (h : evAt y = true) : (0 ≤ y.i ∧ y.i ≤ 1000000) ∧ (0 ≤ y.a ∧ y.a ≤ 1000000) := by
  unfold evAt at h
  simp only [Bool.and_eq_true] at h
  have h3 := inB_yes h.2.2.1
  have h4 := inB_yes h.2.2.2
  exact ⟨h3, by omega⟩
def FldOk (w : World) (xs : List Evt) (j B0 : Nat) (F : Int → Int → Option Nat) : Prop := ∀ p q, (0 ≤ p ∧ p ≤ 1000000) → (0 ≤ q ∧ q ≤ 1000000) →
  (F p q = none → ∀ a, accF xs p q j a = none) ∧ ∀ b, F p q = some b → B0 ≤ b ∧ AccM w b j (accF xs p q j)
def FldInj (F : Int → Int → Option Nat) : Prop := ∀ p q p' q' b, (0 ≤ p ∧ p ≤ 1000000) → (0 ≤ q ∧ q ≤ 1000000) → (0 ≤ p' ∧ p' ≤ 1000000) → (0 ≤ q' ∧ q' ≤ 1000000) → F p q = some b → F p' q' = some b → p = p' ∧ q = q'
theorem FldOk.below {w w' : World} {xs : List Evt} {j B0 : Nat} {F : Int → Int → Option Nat} (h : FldOk w xs j B0 F) (hb : Below w.heap.size w w') : FldOk w' xs j B0 F := fun p q hp hq =>
  ⟨(h p q hp hq).1, fun b hF => ⟨((h p q hp hq).2 b hF).1, ((h p q hp hq).2 b hF).2.below hb⟩⟩
theorem fld_fresh {w : World} {xs : List Evt} {j B0 : Nat} {F : Int → Int → Option Nat} (h : FldOk w xs j B0 F) : ∀ p q, (0 ≤ p ∧ p ≤ 1000000) → (0 ≤ q ∧ q ≤ 1000000) → F p q ≠ some w.heap.size := fun p q hp hq e => by
  have := ((h p q hp hq).2 _ e).2.lt
  omega
theorem fld_past {w : World} {xs : List Evt} {j B0 : Nat} {F : Int → Int → Option Nat} (h : FldOk w xs j B0 F) (hn : ∀ p q, ¬ tch xs p q j) : FldOk w xs (j + 1) B0 F := fun p q hp hq =>
  ⟨fun hF a => (accF_no (hn p q) a).trans ((h p q hp hq).1 hF a), fun b hF => ⟨((h p q hp hq).2 b hF).1, (((h p q hp hq).2 b hF).2.mono (Nat.le_succ j)).congr (accF_no (hn p q))⟩⟩
theorem fld_new {w w' : World} {xs : List Evt} {j B0 g bb : Nat} {F : Int → Int → Option Nat} {p0 q0 : Int} (h : FldOk w xs j B0 F) (hFn : F p0 q0 = none) (hg : w.grownBy w' (some g)) (hgB : g < B0) (hbb : B0 ≤ bb) (hN : AccM w' bb 0 (fun _ => none)) (hp0 : 0 ≤ p0 ∧ p0 ≤ 1000000 := by omega) (hq0 : 0 ≤ q0 ∧ q0 ≤ 1000000 := by omega) : FldOk w' xs j B0 (putS F p0 q0 bb) := fun p q hp hq => by
  unfold putS
  by_cases e : p = p0 ∧ q = q0
  · obtain ⟨rfl, rfl⟩ := e
    rw [if_pos ⟨rfl, rfl⟩]
    refine ⟨fun h => (by cases h), fun b hb => ?_⟩
    cases hb
    exact ⟨hbb, (hN.mono (Nat.zero_le _)).congr ((h p q hp hq).1 hFn)⟩
  · rw [if_neg e]
    exact ⟨(h p q hp hq).1, fun b hF => ⟨((h p q hp hq).2 b hF).1, ((h p q hp hq).2 b hF).2.grown hg (by have := ((h p q hp hq).2 b hF).1; omega)⟩⟩
theorem fld_inj_new {F : Int → Int → Option Nat} {p0 q0 : Int} {bb : Nat} (h : FldInj F) (hne : ∀ p q, (0 ≤ p ∧ p ≤ 1000000) → (0 ≤ q ∧ q ≤ 1000000) → F p q ≠ some bb) : FldInj (putS F p0 q0 bb) := fun p q p' q' b hp hq hp' hq' h1 h2 => by
  unfold putS at h1 h2
  split at h1
  · rename_i e1
    cases h1
    split at h2
    · rename_i e2
      exact ⟨e1.1.trans e2.1.symm, e1.2.trans e2.2.symm⟩
    · exact absurd h2 (hne p' q' hp' hq')
  · split at h2
    · cases h2
      exact absurd h1 (hne p q hp hq)
    · exact h p q p' q' b hp hq hp' hq' h1 h2
theorem fld_takes {w w' : World} {xs : List Evt} {j B0 bb : Nat} {F : Int → Int → Option Nat} {y : Evt} (h : FldOk w xs j B0 F) (hI : FldInj F) (hyi : 0 ≤ y.i ∧ y.i ≤ 1000000) (hya : 0 ≤ y.a ∧ y.a ≤ 1000000) (hF : F y.i y.a = some bb) (hg : w.grownBy w' (some bb)) (_hs : B0 ≤ w.heap.size)
    (hy : xs.getD j default = y) (hrw : rwB y.k = true) (hA : AccM w' bb (j + 1) (accPut (if y.k = 2 then (fun _ => none) else accF xs y.i y.a j) y (cntX (clk xs j) y.w))) : FldOk w' xs (j + 1) B0 F := fun p q hp hq => by
  by_cases e : p = y.i ∧ q = y.a
  · obtain ⟨rfl, rfl⟩ := e
    have ht : tch xs y.i y.a j := ⟨by rw [hy]; exact hrw, by rw [hy], by rw [hy]⟩
    refine ⟨fun h => (by rw [hF] at h; cases h), fun b hb => ?_⟩
    rw [hF] at hb
    cases hb
    refine ⟨((h y.i y.a hyi hya).2 bb hF).1, hA.congr (fun a => ?_)⟩
    rw [accF_yes ht, hy]
    unfold accPut who
    rw [hy]
    split
    · rfl
    · split <;> rfl
  · have ht : ¬ tch xs p q j := fun t => e ⟨by rw [← t.2.1, hy], by rw [← t.2.2, hy]⟩
    refine ⟨fun hFn a => (accF_no ht a).trans ((h p q hp hq).1 hFn a), fun b hb => ?_⟩
    have h2 := (h p q hp hq).2 b hb
    refine ⟨h2.1, ((h2.2.grown hg (fun eb => ?_)).mono (Nat.le_succ j)).congr (accF_no ht)⟩
    subst eb
    exact e (hI p q y.i y.a b hp hq hyi hya hb hF)
set_option maxRecDepth 100000 in
set_option maxHeartbeats 16000000 in
theorem raceI (w : World) (xs : List Evt) (v : Value) (h : Reads w w.heap.size (evts xs) v) (hm : xs.length ≤ 1048576) :
    Calls Try.prog 9 #[v] w fun e w' => e = .returned (.int .i64 (raceX xs)) ∧ Below w.heap.size w w' := by
  have HR0 := hide h
  obtain ⟨a1, c1, e1, _⟩ := h.shape
  subst e1
  clear h
  have hmm := @run_makeMap Try.prog
  have HF0 := hide (FldM.made w)
  have HB0 := hide ((Below.refl w.heap.size w).alloc (Nat.le_refl _) (.map #[] 0))
  have hB1 : (w.alloc (.map #[] 0)).heap.size = w.heap.size + 1 := by simp
  go_enter Try.func9, Try.ntmps9
  go_upto_region 2 with fail
  obtain ⟨g, hg⟩ : ∃ g, w.heap.size = g := ⟨_, rfl⟩
  rw [hg] at HF0 HR0 HB0 hB1 ⊢
  have HG := hide hg
  clear hg
  generalize w.alloc (.map #[] 0) = W1 at *
  go_wp2_with fail
  refine (clocksI W1 xs _ ((HR0.out.kept (fun k hk => HB0.out.block k (by omega))).up (by omega)) hm).mono ?_
  rintro e x2 ⟨u2, rfl, p2, b2⟩
  have hz2 := b2.size
  have HR := hide ((HR0.out.kept (fun k hk => HB0.out.block k (by omega))).kept (fun k hk => b2.block k (by omega)))
  have HF := hide (HF0.out.below b2)
  have HB := hide (HB0.out.trans (b2.mono (by omega)))
  cases he : evB xs with
  | false =>
    have hX : clocksX xs = [] := by unfold clocksX; rw [he]; rfl
    rw [hX] at p2
    obtain ⟨ra, rc, re⟩ := p2.shape
    subst re
    have hl0 : ([] : List (List Smp)).length = 0 := rfl
    have HV := hide (raceX_no he)
    rw [hl0]
    clear p2 b2
    go_wp2
    go_loopw [13] (fun i wr => i = .int .i64 (0 : Int) ∧ Hid (Below g w wr)) (fun _ _ => 0)
    case atStart => exact ⟨rfl, HB⟩
    case round =>
      obtain ⟨rfl, HB⟩ := hrel
      go_wp2
      go_ret
      exact ⟨by rw [HV.out]; rfl, by rw [HG.out]; exact HB.out⟩
  | true =>
    have hx := evB_len he
    have HEv := hide (evB_in he).2
    have hX : clocksX xs = clkN xs xs.length := by unfold clocksX; rw [if_pos he]
    rw [hX] at p2
    obtain ⟨us, ho⟩ := Out.of p2
    obtain ⟨ra, rc, re⟩ := p2.shape
    subst re
    rw [clkN_len] at ho ⊢
    obtain ⟨B1, hB1e⟩ : ∃ B, W1.heap.size = B := ⟨_, rfl⟩
    obtain ⟨B0, hB0e⟩ : ∃ B, x2.heap.size = B := ⟨_, rfl⟩
    have hgB : g < B1 := by omega
    have hB10 : B1 ≤ B0 := by omega
    rw [hB1e, hB0e] at ho
    have HX := hide ho
    have HX1 : Hid (B0 ≤ x2.heap.size) := hide (by omega)
    clear p2 b2 ho hX hB1e hB0e hz2 hB1 HR0 HF0 HB0
    go_wp2
    go_loopw [13] (fun i wr => ∃ (j : Nat) (F : Int → Int → Option Nat) (nf : Nat), j ≤ xs.length ∧ i = .int .i64 (j : Int) ∧ Hid (Reads wr g (evts xs) (.slice a1 xs.length c1)) ∧ Hid (Out wr B1 B0 (clkN xs xs.length) (.slice ra xs.length rc) us) ∧ Hid (B0 ≤ wr.heap.size) ∧ Hid (FldM wr g nf F) ∧ nf ≤ j ∧ Hid (FldOk wr xs j B0 F) ∧ Hid (FldInj F) ∧ Hid (Below g w wr) ∧ Hid (∀ i, i < j → racesAt xs i = false)) (fun i _ => xs.length - (intOf i).toNat)
    case atStart => exact ⟨0, fun _ _ => none, 0, Nat.zero_le _, rfl, HR, HX, HX1, HF, Nat.le_refl _, hide (fun p q _ _ => ⟨fun _ a => rfl, fun b h => by cases h⟩), hide (fun p q p' q' b _ _ _ _ h => by cases h), HB, hide (fun i hi => by omega)⟩
    case round =>
      clear HR HX HX1 HF HB
      obtain ⟨j, F, nf, hj, rfl, HR, HX, HX1, HF, hnf, HO, HI, HB, hAll⟩ := hrel
      by_cases hlt : j < xs.length
      · have hjx := hlt
        obtain ⟨a', cap', ea, hcap, _, hc⟩ := event_at HR.out
        cases ea
        obtain ⟨b, o, rfl, hbb, hcell⟩ := hc (by omega)
        obtain ⟨d0, d1, d2, d3⟩ := hcell j hlt
        clear hc hcell
        obtain ⟨y, hy⟩ : ∃ y, xs.getD j default = y := ⟨_, rfl⟩
        rw [hy] at d0 d1 d2 d3
        have HYe := hide hy
        have hyAt : evAt y = true := by rw [← hy]; exact HEv.out j hlt
        have hyR := evAt_R hyAt
        have hyin := evAt_in2 hyAt
        have hyi : 0 ≤ y.i ∧ y.i ≤ 1000000 := hyin.1
        have hya : 0 ≤ y.a ∧ y.a ≤ 1000000 := hyin.2
        clear hy hyAt hyin
        obtain ⟨g2, o2, c2, e2, hc2⟩ := HX.out.cell (j := j) (by rw [clkN_len]; exact hlt)
        rw [clkN_len] at e2
        cases e2
        have HSU : Hid (∃ pu qu, us.getD j undef = .slice pu (clk xs j).length qu) := hide (by
          have h := HX.out.reads (j := j) (by rw [clkN_len]; exact hlt)
          rw [clkN_clk xs hlt] at h
          obtain ⟨p, q, e, _⟩ := h.shape
          exact ⟨p, q, e⟩)
        obtain ⟨pu, qu, hsu⟩ := HSU.out
        rw [hsu] at hc2
        have HCE : Hid (∀ W, Reads W W.heap.size (smps ((clkN xs xs.length).getD j [])) (us.getD j undef) → Reads W W.heap.size (smps (clk xs j)) (.slice pu (clk xs j).length qu)) := hide (fun W h => by rw [clkN_clk xs hlt, hsu] at h; exact h)
        have HCE2 : Hid (∀ W, Reads W B0 (smps ((clkN xs xs.length).getD j [])) (us.getD j undef) → Reads W B0 (smps (clk xs j)) (.slice pu (clk xs j).length qu)) := hide (fun W h => by rw [clkN_clk xs hlt, hsu] at h; exact h)
        have hcl : (clk xs j).length ≤ 1048576 := by have := (clk_good hlt).len; omega
        have hcn : 0 ≤ cntX (clk xs j) y.w ∧ cntX (clk xs j) y.w ≤ 16777215 := cnt_hi (srt_clkB (clk_good hlt).1)
        have HAR : Hid (∀ a k, accF xs y.i y.a j a = some k → EvtR a) := hide (fun a k h => by
          obtain ⟨i, h1, h2, _⟩ := acc_sound h
          rw [← h2]
          exact evAt_R (HEv.out i (by omega)))
        have hltI : (j : Int) < (xs.length : Int) := by omega
        clear HSU hsu
        go_upto_region 6 with fail
        clear d0 d1 d2 d3 hc2
        have hgfB := HX1.out
        have EF := hide (heap_alloc_new wr (.cells #[.int .i64 y.w, .int .i64 y.k, .int .i64 y.i, .int .i64 y.a] 29))
        have b1 := (Below.refl wr.heap.size wr).alloc (Nat.le_refl _) (.cells #[.int .i64 y.w, .int .i64 y.k, .int .i64 y.i, .int .i64 y.a] 29)
        replace HR := hide (HR.out.kept (fun k hk => b1.block k (by have := HX1.out; omega)))
        replace HX := hide (HX.out.below b1)
        replace HF := hide (HF.out.below b1)
        replace HO := hide (HO.out.below b1)
        replace HB := hide (HB.out.trans (b1.mono (by have := HX1.out; omega)))
        replace HX1 := hide (show B0 ≤ _ from Nat.le_trans HX1.out b1.size)
        clear b1 hbb
        obtain ⟨gf, hgf⟩ : ∃ g, wr.heap.size = g := ⟨_, rfl⟩
        rw [hgf] at EF hgfB ⊢
        have HGF := hide hgfB
        clear hgf hgfB
        generalize wr.alloc (.cells #[.int .i64 y.w, .int .i64 y.k, .int .i64 y.i, .int .i64 y.a] 29) = W2 at *
        have k0 := (box_of EF.out).1 0 _ rfl
        have k1 := (box_of EF.out).1 1 _ rfl
        have k2 := (box_of EF.out).1 2 _ rfl
        have k3 := (box_of EF.out).1 3 _ rfl
        go_wp2_with fail
        refine (touchI W2 y).mono ?_
        rintro e x3 ⟨rfl, b1⟩
        clear k0 k1 k2 k3
        replace HR := hide (HR.out.kept (fun k hk => b1.block k (by have := HX1.out; omega)))
        replace HX := hide (HX.out.below b1)
        replace HF := hide (HF.out.below b1)
        replace HO := hide (HO.out.below b1)
        replace HB := hide (HB.out.trans (b1.mono (by have := HX1.out; omega)))
        replace EF := hide ((b1.block _ (Array.getElem?_eq_some_iff.1 EF.out).1).trans EF.out)
        replace HX1 := hide (show B0 ≤ _ from Nat.le_trans HX1.out b1.size)
        clear b1
        cases hrw : rwB y.k with
        | false =>
          have HO9 := hide (fld_past HO.out (j := j) (fun p q h => by have h1 := h.1; rw [HYe.out, hrw] at h1; cases h1))
          have hall9 : Hid (∀ i, i < j + 1 → racesAt xs i = false) := hide (fun i hi => by
            rcases Nat.lt_succ_iff_lt_or_eq.1 hi with h | rfl
            · exact hAll.out i h
            · exact race_rw (by rw [HYe.out]; exact hrw))
          go_wp2
          exact ⟨⟨j + 1, _, _, by omega, by go_num, HR, HX, HX1, HF, by omega, HO9, HI, HB, hall9⟩, by simp [intOf]; omega⟩
        | true =>
          have k0 := (box_of EF.out).1 0 _ rfl
          have k1 := (box_of EF.out).1 1 _ rfl
          have k2 := (box_of EF.out).1 2 _ rfl
          have k3 := (box_of EF.out).1 3 _ rfl
          go_wp2_with fail
          refine (spotI _ y).mono ?_
          rintro e x4 ⟨rfl, b1⟩
          clear k0 k1 k2 k3
          replace HR := hide (HR.out.kept (fun k hk => b1.block k (by have := HX1.out; omega)))
          replace HX := hide (HX.out.below b1)
          replace HF := hide (HF.out.below b1)
          replace HO := hide (HO.out.below b1)
          replace HB := hide (HB.out.trans (b1.mono (by have := HX1.out; omega)))
          replace EF := hide ((b1.block _ (Array.getElem?_eq_some_iff.1 EF.out).1).trans EF.out)
          replace HX1 := hide (show B0 ≤ _ from Nat.le_trans HX1.out b1.size)
          clear b1
          have lk := HF.out.look hyi hya
          cases hFp : F y.i y.a with
          | some bb =>
            rw [hFp] at lk
            have HFb := hide hFp
            clear hFp
            go_upto_region 11 with fail
            clear lk
            have HAY := hide ((HO.out y.i y.a hyi hya).2 bb HFb.out)
            have hbB := HAY.out.1
            have HT := hide (acc_tells he hjx hAll.out HYe.out)
            have k0 := (box_of EF.out).1 0 _ rfl
            have k1 := (box_of EF.out).1 1 _ rfl
            have k2 := (box_of EF.out).1 2 _ rfl
            have k3 := (box_of EF.out).1 3 _ rfl
            go_wp2_with fail
            refine (unordI _ bb j (accF xs y.i y.a j) y (clk xs j) _ (racesAt xs j) HAY.out.2 HAR.out (HX.out.reads (j := j) (by rw [clkN_len]; exact hjx) |> HCE.out _) hcl HT.out).mono ?_
            rintro e x5 ⟨rfl, b1⟩
            clear k0 k1 k2 k3
            replace HR := hide (HR.out.kept (fun k hk => b1.block k (by have := HX1.out; omega)))
            replace HX := hide (HX.out.below b1)
            replace HF := hide (HF.out.below b1)
            replace HO := hide (HO.out.below b1)
            replace HB := hide (HB.out.trans (b1.mono (by have := HX1.out; omega)))
            replace EF := hide ((b1.block _ (Array.getElem?_eq_some_iff.1 EF.out).1).trans EF.out)
            replace HX1 := hide (show B0 ≤ _ from Nat.le_trans HX1.out b1.size)
            clear b1 HAY
            cases hrc : racesAt xs j with
            | true =>
              have HV := hide (raceX_hit he hjx hrc hAll.out)
              go_wp2
              go_ret
              exact ⟨by rw [HV.out]; rfl, by rw [HG.out]; exact HB.out⟩
            | false =>
              have HAY := hide ((HO.out y.i y.a hyi hya).2 bb HFb.out)
              have HCB := hide (HX.out.readsHi (j := j) (by rw [clkN_len]; exact hjx) |> HCE2.out _)
              have k0 := (box_of EF.out).1 0 _ rfl
              have k1 := (box_of EF.out).1 1 _ rfl
              have k2 := (box_of EF.out).1 2 _ rfl
              have k3 := (box_of EF.out).1 3 _ rfl
              go_wp2_with fail
              refine (takesI _ bb j (accF xs y.i y.a j) y (clk xs j) _ HAY.out.2 (by omega) hyR B0 HCB.out HAY.out.1 hcl hcn).mono ?_
              rintro e x9 ⟨rfl, g9, a9⟩
              clear k0 k1 k2 k3
              have hg9 := g9.size
              have HR9 := hide (HR.out.kept (fun k hk => g9.block k (by have := HX1.out; omega) (fun e => by injection e with e; omega)))
              have HX9 := hide (HX.out.grownHi g9 hbB)
              have HF9 := hide (HF.out.grown g9 (by omega))
              have HB9 := hide (HB.out.grown g9 (by have := HX1.out; omega) (fun q hq => by injection hq with hq; omega))
              have HO9 := hide (fld_takes HO.out HI.out hyi hya HFb.out g9 (by have := HX1.out; omega) HYe.out hrw a9)
              have hall9 : Hid (∀ i, i < j + 1 → racesAt xs i = false) := hide (fun i hi => by
                rcases Nat.lt_succ_iff_lt_or_eq.1 hi with h | rfl
                · exact hAll.out i h
                · exact hrc)
              have HX19 : Hid (B0 ≤ x9.heap.size) := hide (by have := HX1.out; omega)
              clear g9 a9
              go_wp2
              exact ⟨⟨j + 1, _, _, by omega, by go_num, HR9, HX9, HX19, HF9, by omega, HO9, HI, HB9, hall9⟩, by simp [intOf]; omega⟩
          | none =>
            rw [hFp] at lk
            have HFn := hide hFp
            clear hFp
            go_upto_region 10 with fail
            clear lk
            have hx4 := HX1.out
            have hON := fld_fresh HO.out
            have HN := hide (AccM.made x4)
            have b1 := (Below.refl x4.heap.size x4).alloc (Nat.le_refl _) (.map #[] 0)
            replace HR := hide (HR.out.kept (fun k hk => b1.block k (by have := HX1.out; omega)))
            replace HX := hide (HX.out.below b1)
            replace HF := hide (HF.out.below b1)
            replace HO := hide (HO.out.below b1)
            replace HB := hide (HB.out.trans (b1.mono (by have := HX1.out; omega)))
            replace EF := hide ((b1.block _ (Array.getElem?_eq_some_iff.1 EF.out).1).trans EF.out)
            replace HX1 := hide (show B0 ≤ _ from Nat.le_trans HX1.out b1.size)
            clear b1
            obtain ⟨bb, hbbe⟩ : ∃ g, x4.heap.size = g := ⟨_, rfl⟩
            rw [hbbe] at HN hx4 hON ⊢
            have HON := hide hON
            clear hbbe hON
            generalize x4.alloc (.map #[] 0) = W4 at *
            have k0 := (box_of EF.out).1 0 _ rfl
            have k1 := (box_of EF.out).1 1 _ rfl
            have k2 := (box_of EF.out).1 2 _ rfl
            have k3 := (box_of EF.out).1 3 _ rfl
            go_wp2_with fail
            refine (spotI _ y).mono ?_
            rintro e x5 ⟨rfl, b1⟩
            clear k0 k1 k2 k3
            replace HN := hide (HN.out.below b1)
            replace HR := hide (HR.out.kept (fun k hk => b1.block k (by have := HX1.out; omega)))
            replace HX := hide (HX.out.below b1)
            replace HF := hide (HF.out.below b1)
            replace HO := hide (HO.out.below b1)
            replace HB := hide (HB.out.trans (b1.mono (by have := HX1.out; omega)))
            replace EF := hide ((b1.block _ (Array.getElem?_eq_some_iff.1 EF.out).1).trans EF.out)
            replace HX1 := hide (show B0 ≤ _ from Nat.le_trans HX1.out b1.size)
            clear b1
            go_upto_region 11 with (first
              | (refine wp_field rfl _ _ _ rfl g nf F rfl HF.out (by unfold maxLen; omega) y.i y.a hyi hya rfl bb rfl ?_; intro x6 h6 g6; have HF6 := hide h6; have HG6 := hide g6; clear h6 g6)
              | fail)
            have hg6 := HG6.out.size
            replace HN := hide (HN.out.grown HG6.out (by omega))
            replace HR := hide (HR.out.kept (fun k hk => HG6.out.block k (by have := HX1.out; omega) (fun e => by injection e with e; omega)))
            replace HX := hide (HX.out.grownP HG6.out hgB)
            replace EF := hide ((HG6.out.block _ (Array.getElem?_eq_some_iff.1 EF.out).1 (fun e => by injection e with e; have := HGF.out; omega)).trans EF.out)
            replace HB := hide (HB.out.grown HG6.out (by have := HX1.out; omega) (fun q hq => by injection hq with hq; omega))
            replace HX1 := hide (Nat.le_trans HX1.out hg6)
            have HO2 := hide (fld_new HO.out HFn.out HG6.out (by omega) hx4 HN.out)
            have HI2 := hide (fld_inj_new (p0 := y.i) (q0 := y.a) HI.out HON.out)
            replace HO := HO2
            replace HI := HI2
            replace HF := HF6
            have HFb : Hid (putS F y.i y.a bb y.i y.a = some bb) := hide (if_pos ⟨rfl, rfl⟩)
            clear HO2 HI2 HF6 HG6 HFn HN
            have HAY := hide ((HO.out y.i y.a hyi hya).2 bb HFb.out)
            have hbB := HAY.out.1
            have HT := hide (acc_tells he hjx hAll.out HYe.out)
            have k0 := (box_of EF.out).1 0 _ rfl
            have k1 := (box_of EF.out).1 1 _ rfl
            have k2 := (box_of EF.out).1 2 _ rfl
            have k3 := (box_of EF.out).1 3 _ rfl
            go_wp2_with fail
            refine (unordI _ bb j (accF xs y.i y.a j) y (clk xs j) _ (racesAt xs j) HAY.out.2 HAR.out (HX.out.reads (j := j) (by rw [clkN_len]; exact hjx) |> HCE.out _) hcl HT.out).mono ?_
            rintro e x7 ⟨rfl, b1⟩
            clear k0 k1 k2 k3
            replace HR := hide (HR.out.kept (fun k hk => b1.block k (by have := HX1.out; omega)))
            replace HX := hide (HX.out.below b1)
            replace HF := hide (HF.out.below b1)
            replace HO := hide (HO.out.below b1)
            replace HB := hide (HB.out.trans (b1.mono (by have := HX1.out; omega)))
            replace EF := hide ((b1.block _ (Array.getElem?_eq_some_iff.1 EF.out).1).trans EF.out)
            replace HX1 := hide (show B0 ≤ _ from Nat.le_trans HX1.out b1.size)
            clear b1 HAY
            cases hrc : racesAt xs j with
            | true =>
              have HV := hide (raceX_hit he hjx hrc hAll.out)
              go_wp2
              go_ret
              exact ⟨by rw [HV.out]; rfl, by rw [HG.out]; exact HB.out⟩
            | false =>
              have HAY := hide ((HO.out y.i y.a hyi hya).2 bb HFb.out)
              have HCB := hide (HX.out.readsHi (j := j) (by rw [clkN_len]; exact hjx) |> HCE2.out _)
              have k0 := (box_of EF.out).1 0 _ rfl
              have k1 := (box_of EF.out).1 1 _ rfl
              have k2 := (box_of EF.out).1 2 _ rfl
              have k3 := (box_of EF.out).1 3 _ rfl
              go_wp2_with fail
              refine (takesI _ bb j (accF xs y.i y.a j) y (clk xs j) _ HAY.out.2 (by omega) hyR B0 HCB.out HAY.out.1 hcl hcn).mono ?_
              rintro e x9 ⟨rfl, g9, a9⟩
              clear k0 k1 k2 k3
              have hg9 := g9.size
              have HR9 := hide (HR.out.kept (fun k hk => g9.block k (by have := HX1.out; omega) (fun e => by injection e with e; omega)))
              have HX9 := hide (HX.out.grownHi g9 hbB)
              have HF9 := hide (HF.out.grown g9 (by omega))
              have HB9 := hide (HB.out.grown g9 (by have := HX1.out; omega) (fun q hq => by injection hq with hq; omega))
              have HO9 := hide (fld_takes HO.out HI.out hyi hya HFb.out g9 (by have := HX1.out; omega) HYe.out hrw a9)
              have hall9 : Hid (∀ i, i < j + 1 → racesAt xs i = false) := hide (fun i hi => by
                rcases Nat.lt_succ_iff_lt_or_eq.1 hi with h | rfl
                · exact hAll.out i h
                · exact hrc)
              have HX19 : Hid (B0 ≤ x9.heap.size) := hide (by have := HX1.out; omega)
              clear g9 a9
              go_wp2
              exact ⟨⟨j + 1, _, _, by omega, by go_num, HR9, HX9, HX19, HF9, by omega, HO9, HI, HB9, hall9⟩, by simp [intOf]; omega⟩
      · obtain rfl : j = xs.length := by omega
        have hnl : ¬ (xs.length : Int) < (xs.length : Int) := by omega
        have HV := hide (raceX_none hAll.out)
        go_wp2
        go_ret
        exact ⟨by rw [HV.out]; rfl, by rw [HG.out]; exact HB.out⟩
end Go.Proofs.Ytbanifnfkabelaa
/-
  RaceAt in the model.
-/
namespace Go.Proofs.Ytbanifnfkabelaa
open Go.RowKit

theorem countSR (w : World) (xs : List Smp) (v : Value) (q : Int) (h : Reads w w.heap.size (smps xs) v) (hm : xs.length ≤ 1048576) :
    Calls Try.prog 27 #[v, .int .i64 q] w fun e w' => e = .returned (.int .i64 (cntX xs q)) ∧ Below w.heap.size w w' := calls_same (countS w xs v q h hm)
set_option maxRecDepth 100000 in
set_option maxHeartbeats 16000000 in
theorem raceS (w : World) (xs : List Evt) (v : Value) (h : Reads w w.heap.size (evts xs) v) (hm : xs.length ≤ 1048576) :
    Calls Try.prog 13 #[v] w fun e w' => e = .returned (.int .i64 (raceX xs)) ∧ Below w.heap.size w w' := by
  have HR0 := hide h
  obtain ⟨a1, c1, e1, _⟩ := h.shape
  subst e1
  clear h
  go_enter Try.func13, Try.ntmps13
  go_wp2_with fail
  refine (eventsOkS w xs _ HR0.out hm).mono ?_
  rintro e x1 ⟨rfl, b1⟩
  have HB1 := hide b1
  clear b1
  cases he : evB xs with
  | false =>
    have HV := hide (raceX_no he)
    go_wp2
    go_ret
    exact ⟨by rw [HV.out]; rfl, HB1.out⟩
  | true =>
    have hx := evB_len he
    go_wp2_with fail
    refine (clkNS x1 xs _ (HR0.out.at HB1.out) hx).mono ?_
    rintro e x2 ⟨u2, rfl, o2, b2⟩
    have HBw := hide (HB1.out.trans (b2.mono HB1.out.size))
    have HR := hide ((HR0.out.at HB1.out).at b2)
    have HP := hide (o2.rd (Nat.le_refl _))
    obtain ⟨ra, rc, re⟩ := o2.shape
    subst re
    clear o2 b2 HR0 HB1
    have HX : Hid (0 < xs.length → ∃ b o, ra = some ⟨b, o, none⟩ ∧ b < x2.heap.size ∧ ∀ j, j < xs.length → ∃ u, x2.cell? ⟨b, o + j, none⟩ = some u ∧ Reads x2 x2.heap.size (smps (clk xs j)) u) := hide (fun h => by
      obtain ⟨a, c, e, _, h2⟩ := rws_at HP.out
      cases e
      obtain ⟨b, o, e2, h3, h4⟩ := h2 (by rw [clkN_len]; exact h)
      refine ⟨b, o, e2, h3, fun j hj => ?_⟩
      obtain ⟨u, h5, h6⟩ := h4 j (by rw [clkN_len]; exact hj)
      rw [clkN_clk xs hj] at h6
      exact ⟨u, h5, h6⟩)
    clear HP
    rw [clkN_len]
    go_wp2
    go_loopw [4] (fun q wr => ∃ j : Nat, j ≤ xs.length ∧ q = .int .i64 (j : Int) ∧ Hid (Below x2.heap.size x2 wr) ∧ Hid (∀ i, i < j → racesAt xs i = false)) (fun q _ => xs.length - (intOf q).toNat)
    case atStart => exact ⟨0, Nat.zero_le _, rfl, hide (Below.refl _ _), hide (fun i hi => by omega)⟩
    case round =>
      obtain ⟨j, hj, rfl, HB0, HA⟩ := hrel
      by_cases hlt : j < xs.length
      · have hn0 : 0 < xs.length := by omega
        have hltI : (j : Int) < (xs.length : Int) := by omega
        go_wp2
        go_loopw [5] (fun q wr => ∃ i : Nat, i ≤ j ∧ q = .int .i64 (i : Int) ∧ Hid (Below x2.heap.size x2 wr) ∧ Hid (∀ k, k < i → raceB xs k j = false)) (fun q _ => j - (intOf q).toNat)
        case atStart => exact ⟨0, Nat.zero_le _, rfl, HB0, hide (fun k hk => by omega)⟩
        case round =>
          clear HB0
          obtain ⟨i, hi, rfl, HB, HQ⟩ := hrel
          have HB2 := HB
          by_cases hli : i < j
          · obtain ⟨a', cap', ea, hcap, _, hc⟩ := event_at (HR.out.at HB.out)
            cases ea
            obtain ⟨eb, eo, rfl, hbe, hcell⟩ := hc (by omega)
            obtain ⟨d0, d1, d2, d3⟩ := hcell i (by omega)
            obtain ⟨f0, f1, f2, f3⟩ := hcell j hlt
            clear hc hcell
            obtain ⟨gb, go, rfl, hbg', hcc⟩ := HX.out hn0
            obtain ⟨u, hcu', hru⟩ := hcc j hlt
            obtain ⟨t, hct', hrt⟩ := hcc i (by omega)
            clear hcc
            obtain ⟨pu, qu, su, _⟩ := hru.shape
            obtain ⟨pt, qt, st, _⟩ := hrt.shape
            subst su st
            have hcu := (HB2.out.cell (p := ⟨gb, go + j, none⟩) hbg').trans hcu'
            have hct := (HB2.out.cell (p := ⟨gb, go + i, none⟩) hbg').trans hct'
            have hbg : gb < wr.heap.size := Nat.lt_of_lt_of_le hbg' HB2.out.size
            have HU := hide (hru.at HB2.out)
            have HT := hide (hrt.at HB2.out)
            have hcj : (clk xs j).length ≤ 1048576 := by have := (clk_good hlt).len; omega
            have hci : (clk xs i).length ≤ 1048576 := by have := (clk_good (xs := xs) (j := i) (by omega)).len; omega
            have HRB : Hid (raceB xs i j = (clashB (xs.getD i default) (xs.getD j default) && decide (cntX (clk xs j) (xs.getD i default).w < cntX (clk xs i) (xs.getD i default).w))) := hide rfl
            obtain ⟨x, hx'⟩ : ∃ x, xs.getD i default = x := ⟨_, rfl⟩
            obtain ⟨y, hy'⟩ : ∃ y, xs.getD j default = y := ⟨_, rfl⟩
            rw [hx', hy'] at HRB
            rw [hx'] at d0 d1 d2 d3
            rw [hy'] at f0 f1 f2 f3
            clear hcu' hct' hru hrt hx' hy' hbg'
            have hliI : (i : Int) < (j : Int) := by omega
            have hinI : (i : Int) < (xs.length : Int) := by omega
            have hjnI : (j : Int) < (xs.length : Int) := by omega
            have hin : i < xs.length := by omega
            go_upto_region 10 with fail
            have HS : Hid (∀ w', Below wr.heap.size wr w' → w'.cell? ⟨eb, eo + i * 4, none⟩ = some (.int .i64 x.w) ∧ w'.cell? ⟨eb, eo + i * 4 + 1, none⟩ = some (.int .i64 x.k) ∧ w'.cell? ⟨eb, eo + i * 4 + 2, none⟩ = some (.int .i64 x.i) ∧ w'.cell? ⟨eb, eo + i * 4 + 3, none⟩ = some (.int .i64 x.a) ∧ w'.cell? ⟨eb, eo + j * 4, none⟩ = some (.int .i64 y.w) ∧ w'.cell? ⟨eb, eo + j * 4 + 1, none⟩ = some (.int .i64 y.k) ∧ w'.cell? ⟨eb, eo + j * 4 + 2, none⟩ = some (.int .i64 y.i) ∧ w'.cell? ⟨eb, eo + j * 4 + 3, none⟩ = some (.int .i64 y.a) ∧ w'.cell? ⟨gb, go + j, none⟩ = some (.slice pu (clk xs j).length qu) ∧ w'.cell? ⟨gb, go + i, none⟩ = some (.slice pt (clk xs i).length qt)) := hide (fun w' hb => ⟨(hb.cell (p := ⟨eb, eo + i * 4, none⟩) hbe).trans d0, (hb.cell (p := ⟨eb, eo + i * 4 + 1, none⟩) hbe).trans d1, (hb.cell (p := ⟨eb, eo + i * 4 + 2, none⟩) hbe).trans d2, (hb.cell (p := ⟨eb, eo + i * 4 + 3, none⟩) hbe).trans d3, (hb.cell (p := ⟨eb, eo + j * 4, none⟩) hbe).trans f0, (hb.cell (p := ⟨eb, eo + j * 4 + 1, none⟩) hbe).trans f1, (hb.cell (p := ⟨eb, eo + j * 4 + 2, none⟩) hbe).trans f2, (hb.cell (p := ⟨eb, eo + j * 4 + 3, none⟩) hbe).trans f3, (hb.cell (p := ⟨gb, go + j, none⟩) hbg).trans hcu, (hb.cell (p := ⟨gb, go + i, none⟩) hbg).trans hct⟩)
            have HD : Hid (Below wr.heap.size wr wr.drew) := hide (Below.refl wr.heap.size wr).drew
            clear d0 d1 d2 d3 f0 f1 f2 f3 hcu hct
            refine wp_region_held_drew (S := fun w' => w'.cell? ⟨eb, eo + i * 4, none⟩ = some (.int .i64 x.w) ∧ w'.cell? ⟨eb, eo + i * 4 + 1, none⟩ = some (.int .i64 x.k) ∧ w'.cell? ⟨eb, eo + i * 4 + 2, none⟩ = some (.int .i64 x.i) ∧ w'.cell? ⟨eb, eo + i * 4 + 3, none⟩ = some (.int .i64 x.a) ∧ w'.cell? ⟨eb, eo + j * 4, none⟩ = some (.int .i64 y.w) ∧ w'.cell? ⟨eb, eo + j * 4 + 1, none⟩ = some (.int .i64 y.k) ∧ w'.cell? ⟨eb, eo + j * 4 + 2, none⟩ = some (.int .i64 y.i) ∧ w'.cell? ⟨eb, eo + j * 4 + 3, none⟩ = some (.int .i64 y.a) ∧ w'.cell? ⟨gb, go + j, none⟩ = some (.slice pu (clk xs j).length qu) ∧ w'.cell? ⟨gb, go + i, none⟩ = some (.slice pt (clk xs i).length qt)) (by kernel_rfl) (HS.out _ HD.out) (fun hHeld => ?_)
            generalize wr.drew = x0 at HD hHeld ⊢
            cases hcl : clashB x y with
            | false =>
              have HRF : Hid (raceB xs i j = false) := hide (by rw [HRB.out, hcl]; rfl)
              refine wpAnyH_take (i := 0) (v := ?_) rfl (by kernel_rfl) (by kernel_rfl) (by kernel_rfl) (fun _ _ _ h => h) (Or.inl ⟨by rfl, ?_⟩) (by assumption) ?_
              rotate_left
              · intro w' hSw
                try dsimp only at hSw
                go_simp; try rfl
              simp only [List.getElem_toArray, List.getElem_cons_zero, Act.put, List.setIfInBounds_toArray, List.set_cons_zero, List.set_cons_succ]
              refine wpAnyH_take (i := 1) (v := ?_) rfl (by kernel_rfl) (by kernel_rfl) (by kernel_rfl) (fun _ _ _ h => h) (Or.inl ⟨by rfl, ?_⟩) (by assumption) ?_
              rotate_left
              · intro w' hSw
                try dsimp only at hSw
                go_simp; try rfl
              simp only [List.getElem_toArray, List.getElem_cons_succ, List.getElem_cons_zero, Act.put, List.setIfInBounds_toArray, List.set_cons_zero, List.set_cons_succ]
              refine wpAnyH_take (i := 2) (v := ?_) rfl (by kernel_rfl) (by kernel_rfl) (by kernel_rfl) (fun _ _ _ h => h) (Or.inl ⟨by rfl, ?_⟩) (by assumption) ?_
              rotate_left
              · intro w' hSw
                try dsimp only at hSw
                go_simp; try rfl
              simp only [List.getElem_toArray, List.getElem_cons_succ, List.getElem_cons_zero, Act.put, List.setIfInBounds_toArray, List.set_cons_zero, List.set_cons_succ]
              refine wpAnyH_take (i := 3) (v := ?_) rfl (by kernel_rfl) (by kernel_rfl) (by kernel_rfl) (fun _ _ _ h => h) (Or.inl ⟨by rfl, ?_⟩) (by assumption) ?_
              rotate_left
              · intro w' hSw
                try dsimp only at hSw
                go_simp; try rfl
              simp only [List.getElem_toArray, List.getElem_cons_succ, List.getElem_cons_zero, Act.put, List.setIfInBounds_toArray, List.set_cons_zero, List.set_cons_succ]
              refine wpAnyH_take (i := 4) (v := ?_) rfl (by kernel_rfl) (by kernel_rfl) (by kernel_rfl) (fun _ _ _ h => h) (Or.inl ⟨by rfl, ?_⟩) (by assumption) ?_
              rotate_left
              · intro w' hSw
                try dsimp only at hSw
                go_simp; try rfl
              simp only [List.getElem_toArray, List.getElem_cons_succ, List.getElem_cons_zero, Act.put, List.setIfInBounds_toArray, List.set_cons_zero, List.set_cons_succ]
              refine wpAnyH_take (i := 5) (v := ?_) rfl (by kernel_rfl) (by kernel_rfl) (by kernel_rfl) (fun _ _ _ h => h) (Or.inl ⟨by rfl, ?_⟩) (by assumption) ?_
              rotate_left
              · intro w' hSw
                try dsimp only at hSw
                go_simp; try rfl
              simp only [List.getElem_toArray, List.getElem_cons_succ, List.getElem_cons_zero, Act.put, List.setIfInBounds_toArray, List.set_cons_zero, List.set_cons_succ]
              refine wpAnyH_take (i := 6) (v := ?_) rfl (by kernel_rfl) (by kernel_rfl) (by kernel_rfl) (fun _ _ _ h => h) (Or.inl ⟨by rfl, ?_⟩) (by assumption) ?_
              rotate_left
              · intro w' hSw
                try dsimp only at hSw
                go_simp; try rfl
              simp only [List.getElem_toArray, List.getElem_cons_succ, List.getElem_cons_zero, Act.put, List.setIfInBounds_toArray, List.set_cons_zero, List.set_cons_succ]
              refine wpAnyH_take (i := 7) (v := ?_) rfl (by kernel_rfl) (by kernel_rfl) (by kernel_rfl) (fun _ _ _ h => h) (Or.inl ⟨by rfl, ?_⟩) (by assumption) ?_
              rotate_left
              · intro w' hSw
                try dsimp only at hSw
                go_simp; try rfl
              simp only [List.getElem_toArray, List.getElem_cons_succ, List.getElem_cons_zero, Act.put, List.setIfInBounds_toArray, List.set_cons_zero, List.set_cons_succ]
              refine wpAnyH_ready (rs := [8]) (by kernel_rfl) (by simp) (AllReadyH.cons rfl (fun K hK => ?_) AllReadyH.nil)
              refine step_callW (some 30) rfl (by kernel_rfl) 12 _ _ rfl #[.agg #[.int .i64 x.w, .int .i64 x.k, .int .i64 x.i, .int .i64 x.a], .agg #[.int .i64 y.w, .int .i64 y.k, .int .i64 y.i, .int .i64 y.a]] (by kernel_rfl) (clashS _ x y) ?_
              rintro e x30 ⟨he, b1⟩
              rw [hcl] at he
              subst he
              refine ⟨_, rfl, ?_⟩
              replace HD := hide (HD.out.trans (b1.mono HD.out.size))
              clear b1
              refine hK.out _ _ (HS.out _ HD.out) (fun hHeld => ?_)
              clear hK K
              simp only [Act.put, List.setIfInBounds_toArray, List.set_cons_zero, List.set_cons_succ]
              refine wpAnyH_take (i := 9) (v := ?_) rfl (by kernel_rfl) (by kernel_rfl) (by kernel_rfl) (fun _ _ _ h => h) (Or.inl ⟨by rfl, ?_⟩) (by assumption) ?_
              rotate_left
              · intro w' hSw
                try dsimp only at hSw
                go_simp; try rfl
              simp only [List.getElem_toArray, List.getElem_cons_succ, List.getElem_cons_zero, Act.put, List.setIfInBounds_toArray, List.set_cons_zero, List.set_cons_succ]
              refine wpAnyH_take (i := 10) (v := undef) rfl (by kernel_rfl) (by kernel_rfl) (by kernel_rfl) (fun _ _ _ h => h) (Or.inr ⟨by rfl, rfl⟩) (by assumption) ?_
              simp only [List.getElem_toArray, List.getElem_cons_succ, List.getElem_cons_zero, Act.put, List.setIfInBounds_toArray, List.set_cons_zero, List.set_cons_succ]
              refine wpAnyH_take (i := 11) (v := undef) rfl (by kernel_rfl) (by kernel_rfl) (by kernel_rfl) (fun _ _ _ h => h) (Or.inr ⟨by rfl, rfl⟩) (by assumption) ?_
              simp only [List.getElem_toArray, List.getElem_cons_succ, List.getElem_cons_zero, Act.put, List.setIfInBounds_toArray, List.set_cons_zero, List.set_cons_succ]
              refine wpAnyH_take (i := 12) (v := undef) rfl (by kernel_rfl) (by kernel_rfl) (by kernel_rfl) (fun _ _ _ h => h) (Or.inr ⟨by rfl, rfl⟩) (by assumption) ?_
              simp only [List.getElem_toArray, List.getElem_cons_succ, List.getElem_cons_zero, Act.put, List.setIfInBounds_toArray, List.set_cons_zero, List.set_cons_succ]
              refine wpAnyH_take (i := 13) (v := undef) rfl (by kernel_rfl) (by kernel_rfl) (by kernel_rfl) (fun _ _ _ h => h) (Or.inr ⟨by rfl, rfl⟩) (by assumption) ?_
              simp only [List.getElem_toArray, List.getElem_cons_succ, List.getElem_cons_zero, Act.put, List.setIfInBounds_toArray, List.set_cons_zero, List.set_cons_succ]
              refine wpAnyH_take (i := 14) (v := undef) rfl (by kernel_rfl) (by kernel_rfl) (by kernel_rfl) (fun _ _ _ h => h) (Or.inr ⟨by rfl, rfl⟩) (by assumption) ?_
              simp only [List.getElem_toArray, List.getElem_cons_succ, List.getElem_cons_zero, Act.put, List.setIfInBounds_toArray, List.set_cons_zero, List.set_cons_succ]
              refine wpAnyH_take (i := 15) (v := undef) rfl (by kernel_rfl) (by kernel_rfl) (by kernel_rfl) (fun _ _ _ h => h) (Or.inr ⟨by rfl, rfl⟩) (by assumption) ?_
              simp only [List.getElem_toArray, List.getElem_cons_succ, List.getElem_cons_zero, Act.put, List.setIfInBounds_toArray, List.set_cons_zero, List.set_cons_succ]
              refine wpAnyH_take (i := 16) (v := undef) rfl (by kernel_rfl) (by kernel_rfl) (by kernel_rfl) (fun _ _ _ h => h) (Or.inr ⟨by rfl, rfl⟩) (by assumption) ?_
              simp only [List.getElem_toArray, List.getElem_cons_succ, List.getElem_cons_zero, Act.put, List.setIfInBounds_toArray, List.set_cons_zero, List.set_cons_succ]
              refine wpAnyH_take (i := 17) (v := undef) rfl (by kernel_rfl) (by kernel_rfl) (by kernel_rfl) (fun _ _ _ h => h) (Or.inr ⟨by rfl, rfl⟩) (by assumption) ?_
              simp only [List.getElem_toArray, List.getElem_cons_succ, List.getElem_cons_zero, Act.put, List.setIfInBounds_toArray, List.set_cons_zero, List.set_cons_succ]
              refine wpAnyH_take (i := 18) (v := undef) rfl (by kernel_rfl) (by kernel_rfl) (by kernel_rfl) (fun _ _ _ h => h) (Or.inr ⟨by rfl, rfl⟩) (by assumption) ?_
              simp only [List.getElem_toArray, List.getElem_cons_succ, List.getElem_cons_zero, Act.put, List.setIfInBounds_toArray, List.set_cons_zero, List.set_cons_succ]
              refine wpAnyH_take (i := 19) (v := undef) rfl (by kernel_rfl) (by kernel_rfl) (by kernel_rfl) (fun _ _ _ h => h) (Or.inr ⟨by rfl, rfl⟩) (by assumption) ?_
              simp only [List.getElem_toArray, List.getElem_cons_succ, List.getElem_cons_zero, Act.put, List.setIfInBounds_toArray, List.set_cons_zero, List.set_cons_succ]
              refine wpAnyH_take (i := 20) (v := undef) rfl (by kernel_rfl) (by kernel_rfl) (by kernel_rfl) (fun _ _ _ h => h) (Or.inr ⟨by rfl, rfl⟩) (by assumption) ?_
              simp only [List.getElem_toArray, List.getElem_cons_succ, List.getElem_cons_zero, Act.put, List.setIfInBounds_toArray, List.set_cons_zero, List.set_cons_succ]
              refine wpAnyH_take (i := 21) (v := undef) rfl (by kernel_rfl) (by kernel_rfl) (by kernel_rfl) (fun _ _ _ h => h) (Or.inr ⟨by rfl, rfl⟩) (by assumption) ?_
              simp only [List.getElem_toArray, List.getElem_cons_succ, List.getElem_cons_zero, Act.put, List.setIfInBounds_toArray, List.set_cons_zero, List.set_cons_succ]
              refine wpAnyH_take (i := 22) (v := undef) rfl (by kernel_rfl) (by kernel_rfl) (by kernel_rfl) (fun _ _ _ h => h) (Or.inr ⟨by rfl, rfl⟩) (by assumption) ?_
              simp only [List.getElem_toArray, List.getElem_cons_succ, List.getElem_cons_zero, Act.put, List.setIfInBounds_toArray, List.set_cons_zero, List.set_cons_succ]
              refine wpAnyH_take (i := 23) (v := undef) rfl (by kernel_rfl) (by kernel_rfl) (by kernel_rfl) (fun _ _ _ h => h) (Or.inr ⟨by rfl, rfl⟩) (by assumption) ?_
              simp only [List.getElem_toArray, List.getElem_cons_succ, List.getElem_cons_zero, Act.put, List.setIfInBounds_toArray, List.set_cons_zero, List.set_cons_succ]
              refine wpAnyH_take (i := 24) (v := undef) rfl (by kernel_rfl) (by kernel_rfl) (by kernel_rfl) (fun _ _ _ h => h) (Or.inr ⟨by rfl, rfl⟩) (by assumption) ?_
              simp only [List.getElem_toArray, List.getElem_cons_succ, List.getElem_cons_zero, Act.put, List.setIfInBounds_toArray, List.set_cons_zero, List.set_cons_succ]
              refine wpAnyH_take (i := 25) (v := undef) rfl (by kernel_rfl) (by kernel_rfl) (by kernel_rfl) (fun _ _ _ h => h) (Or.inr ⟨by rfl, rfl⟩) (by assumption) ?_
              simp only [List.getElem_toArray, List.getElem_cons_succ, List.getElem_cons_zero, Act.put, List.setIfInBounds_toArray, List.set_cons_zero, List.set_cons_succ]
              refine wpAnyH_take (i := 26) (v := undef) rfl (by kernel_rfl) (by kernel_rfl) (by kernel_rfl) (fun _ _ _ h => h) (Or.inr ⟨by rfl, rfl⟩) (by assumption) ?_
              simp only [List.getElem_toArray, List.getElem_cons_succ, List.getElem_cons_zero, Act.put, List.setIfInBounds_toArray, List.set_cons_zero, List.set_cons_succ]
              refine wpAnyH_take (i := 27) (v := undef) rfl (by kernel_rfl) (by kernel_rfl) (by kernel_rfl) (fun _ _ _ h => h) (Or.inr ⟨by rfl, rfl⟩) (by assumption) ?_
              simp only [List.getElem_toArray, List.getElem_cons_succ, List.getElem_cons_zero, Act.put, List.setIfInBounds_toArray, List.set_cons_zero, List.set_cons_succ]
              refine wpAnyH_take (i := 28) (v := undef) rfl (by kernel_rfl) (by kernel_rfl) (by kernel_rfl) (fun _ _ _ h => h) (Or.inr ⟨by rfl, rfl⟩) (by assumption) ?_
              simp only [List.getElem_toArray, List.getElem_cons_succ, List.getElem_cons_zero, Act.put, List.setIfInBounds_toArray, List.set_cons_zero, List.set_cons_succ]
              refine wpAnyH_take (i := 29) (v := undef) rfl (by kernel_rfl) (by kernel_rfl) (by kernel_rfl) (fun _ _ _ h => h) (Or.inr ⟨by rfl, rfl⟩) (by assumption) ?_
              simp only [List.getElem_toArray, List.getElem_cons_succ, List.getElem_cons_zero, Act.put, List.setIfInBounds_toArray, List.set_cons_zero, List.set_cons_succ]
              refine wpAnyH_take (i := 30) (v := undef) rfl (by kernel_rfl) (by kernel_rfl) (by kernel_rfl) (fun _ _ _ h => h) (Or.inr ⟨by rfl, rfl⟩) (by assumption) ?_
              simp only [List.getElem_toArray, List.getElem_cons_succ, List.getElem_cons_zero, Act.put, List.setIfInBounds_toArray, List.set_cons_zero, List.set_cons_succ]
              refine wpAnyH_take (i := 31) (v := ?_) rfl (by kernel_rfl) (by kernel_rfl) (by kernel_rfl) (fun _ _ _ h => h) (Or.inl ⟨by rfl, ?_⟩) (by assumption) ?_
              rotate_left
              · intro w' hSw
                try dsimp only at hSw
                go_simp; try rfl
              simp only [List.getElem_toArray, List.getElem_cons_succ, List.getElem_cons_zero, Act.put, List.setIfInBounds_toArray, List.set_cons_zero, List.set_cons_succ]
              refine wpAnyH_done (by kernel_rfl) ?_ _
              have HBn := hide (HB2.out.trans (HD.out.mono HB2.out.size))
              have HQn : Hid (∀ k, k < i + 1 → raceB xs k j = false) := hide (fun k hk => by
                rcases Nat.lt_succ_iff_lt_or_eq.1 hk with h | rfl
                · exact HQ.out k h
                · exact HRF.out)
              go_wp2
              exact ⟨⟨i + 1, by omega, by go_num, HBn, HQn⟩, by simp [intOf]; omega⟩
            | true =>
              refine wpAnyH_take (i := 0) (v := ?_) rfl (by kernel_rfl) (by kernel_rfl) (by kernel_rfl) (fun _ _ _ h => h) (Or.inl ⟨by rfl, ?_⟩) (by assumption) ?_
              rotate_left
              · intro w' hSw
                try dsimp only at hSw
                go_simp; try rfl
              simp only [List.getElem_toArray, List.getElem_cons_zero, Act.put, List.setIfInBounds_toArray, List.set_cons_zero, List.set_cons_succ]
              refine wpAnyH_take (i := 1) (v := ?_) rfl (by kernel_rfl) (by kernel_rfl) (by kernel_rfl) (fun _ _ _ h => h) (Or.inl ⟨by rfl, ?_⟩) (by assumption) ?_
              rotate_left
              · intro w' hSw
                try dsimp only at hSw
                go_simp; try rfl
              simp only [List.getElem_toArray, List.getElem_cons_succ, List.getElem_cons_zero, Act.put, List.setIfInBounds_toArray, List.set_cons_zero, List.set_cons_succ]
              refine wpAnyH_take (i := 2) (v := ?_) rfl (by kernel_rfl) (by kernel_rfl) (by kernel_rfl) (fun _ _ _ h => h) (Or.inl ⟨by rfl, ?_⟩) (by assumption) ?_
              rotate_left
              · intro w' hSw
                try dsimp only at hSw
                go_simp; try rfl
              simp only [List.getElem_toArray, List.getElem_cons_succ, List.getElem_cons_zero, Act.put, List.setIfInBounds_toArray, List.set_cons_zero, List.set_cons_succ]
              refine wpAnyH_take (i := 3) (v := ?_) rfl (by kernel_rfl) (by kernel_rfl) (by kernel_rfl) (fun _ _ _ h => h) (Or.inl ⟨by rfl, ?_⟩) (by assumption) ?_
              rotate_left
              · intro w' hSw
                try dsimp only at hSw
                go_simp; try rfl
              simp only [List.getElem_toArray, List.getElem_cons_succ, List.getElem_cons_zero, Act.put, List.setIfInBounds_toArray, List.set_cons_zero, List.set_cons_succ]
              refine wpAnyH_take (i := 4) (v := ?_) rfl (by kernel_rfl) (by kernel_rfl) (by kernel_rfl) (fun _ _ _ h => h) (Or.inl ⟨by rfl, ?_⟩) (by assumption) ?_
              rotate_left
              · intro w' hSw
                try dsimp only at hSw
                go_simp; try rfl
              simp only [List.getElem_toArray, List.getElem_cons_succ, List.getElem_cons_zero, Act.put, List.setIfInBounds_toArray, List.set_cons_zero, List.set_cons_succ]
              refine wpAnyH_take (i := 5) (v := ?_) rfl (by kernel_rfl) (by kernel_rfl) (by kernel_rfl) (fun _ _ _ h => h) (Or.inl ⟨by rfl, ?_⟩) (by assumption) ?_
              rotate_left
              · intro w' hSw
                try dsimp only at hSw
                go_simp; try rfl
              simp only [List.getElem_toArray, List.getElem_cons_succ, List.getElem_cons_zero, Act.put, List.setIfInBounds_toArray, List.set_cons_zero, List.set_cons_succ]
              refine wpAnyH_take (i := 6) (v := ?_) rfl (by kernel_rfl) (by kernel_rfl) (by kernel_rfl) (fun _ _ _ h => h) (Or.inl ⟨by rfl, ?_⟩) (by assumption) ?_
              rotate_left
              · intro w' hSw
                try dsimp only at hSw
                go_simp; try rfl
              simp only [List.getElem_toArray, List.getElem_cons_succ, List.getElem_cons_zero, Act.put, List.setIfInBounds_toArray, List.set_cons_zero, List.set_cons_succ]
              refine wpAnyH_take (i := 7) (v := ?_) rfl (by kernel_rfl) (by kernel_rfl) (by kernel_rfl) (fun _ _ _ h => h) (Or.inl ⟨by rfl, ?_⟩) (by assumption) ?_
              rotate_left
              · intro w' hSw
                try dsimp only at hSw
                go_simp; try rfl
              simp only [List.getElem_toArray, List.getElem_cons_succ, List.getElem_cons_zero, Act.put, List.setIfInBounds_toArray, List.set_cons_zero, List.set_cons_succ]
              refine wpAnyH_ready (rs := [8]) (by kernel_rfl) (by simp) (AllReadyH.cons rfl (fun K hK => ?_) AllReadyH.nil)
              refine step_callW (some 30) rfl (by kernel_rfl) 12 _ _ rfl #[.agg #[.int .i64 x.w, .int .i64 x.k, .int .i64 x.i, .int .i64 x.a], .agg #[.int .i64 y.w, .int .i64 y.k, .int .i64 y.i, .int .i64 y.a]] (by kernel_rfl) (clashS _ x y) ?_
              rintro e x30 ⟨he, b1⟩
              rw [hcl] at he
              subst he
              refine ⟨_, rfl, ?_⟩
              replace HD := hide (HD.out.trans (b1.mono HD.out.size))
              clear b1
              refine hK.out _ _ (HS.out _ HD.out) (fun hHeld => ?_)
              clear hK K
              simp only [Act.put, List.setIfInBounds_toArray, List.set_cons_zero, List.set_cons_succ]
              refine wpAnyH_take (i := 9) (v := ?_) rfl (by kernel_rfl) (by kernel_rfl) (by kernel_rfl) (fun _ _ _ h => h) (Or.inl ⟨by rfl, ?_⟩) (by assumption) ?_
              rotate_left
              · intro w' hSw
                try dsimp only at hSw
                go_simp; try rfl
              simp only [List.getElem_toArray, List.getElem_cons_succ, List.getElem_cons_zero, Act.put, List.setIfInBounds_toArray, List.set_cons_zero, List.set_cons_succ]
              refine wpAnyH_take (i := 10) (v := ?_) rfl (by kernel_rfl) (by kernel_rfl) (by kernel_rfl) (fun _ _ _ h => h) (Or.inl ⟨by rfl, ?_⟩) (by assumption) ?_
              rotate_left
              · intro w' hSw
                try dsimp only at hSw
                go_simp; try rfl
              simp only [List.getElem_toArray, List.getElem_cons_succ, List.getElem_cons_zero, Act.put, List.setIfInBounds_toArray, List.set_cons_zero, List.set_cons_succ]
              refine wpAnyH_take (i := 11) (v := ?_) rfl (by kernel_rfl) (by kernel_rfl) (by kernel_rfl) (fun _ _ _ h => h) (Or.inl ⟨by rfl, ?_⟩) (by assumption) ?_
              rotate_left
              · intro w' hSw
                try dsimp only at hSw
                go_simp; try rfl
              simp only [List.getElem_toArray, List.getElem_cons_succ, List.getElem_cons_zero, Act.put, List.setIfInBounds_toArray, List.set_cons_zero, List.set_cons_succ]
              refine wpAnyH_take (i := 12) (v := ?_) rfl (by kernel_rfl) (by kernel_rfl) (by kernel_rfl) (fun _ _ _ h => h) (Or.inl ⟨by rfl, ?_⟩) (by assumption) ?_
              rotate_left
              · intro w' hSw
                try dsimp only at hSw
                go_simp; try rfl
              simp only [List.getElem_toArray, List.getElem_cons_succ, List.getElem_cons_zero, Act.put, List.setIfInBounds_toArray, List.set_cons_zero, List.set_cons_succ]
              refine wpAnyH_take (i := 13) (v := ?_) rfl (by kernel_rfl) (by kernel_rfl) (by kernel_rfl) (fun _ _ _ h => h) (Or.inl ⟨by rfl, ?_⟩) (by assumption) ?_
              rotate_left
              · intro w' hSw
                try dsimp only at hSw
                go_simp; try rfl
              simp only [List.getElem_toArray, List.getElem_cons_succ, List.getElem_cons_zero, Act.put, List.setIfInBounds_toArray, List.set_cons_zero, List.set_cons_succ]
              refine wpAnyH_take (i := 14) (v := ?_) rfl (by kernel_rfl) (by kernel_rfl) (by kernel_rfl) (fun _ _ _ h => h) (Or.inl ⟨by rfl, ?_⟩) (by assumption) ?_
              rotate_left
              · intro w' hSw
                try dsimp only at hSw
                go_simp; try rfl
              simp only [List.getElem_toArray, List.getElem_cons_succ, List.getElem_cons_zero, Act.put, List.setIfInBounds_toArray, List.set_cons_zero, List.set_cons_succ]
              refine wpAnyH_take (i := 15) (v := ?_) rfl (by kernel_rfl) (by kernel_rfl) (by kernel_rfl) (fun _ _ _ h => h) (Or.inl ⟨by rfl, ?_⟩) (by assumption) ?_
              rotate_left
              · intro w' hSw
                try dsimp only at hSw
                go_simp; try rfl
              simp only [List.getElem_toArray, List.getElem_cons_succ, List.getElem_cons_zero, Act.put, List.setIfInBounds_toArray, List.set_cons_zero, List.set_cons_succ]
              refine wpAnyH_take (i := 16) (v := ?_) rfl (by kernel_rfl) (by kernel_rfl) (by kernel_rfl) (fun _ _ _ h => h) (Or.inl ⟨by rfl, ?_⟩) (by assumption) ?_
              rotate_left
              · intro w' hSw
                try dsimp only at hSw
                go_simp; try rfl
              simp only [List.getElem_toArray, List.getElem_cons_succ, List.getElem_cons_zero, Act.put, List.setIfInBounds_toArray, List.set_cons_zero, List.set_cons_succ]
              refine wpAnyH_take (i := 17) (v := ?_) rfl (by kernel_rfl) (by kernel_rfl) (by kernel_rfl) (fun _ _ _ h => h) (Or.inl ⟨by rfl, ?_⟩) (by assumption) ?_
              rotate_left
              · intro w' hSw
                try dsimp only at hSw
                go_simp; try rfl
              simp only [List.getElem_toArray, List.getElem_cons_succ, List.getElem_cons_zero, Act.put, List.setIfInBounds_toArray, List.set_cons_zero, List.set_cons_succ]
              refine wpAnyH_take (i := 18) (v := ?_) rfl (by kernel_rfl) (by kernel_rfl) (by kernel_rfl) (fun _ _ _ h => h) (Or.inl ⟨by rfl, ?_⟩) (by assumption) ?_
              rotate_left
              · intro w' hSw
                try dsimp only at hSw
                go_simp; try rfl
              simp only [List.getElem_toArray, List.getElem_cons_succ, List.getElem_cons_zero, Act.put, List.setIfInBounds_toArray, List.set_cons_zero, List.set_cons_succ]
              refine wpAnyH_take (i := 20) (v := ?_) rfl (by kernel_rfl) (by kernel_rfl) (by kernel_rfl) (fun _ _ _ h => h) (Or.inl ⟨by rfl, ?_⟩) (by assumption) ?_
              rotate_left
              · intro w' hSw
                try dsimp only at hSw
                go_simp; try rfl
              simp only [List.getElem_toArray, List.getElem_cons_succ, List.getElem_cons_zero, Act.put, List.setIfInBounds_toArray, List.set_cons_zero, List.set_cons_succ]
              refine wpAnyH_take (i := 21) (v := ?_) rfl (by kernel_rfl) (by kernel_rfl) (by kernel_rfl) (fun _ _ _ h => h) (Or.inl ⟨by rfl, ?_⟩) (by assumption) ?_
              rotate_left
              · intro w' hSw
                try dsimp only at hSw
                go_simp; try rfl
              simp only [List.getElem_toArray, List.getElem_cons_succ, List.getElem_cons_zero, Act.put, List.setIfInBounds_toArray, List.set_cons_zero, List.set_cons_succ]
              refine wpAnyH_take (i := 22) (v := ?_) rfl (by kernel_rfl) (by kernel_rfl) (by kernel_rfl) (fun _ _ _ h => h) (Or.inl ⟨by rfl, ?_⟩) (by assumption) ?_
              rotate_left
              · intro w' hSw
                try dsimp only at hSw
                go_simp; try rfl
              simp only [List.getElem_toArray, List.getElem_cons_succ, List.getElem_cons_zero, Act.put, List.setIfInBounds_toArray, List.set_cons_zero, List.set_cons_succ]
              refine wpAnyH_take (i := 23) (v := ?_) rfl (by kernel_rfl) (by kernel_rfl) (by kernel_rfl) (fun _ _ _ h => h) (Or.inl ⟨by rfl, ?_⟩) (by assumption) ?_
              rotate_left
              · intro w' hSw
                try dsimp only at hSw
                go_simp; try rfl
              simp only [List.getElem_toArray, List.getElem_cons_succ, List.getElem_cons_zero, Act.put, List.setIfInBounds_toArray, List.set_cons_zero, List.set_cons_succ]
              refine wpAnyH_take (i := 24) (v := ?_) rfl (by kernel_rfl) (by kernel_rfl) (by kernel_rfl) (fun _ _ _ h => h) (Or.inl ⟨by rfl, ?_⟩) (by assumption) ?_
              rotate_left
              · intro w' hSw
                try dsimp only at hSw
                go_simp; try rfl
              simp only [List.getElem_toArray, List.getElem_cons_succ, List.getElem_cons_zero, Act.put, List.setIfInBounds_toArray, List.set_cons_zero, List.set_cons_succ]
              refine wpAnyH_take (i := 25) (v := ?_) rfl (by kernel_rfl) (by kernel_rfl) (by kernel_rfl) (fun _ _ _ h => h) (Or.inl ⟨by rfl, ?_⟩) (by assumption) ?_
              rotate_left
              · intro w' hSw
                try dsimp only at hSw
                go_simp; try rfl
              simp only [List.getElem_toArray, List.getElem_cons_succ, List.getElem_cons_zero, Act.put, List.setIfInBounds_toArray, List.set_cons_zero, List.set_cons_succ]
              refine wpAnyH_take (i := 26) (v := ?_) rfl (by kernel_rfl) (by kernel_rfl) (by kernel_rfl) (fun _ _ _ h => h) (Or.inl ⟨by rfl, ?_⟩) (by assumption) ?_
              rotate_left
              · intro w' hSw
                try dsimp only at hSw
                go_simp; try rfl
              simp only [List.getElem_toArray, List.getElem_cons_succ, List.getElem_cons_zero, Act.put, List.setIfInBounds_toArray, List.set_cons_zero, List.set_cons_succ]
              refine wpAnyH_take (i := 27) (v := ?_) rfl (by kernel_rfl) (by kernel_rfl) (by kernel_rfl) (fun _ _ _ h => h) (Or.inl ⟨by rfl, ?_⟩) (by assumption) ?_
              rotate_left
              · intro w' hSw
                try dsimp only at hSw
                go_simp; try rfl
              simp only [List.getElem_toArray, List.getElem_cons_succ, List.getElem_cons_zero, Act.put, List.setIfInBounds_toArray, List.set_cons_zero, List.set_cons_succ]
              refine wpAnyH_take (i := 28) (v := ?_) rfl (by kernel_rfl) (by kernel_rfl) (by kernel_rfl) (fun _ _ _ h => h) (Or.inl ⟨by rfl, ?_⟩) (by assumption) ?_
              rotate_left
              · intro w' hSw
                try dsimp only at hSw
                go_simp; try rfl
              simp only [List.getElem_toArray, List.getElem_cons_succ, List.getElem_cons_zero, Act.put, List.setIfInBounds_toArray, List.set_cons_zero, List.set_cons_succ]
              refine wpAnyH_ready (rs := [19]) (by kernel_rfl) (by simp) (AllReadyH.cons rfl (fun K hK => ?_) AllReadyH.nil)
              refine step_callW (some 41) rfl (by kernel_rfl) 27 _ _ rfl #[.slice pu (clk xs j).length qu, .int .i64 x.w] (by kernel_rfl) (countSR _ (clk xs j) _ x.w (HU.out.at HD.out) hcj) ?_
              rintro e x41 ⟨he, b1⟩
              subst he
              refine ⟨_, rfl, ?_⟩
              replace HD := hide (HD.out.trans (b1.mono HD.out.size))
              clear b1
              refine hK.out _ _ (HS.out _ HD.out) (fun hHeld => ?_)
              clear hK K
              simp only [Act.put, List.setIfInBounds_toArray, List.set_cons_zero, List.set_cons_succ]
              refine wpAnyH_ready (rs := [29]) (by kernel_rfl) (by simp) (AllReadyH.cons rfl (fun K hK => ?_) AllReadyH.nil)
              refine step_callW (some 51) rfl (by kernel_rfl) 27 _ _ rfl #[.slice pt (clk xs i).length qt, .int .i64 x.w] (by kernel_rfl) (countSR _ (clk xs i) _ x.w (HT.out.at HD.out) hci) ?_
              rintro e x51 ⟨he, b1⟩
              subst he
              refine ⟨_, rfl, ?_⟩
              replace HD := hide (HD.out.trans (b1.mono HD.out.size))
              clear b1
              refine hK.out _ _ (HS.out _ HD.out) (fun hHeld => ?_)
              clear hK K
              simp only [Act.put, List.setIfInBounds_toArray, List.set_cons_zero, List.set_cons_succ]
              refine wpAnyH_take (i := 30) (v := ?_) rfl (by kernel_rfl) (by kernel_rfl) (by kernel_rfl) (fun _ _ _ h => h) (Or.inl ⟨by rfl, ?_⟩) (by assumption) ?_
              rotate_left
              · intro w' hSw
                try dsimp only at hSw
                go_simp; try rfl
              simp only [List.getElem_toArray, List.getElem_cons_succ, List.getElem_cons_zero, Act.put, List.setIfInBounds_toArray, List.set_cons_zero, List.set_cons_succ]
              refine wpAnyH_take (i := 31) (v := ?_) rfl (by kernel_rfl) (by kernel_rfl) (by kernel_rfl) (fun _ _ _ h => h) (Or.inl ⟨by rfl, ?_⟩) (by assumption) ?_
              rotate_left
              · intro w' hSw
                try dsimp only at hSw
                go_simp; try rfl
              simp only [List.getElem_toArray, List.getElem_cons_succ, List.getElem_cons_zero, Act.put, List.setIfInBounds_toArray, List.set_cons_zero, List.set_cons_succ]
              refine wpAnyH_done (by kernel_rfl) ?_ _
              by_cases hlc : cntX (clk xs j) x.w < cntX (clk xs i) x.w
              · have HRT : Hid (raceB xs i j = true) := hide (by rw [HRB.out, hcl, decide_eq_true hlc]; rfl)
                have HV := hide (raceX_hit he hlt (racesAt_yes hli HRT.out) HA.out)
                have HBn := hide (HB2.out.trans (HD.out.mono HB2.out.size))
                go_wp2
                go_ret
                exact ⟨by rw [HV.out]; rfl, HBw.out.trans (HBn.out.mono HBw.out.size)⟩
              · have HRF : Hid (raceB xs i j = false) := hide (by rw [HRB.out, hcl, decide_eq_false hlc]; rfl)
                have HBn := hide (HB2.out.trans (HD.out.mono HB2.out.size))
                have HQn : Hid (∀ k, k < i + 1 → raceB xs k j = false) := hide (fun k hk => by
                  rcases Nat.lt_succ_iff_lt_or_eq.1 hk with h | rfl
                  · exact HQ.out k h
                  · exact HRF.out)
                go_wp2
                exact ⟨⟨i + 1, by omega, by go_num, HBn, HQn⟩, by simp [intOf]; omega⟩
          · obtain rfl : i = j := by omega
            have hnl : ¬ (i : Int) < (i : Int) := by omega
            have HA2 : Hid (∀ k, k < i + 1 → racesAt xs k = false) := hide (fun k hk => by
              rcases Nat.lt_succ_iff_lt_or_eq.1 hk with h | rfl
              · exact HA.out k h
              · exact racesAt_no HQ.out)
            go_wp2
            exact ⟨⟨i + 1, by omega, by go_num, HB, HA2⟩, by simp [intOf]; omega⟩
      · obtain rfl : j = xs.length := by omega
        have hnl : ¬ (xs.length : Int) < (xs.length : Int) := by omega
        have HV := hide (raceX_none HA.out)
        go_wp2
        go_ret
        exact ⟨by rw [HV.out]; rfl, HBw.out.trans (HB0.out.mono HBw.out.size)⟩
end Go.Proofs.Ytbanifnfkabelaa
