/-
  Joined: GnMath, TakeNum, ReadAt, GetSpec, RoundW, GetWord, InB, PutNumW, PutWordW.
-/
import Derived.Test.YtbkhlaiifbdfoaaDoorJ1
import Derived.Defers
import Derived.Recover
import Derived.Laws.Pointers
import Derived.RegionTactic
import Derived.ChangeAlike
import Derived.Test.YtbkhlaiifbdfoaaDoorRows
import Derived.WalkKit
import Derived.ProofKit
import Derived.Maps.AppendAt
/-
  Numbers as bytes: what is put is got; what is got is what was put.
-/
namespace Go.Proofs.YtbkhlaiifbdfoaaDoor
open Go.RowKit

theorem mul_part (m wt : Int) : m % 128 * wt + m / 128 * (wt * 128) = m * wt := by
  have h : m = 128 * (m / 128) + m % 128 := by omega
  generalize m / 128 = q at *
  generalize m % 128 = r at *
  subst h
  grind

/-- The bytes of a number, wherever they lie, are read as that number. -/
theorem gnF_pnF (zs : List Int) : ∀ (j k : Nat) (m n wt : Int), 0 ≤ m → m ≤ pnB j → 1 ≤ wt → (m ≠ 0 ∨ wt = 1) → n + m * wt ≤ 16777215 →
    k + (pnF j m).length ≤ zs.length → (∀ i, i < (pnF j m).length → zs.getD (k + i) 0 = (pnF j m).getD i 0) →
    gnF zs (j + 1) k n wt = some (n + m * wt, k + (pnF j m).length)
  | 0, k, m, n, wt, h0, h1, hw, hz, hb, hl, hc => by
    simp only [pnB] at h1
    have e := pnF_lo 0 m h1
    rw [e] at hl hc ⊢
    simp only [List.length_cons, List.length_nil] at hl hc ⊢
    have hz0 := hc 0 (by omega)
    simp only [Nat.add_zero, List.getD_cons_zero] at hz0
    have hmod : m % 128 = m := by omega
    rw [gnF_yes zs 0 k n wt (by omega) (by rw [hz0]; omega) (by rw [hz0, hmod]; omega), hz0, hmod]
  | j + 1, k, m, n, wt, h0, h1, hw, hz, hb, hl, hc => by
    by_cases hm : 127 < m
    · have e := pnF_hi j m hm
      rw [e] at hl hc ⊢
      simp only [List.length_cons] at hl hc ⊢
      have hz0 := hc 0 (by omega)
      simp only [Nat.add_zero, List.getD_cons_zero] at hz0
      have hmod : (m % 128 + 128) % 128 = m % 128 := by omega
      rw [gnF_on zs (j + 1) k n wt (by omega) (by rw [hz0]; omega), hz0, hmod]
      have hmul := mul_part m wt
      rw [gnF_pnF zs j (k + 1) (m / 128) (n + m % 128 * wt) (wt * 128) (by omega) (by simp only [pnB] at h1; omega) (by omega) (.inl (by omega)) (by omega) (by omega) (fun i hi => by
        have := hc (i + 1) (by omega)
        rw [List.getD_cons_succ] at this
        rw [show k + 1 + i = k + (i + 1) from by omega]
        exact this)]
      simp only [Option.some.injEq, Prod.mk.injEq]
      omega
    · have e := pnF_lo (j + 1) m (by omega)
      rw [e] at hl hc ⊢
      simp only [List.length_cons, List.length_nil] at hl hc ⊢
      have hz0 := hc 0 (by omega)
      simp only [Nat.add_zero, List.getD_cons_zero] at hz0
      have hmod : m % 128 = m := by omega
      rw [gnF_yes zs (j + 1) k n wt (by omega) (by rw [hz0]; omega) (by rw [hz0, hmod]; omega), hz0, hmod]

/-- What is read as a number are that number's bytes. -/
theorem gnF_back (zs : List Int) (hB : Byt zs) : ∀ (f k : Nat) (n wt r : Int) (nx : Nat), 1 ≤ wt → gnF zs f k n wt = some (r, nx) →
    ∃ (m : Int) (j : Nat), 0 ≤ m ∧ r = n + m * wt ∧ r ≤ 16777215 ∧ (m ≠ 0 ∨ wt = 1) ∧ f = j + 1 ∧ (zs.drop k).take (nx - k) = pnF j m ∧ nx = k + (pnF j m).length ∧ nx ≤ zs.length
  | 0, k, n, wt, r, nx, hw, h => by simp [gnF] at h
  | f + 1, k, n, wt, r, nx, hw, h => by
    by_cases hk : k < zs.length
    · have hz := hB.at k hk
      have hd : zs.drop k = zs.getD k 0 :: zs.drop (k + 1) := by rw [List.drop_eq_getElem_cons hk]; simp [hk]
      generalize hzz : zs.getD k 0 = z at *
      by_cases h128 : z < 128
      · by_cases hb : 16777215 < n + z % 128 * wt ∨ (z = 0 ∧ 1 < wt)
        · rw [gnF_no zs f k n wt hk (by omega) (by rw [hzz]; exact hb)] at h; cases h
        · rw [gnF_yes zs f k n wt hk (by omega) (by rw [hzz]; exact hb)] at h
          simp only [Option.some.injEq, Prod.mk.injEq] at h
          obtain ⟨h1, h2⟩ := h
          have hmod : z % 128 = z := by omega
          rw [hzz, hmod] at h1
          rw [hmod] at hb
          refine ⟨z, f, hz.1, h1.symm, by omega, by omega, rfl, ?_, ?_, by omega⟩
          · rw [pnF_lo f z (by omega), hd, show nx - k = 1 from by omega]; simp
          · rw [pnF_lo f z (by omega)]; simp; omega
      · rw [gnF_on zs f k n wt hk (by omega), hzz] at h
        obtain ⟨m, j, hm0, hr, hr', hm1, hf, ht, hn, hl⟩ := gnF_back zs hB f (k + 1) (n + z % 128 * wt) (wt * 128) r nx (by omega) h
        have hm : m ≠ 0 := by omega
        have hmm : 127 < z % 128 + 128 * m := by omega
        have e1 : (z % 128 + 128 * m) % 128 = z % 128 := by omega
        have e2 : (z % 128 + 128 * m) / 128 = m := by omega
        refine ⟨z % 128 + 128 * m, f, by omega, ?_, hr', .inl (by omega), rfl, ?_, ?_, hl⟩
        · have := mul_part (z % 128 + 128 * m) wt
          rw [e1, e2] at this
          omega
        · subst hf
          rw [pnF_hi j _ hmm, e1, e2, hd, show nx - k = (nx - (k + 1)) + 1 from by omega, List.take_succ_cons, ht, show z % 128 + 128 = z from by omega]
        · subst hf
          rw [pnF_hi j _ hmm, e1, e2]
          simp only [List.length_cons]
          omega
    · rw [gnF_end zs (f + 1) k n wt (by omega)] at h; cases h

/-- What is put is got. -/
theorem gn_pn (zs : List Int) (k : Nat) (x : Int) (h0 : 0 ≤ x) (h1 : x ≤ 16777215) (hl : k + (pn x).length ≤ zs.length) (hc : ∀ i, i < (pn x).length → zs.getD (k + i) 0 = (pn x).getD i 0) :
    gn zs (k : Int) = some (x, k + (pn x).length) := by
  unfold gn
  rw [if_pos (by omega), Int.toNat_natCast]
  rw [pn_in x h0 h1] at hl hc ⊢
  have := gnF_pnF zs 3 k x 0 1 h0 (by simp [pnB]; omega) (by omega) (.inr rfl) (by omega) hl hc
  simpa using this

/-- What is got was put. -/
theorem gn_back (zs : List Int) (hB : Byt zs) (k r : Int) (nx : Nat) (h : gn zs k = some (r, nx)) : 0 ≤ k ∧ 0 ≤ r ∧ r ≤ 16777215 ∧ (zs.drop k.toNat).take (nx - k.toNat) = pn r ∧ nx = k.toNat + (pn r).length ∧ nx ≤ zs.length := by
  unfold gn at h
  by_cases hk : 0 ≤ k
  · rw [if_pos hk] at h
    obtain ⟨m, j, hm0, hr, hr', _, hf, ht, hn, hl⟩ := gnF_back zs hB 4 k.toNat 0 1 r nx (by omega) h
    have e : r = m := by omega
    have hj : j = 3 := by omega
    subst e hj
    refine ⟨hk, hm0, hr', ?_, ?_, hl⟩
    · rw [pn_in r hm0 hr']; exact ht
    · rw [pn_in r hm0 hr']; exact hn
  · rw [if_neg hk] at h; cases h
end Go.Proofs.YtbkhlaiifbdfoaaDoor
/-
  What takeNum does: the number that begins at the place, and the place behind it; or a panic, where there is none.
-/
namespace Go.Proofs.YtbkhlaiifbdfoaaDoor
open Go.RowKit

def took (w : World) (p : Nat) (t : TypeId) (v : Value) (r : Option (Int × Nat)) (e : Ending) (w' : World) : Prop :=
  ((∃ n nx, r = some (n, nx) ∧ e = .returned (.int .i64 n) ∧ w'.heap[p]? = some (.cells #[.int .i64 ((nx : Nat) : Int)] 3 (0, 0))) ∨
   (r = none ∧ e = .panicked [{ v := .iface t v, recovered := false }])) ∧ w.grownBy w' (some p)

set_option maxHeartbeats 1000000 in
theorem takeNum (w : World) (a : Option Addr) (len cap : Nat) (zs : List Int) (B p k0 : Nat) (t : TypeId) (v : Value) (hin : In w B a len zs) (hB : B ≤ p) (hp0 : 0 < p) (hE : Err w t v)
    (hp : w.heap[p]? = some (.cells #[.int .i64 (k0 : Int)] 3 (0, 0))) :
    Calls Tryd.prog 66 #[.slice a len cap, .pointer (some ⟨p, 0, none⟩)] w (took w p t v (gnF zs 4 k0 0 1)) := by
  have hlen := hin.1
  have hl := hin.2.1
  have hpw : p < w.heap.size := (Array.getElem?_eq_some_iff.1 hp).1
  go_enter Tryd.func66, Tryd.ntmps66
  go_wp2
  go_loopw [5, 6, 8] (fun n x i wr => ∃ (j : Nat) (m wt : Int), j ≤ 4 ∧ ((j = 0 ∧ wt = 1) ∨ (j = 1 ∧ wt = 128) ∨ (j = 2 ∧ wt = 16384) ∨ (j = 3 ∧ wt = 2097152) ∨ (j = 4)) ∧ 0 ≤ m ∧ m < wt ∧ n = .int .i64 m ∧ x = .int .i64 wt ∧ i = .int .i64 (j : Int) ∧
      Hid (gnF zs (4 - j) (k0 + j) m wt = gnF zs 4 k0 0 1) ∧ Hid (wr.heap[p]? = some (.cells #[.int .i64 ((k0 + j : Nat) : Int)] 3 (0, 0))) ∧ Hid (w.grownBy wr (some p)))
    (fun _ _ i _ => 4 - (intOf i).toNat)
  case atStart => exact ⟨0, 0, 1, by omega, by omega, by omega, by omega, rfl, rfl, rfl, rfl, hp, World.grownBy.refl _ _⟩
  case round =>
    obtain ⟨j, m, wt, hj, hw, hm0, hm1, rfl, rfl, rfl, HX, HP, HG⟩ := hrel
    have hin' := hin.out HG.out hB hpw
    have hE' := hE.out HG.out hp0
    by_cases hj4 : j = 4
    · subst hj4
      have hE2 : wr.cell? ⟨0, 0, none⟩ = some (.iface t v) := hE'
      clear hw hin hin' hE hE' hp
      go_wp2
      exact ⟨rfl, .inr ⟨by have := HX.out; rw [← this]; rfl, rfl⟩, HG.out⟩
    · have hw3 : (j = 0 ∧ wt = 1) ∨ (j = 1 ∧ wt = 128) ∨ (j = 2 ∧ wt = 16384) ∨ (j = 3 ∧ wt = 2097152) := by omega
      clear hw
      obtain ⟨K, hK⟩ : ∃ K, k0 + j = K := ⟨_, rfl⟩
      rw [hK] at HX HP
      have HK : Hid (k0 + j = K) := hK
      clear hK
      generalize hG : gnF zs 4 k0 0 1 = G at *
      clear hG
      by_cases hr : K < len
      · have hr' : K < zs.length := by omega
        have hzb := hin'.2.2.1 K hr
        have hT := takeByteYes wr a len cap zs B p K hin' HP.out hr
        have PP := place_put (y := (K : Int) + 1) HG.out HP.out
        have hE2 := hE.out PP.2 hp0
        generalize wr.setCell ⟨p, 0, none⟩ (.int .i64 ((K : Int) + 1)) = W1 at hT PP hE2
        unfold Err at hE2
        have HPP : Hid (W1.heap[p]? = some (.cells #[.int .i64 ((K : Int) + 1)] 3 (0, 0)) ∧ w.grownBy W1 (some p)) := PP
        clear PP HG HP hin hin' hE hE' hp
        by_cases hd : zs.getD K 0 < 128
        · by_cases hb : 16777215 < m + zs.getD K 0 % 128 * wt ∨ (zs.getD K 0 = 0 ∧ 1 < wt)
          · have HN : Hid (G = none) := HX.out.symm.trans (by rw [show 4 - j = (3 - j) + 1 from by omega]; exact gnF_no zs _ K m wt hr' hd hb)
            generalize zs.getD K 0 = z at *
            have HT := hide hT
            clear hT HX
            by_cases hb1 : 16777215 < m + z % 128 * wt
            · clear hb
              rcases hw3 with ⟨rfl, rfl⟩ | ⟨rfl, rfl⟩ | ⟨rfl, rfl⟩ | ⟨rfl, rfl⟩
              · omega
              · omega
              · omega
              · go_wp2_with fail
                refine (unhide HT).mono ?_
                rintro e w1 ⟨rfl, rfl⟩
                go_wp2
                exact ⟨rfl, .inr ⟨HN.out, rfl⟩, HPP.out.2⟩
            · have hz0 : (z == 0) = true := by simp; omega
              have hw1 : 1 < wt := by omega
              clear hb
              rcases hw3 with ⟨rfl, rfl⟩ | ⟨rfl, rfl⟩ | ⟨rfl, rfl⟩ | ⟨rfl, rfl⟩
              · omega
              all_goals
                go_wp2_with fail
                refine (unhide HT).mono ?_
                rintro e w1 ⟨rfl, rfl⟩
                go_wp2
                exact ⟨rfl, .inr ⟨HN.out, rfl⟩, HPP.out.2⟩
          · have HN : Hid (G = some (m + zs.getD K 0 % 128 * wt, K + 1)) := HX.out.symm.trans (by rw [show 4 - j = (3 - j) + 1 from by omega]; exact gnF_yes zs _ K m wt hr' hd hb)
            generalize zs.getD K 0 = z at *
            have HT := hide hT
            clear hT HX
            have hb1 : m + z % 128 * wt ≤ 16777215 := by omega
            have hb2 : z = 0 → wt ≤ 1 := by intro h; omega
            clear hb
            by_cases hz : z = 0
            · have hw1 := hb2 hz
              have hz0 : (z == 0) = true := by simp [hz]
              clear hz hb2
              rcases hw3 with ⟨rfl, rfl⟩ | ⟨rfl, rfl⟩ | ⟨rfl, rfl⟩ | ⟨rfl, rfl⟩
              · go_wp2_with fail
                refine (unhide HT).mono ?_
                rintro e w1 ⟨rfl, rfl⟩
                go_wp2
                go_ret
                exact ⟨.inl ⟨_, _, HN.out, ret_int (by omega), HPP.out.1⟩, HPP.out.2⟩
              · omega
              · omega
              · omega
            · have hz0 : (z == 0) = false := by simp [hz]
              clear hz hb2
              rcases hw3 with ⟨rfl, rfl⟩ | ⟨rfl, rfl⟩ | ⟨rfl, rfl⟩ | ⟨rfl, rfl⟩
              all_goals
                go_wp2_with fail
                refine (unhide HT).mono ?_
                rintro e w1 ⟨rfl, rfl⟩
                go_wp2
                go_ret
                exact ⟨.inl ⟨_, _, HN.out, ret_int (by omega), HPP.out.1⟩, HPP.out.2⟩
        · have HN : Hid (gnF zs (3 - j) (K + 1) (m + zs.getD K 0 % 128 * wt) (wt * 128) = G) := (by
            have := HX.out
            rw [show 4 - j = (3 - j) + 1 from by omega, gnF_on zs _ K m wt hr' (by omega)] at this
            exact this)
          generalize zs.getD K 0 = z at *
          have HT := hide hT
          clear hT HX
          rcases hw3 with ⟨rfl, rfl⟩ | ⟨rfl, rfl⟩ | ⟨rfl, rfl⟩ | ⟨rfl, rfl⟩
          · have HN2 : Hid (gnF zs (4 - 1) (k0 + 1) (m + z % 128) 128 = G) := by
              have h1 := HN.out
              have h2 := HK.out
              rw [show k0 + 1 = K + 1 from by omega, ← h1]
              congr 1
              omega
            have HP2 : Hid (W1.heap[p]? = some (.cells #[.int .i64 ((k0 + 1 : Nat) : Int)] 3 (0, 0))) := by
              have h2 := HK.out
              rw [show k0 + 1 = K + 1 from by omega]
              exact HPP.out.1
            go_wp2_with fail
            refine (unhide HT).mono ?_
            rintro e w1 ⟨rfl, rfl⟩
            go_wp2
            exact ⟨⟨1, m + z % 128, 128, by omega, by omega, by omega, by omega, rfl, rfl, rfl, HN2, HP2, HPP.out.2⟩, by simp [intOf]⟩
          · have HN2 : Hid (gnF zs (4 - 2) (k0 + 2) (m + z % 128 * 128) 16384 = G) := by
              have h1 := HN.out
              have h2 := HK.out
              rw [show k0 + 2 = K + 1 from by omega, ← h1]
              congr 1
            have HP2 : Hid (W1.heap[p]? = some (.cells #[.int .i64 ((k0 + 2 : Nat) : Int)] 3 (0, 0))) := by
              have h2 := HK.out
              rw [show k0 + 2 = K + 1 from by omega]
              exact HPP.out.1
            go_wp2_with fail
            refine (unhide HT).mono ?_
            rintro e w1 ⟨rfl, rfl⟩
            go_wp2
            exact ⟨⟨2, m + z % 128 * 128, 16384, by omega, by omega, by omega, by omega, rfl, rfl, rfl, HN2, HP2, HPP.out.2⟩, by simp [intOf]⟩
          · have HN2 : Hid (gnF zs (4 - 3) (k0 + 3) (m + z % 128 * 16384) 2097152 = G) := by
              have h1 := HN.out
              have h2 := HK.out
              rw [show k0 + 3 = K + 1 from by omega, ← h1]
              congr 1
            have HP2 : Hid (W1.heap[p]? = some (.cells #[.int .i64 ((k0 + 3 : Nat) : Int)] 3 (0, 0))) := by
              have h2 := HK.out
              rw [show k0 + 3 = K + 1 from by omega]
              exact HPP.out.1
            go_wp2_with fail
            refine (unhide HT).mono ?_
            rintro e w1 ⟨rfl, rfl⟩
            go_wp2
            exact ⟨⟨3, m + z % 128 * 16384, 2097152, by omega, by omega, by omega, by omega, rfl, rfl, rfl, HN2, HP2, HPP.out.2⟩, by simp [intOf]⟩
          · have HN2 : Hid (gnF zs (4 - 4) (k0 + 4) (m + z % 128 * 2097152) 268435456 = G) := by
              have h1 := HN.out
              have h2 := HK.out
              rw [show k0 + 4 = K + 1 from by omega, ← h1]
              congr 1
            have HP2 : Hid (W1.heap[p]? = some (.cells #[.int .i64 ((k0 + 4 : Nat) : Int)] 3 (0, 0))) := by
              have h2 := HK.out
              rw [show k0 + 4 = K + 1 from by omega]
              exact HPP.out.1
            go_wp2_with fail
            refine (unhide HT).mono ?_
            rintro e w1 ⟨rfl, rfl⟩
            go_wp2
            exact ⟨⟨4, m + z % 128 * 2097152, 268435456, by omega, by omega, by omega, by omega, rfl, rfl, rfl, HN2, HP2, HPP.out.2⟩, by simp [intOf]⟩
      · have hE2 := takeByteNo wr a len cap p K t v HP.out (by omega) hE'
        have HN : Hid (G = none) := HX.out.symm.trans (gnF_end zs _ _ _ _ (by omega))
        clear hin hin' hE hE' hp hl
        rcases hw3 with ⟨rfl, rfl⟩ | ⟨rfl, rfl⟩ | ⟨rfl, rfl⟩ | ⟨rfl, rfl⟩
        all_goals
          go_wp2_with fail
          refine hE2.mono ?_
          rintro e w1 ⟨rfl, rfl⟩
          go_wp2
          exact ⟨rfl, .inr ⟨HN.out, rfl⟩, HG.out⟩

set_option maxHeartbeats 1000000 in
theorem takeNumNeg (w : World) (a : Option Addr) (len cap : Nat) (p : Nat) (k : Int) (t : TypeId) (v : Value) (hk : k < 0) (hE : Err w t v)
    (hp : w.heap[p]? = some (.cells #[.int .i64 k] 3 (0, 0))) :
    Calls Tryd.prog 66 #[.slice a len cap, .pointer (some ⟨p, 0, none⟩)] w (took w p t v none) := by
  have HT := hide (takeByteNo w a len cap p k t v hp (by omega) hE)
  clear hp hE hk
  go_enter Tryd.func66, Tryd.ntmps66
  go_wp2
  go_loopw [5, 6, 8] (fun n x i wr => n = .int .i64 0 ∧ x = .int .i64 1 ∧ i = .int .i64 0 ∧ wr = w) (fun _ _ _ _ => 0)
  case atStart => exact ⟨rfl, rfl, rfl, rfl⟩
  case round =>
    obtain ⟨rfl, rfl, rfl, rfl⟩ := hrel
    go_wp2_with fail
    refine (unhide HT).mono ?_
    rintro e w1 ⟨rfl, rfl⟩
    go_wp2
    exact ⟨rfl, .inr ⟨rfl, rfl⟩, World.grownBy.refl _ _⟩
end Go.Proofs.YtbkhlaiifbdfoaaDoor
/-
  What readAt does with takeNum: the number, the place behind it and true; 0, 0 and false, where there is none.
-/
namespace Go.Proofs.YtbkhlaiifbdfoaaDoor
open Go.RowKit

/-- What readAt answers. -/
def ans (r : Option (Int × Nat)) : Value :=
  match r with
  | some (n, nx) => .tuple #[.int .i64 n, .int .i64 (nx : Int), .bool true]
  | none => .tuple #[.int .i64 0, .int .i64 0, .bool false]

/-- The four new variables, behind a call that has turned none but the last one. -/
theorem four_new {w w1 : World} {x0 : Value} {T : TypeId} {k : Int} (hg : ((((w.alloc (.cells #[x0] T)).alloc (.cells #[.int .i64 0] 3)).alloc (.cells #[.bool false] 4)).alloc (.cells #[.int .i64 k] 3)).grownBy w1 (some (w.heap.size + 1 + 1 + 1))) :
    w1.heap[w.heap.size]? = some (.cells #[x0] T (0, 0)) ∧ w1.heap[w.heap.size + 1]? = some (.cells #[.int .i64 0] 3 (0, 0)) ∧ w1.heap[w.heap.size + 1 + 1]? = some (.cells #[.bool false] 4 (0, 0)) ∧ Below w.heap.size w w1 := by
  have hs : ((((w.alloc (.cells #[x0] T)).alloc (.cells #[.int .i64 0] 3)).alloc (.cells #[.bool false] 4)).alloc (.cells #[.int .i64 k] 3)).heap.size = w.heap.size + 4 := by simp
  have e0 := heap_alloc_new w (.cells #[x0] T)
  have e1 := heap_alloc_new (w.alloc (.cells #[x0] T)) (.cells #[.int .i64 0] 3)
  have e2 := heap_alloc_new ((w.alloc (.cells #[x0] T)).alloc (.cells #[.int .i64 0] 3)) (.cells #[.bool false] 4)
  have n1 : (w.alloc (.cells #[x0] T)).heap.size = w.heap.size + 1 := by simp
  have n2 : ((w.alloc (.cells #[x0] T)).alloc (.cells #[.int .i64 0] 3)).heap.size = w.heap.size + 1 + 1 := by simp
  have n3 : (((w.alloc (.cells #[x0] T)).alloc (.cells #[.int .i64 0] 3)).alloc (.cells #[.bool false] 4)).heap.size = w.heap.size + 1 + 1 + 1 := by simp
  rw [n1] at e1
  rw [n2] at e2
  refine ⟨?_, ?_, ?_, ?_⟩
  · rw [hg.block _ (by omega) (by simp; omega), Below.heap_alloc _ _ _ (by omega), Below.heap_alloc _ _ _ (by omega), Below.heap_alloc _ _ _ (by omega), e0]
  · rw [hg.block _ (by omega) (by simp), Below.heap_alloc _ _ _ (by omega), Below.heap_alloc _ _ _ (by omega), e1]
  · rw [hg.block _ (by omega) (by simp), Below.heap_alloc _ _ _ (by omega), e2]
  · exact ((((Below.refl _ _).alloc (Nat.le_refl _) _).alloc (by simp) _).alloc (by simp; omega) _ |>.alloc (by simp; omega) _).grown hg (by simp; omega) (fun k hk => by cases hk; omega)

theorem Err.low {w W : World} {t : TypeId} {v : Value} (h : Err w t v) (hb : Below w.heap.size w W) (h0 : 0 < w.heap.size) : Err W t v :=
  (hb.cell (p := ⟨0, 0, none⟩) h0).trans h

end Go.Proofs.YtbkhlaiifbdfoaaDoor
/-
  What the model's GetNum does: it answers as the readers of the program do.
-/
namespace Go.Proofs.YtbkhlaiifbdfoaaDoor
open Go.RowKit

theorem or_low (i : Nat) (hi : i ≤ 62) (m x : Int) (h0 : 0 ≤ m) (h1 : m < 2 ^ i) (hx0 : 0 ≤ x) (hx : x % 2 ^ i = 0) (hx1 : x < 2 ^ 62) : bits .or .i64 m x = m + x := by
  have hc : bits .or .i64 m x = bits .or .i64 x m := by simp only [bits, BitVec.or_comm]
  have hp : (2 : Int) ^ i ≤ 2 ^ 62 := by
    have := Nat.pow_le_pow_right (n := 2) (by decide) hi
    exact_mod_cast this
  rw [hc, bits_join .i64 62 (by decide) (fun n a b => by rw [IntKind.wrap_i64]; omega) i x m hx0 hx hx1 h0 h1 (by omega)]
  omega

theorem ret_ans {r : Option (Int × Nat)} {n m b : Int} {nx : Nat} (hr : r = some (n, nx)) (h1 : m = n) (h2 : b = (nx : Int)) : Ending.returned (.tuple #[.int .i64 m, .int .i64 b, .bool true]) = .returned (ans r) := by
  subst hr h1 h2; rfl

set_option maxHeartbeats 2000000 in
theorem getNumSpec (w : World) (a : Option Addr) (len cap : Nat) (zs : List Int) (k0 : Nat) (B : Nat) (hin : In w B a len zs) :
    Calls Tryd.prog 73 #[.slice a len cap, .int .i64 (k0 : Int)] w fun e w' => e = .returned (ans (gnF zs 4 k0 0 1)) ∧ w' = w := by
  have hlen := hin.1
  have hl := hin.2.1
  have hnn : ¬ ((k0 : Int) < 0) := by omega
  go_enter Tryd.func73, Tryd.ntmps73
  go_wp2
  go_loopw [7, 8] (fun n i wr => ∃ (j : Nat) (m wt : Int), j ≤ 4 ∧ ((j = 0 ∧ wt = 1) ∨ (j = 1 ∧ wt = 128) ∨ (j = 2 ∧ wt = 16384) ∨ (j = 3 ∧ wt = 2097152) ∨ (j = 4)) ∧ 0 ≤ m ∧ m < wt ∧ n = .int .i64 m ∧ i = .int .i64 (j : Int) ∧
      Hid (gnF zs (4 - j) (k0 + j) m wt = gnF zs 4 k0 0 1) ∧ wr = w)
    (fun _ i _ => 4 - (intOf i).toNat)
  case atStart => exact ⟨0, 0, 1, by omega, by omega, by omega, by omega, rfl, rfl, rfl, rfl⟩
  case round =>
    obtain ⟨j, m, wt, hj, hw, hm0, hm1, rfl, rfl, HX, rfl⟩ := hrel
    by_cases hj4 : j = 4
    · subst hj4
      clear hw hin
      have HN : Hid (ans (gnF zs 4 k0 0 1) = ans none) := by have := HX.out; show _ = _; rw [← this]; rfl
      go_wp2
      go_ret3
      exact ⟨by rw [HN.out]; rfl, rfl⟩
    · have hw3 : (j = 0 ∧ wt = 1) ∨ (j = 1 ∧ wt = 128) ∨ (j = 2 ∧ wt = 16384) ∨ (j = 3 ∧ wt = 2097152) := by omega
      clear hw
      by_cases hr : k0 + j < len
      · have hr' : k0 + j < zs.length := by omega
        have hzb := hin.2.2.1 _ hr
        obtain ⟨b, o, rfl, hbB, hcell⟩ := hin.2.2.2 (by omega)
        have hz := hcell _ hr
        clear hin hcell
        by_cases hd : zs.getD (k0 + j) 0 < 128
        · by_cases hb : 16777215 < m + zs.getD (k0 + j) 0 % 128 * wt ∨ (zs.getD (k0 + j) 0 = 0 ∧ 1 < wt)
          · have HN : Hid (ans (gnF zs 4 k0 0 1) = ans none) := by
              have := HX.out
              rw [show 4 - j = (3 - j) + 1 from by omega, gnF_no zs _ _ m wt hr' hd hb] at this
              show _ = _
              rw [← this]
            clear HX
            generalize zs.getD (k0 + j) 0 = z at *
            by_cases hb1 : 16777215 < m + z % 128 * wt
            · clear hb
              by_cases hz1 : z = 0
              · exfalso; rcases hw3 with ⟨rfl, rfl⟩ | ⟨rfl, rfl⟩ | ⟨rfl, rfl⟩ | ⟨rfl, rfl⟩ <;> omega
              have hz0 : (z == 0) = false := by simp [hz1]
              clear hz1
              rcases hw3 with ⟨rfl, rfl⟩ | ⟨rfl, rfl⟩ | ⟨rfl, rfl⟩ | ⟨rfl, rfl⟩
              · omega
              · omega
              · omega
              · have hor : bits .or .i64 m (z % 128 * 2097152) = m + z % 128 * 2097152 := or_low 21 (by omega) m _ hm0 (by simpa using hm1) (by omega) (by omega) (by omega)
                go_wp2
                go_ret3
                exact ⟨by rw [HN.out]; rfl, rfl⟩
            · have hz0 : (z == 0) = true := by simp; omega
              have hw1 : 1 < wt := by omega
              clear hb
              rcases hw3 with ⟨rfl, rfl⟩ | ⟨rfl, rfl⟩ | ⟨rfl, rfl⟩ | ⟨rfl, rfl⟩
              · omega
              · have hor : bits .or .i64 m (z % 128 * 128) = m + z % 128 * 128 := or_low 7 (by omega) m _ hm0 (by simpa using hm1) (by omega) (by omega) (by omega)
                go_wp2
                go_ret3
                exact ⟨by rw [HN.out]; rfl, rfl⟩
              · have hor : bits .or .i64 m (z % 128 * 16384) = m + z % 128 * 16384 := or_low 14 (by omega) m _ hm0 (by simpa using hm1) (by omega) (by omega) (by omega)
                go_wp2
                go_ret3
                exact ⟨by rw [HN.out]; rfl, rfl⟩
              · have hor : bits .or .i64 m (z % 128 * 2097152) = m + z % 128 * 2097152 := or_low 21 (by omega) m _ hm0 (by simpa using hm1) (by omega) (by omega) (by omega)
                go_wp2
                go_ret3
                exact ⟨by rw [HN.out]; rfl, rfl⟩
          · have HN : Hid (gnF zs 4 k0 0 1 = some (m + zs.getD (k0 + j) 0 % 128 * wt, k0 + j + 1)) := by
              have := HX.out
              rw [show 4 - j = (3 - j) + 1 from by omega, gnF_yes zs _ _ m wt hr' hd hb] at this
              exact this.symm
            clear HX
            generalize zs.getD (k0 + j) 0 = z at *
            have hb1 : m + z % 128 * wt ≤ 16777215 := by omega
            have hb2 : z = 0 → wt ≤ 1 := by intro h; omega
            clear hb
            by_cases hz1 : z = 0
            · have hw1 := hb2 hz1
              have hz0 : (z == 0) = true := by simp [hz1]
              clear hz1 hb2
              rcases hw3 with ⟨rfl, rfl⟩ | ⟨rfl, rfl⟩ | ⟨rfl, rfl⟩ | ⟨rfl, rfl⟩
              · simp only [Nat.add_zero] at hz hr
                have hor : bits .or .i64 m (z % 128) = m + z % 128 := or_low 0 (by omega) m _ hm0 (by simpa using hm1) (by omega) (by simp [Int.emod_one]) (by omega)
                go_wp2
                go_ret3
                exact ⟨ret_ans HN.out (by omega) (by omega), rfl⟩
              · omega
              · omega
              · omega
            · have hz0 : (z == 0) = false := by simp [hz1]
              clear hz1 hb2
              rcases hw3 with ⟨rfl, rfl⟩ | ⟨rfl, rfl⟩ | ⟨rfl, rfl⟩ | ⟨rfl, rfl⟩
              · simp only [Nat.add_zero] at hz hr
                have hor : bits .or .i64 m (z % 128) = m + z % 128 := or_low 0 (by omega) m _ hm0 (by simpa using hm1) (by omega) (by simp [Int.emod_one]) (by omega)
                go_wp2
                go_ret3
                exact ⟨ret_ans HN.out (by omega) (by omega), rfl⟩
              · have hor : bits .or .i64 m (z % 128 * 128) = m + z % 128 * 128 := or_low 7 (by omega) m _ hm0 (by simpa using hm1) (by omega) (by omega) (by omega)
                go_wp2
                go_ret3
                exact ⟨ret_ans HN.out (by omega) (by omega), rfl⟩
              · have hor : bits .or .i64 m (z % 128 * 16384) = m + z % 128 * 16384 := or_low 14 (by omega) m _ hm0 (by simpa using hm1) (by omega) (by omega) (by omega)
                go_wp2
                go_ret3
                exact ⟨ret_ans HN.out (by omega) (by omega), rfl⟩
              · have hor : bits .or .i64 m (z % 128 * 2097152) = m + z % 128 * 2097152 := or_low 21 (by omega) m _ hm0 (by simpa using hm1) (by omega) (by omega) (by omega)
                go_wp2
                go_ret3
                exact ⟨ret_ans HN.out (by omega) (by omega), rfl⟩
        · have HN : Hid (gnF zs (3 - j) (k0 + j + 1) (m + zs.getD (k0 + j) 0 % 128 * wt) (wt * 128) = gnF zs 4 k0 0 1) := by
            have := HX.out
            rw [show 4 - j = (3 - j) + 1 from by omega, gnF_on zs _ _ m wt hr' (by omega)] at this
            exact this
          clear HX
          generalize zs.getD (k0 + j) 0 = z at *
          rcases hw3 with ⟨rfl, rfl⟩ | ⟨rfl, rfl⟩ | ⟨rfl, rfl⟩ | ⟨rfl, rfl⟩
          · simp only [Nat.add_zero] at hz hr
            have hor : bits .or .i64 m (z % 128) = m + z % 128 := or_low 0 (by omega) m _ hm0 (by simpa using hm1) (by omega) (by simp [Int.emod_one]) (by omega)
            have HN2 : Hid (gnF zs (4 - 1) (k0 + 1) (m + z % 128) 128 = gnF zs 4 k0 0 1) := by
              have h1 := HN.out
              show _ = _
              rw [← h1]
              congr 1
              omega
            go_wp2
            exact ⟨⟨1, m + z % 128, 128, by omega, by omega, by omega, by omega, rfl, rfl, HN2, trivial⟩, by simp [intOf]⟩
          · have hor : bits .or .i64 m (z % 128 * 128) = m + z % 128 * 128 := or_low 7 (by omega) m _ hm0 (by simpa using hm1) (by omega) (by omega) (by omega)
            have HN2 : Hid (gnF zs (4 - 2) (k0 + 2) (m + z % 128 * 128) 16384 = gnF zs 4 k0 0 1) := by
              have h1 := HN.out
              show _ = _
              rw [← h1]
              congr 1
            go_wp2
            exact ⟨⟨2, m + z % 128 * 128, 16384, by omega, by omega, by omega, by omega, rfl, rfl, HN2, trivial⟩, by simp [intOf]⟩
          · have hor : bits .or .i64 m (z % 128 * 16384) = m + z % 128 * 16384 := or_low 14 (by omega) m _ hm0 (by simpa using hm1) (by omega) (by omega) (by omega)
            have HN2 : Hid (gnF zs (4 - 3) (k0 + 3) (m + z % 128 * 16384) 2097152 = gnF zs 4 k0 0 1) := by
              have h1 := HN.out
              show _ = _
              rw [← h1]
              congr 1
            go_wp2
            exact ⟨⟨3, m + z % 128 * 16384, 2097152, by omega, by omega, by omega, by omega, rfl, rfl, HN2, trivial⟩, by simp [intOf]⟩
          · have hor : bits .or .i64 m (z % 128 * 2097152) = m + z % 128 * 2097152 := or_low 21 (by omega) m _ hm0 (by simpa using hm1) (by omega) (by omega) (by omega)
            have HN2 : Hid (gnF zs (4 - 4) (k0 + 4) (m + z % 128 * 2097152) 268435456 = gnF zs 4 k0 0 1) := by
              have h1 := HN.out
              show _ = _
              rw [← h1]
              congr 1
            go_wp2
            exact ⟨⟨4, m + z % 128 * 2097152, 268435456, by omega, by omega, by omega, by omega, rfl, rfl, HN2, trivial⟩, by simp [intOf]⟩
      · clear hin
        have HN : Hid (ans (gnF zs 4 k0 0 1) = ans none) := by
          have := HX.out; show _ = _; rw [← this, gnF_end zs _ _ _ _ (by omega)]
        rcases hw3 with ⟨rfl, rfl⟩ | ⟨rfl, rfl⟩ | ⟨rfl, rfl⟩ | ⟨rfl, rfl⟩
        all_goals
          go_wp2
          go_ret3
          exact ⟨by rw [HN.out]; rfl, rfl⟩

set_option maxHeartbeats 1000000 in
theorem getNumNeg (w : World) (a : Option Addr) (len cap : Nat) (k : Int) (hk : k < 0) :
    Calls Tryd.prog 73 #[.slice a len cap, .int .i64 k] w fun e w' => e = .returned (ans none) ∧ w' = w := by
  go_enter Tryd.func73, Tryd.ntmps73
  go_wp2
  go_loopw [7, 8] (fun n i wr => n = .int .i64 0 ∧ i = .int .i64 0 ∧ wr = w) (fun _ _ _ => 0)
  case atStart => exact ⟨rfl, rfl, rfl⟩
  case round =>
    obtain ⟨rfl, rfl, rfl⟩ := hrel
    go_wp2
    go_ret3
    exact ⟨rfl, rfl⟩

theorem getNumModel (w : World) (a : Option Addr) (len cap : Nat) (zs : List Int) (k : Int) (B : Nat) (hin : In w B a len zs) :
    Calls Tryd.prog 73 #[.slice a len cap, .int .i64 k] w fun e w' => e = .returned (ans (gn zs k)) ∧ w' = w := by
  by_cases hk : 0 ≤ k
  · obtain ⟨k0, rfl⟩ := Int.eq_ofNat_of_zero_le hk
    have e1 : gn zs (k0 : Int) = gnF zs 4 k0 0 1 := by simp [gn]
    rw [e1]
    exact getNumSpec w a len cap zs k0 B hin
  · have e1 : gn zs k = none := by simp [gn, hk]
    rw [e1]
    exact getNumNeg w a len cap k (by omega)

end Go.Proofs.YtbkhlaiifbdfoaaDoor
/-
  What Round does, in the program and in its model: both answer the word that a number goes round to, and touch nothing.
-/
namespace Go.Proofs.YtbkhlaiifbdfoaaDoor
open Go.RowKit

theorem roundImpl (n : Int) (w : World) :
    Calls Tryd.prog 55 #[.int .i64 n] w fun e w' => e = .returned (.int .i64 (rnd n)) ∧ w' = w := by
  go_enter Tryd.func55, Tryd.ntmps55
  go_wp2
  go_ret
  exact ⟨ret_int (rnd_wrap n), rfl⟩

theorem roundSpec (n : Int) (w : World) :
    Calls Tryd.prog 81 #[.int .i64 n] w fun e w' => e = .returned (.int .i64 (rnd n)) ∧ w' = w := by
  have hb := and32 n
  have h0 : 0 ≤ n % 4294967296 := by omega
  have h1 : n % 4294967296 < 4294967296 := by omega
  by_cases h : 2147483647 < n % 4294967296
  · go_enter Tryd.func81, Tryd.ntmps81
    go_wp2
    go_ret
    exact ⟨ret_int (rnd_hi n h), rfl⟩
  · go_enter Tryd.func81, Tryd.ntmps81
    go_wp2
    go_ret
    exact ⟨ret_int (rnd_lo n (by omega)), rfl⟩
end Go.Proofs.YtbkhlaiifbdfoaaDoor
/-
  What GetWord does, in the program and in its model: the word that lies at the place as four bytes, the place behind it and true; 0, 0 and false, where there is none.
-/
namespace Go.Proofs.YtbkhlaiifbdfoaaDoor
open Go.RowKit

/-- What the first j bytes from place k on come to, the low ones first. -/
def ws (zs : List Int) (k : Nat) : Nat → Int
  | 0 => 0
  | 1 => zs.getD k 0
  | 2 => zs.getD k 0 + zs.getD (k + 1) 0 * 256
  | 3 => zs.getD k 0 + zs.getD (k + 1) 0 * 256 + zs.getD (k + 2) 0 * 65536
  | _ => zs.getD k 0 + zs.getD (k + 1) 0 * 256 + zs.getD (k + 2) 0 * 65536 + zs.getD (k + 3) 0 * 16777216

def gw (zs : List Int) (i : Int) : Option (Int × Nat) := if 0 ≤ i ∧ i.toNat + 4 ≤ zs.length then some (rnd (ws zs i.toNat 4), i.toNat + 4) else none

set_option maxHeartbeats 1000000 in
theorem takeWord (w : World) (a : Option Addr) (len cap : Nat) (zs : List Int) (B p k0 : Nat) (t : TypeId) (v : Value) (hin : In w B a len zs) (hB : B ≤ p) (hp0 : 0 < p) (hE : Err w t v)
    (hp : w.heap[p]? = some (.cells #[.int .i64 (k0 : Int)] 3 (0, 0))) :
    Calls Tryd.prog 80 #[.slice a len cap, .pointer (some ⟨p, 0, none⟩)] w (took w p t v (gw zs (k0 : Int))) := by
  have hlen := hin.1
  have hl := hin.2.1
  have hpw : p < w.heap.size := (Array.getElem?_eq_some_iff.1 hp).1
  go_enter Tryd.func80, Tryd.ntmps80
  go_wp2
  go_loopw [5, 6, 7] (fun n x i wr => ∃ (j : Nat) (m wt : Int), j ≤ 4 ∧ ((j = 0 ∧ wt = 1) ∨ (j = 1 ∧ wt = 256) ∨ (j = 2 ∧ wt = 65536) ∨ (j = 3 ∧ wt = 16777216) ∨ (j = 4)) ∧ 0 ≤ m ∧ m < wt ∧ n = .int .i64 m ∧ x = .int .i64 wt ∧ i = .int .i64 (j : Int) ∧
      Hid (m = ws zs k0 j) ∧ (j = 0 ∨ k0 + j ≤ len) ∧ Hid (wr.heap[p]? = some (.cells #[.int .i64 ((k0 + j : Nat) : Int)] 3 (0, 0))) ∧ Hid (w.grownBy wr (some p)))
    (fun _ _ i _ => 4 - (intOf i).toNat)
  case atStart => exact ⟨0, 0, 1, by omega, by omega, by omega, by omega, rfl, rfl, rfl, rfl, .inl rfl, hp, World.grownBy.refl _ _⟩
  case round =>
    obtain ⟨j, m, wt, hj, hw, hm0, hm1, rfl, rfl, rfl, HX, hjl, HP, HG⟩ := hrel
    have hin' := hin.out HG.out hB hpw
    have hE' := hE.out HG.out hp0
    by_cases hj4 : j = 4
    · subst hj4
      have hk4 : k0 + 4 ≤ zs.length := by omega
      have HN : Hid (gw zs (k0 : Int) = some (rnd m, k0 + 4)) := by
        show _ = _
        rw [HX.out]; simp [gw, hk4]
      clear hw hin hin' hE hE' hp hjl HX
      go_wp2_with (go_at_call 55; refine (roundImpl _ _).mono ?_; rintro e w' ⟨rfl, rfl⟩)
      go_ret
      exact ⟨.inl ⟨_, _, HN.out, rfl, HP.out⟩, HG.out⟩
    · have hw3 : (j = 0 ∧ wt = 1) ∨ (j = 1 ∧ wt = 256) ∨ (j = 2 ∧ wt = 65536) ∨ (j = 3 ∧ wt = 16777216) := by omega
      clear hw
      by_cases hr : k0 + j < len
      · have hzb := hin'.2.2.1 _ hr
        have hT := takeByteYes wr a len cap zs B p (k0 + j) hin' HP.out hr
        have PP := place_put (y := ((k0 + j : Nat) : Int) + 1) HG.out HP.out
        generalize wr.setCell ⟨p, 0, none⟩ (.int .i64 (((k0 + j : Nat) : Int) + 1)) = W1 at hT PP
        have HPP : Hid (W1.heap[p]? = some (.cells #[.int .i64 (((k0 + j : Nat) : Int) + 1)] 3 (0, 0)) ∧ w.grownBy W1 (some p)) := PP
        clear PP HG HP hin hin' hE hE' hp hjl
        have HZ : Hid (zs.getD (k0 + j) 0 = zs.getD (k0 + j) 0) := rfl
        generalize hz : zs.getD (k0 + j) 0 = z at hT hzb
        have HZ2 := hide hz
        clear hz HZ
        have HT := hide hT
        clear hT
        rcases hw3 with ⟨rfl, rfl⟩ | ⟨rfl, rfl⟩ | ⟨rfl, rfl⟩ | ⟨rfl, rfl⟩
        · have HN2 : Hid (m + z = ws zs k0 1) := by
            have h1 := HX.out
            have h2 := HZ2.out
            show _ = _
            rw [h1, ← h2]
            simp [ws]
          go_wp2_with fail
          refine (unhide HT).mono ?_
          rintro e w1 ⟨rfl, rfl⟩
          go_wp2
          exact ⟨⟨1, m + z, 256, by omega, by omega, by omega, by omega, rfl, rfl, rfl, HN2, by omega, HPP.out.1, HPP.out.2⟩, by simp [intOf]⟩
        · have HN2 : Hid (m + z * 256 = ws zs k0 2) := by
            have h1 := HX.out
            have h2 := HZ2.out
            show _ = _
            rw [h1, ← h2]
            simp [ws]
          go_wp2_with fail
          refine (unhide HT).mono ?_
          rintro e w1 ⟨rfl, rfl⟩
          go_wp2
          exact ⟨⟨2, m + z * 256, 65536, by omega, by omega, by omega, by omega, rfl, rfl, rfl, HN2, by omega, HPP.out.1, HPP.out.2⟩, by simp [intOf]⟩
        · have HN2 : Hid (m + z * 65536 = ws zs k0 3) := by
            have h1 := HX.out
            have h2 := HZ2.out
            show _ = _
            rw [h1, ← h2]
            simp [ws]
          go_wp2_with fail
          refine (unhide HT).mono ?_
          rintro e w1 ⟨rfl, rfl⟩
          go_wp2
          exact ⟨⟨3, m + z * 65536, 16777216, by omega, by omega, by omega, by omega, rfl, rfl, rfl, HN2, by omega, HPP.out.1, HPP.out.2⟩, by simp [intOf]⟩
        · have HN2 : Hid (m + z * 16777216 = ws zs k0 4) := by
            have h1 := HX.out
            have h2 := HZ2.out
            show _ = _
            rw [h1, ← h2]
            simp [ws]
          go_wp2_with fail
          refine (unhide HT).mono ?_
          rintro e w1 ⟨rfl, rfl⟩
          go_wp2
          exact ⟨⟨4, m + z * 16777216, 4294967296, by omega, by omega, by omega, by omega, rfl, rfl, rfl, HN2, by omega, HPP.out.1, HPP.out.2⟩, by simp [intOf]⟩
      · have hE2 := takeByteNo wr a len cap p _ t v HP.out (by omega) hE'
        have HN : Hid (gw zs (k0 : Int) = none) := by
          show _ = _
          unfold gw
          rw [if_neg (by simp; omega)]
        clear hin hin' hE hE' hp hl
        rcases hw3 with ⟨rfl, rfl⟩ | ⟨rfl, rfl⟩ | ⟨rfl, rfl⟩ | ⟨rfl, rfl⟩
        all_goals
          go_wp2_with fail
          refine hE2.mono ?_
          rintro e w1 ⟨rfl, rfl⟩
          go_wp2
          exact ⟨rfl, .inr ⟨HN.out, rfl⟩, HG.out⟩

set_option maxHeartbeats 1000000 in
theorem takeWordNeg (w : World) (a : Option Addr) (len cap : Nat) (p : Nat) (k : Int) (t : TypeId) (v : Value) (hk : k < 0) (hE : Err w t v)
    (hp : w.heap[p]? = some (.cells #[.int .i64 k] 3 (0, 0))) :
    Calls Tryd.prog 80 #[.slice a len cap, .pointer (some ⟨p, 0, none⟩)] w (took w p t v none) := by
  have HT := hide (takeByteNo w a len cap p k t v hp (by omega) hE)
  clear hp hE hk
  go_enter Tryd.func80, Tryd.ntmps80
  go_wp2
  go_loopw [5, 6, 7] (fun n x i wr => n = .int .i64 0 ∧ x = .int .i64 1 ∧ i = .int .i64 0 ∧ wr = w) (fun _ _ _ _ => 0)
  case atStart => exact ⟨rfl, rfl, rfl, rfl⟩
  case round =>
    obtain ⟨rfl, rfl, rfl, rfl⟩ := hrel
    go_wp2_with fail
    refine (unhide HT).mono ?_
    rintro e w1 ⟨rfl, rfl⟩
    go_wp2
    exact ⟨rfl, .inr ⟨rfl, rfl⟩, World.grownBy.refl _ _⟩

end Go.Proofs.YtbkhlaiifbdfoaaDoor
/-
  Whether a number lies from one to another, asked by the program and by its model.
-/
namespace Go.Proofs.YtbkhlaiifbdfoaaDoor
open Go.RowKit

/-- n lies from a to b. -/
def inB (n a b : Int) : Bool := decide (a ≤ n ∧ n ≤ b)
theorem inB_yes {n a b : Int} (h : inB n a b = true) : a ≤ n ∧ n ≤ b := of_decide_eq_true h
theorem inB_no {n a b : Int} (h : inB n a b = false) : n < a ∨ b < n := by
  have := of_decide_eq_false h
  omega
theorem inB_mk {n a b : Int} (h1 : a ≤ n) (h2 : n ≤ b) : inB n a b = true := decide_eq_true ⟨h1, h2⟩
theorem inB_not {n a b : Int} (h : n < a ∨ b < n) : inB n a b = false := decide_eq_false (by omega)

theorem inYes (x lo hi : Int) (w : World) (h1 : lo ≤ x) (h2 : x ≤ hi) :
    Calls Tryd.prog 52 #[.int .i64 x, .int .i64 lo, .int .i64 hi] w fun e w' => e = .returned (.bool true) ∧ w' = w := by
  go_enter Tryd.func52, Tryd.ntmps52
  go_wp2
  go_ret
  exact ⟨ret_bool (by simp), rfl⟩

theorem inNo (x lo hi : Int) (w : World) (h : x < lo ∨ hi < x) :
    Calls Tryd.prog 52 #[.int .i64 x, .int .i64 lo, .int .i64 hi] w fun e w' => e = .returned (.bool false) ∧ w' = w := by
  by_cases h1 : lo ≤ x
  · have h2 : hi < x := by omega
    clear h
    go_enter Tryd.func52, Tryd.ntmps52
    go_wp2
    go_ret
    exact ⟨ret_bool (by simp [h2]), rfl⟩
  · clear h
    go_enter Tryd.func52, Tryd.ntmps52
    go_wp2
    go_ret
    exact ⟨ret_bool (by simp), rfl⟩

theorem inSpec (n a b : Int) (w : World) :
    Calls Tryd.prog 52 #[.int .i64 n, .int .i64 a, .int .i64 b] w fun e w' => e = .returned (.bool (inB n a b)) ∧ w' = w := by
  cases h : inB n a b with
  | true => have := inB_yes h; exact inYes n a b w this.1 this.2
  | false => exact inNo n a b w (inB_no h)
theorem inImpl (n a b : Int) (w : World) :
    Calls Tryd.prog 54 #[.int .i64 n, .int .i64 a, .int .i64 b] w fun e w' => e = .returned (.bool (inB n a b)) ∧ w' = w := by
  by_cases h1 : a ≤ n
  · by_cases h2 : n ≤ b
    · rw [inB_mk h1 h2]
      go_enter Tryd.func54, Tryd.ntmps54
      go_wp2
      go_ret
      exact ⟨ret_bool (by simp), rfl⟩
    · rw [inB_not (.inr (by omega))]
      go_enter Tryd.func54, Tryd.ntmps54
      go_wp2
      go_ret
      exact ⟨ret_bool (by simp), rfl⟩
  · rw [inB_not (.inl (by omega))]
    go_enter Tryd.func54, Tryd.ntmps54
    go_wp2
    go_ret
    exact ⟨ret_bool (by simp), rfl⟩
end Go.Proofs.YtbkhlaiifbdfoaaDoor
/-
  What PutNum does, in the program and in its model: both answer the bytes of the number (none, where it is none) in new memory, and touch nothing that was there.
-/
namespace Go.Proofs.YtbkhlaiifbdfoaaDoor
open Go.RowKit

set_option maxRecDepth 100000 in
set_option maxHeartbeats 400000 in
theorem putNumImpl (n : Int) (w : World) :
    Calls Tryd.prog 30 #[.int .i64 n] w fun e w' => ∃ v, e = .returned v ∧ Own w' w.heap.size v (pn n) ∧ Below w.heap.size w w' := by
  by_cases hn : n < 0 ∨ 16777215 < n
  · rw [pn_out n hn]
    rcases hn with h | h
    · go_enter Tryd.func30, Tryd.ntmps30
      go_wp2
      go_ret
      exact ⟨_, rfl, World.ownsRow_nil _ _ _ _, Below.refl _ _⟩
    · have h' : ¬ n < 0 := by omega
      go_enter Tryd.func30, Tryd.ntmps30
      go_wp2
      go_ret
      exact ⟨_, rfl, World.ownsRow_nil _ _ _ _, Below.refl _ _⟩
  · have h0 : 0 ≤ n := by omega
    have h1 : n ≤ 16777215 := by omega
    clear hn
    rw [pn_in n h0 h1]
    obtain ⟨i0, hi, hz0, hz1, hz2⟩ := info_parts Tryd.info5
    go_enter Tryd.func30, Tryd.ntmps30
    go_wp2
    go_loopw [0, 3] (fun s v wr => ∃ (m : Int) (k : Nat) (xs : List Int), 0 ≤ m ∧ m ≤ 16777215 ∧ m ≤ pnB k ∧ s = .int .i64 m ∧ xs.length + k = 3 ∧ Hid (xs ++ pnF k m = pnF 3 n) ∧ Own wr w.heap.size v xs ∧ Below w.heap.size w wr)
      (fun s _ _ => (intOf s).toNat)
    case atStart => exact ⟨n, 3, [], h0, h1, by simp [pnB]; omega, rfl, rfl, rfl, World.ownsRow_nil _ _ _ _, Below.refl _ _⟩
    case round =>
      obtain ⟨m, k, xs, hm0, hm1, hmk, rfl, hxk, HX, hown, hb⟩ := hrel
      have hsize := hb.size
      by_cases hlt : 127 < m
      · go_wp2_with (first
          | (at_builtin; refine wpList_append_own _ rfl _ _ 22 rfl w.heap.size 5 i0 (.int .u8 0) 1 1 Tryd.underlying22 hi hz0 hz1 hz2 rfl (by decide) _ _ _ rfl (World.ownsRow.alloc hown _) ⟨wr.heap.size, 0, none⟩ 1 1 [.int .u8 (m % 128 + 128)] rfl rfl (cell_one_new _ _ _) (fun x hx => by simp at hx; subst hx; rfl) (by unfold maxLen; omega) (by omega) (by simp; omega) ?_; intro v' w3 hown' hgrow3 hnil3))
        obtain ⟨j, rfl⟩ : ∃ j, k = j + 1 := by
          cases k with
          | zero => simp [pnB] at hmk; omega
          | succ j => exact ⟨j, rfl⟩
        refine ⟨⟨m / 128, j, xs ++ [m % 128 + 128], by omega, by omega, by simp only [pnB] at hmk; omega, rfl, by simp; omega, ?_, own_more hown', below_app hb hsize hown hgrow3⟩, by simp [intOf]; omega⟩
        have := HX.out
        rw [pnF_hi j m hlt] at this
        show _ = _
        rw [← this]; simp
      · go_wp2_with (first
          | (at_builtin; refine wpList_append_own _ rfl _ _ 22 rfl w.heap.size 5 i0 (.int .u8 0) 1 1 Tryd.underlying22 hi hz0 hz1 hz2 rfl (by decide) _ _ _ rfl (World.ownsRow.alloc hown _) ⟨wr.heap.size, 0, none⟩ 1 1 [.int .u8 m] rfl rfl (cell_one_new _ _ _) (fun x hx => by simp at hx; subst hx; rfl) (by unfold maxLen; omega) (by omega) (by simp; omega) ?_; intro v' w3 hown' hgrow3 hnil3))
        go_ret
        refine ⟨v', rfl, ?_, below_app hb hsize hown hgrow3⟩
        have := HX.out
        rw [pnF_lo k m (by omega)] at this
        rw [← this]
        exact own_more hown'
set_option maxRecDepth 100000 in
set_option maxHeartbeats 400000 in
theorem putNumSpec (n : Int) (w : World) :
    Calls Tryd.prog 32 #[.int .i64 n] w fun e w' => ∃ v, e = .returned v ∧ Own w' w.heap.size v (pn n) ∧ Below w.heap.size w w' := by
  by_cases hn : n < 0 ∨ 16777215 < n
  · rw [pn_out n hn]
    go_enter Tryd.func32, Tryd.ntmps32
    go_wp2_with (go_at_call 52; refine (inNo _ _ _ _ hn).mono ?_; rintro e w' ⟨rfl, rfl⟩)
    go_ret
    exact ⟨_, rfl, own_empty _ _ (Nat.le_refl _), (Below.refl _ _).alloc (Nat.le_refl _) _⟩
  · have h0 : 0 ≤ n := by omega
    have h1 : n ≤ 16777215 := by omega
    clear hn
    rw [pn_in n h0 h1]
    obtain ⟨i0, hi, hz0, hz1, hz2⟩ := info_parts Tryd.info5
    go_enter Tryd.func32, Tryd.ntmps32
    go_wp2_with (go_at_call 52; refine (inYes _ _ _ _ (by omega) (by omega)).mono ?_; rintro e w' ⟨rfl, rfl⟩)
    go_loopw [0, 3] (fun s v wr => ∃ (m : Int) (k : Nat) (xs : List Int), 0 ≤ m ∧ m ≤ 16777215 ∧ m ≤ pnB k ∧ s = .int .i64 m ∧ xs.length + k = 3 ∧ Hid (xs ++ pnF k m = pnF 3 n) ∧ Own wr w.heap.size v xs ∧ Below w.heap.size w wr)
      (fun s _ _ => (intOf s).toNat)
    case atStart => exact ⟨n, 3, [], h0, h1, by simp [pnB]; omega, rfl, rfl, rfl, own_empty _ _ (Nat.le_refl _), (Below.refl _ _).alloc (Nat.le_refl _) _⟩
    case round =>
      obtain ⟨m, k, xs, hm0, hm1, hmk, rfl, hxk, HX, hown, hb⟩ := hrel
      have hsize := hb.size
      by_cases hlt : 127 < m
      · go_wp2_with (first
          | (at_builtin; refine wpList_append_own _ rfl _ _ 22 rfl w.heap.size 5 i0 (.int .u8 0) 1 1 Tryd.underlying22 hi hz0 hz1 hz2 rfl (by decide) _ _ _ rfl (World.ownsRow.alloc hown _) ⟨wr.heap.size, 0, none⟩ 1 1 [.int .u8 (m % 128 + 128)] rfl rfl (cell_one_new _ _ _) (fun x hx => by simp at hx; subst hx; rfl) (by unfold maxLen; omega) (by omega) (by simp; omega) ?_; intro v' w3 hown' hgrow3 hnil3))
        obtain ⟨j, rfl⟩ : ∃ j, k = j + 1 := by
          cases k with
          | zero => simp [pnB] at hmk; omega
          | succ j => exact ⟨j, rfl⟩
        refine ⟨⟨m / 128, j, xs ++ [m % 128 + 128], by omega, by omega, by simp only [pnB] at hmk; omega, rfl, by simp; omega, ?_, own_more hown', below_app hb hsize hown hgrow3⟩, by simp [intOf]; omega⟩
        have := HX.out
        rw [pnF_hi j m hlt] at this
        show _ = _
        rw [← this]; simp
      · go_wp2_with (first
          | (at_builtin; refine wpList_append_own _ rfl _ _ 22 rfl w.heap.size 5 i0 (.int .u8 0) 1 1 Tryd.underlying22 hi hz0 hz1 hz2 rfl (by decide) _ _ _ rfl (World.ownsRow.alloc hown _) ⟨wr.heap.size, 0, none⟩ 1 1 [.int .u8 m] rfl rfl (cell_one_new _ _ _) (fun x hx => by simp at hx; subst hx; rfl) (by unfold maxLen; omega) (by omega) (by simp; omega) ?_; intro v' w3 hown' hgrow3 hnil3))
        go_ret
        refine ⟨v', rfl, ?_, below_app hb hsize hown hgrow3⟩
        have := HX.out
        rw [pnF_lo k m (by omega)] at this
        rw [← this]
        exact own_more hown'
end Go.Proofs.YtbkhlaiifbdfoaaDoor
/-
  What PutWord does, in the program and in its model: both answer the four bytes of the word (none, where it is none) in new memory, and touch nothing that was there.
-/
namespace Go.Proofs.YtbkhlaiifbdfoaaDoor
open Go.RowKit

def pw (n : Int) : List Int := if -2147483648 ≤ n ∧ n ≤ 2147483647 then [n % 256, n / 256 % 256, n / 65536 % 256, n / 16777216 % 256] else []
theorem pw_in (n : Int) (h0 : -2147483648 ≤ n) (h1 : n ≤ 2147483647) : pw n = [n % 256, n / 256 % 256, n / 65536 % 256, n / 16777216 % 256] := by simp [pw, h0, h1]
theorem pw_out (n : Int) (h : n < -2147483648 ∨ 2147483647 < n) : pw n = [] := by
  unfold pw; rw [if_neg (by omega)]
theorem pw_len (n : Int) : (pw n).length ≤ 4 := by
  unfold pw
  split <;> simp
theorem rnd_in (n : Int) (h0 : -2147483648 ≤ n) (h1 : n ≤ 2147483647) : (rnd n != n) = false := by
  have : rnd n = n := by unfold rnd; omega
  simp [this]
theorem rnd_out (n : Int) (h : n < -2147483648 ∨ 2147483647 < n) : (rnd n != n) = true := by
  have := rnd_bd n
  rw [bne_iff_ne]; omega

theorem pw_byt (n : Int) : Byt (pw n) := by
  unfold pw
  split
  · intro z hz
    simp at hz
    omega
  · intro z hz; cases hz
theorem wordYes (x : Int) (w : World) (h1 : -2147483648 ≤ x) (h2 : x ≤ 2147483647) :
    Calls Tryd.prog 56 #[.int .i64 x] w fun e w' => e = .returned (.bool true) ∧ w' = w := by
  go_enter Tryd.func56, Tryd.ntmps56
  go_wp2_with (go_at_call 52; refine (inYes _ _ _ _ (by omega) (by omega)).mono ?_; rintro e w' ⟨rfl, rfl⟩)
  go_ret
  exact ⟨rfl, rfl⟩
theorem wordNo (x : Int) (w : World) (h : x < -2147483648 ∨ 2147483647 < x) :
    Calls Tryd.prog 56 #[.int .i64 x] w fun e w' => e = .returned (.bool false) ∧ w' = w := by
  go_enter Tryd.func56, Tryd.ntmps56
  go_wp2_with (go_at_call 52; refine (inNo _ _ _ _ h).mono ?_; rintro e w' ⟨rfl, rfl⟩)
  go_ret
  exact ⟨rfl, rfl⟩

set_option maxHeartbeats 400000 in
theorem putWordImpl (n : Int) (w : World) :
    Calls Tryd.prog 63 #[.int .i64 n] w fun e w' => ∃ v, e = .returned v ∧ Own w' w.heap.size v (pw n) ∧ Below w.heap.size w w' := by
  by_cases hn : n < -2147483648 ∨ 2147483647 < n
  · rw [pw_out n hn]
    have hr := rnd_out n hn
    go_enter Tryd.func63, Tryd.ntmps63
    go_wp2_with (go_at_call 55; refine (roundImpl _ _).mono ?_; rintro e w' ⟨rfl, rfl⟩)
    go_ret
    exact ⟨_, rfl, World.ownsRow_nil _ _ _ _, Below.refl _ _⟩
  · have h0 : -2147483648 ≤ n := by omega
    have h1 : n ≤ 2147483647 := by omega
    have hr := rnd_in n h0 h1
    rw [pw_in n h0 h1]
    clear hn
    go_enter Tryd.func63, Tryd.ntmps63
    go_wp2_with (go_at_call 55; refine (roundImpl _ _).mono ?_; rintro e w' ⟨rfl, rfl⟩)
    go_ret
    refine ⟨_, rfl, ?_, (Below.refl _ _).alloc (Nat.le_refl _) _⟩
    exact own_four _ _ (Nat.le_refl _) _ _ _ _

set_option maxHeartbeats 400000 in
theorem putWordSpec (n : Int) (w : World) :
    Calls Tryd.prog 34 #[.int .i64 n] w fun e w' => ∃ v, e = .returned v ∧ Own w' w.heap.size v (pw n) ∧ Below w.heap.size w w' := by
  by_cases hn : n < -2147483648 ∨ 2147483647 < n
  · rw [pw_out n hn]
    go_enter Tryd.func34, Tryd.ntmps34
    go_wp2_with (go_at_call 56; refine (wordNo _ _ hn).mono ?_; rintro e w' ⟨rfl, rfl⟩)
    go_ret
    exact ⟨_, rfl, own_empty _ _ (Nat.le_refl _), (Below.refl _ _).alloc (Nat.le_refl _) _⟩
  · have h0 : -2147483648 ≤ n := by omega
    have h1 : n ≤ 2147483647 := by omega
    rw [pw_in n h0 h1]
    clear hn
    go_enter Tryd.func34, Tryd.ntmps34
    go_wp2_with (go_at_call 56; refine (wordYes _ _ h0 h1).mono ?_; rintro e w' ⟨rfl, rfl⟩)
    go_ret
    refine ⟨_, rfl, ?_, (Below.refl _ _).alloc (Nat.le_refl _) _⟩
    exact own_four _ _ (Nat.le_refl _) _ _ _ _

end Go.Proofs.YtbkhlaiifbdfoaaDoor
