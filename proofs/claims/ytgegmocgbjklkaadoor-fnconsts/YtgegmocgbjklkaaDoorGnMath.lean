/-
  Numbers as bytes: what is put is got; what is got is what was put.
-/
import Derived.Test.YtgegmocgbjklkaaDoorTake
namespace Go.Proofs.YtgegmocgbjklkaaDoor
open Go.RowKit

theorem mul_part (m wt : Int) : m % 128 * wt + m / 128 * (wt * 128) = m * wt := by
  have h : m = 128 * (m / 128) + m % 128 := by omega
  generalize m / 128 = q at *
  generalize m % 128 = r at *
  subst h
  grind

/-- The bytes of a number, wherever they lie, are read as that number. -/
theorem gnF_pnF (zs : List Int) : ∀ (j k : Nat) (m n wt : Int), 0 ≤ m → m ≤ pnB j → 1 ≤ wt → (m ≠ 0 ∨ wt = 1) → n + m * wt ≤ 16777215 →
    k + (pnF j m).length ≤ zs.length → (∀ i, i < (pnF j m).length → zs.getD (k + i) 0 = (pnF j m).getD i 0) →
    gnF zs (j + 1) k n wt = some (n + m * wt, k + (pnF j m).length)
  | 0, k, m, n, wt, h0, h1, hw, hz, hb, hl, hc => by
    simp only [pnB] at h1
    have e := pnF_lo 0 m h1
    rw [e] at hl hc ⊢
    simp only [List.length_cons, List.length_nil] at hl hc ⊢
    have hz0 := hc 0 (by omega)
    simp only [Nat.add_zero, List.getD_cons_zero] at hz0
    have hmod : m % 128 = m := by omega
    rw [gnF_yes zs 0 k n wt (by omega) (by rw [hz0]; omega) (by rw [hz0, hmod]; omega), hz0, hmod]
  | j + 1, k, m, n, wt, h0, h1, hw, hz, hb, hl, hc => by
    by_cases hm : 127 < m
    · have e := pnF_hi j m hm
      rw [e] at hl hc ⊢
      simp only [List.length_cons] at hl hc ⊢
      have hz0 := hc 0 (by omega)
      simp only [Nat.add_zero, List.getD_cons_zero] at hz0
      have hmod : (m % 128 + 128) % 128 = m % 128 := by omega
      rw [gnF_on zs (j + 1) k n wt (by omega) (by rw [hz0]; omega), hz0, hmod]
      have hmul := mul_part m wt
      rw [gnF_pnF zs j (k + 1) (m / 128) (n + m % 128 * wt) (wt * 128) (by omega) (by simp only [pnB] at h1; omega) (by omega) (.inl (by omega)) (by omega) (by omega) (fun i hi => by
        have := hc (i + 1) (by omega)
        rw [List.getD_cons_succ] at this
        rw [show k + 1 + i = k + (i + 1) from by omega]
        exact this)]
      simp only [Option.some.injEq, Prod.mk.injEq]
      omega
    · have e := pnF_lo (j + 1) m (by omega)
      rw [e] at hl hc ⊢
      simp only [List.length_cons, List.length_nil] at hl hc ⊢
      have hz0 := hc 0 (by omega)
      simp only [Nat.add_zero, List.getD_cons_zero] at hz0
      have hmod : m % 128 = m := by omega
      rw [gnF_yes zs (j + 1) k n wt (by omega) (by rw [hz0]; omega) (by rw [hz0, hmod]; omega), hz0, hmod]

/-- What is read as a number are that number's bytes. -/
theorem gnF_back (zs : List Int) (hB : Byt zs) : ∀ (f k : Nat) (n wt r : Int) (nx : Nat), 1 ≤ wt → gnF zs f k n wt = some (r, nx) →
    ∃ (m : Int) (j : Nat), 0 ≤ m ∧ r = n + m * wt ∧ r ≤ 16777215 ∧ (m ≠ 0 ∨ wt = 1) ∧ f = j + 1 ∧ (zs.drop k).take (nx - k) = pnF j m ∧ nx = k + (pnF j m).length ∧ nx ≤ zs.length
  | 0, k, n, wt, r, nx, hw, h => by simp [gnF] at h
  | f + 1, k, n, wt, r, nx, hw, h => by
    by_cases hk : k < zs.length
    · have hz := hB.at k hk
      have hd : zs.drop k = zs.getD k 0 :: zs.drop (k + 1) := by rw [List.drop_eq_getElem_cons hk]; simp [hk]
      generalize hzz : zs.getD k 0 = z at *
      by_cases h128 : z < 128
      · by_cases hb : 16777215 < n + z % 128 * wt ∨ (z = 0 ∧ 1 < wt)
        · rw [gnF_no zs f k n wt hk (by omega) (by rw [hzz]; exact hb)] at h; cases h
        · rw [gnF_yes zs f k n wt hk (by omega) (by rw [hzz]; exact hb)] at h
          simp only [Option.some.injEq, Prod.mk.injEq] at h
          obtain ⟨h1, h2⟩ := h
          have hmod : z % 128 = z := by omega
          rw [hzz, hmod] at h1
          rw [hmod] at hb
          refine ⟨z, f, hz.1, h1.symm, by omega, by omega, rfl, ?_, ?_, by omega⟩
          · rw [pnF_lo f z (by omega), hd, show nx - k = 1 from by omega]; simp
          · rw [pnF_lo f z (by omega)]; simp; omega
      · rw [gnF_on zs f k n wt hk (by omega), hzz] at h
        obtain ⟨m, j, hm0, hr, hr', hm1, hf, ht, hn, hl⟩ := gnF_back zs hB f (k + 1) (n + z % 128 * wt) (wt * 128) r nx (by omega) h
        have hm : m ≠ 0 := by omega
        have hmm : 127 < z % 128 + 128 * m := by omega
        have e1 : (z % 128 + 128 * m) % 128 = z % 128 := by omega
        have e2 : (z % 128 + 128 * m) / 128 = m := by omega
        refine ⟨z % 128 + 128 * m, f, by omega, ?_, hr', .inl (by omega), rfl, ?_, ?_, hl⟩
        · have := mul_part (z % 128 + 128 * m) wt
          rw [e1, e2] at this
          omega
        · subst hf
          rw [pnF_hi j _ hmm, e1, e2, hd, show nx - k = (nx - (k + 1)) + 1 from by omega, List.take_succ_cons, ht, show z % 128 + 128 = z from by omega]
        · subst hf
          rw [pnF_hi j _ hmm, e1, e2]
          simp only [List.length_cons]
          omega
    · rw [gnF_end zs (f + 1) k n wt (by omega)] at h; cases h

/-- What is put is got. -/
theorem gn_pn (zs : List Int) (k : Nat) (x : Int) (h0 : 0 ≤ x) (h1 : x ≤ 16777215) (hl : k + (pn x).length ≤ zs.length) (hc : ∀ i, i < (pn x).length → zs.getD (k + i) 0 = (pn x).getD i 0) :
    gn zs (k : Int) = some (x, k + (pn x).length) := by
  unfold gn
  rw [if_pos (by omega), Int.toNat_natCast]
  rw [pn_in x h0 h1] at hl hc ⊢
  have := gnF_pnF zs 3 k x 0 1 h0 (by simp [pnB]; omega) (by omega) (.inr rfl) (by omega) hl hc
  simpa using this

/-- What is got was put. -/
theorem gn_back (zs : List Int) (hB : Byt zs) (k r : Int) (nx : Nat) (h : gn zs k = some (r, nx)) : 0 ≤ k ∧ 0 ≤ r ∧ r ≤ 16777215 ∧ (zs.drop k.toNat).take (nx - k.toNat) = pn r ∧ nx = k.toNat + (pn r).length ∧ nx ≤ zs.length := by
  unfold gn at h
  by_cases hk : 0 ≤ k
  · rw [if_pos hk] at h
    obtain ⟨m, j, hm0, hr, hr', _, hf, ht, hn, hl⟩ := gnF_back zs hB 4 k.toNat 0 1 r nx (by omega) h
    have e : r = m := by omega
    have hj : j = 3 := by omega
    subst e hj
    refine ⟨hk, hm0, hr', ?_, ?_, hl⟩
    · rw [pn_in r hm0 hr']; exact ht
    · rw [pn_in r hm0 hr']; exact hn
  · rw [if_neg hk] at h; cases h
end Go.Proofs.YtgegmocgbjklkaaDoor
