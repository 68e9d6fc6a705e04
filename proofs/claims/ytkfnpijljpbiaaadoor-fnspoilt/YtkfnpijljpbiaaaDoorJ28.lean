/-
  With one bit turned, sealed bytes are not opened; turned twice, bytes are as they were; what is sealed is opened.
-/
import Derived.Test.YtkfnpijljpbiaaaDoorKOpenW
import Derived.Test.YtkfnpijljpbiaaaDoorJ27
namespace Go.Proofs.YtkfnpijljpbiaaaDoor
open Go.RowKit

theorem sums_fst (zs : List Int) : (sums zs).1 = (1 + zs.sum) % 65521 := by
  unfold sums
  suffices ∀ (p : Int × Int), 0 ≤ p.1 → p.1 < 65521 → (zs.foldl sstep p).1 = (p.1 + zs.sum) % 65521 from this (1, 0) (by omega) (by omega)
  induction zs with
  | nil => intro p h0 h1; simp; omega
  | cons z zs ih =>
    intro p h0 h1
    simp only [List.foldl_cons, List.sum_cons]
    rw [ih _ (by simp only [sstep]; omega) (by simp only [sstep]; omega)]
    simp only [sstep]
    omega

theorem sum_set : ∀ (zs : List Int) (j : Nat) (z : Int), j < zs.length → (zs.set j z).sum = zs.sum - zs.getD j 0 + z
  | [], j, z, h => by simp at h
  | x :: xs, 0, z, _ => by simp; omega
  | x :: xs, j + 1, z, h => by
    have := sum_set xs j z (by simpa using h)
    simp only [List.set_cons_succ, List.sum_cons, List.getD_cons_succ, this]
    omega

theorem turned_twice (zs : List Int) (bit : Int) (h : Byt zs) : turned (turned zs bit) bit = zs := by
  by_cases hb : bit < 0 ∨ (zs.length : Int) ≤ bit / 8
  · rw [turned_out zs bit hb, turned_out zs bit hb]
  · obtain ⟨n, rfl⟩ : ∃ n : Nat, bit = (n : Int) := Int.eq_ofNat_of_zero_le (by omega)
    have hn : n / 8 < zs.length := by omega
    rw [turned_in zs n hn, turned_in _ n (by simpa using hn)]
    have hz := h.at (n / 8) hn
    have e : (zs.set (n / 8) (fl (zs.getD (n / 8) 0) (n % 8))).getD (n / 8) 0 = fl (zs.getD (n / 8) 0) (n % 8) := by simp [hn]
    rw [e, (fl_of _ _ hz.1 hz.2 (by omega)).2.2.2, List.set_set]
    apply List.ext_getElem (by simp)
    intro j h1 h2
    by_cases hj : n / 8 = j
    · subst hj; simp [hn]
    · simp [hj]

theorem sealed_len (zs : List Int) : (sealed zs).length = zs.length + 4 := by simp [sealed, four_len]
theorem sealed_byt (zs : List Int) (h : Byt zs) : Byt (sealed zs) := h.append (four_byt _)
theorem sealed_take (zs : List Int) : (sealed zs).take zs.length = zs := by simp [sealed]
theorem sealed_drop (zs : List Int) : (sealed zs).drop zs.length = four (chk zs) := by simp [sealed]
theorem told_four (zs : List Int) : sums zs = told (four (chk zs)) := (told_iff zs _ (four_byt _) rfl).1 rfl

/-- What is sealed is opened. -/
theorem opened_sealed (zs : List Int) : opened (sealed zs) = some zs := by
  have e : (sealed zs).length - 4 = zs.length := by rw [sealed_len]; omega
  rw [opened_fine _ (by rw [sealed_len]; omega) (by rw [e, sealed_take, sealed_drop]; exact told_four zs), e, sealed_take]

/-- Sealed bytes with one bit turned are not opened. -/
theorem opened_turned (zs : List Int) (hz : Byt zs) (n : Nat) (hn : n / 8 < zs.length + 4) : opened (turned (sealed zs) (n : Int)) = none := by
  have hl : n / 8 < (sealed zs).length := by rw [sealed_len]; exact hn
  rw [turned_in _ _ hl]
  have hb := (sealed_byt zs hz).at _ hl
  obtain ⟨f1, f2, f3, _⟩ := fl_of _ (n % 8) hb.1 hb.2 (by omega)
  generalize hv : fl ((sealed zs).getD (n / 8) 0) (n % 8) = v at *
  apply opened_bad
  have e : ((sealed zs).set (n / 8) v).length - 4 = zs.length := by rw [List.length_set, sealed_len]; omega
  rw [e]
  by_cases hj : n / 8 < zs.length
  · have e1 : ((sealed zs).set (n / 8) v).take zs.length = zs.set (n / 8) v := by rw [List.take_set, sealed_take]
    have e2 : ((sealed zs).set (n / 8) v).drop zs.length = four (chk zs) := by rw [List.drop_set, if_pos hj, sealed_drop]
    have e3 : (sealed zs).getD (n / 8) 0 = zs.getD (n / 8) 0 := by simp [sealed, List.getElem?_append_left, hj]
    rw [e1, e2, ← told_four]
    rw [e3] at f1 hb
    intro h
    have h1 := congrArg Prod.fst h
    rw [sums_fst, sums_fst, sum_set _ _ _ hj] at h1
    omega
  · have e1 : ((sealed zs).set (n / 8) v).take zs.length = zs := by rw [List.take_set_of_le (by omega), sealed_take]
    have e2 : ((sealed zs).set (n / 8) v).drop zs.length = (four (chk zs)).set (n / 8 - zs.length) v := by rw [List.drop_set, if_neg hj, sealed_drop]
    rw [e1, e2]
    have hlt : n / 8 - zs.length < (four (chk zs)).length := by rw [four_len]; omega
    have e3 : (sealed zs).getD (n / 8) 0 = (four (chk zs)).getD (n / 8 - zs.length) 0 := by
      simp [sealed, List.getElem?_append_right, show zs.length ≤ n / 8 from by omega]
    rw [e3] at f1
    have hB : Byt ((four (chk zs)).set (n / 8 - zs.length) v) := by
      intro z hz'
      rcases List.mem_or_eq_of_mem_set hz' with hz' | rfl
      · exact four_byt _ z hz'
      · exact ⟨f2, f3⟩
    intro h
    have h1 := (told_iff zs _ hB (by rw [List.length_set]; rfl)).2 h
    have h2 := congrArg (fun l => l.getD (n / 8 - zs.length) 0) h1
    rw [show ((four (chk zs)).set (n / 8 - zs.length) v).getD (n / 8 - zs.length) 0 = v from by simp [hlt]] at h2
    exact f1 h2.symm
end Go.Proofs.YtkfnpijljpbiaaaDoor
