/-
  Messages read from bytes: what is put is got; what is got was put.
-/
import Derived.Test.YtgegmocgbjklkaaDoorGnMath
import Derived.Test.YtgegmocgbjklkaaDoorGetWord
import Derived.Test.YtgegmocgbjklkaaDoorPutWordW
import Derived.Test.YtgegmocgbjklkaaDoorPnB
namespace Go.Proofs.YtgegmocgbjklkaaDoor
open Go.RowKit

/-- From place k on zs begins with bs. -/
def Pre (zs : List Int) (k : Nat) (bs : List Int) : Prop := ∃ r, zs.drop k = bs ++ r

theorem Pre.app {zs : List Int} {k : Nat} {a b : List Int} : Pre zs k (a ++ b) ↔ Pre zs k a ∧ Pre zs (k + a.length) b := by
  constructor
  · rintro ⟨r, h⟩
    refine ⟨⟨b ++ r, by rw [h, List.append_assoc]⟩, ⟨r, ?_⟩⟩
    rw [← List.drop_drop, h, List.append_assoc, List.drop_left]
  · rintro ⟨⟨r, h⟩, ⟨s, h'⟩⟩
    rw [← List.drop_drop, h, List.drop_left] at h'
    exact ⟨s, by rw [h, h', List.append_assoc]⟩
theorem Pre.nil (zs : List Int) (k : Nat) : Pre zs k [] := ⟨zs.drop k, rfl⟩
theorem Pre.len {zs : List Int} {k : Nat} {bs : List Int} (h : Pre zs k bs) (hb : 0 < bs.length) : k + bs.length ≤ zs.length := by
  obtain ⟨r, h⟩ := h
  have := congrArg List.length h
  simp only [List.length_drop, List.length_append] at this
  omega
theorem Pre.get {zs : List Int} {k : Nat} {bs : List Int} (h : Pre zs k bs) (i : Nat) (hi : i < bs.length) : zs.getD (k + i) 0 = bs.getD i 0 := by
  obtain ⟨r, h⟩ := h
  have h1 : (zs.drop k)[i]? = bs[i]? := by rw [h, List.getElem?_append_left hi]
  rw [List.getElem?_drop] at h1
  rw [List.getD_eq_getElem?_getD, List.getD_eq_getElem?_getD, h1]
theorem Pre.of_take {zs : List Int} {k : Nat} {bs : List Int} (h : (zs.drop k).take bs.length = bs) : Pre zs k bs :=
  ⟨(zs.drop k).drop bs.length, by conv => rhs; lhs; rw [← h]
                                  rw [List.take_append_drop]⟩
theorem Pre.all {zs bs : List Int} (h : Pre zs 0 bs) (hl : bs.length = zs.length) : zs = bs := by
  obtain ⟨r, h⟩ := h
  rw [List.drop_zero] at h
  have := congrArg List.length h
  simp only [List.length_append] at this
  have hr : r = [] := List.eq_nil_of_length_eq_zero (by omega)
  rw [h, hr, List.append_nil]

theorem num_put {zs : List Int} {k : Nat} {x : Int} (h0 : 0 ≤ x) (h1 : x ≤ 16777215) (h : Pre zs k (pn x)) : gnF zs 4 k 0 1 = some (x, k + (pn x).length) := by
  have := gn_pn zs k x h0 h1 (h.len (pn_pos x h0 h1)) (fun i hi => h.get i hi)
  unfold gn at this
  rwa [if_pos (by omega), Int.toNat_natCast] at this
theorem num_back {zs : List Int} (hB : Byt zs) {k nx : Nat} {x : Int} (h : gnF zs 4 k 0 1 = some (x, nx)) : 0 ≤ x ∧ x ≤ 16777215 ∧ Pre zs k (pn x) ∧ nx = k + (pn x).length ∧ nx ≤ zs.length := by
  have h' : gn zs (k : Int) = some (x, nx) := by unfold gn; rw [if_pos (by omega), Int.toNat_natCast]; exact h
  obtain ⟨_, h1, h2, h3, h4, h5⟩ := gn_back zs hB k x nx h'
  rw [Int.toNat_natCast] at h3 h4
  refine ⟨h1, h2, Pre.of_take ?_, h4, h5⟩
  rw [show nx - k = (pn x).length from by omega] at h3
  exact h3
theorem word_put {zs : List Int} {k : Nat} {x : Int} (h0 : -2147483648 ≤ x) (h1 : x ≤ 2147483647) (h : Pre zs k (pw x)) : gw zs (k : Int) = some (x, k + (pw x).length) := by
  have e := pw_in x h0 h1
  have hl := h.len (by rw [e]; simp)
  have g := h.get
  rw [e] at hl g ⊢
  have g0 := g 0 (by simp)
  have g1 := g 1 (by simp)
  have g2 := g 2 (by simp)
  have g3 := g 3 (by simp)
  simp at g0 g1 g2 g3 hl
  unfold gw
  rw [if_pos ⟨by omega, by rw [Int.toNat_natCast]; exact hl⟩, Int.toNat_natCast]
  simp [ws]
  rw [g0, g1, g2, g3]
  unfold rnd
  omega
theorem word_back {zs : List Int} (hB : Byt zs) {k nx : Nat} {x : Int} (h : gw zs (k : Int) = some (x, nx)) : -2147483648 ≤ x ∧ x ≤ 2147483647 ∧ Pre zs k (pw x) ∧ nx = k + (pw x).length ∧ nx ≤ zs.length := by
  unfold gw at h
  rw [Int.toNat_natCast] at h
  by_cases hc : 0 ≤ (k : Int) ∧ k + 4 ≤ zs.length
  · rw [if_pos hc] at h
    simp only [Option.some.injEq, Prod.mk.injEq] at h
    obtain ⟨h1, h2⟩ := h
    have hb := rnd_bd (ws zs k 4)
    have z0 := hB.at k (by omega)
    have z1 := hB.at (k + 1) (by omega)
    have z2 := hB.at (k + 2) (by omega)
    have z3 := hB.at (k + 3) (by omega)
    rw [h1] at hb
    have e := pw_in x hb.1 hb.2
    refine ⟨hb.1, hb.2, Pre.of_take ?_, by rw [e]; simp; omega, by omega⟩
    have hd : (zs.drop k).take 4 = [zs.getD k 0, zs.getD (k + 1) 0, zs.getD (k + 2) 0, zs.getD (k + 3) 0] := by
      refine List.ext_getElem (by simp; omega) fun j h1 h2 => ?_
      have hj : j = 0 ∨ j = 1 ∨ j = 2 ∨ j = 3 := by simp at h2; omega
      rcases hj with rfl | rfl | rfl | rfl
      · simp [show k < zs.length from by omega]
      · simp [show k + 1 < zs.length from by omega]
      · simp [show k + 2 < zs.length from by omega]
      · simp [show k + 3 < zs.length from by omega]
    rw [e, show ([x % 256, x / 256 % 256, x / 65536 % 256, x / 16777216 % 256] : List Int).length = 4 from rfl, hd]
    simp only [ws] at h1
    generalize zs.getD k 0 = a at *
    generalize zs.getD (k + 1) 0 = b at *
    generalize zs.getD (k + 2) 0 = c at *
    generalize zs.getD (k + 3) 0 = d at *
    unfold rnd at h1
    simp only [List.cons.injEq, and_true]
    refine ⟨?_, ?_, ?_, ?_⟩ <;> omega
  · rw [if_neg hc] at h; cases h

end Go.Proofs.YtgegmocgbjklkaaDoor
