/-
  Copies at a node in the program: a copy is made clean.
-/
import Derived.Test.YtofnpgheppgcaaaCpC
import Derived.Test.YtofnpgheppgcaaaCpF
namespace Go.Proofs.Ytofnpgheppgcaaa
open Go.RowKit

set_option maxRecDepth 100000 in
set_option maxHeartbeats 8000000 in
theorem cleanI (w : World) (xs : List Cpy) (q : Int) (v : Value) (h : Reads w w.heap.size (cpys xs) v) (hg : cpysG xs) :
    Calls Try.prog 36 #[v, .int .i64 q] w fun e w' => rowP w w' (cpys (cleanC xs q)) e := by
  have HR := hide h
  have hm := hg.1
  have HG := hide hg
  obtain ⟨a1, c1, e1, _⟩ := h.shape
  subst e1
  clear h hg
  go_enter Try.func36, Try.ntmps36
  go_wp2_with fail
  refine (copyEachC _ xs _ HR.out HG.out).mono ?_
  rintro e Z1 ⟨r1, rfl, o9, b9⟩
  obtain ⟨ra, rc, re⟩ := o9.shape
  subst re
  have HO := hide o9
  have HB := hide b9
  have hz1 := b9.size
  clear o9 b9
  go_wp2_with fail
  refine (placeCI _ xs _ q (HO.out.rd (Nat.le_refl _)) hm).mono ?_
  rintro e Z2 ⟨rfl, b9⟩
  replace HO := hide ((HO.out.below b9).up b9.size)
  replace HB := hide (HB.out.trans (b9.mono HB.out.size))
  replace hz1 := HB.out.size
  clear b9
  have hat := atC_lt xs q
  by_cases k0 : atC xs q < 0
  · have HE : Hid (cleanC xs q = xs) := hide (by unfold cleanC; rw [if_neg (by omega)])
    have hnI : ¬ (0 ≤ atC xs q) := by omega
    go_wp2
    go_ret
    refine ⟨_, rfl, ?_, HB.out⟩
    rw [HE.out]
    exact HO.out
  · obtain ⟨j, hj⟩ : ∃ j : Nat, atC xs q = (j : Int) := ⟨(atC xs q).toNat, by omega⟩
    have hlt : j < xs.length := by omega
    have HE : Hid (cleanC xs q = xs.set j (clOne (xs.getD j default))) := hide (by unfold cleanC copyC; rw [if_pos (by omega), if_pos (by omega), hj]; rfl)
    rw [hj]
    obtain ⟨y, hy⟩ : ∃ y, xs.getD j default = y := ⟨_, rfl⟩
    rw [hy] at HE
    obtain ⟨g, cc, eg⟩ := ownD_addr (n := xs.length) HO.out (by omega)
    cases eg
    have HOw : Hid (OwnD Z2 w.heap.size Z2.heap.size (.row 40 6 xs.length (((xs.take j).flatMap cpyD ++ [.val (.int .i64 y.i), .val (.int .i64 y.c), .val (.int .i64 y.n), .val (.bool y.v), vls y.f]) ++ vls y.t :: (xs.drop (j + 1)).flatMap cpyD)) (.slice (some ⟨g, 0, none⟩) xs.length rc)) := hide (by
      have h := HO.out
      unfold cpys at h
      rw [cpy_mid hlt hy] at h
      simp only [cpyD, List.append_assoc, List.cons_append, List.nil_append] at h ⊢
      exact h)
    obtain ⟨x0, e0, f0, gb, o4⟩ := OwnD.field HOw.out (ownD_nil Z2 Z2.heap.size Z2.heap.size 48 2) (Nat.le_refl _) hz1 (Nat.le_refl _) (i := j * 6 + 5) (by rw [List.length_append, cpy_pre xs j (Nat.le_of_lt hlt)]; rfl)
    have HO4 := hide o4
    have k0I : ¬ ((j : Int) < 0) := by omega
    have hltI : (j : Int) < (xs.length : Int) := by omega
    clear o4 hat hj
    go_wp2
    go_ret
    refine ⟨_, rfl, ?_, (HB.out.setCell (p := ⟨g, j * 6 + 5, none⟩) gb _)⟩
    rw [HE.out]
    unfold cpys
    rw [cpy_set _ hlt, List.length_set]
    have h9 := HO4.out
    simp only [cpyD, clOne, List.append_assoc, List.cons_append, List.nil_append] at h9 ⊢
    exact h9.up (by simp)
end Go.Proofs.Ytofnpgheppgcaaa
