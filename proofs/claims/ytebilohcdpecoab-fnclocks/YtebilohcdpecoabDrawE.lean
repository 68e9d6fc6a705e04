/-
  The draws of two clocks: what they draw is read, and is short.
-/
import Derived.Test.YtebilohcdpecoabDrawD
import Derived.Test.YtebilohcdpecoabClkT
namespace Go.Proofs.Ytebilohcdpecoab
open Go.RowKit

def twoC (w w' : World) (e : Ending) : Prop := ∃ xs ys v1 v2, e = .returned (.tuple #[v1, v2]) ∧ Reads w' w'.heap.size (smps xs) v1 ∧ Reads w' w'.heap.size (smps ys) v2 ∧ (∀ y ∈ xs, SmpG y) ∧ (∀ y ∈ ys, SmpG y) ∧ xs.length ≤ 60 ∧ ys.length ≤ 60 ∧ Below w.heap.size w w'
set_option maxRecDepth 100000 in
set_option maxHeartbeats 8000000 in
theorem drawTwoC (w : World) (a : Option Addr) (len cap : Nat) (zs : List Int) (hin : In w w.heap.size a len zs) :
    Calls Try.prog 29 #[.slice a len cap] w fun e w' => twoC w w' e := by
  go_enter Try.func29, Try.ntmps29
  go_wp2_with fail
  refine (newDraw _ a len cap zs hin).mono ?_
  rintro e w1 ⟨rfl, hc1, b1⟩
  go_wp2_with fail
  refine (drawC _ _ hc1).mono ?_
  rintro e w2 ⟨ys, v, rfl, o2, hs, hl, hc2, hg2⟩
  obtain ⟨va, vc, ev⟩ := o2.shape
  subst ev
  have HC2 := hide hc2
  have HO := hide o2
  have HS := hide hs
  have hlt := hc1.lt
  have HB := hide (b1.grown hg2 b1.size (fun k hk => by cases hk; exact Nat.le_refl _))
  have hlt2 := Nat.lt_of_lt_of_le hlt hg2.size
  clear o2 hs hc2 hg2 hc1 b1
  go_wp2_with fail
  refine (drawC _ _ HC2.out).mono ?_
  rintro e w3 ⟨xs, v, rfl, o3, hs3, hl3, hc3, hg3⟩
  obtain ⟨xa, xc, ev⟩ := o3.shape
  subst ev
  have HC3 := hide hc3
  have HX := hide o3
  have HT := hide hs3
  have HO3 := hide (HO.out.grownP hg3 hlt)
  have HB3 := hide (HB.out.grown hg3 HB.out.size (fun k hk => by cases hk; exact Nat.le_refl _))
  clear o3 hs3 hc3 hg3
  go_wp2_with fail
  refine (onceDraw _ _ 3 (by decide) (by decide) HC3.out).mono ?_
  rintro e w4 ⟨t, rfl, hc4, hg4⟩
  have HY4 := hide ((HO3.out.grownP hg4 hlt).rd (Nat.le_refl _))
  have HX4 := hide ((HX.out.grownP hg4 hlt2).rd (Nat.le_refl _))
  have HB4 := hide (HB3.out.grown hg4 HB3.out.size (fun k hk => by cases hk; exact Nat.le_refl _))
  clear hc4 hg4 HC3 HC2 HO HO3 HX HB HB3
  cases t with
  | false =>
    go_wp2
    go_ret2
    exact ⟨xs, ys, _, _, rfl, HX4.out, HY4.out, HT.out, HS.out, by omega, by omega, HB4.out⟩
  | true =>
    go_wp2_with fail
    refine (join2S _ ys xs _ _ HY4.out HX4.out (by omega) (by omega) (by omega)).mono ?_
    rintro e w5 ⟨v, rfl, o5, b5⟩
    obtain ⟨ja, jc, ev⟩ := o5.shape
    subst ev
    have HJ := hide (o5.rd (Nat.le_refl _))
    have HY5 := hide (HY4.out.at b5)
    have HB5 := hide (HB4.out.trans (b5.mono HB4.out.size))
    have HG5 := joinC_ok (a := ys) (b := xs) ⟨by omega, HS.out⟩ ⟨by omega, HT.out⟩ (by omega)
    have hjl : (joinC ys xs).length ≤ 60 := by
      unfold joinC
      split
      · have := joinK_len ys xs
        omega
      · simp
    clear o5 b5
    go_wp2
    go_ret2
    exact ⟨joinC ys xs, ys, _, _, rfl, HJ.out, HY5.out, HG5.2, HS.out, hjl, by omega, HB5.out⟩
theorem drawJoin2C (w : World) (a : Option Addr) (len cap : Nat) (zs : List Int) (hin : In w w.heap.size a len zs) :
    Calls Try.prog 8 #[.slice a len cap] w fun e w' => twoC w w' e := by
  go_enter Try.func8, Try.ntmps8
  go_wp2_with fail
  refine (drawTwoC _ a len cap zs hin).mono ?_
  rintro e w1 ⟨xs, ys, v1, v2, rfl, r1, r2, h3, h4, h5, h6, h7⟩
  obtain ⟨xa, xc, ev, _⟩ := r1.shape
  subst ev
  obtain ⟨ya, yc, ev, _⟩ := r2.shape
  subst ev
  have HE := hide (And.intro r1 (And.intro r2 (And.intro h3 (And.intro h4 (And.intro h5 (And.intro h6 h7))))))
  clear r1 r2 h3 h4 h5 h6 h7
  go_wp2
  go_ret2
  exact ⟨xs, ys, _, _, rfl, HE.out⟩
theorem drawKnowsC (w : World) (a : Option Addr) (len cap : Nat) (zs : List Int) (hin : In w w.heap.size a len zs) :
    Calls Try.prog 14 #[.slice a len cap] w fun e w' => twoC w w' e := by
  go_enter Try.func14, Try.ntmps14
  go_wp2_with fail
  refine (drawTwoC _ a len cap zs hin).mono ?_
  rintro e w1 ⟨xs, ys, v1, v2, rfl, r1, r2, h3, h4, h5, h6, h7⟩
  obtain ⟨xa, xc, ev, _⟩ := r1.shape
  subst ev
  obtain ⟨ya, yc, ev, _⟩ := r2.shape
  subst ev
  have HE := hide (And.intro r1 (And.intro r2 (And.intro h3 (And.intro h4 (And.intro h5 (And.intro h6 h7))))))
  clear r1 r2 h3 h4 h5 h6 h7
  go_wp2
  go_ret2
  exact ⟨xs, ys, _, _, rfl, HE.out⟩
end Go.Proofs.Ytebilohcdpecoab
