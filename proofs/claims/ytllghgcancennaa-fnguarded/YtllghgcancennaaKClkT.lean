/-
  Clocks in the model: Join2 and Knows.
-/
import Derived.Test.YtllghgcancennaaKClkS
import Derived.Test.YtllghgcancennaaJ18
import Derived.Test.YtllghgcancennaaJ14
namespace Go.Proofs.Ytllghgcancennaa
open Go.RowKit

theorem flat_smp (xs : List Smp) : ∀ d ∈ xs.flatMap smpD, ∃ u, d = .val u ∧ u.oneCell' = true := fun d hd => by
  obtain ⟨y, _, hy⟩ := List.mem_flatMap.1 hd
  unfold smpD at hy
  simp at hy
  rcases hy with rfl | rfl
  · exact ⟨_, rfl, rfl⟩
  · exact ⟨_, rfl, rfl⟩
set_option maxRecDepth 100000 in
set_option maxHeartbeats 8000000 in
theorem tickS (w : World) (xs : List Smp) (v : Value) (q : Int) (h : Reads w w.heap.size (smps xs) v) (hg : smpsG xs) :
    Calls Try.prog 61 #[v, .int .i64 q] w fun e w' => rowP w w' (smps (tickX xs q)) e := by
  have HR := hide h
  have hm := hg.1
  have hcr := cntX_ok (q := q) hg.2
  have HC := hide (countS w xs v q h hm)
  obtain ⟨a1, c1, e1, _⟩ := h.shape
  subst e1
  clear h hg
  have HV1 : Hid (¬ (clkB xs = true ∧ inB q 1 1000000 = true ∧ cntX xs q < 16777215) → tickX xs q = xs) := hide (fun h => by unfold tickX; rw [if_neg h])
  have HV2 : Hid ((clkB xs = true ∧ inB q 1 1000000 = true ∧ cntX xs q < 16777215) → tickX xs q = joinK xs [⟨q, cntX xs q + 1⟩]) := hide (fun h => by unfold tickX; rw [if_pos h])
  generalize tickX xs q = V at *
  generalize cntX xs q = C at *
  obtain ⟨i0, hi, hz0, hz1, hz2⟩ := info_parts Try.infoSmp
  have HI := hide (And.intro hi (And.intro hz0 (And.intro hz1 hz2)))
  clear hi hz0 hz1 hz2
  go_enter Try.func61, Try.ntmps61
  go_wp2_with fail
  refine HC.out.mono ?_
  rintro e w0 ⟨rfl, hw0⟩
  subst hw0
  clear HC
  go_wp2_with fail
  refine (clockOkS _ xs _ HR.out hm).mono ?_
  rintro e w1 ⟨rfl, b1⟩
  have HB := hide b1
  clear b1
  cases ca : clkB xs with
  | false =>
    have HF : Hid (V = xs) := hide (HV1.out (fun h => by rw [ca] at h; cases h.1))
    have HZ := hide (OwnDL.snoc (ownDL_nil w1 w1.heap.size w1.heap.size) (Nat.le_refl _) 72 2 0 #[] (by decide) rfl)
    have bX := (Below.refl w1.heap.size w1).alloc (Nat.le_refl _) (.cells #[] 72)
    have HBX := hide (HB.out.trans (bX.mono HB.out.size))
    have HRX := hide (HR.out.at HBX.out)
    have hsX := HBX.out.size
    have hs1 := HB.out.size
    have hs2 := bX.size
    clear bX
    go_wp2_with (first
      | (at_builtin; refine appN rfl _ _ 44 rfl w1.heap.size _ 72 i0 (.agg #[.int .i64 0, .int .i64 0]) 2 16 Try.underlying44 HI.out.1 HI.out.2.1 HI.out.2.2.1 HI.out.2.2.2 rfl (by decide) w1.heap.size 0 0 [] [] [] [] [] rfl HZ.out rfl _ rfl xs.length 72 (xs.flatMap smpD) HRX.out (flat_smp xs) (by omega) (by decide) (Nat.le_refl _) hs2 ?_; intro v9 w9 o9 g9 hb9; obtain ⟨a9, c9, e9⟩ := (OwnDL.mid (c1 := []) (v1 := []) o9 rfl).shape; subst e9; have HO9 := hide o9; have HB9 := hide (HBX.out.grown g9 hsX (fun q hq => by cases hq; omega)); clear o9 g9)
      | fail)
    go_ret
    rw [HF.out]
    exact ⟨_, rfl, (by have h9 := (OwnDL.mid (c1 := []) (v1 := []) HO9.out rfl).mono hs1; rw [Nat.zero_add, List.nil_append] at h9; exact h9), HB9.out⟩
  | true =>
    go_wp2_with fail
    refine (inSpec _ _ _ _).mono ?_
    rintro e w2 ⟨rfl, hw2⟩
    rw [hw2]
    clear hw2 w2
    cases cb : inB q 1 1000000 with
    | false =>
      have HF : Hid (V = xs) := hide (HV1.out (fun h => by rw [cb] at h; cases h.2.1))
      have HZ := hide (OwnDL.snoc (ownDL_nil w1 w1.heap.size w1.heap.size) (Nat.le_refl _) 72 2 0 #[] (by decide) rfl)
      have bX := (Below.refl w1.heap.size w1).alloc (Nat.le_refl _) (.cells #[] 72)
      have HBX := hide (HB.out.trans (bX.mono HB.out.size))
      have HRX := hide (HR.out.at HBX.out)
      have hsX := HBX.out.size
      have hs1 := HB.out.size
      have hs2 := bX.size
      clear bX
      go_wp2_with (first
        | (at_builtin; refine appN rfl _ _ 44 rfl w1.heap.size _ 72 i0 (.agg #[.int .i64 0, .int .i64 0]) 2 16 Try.underlying44 HI.out.1 HI.out.2.1 HI.out.2.2.1 HI.out.2.2.2 rfl (by decide) w1.heap.size 0 0 [] [] [] [] [] rfl HZ.out rfl _ rfl xs.length 72 (xs.flatMap smpD) HRX.out (flat_smp xs) (by omega) (by decide) (Nat.le_refl _) hs2 ?_; intro v9 w9 o9 g9 hb9; obtain ⟨a9, c9, e9⟩ := (OwnDL.mid (c1 := []) (v1 := []) o9 rfl).shape; subst e9; have HO9 := hide o9; have HB9 := hide (HBX.out.grown g9 hsX (fun q hq => by cases hq; omega)); clear o9 g9)
        | fail)
      go_ret
      rw [HF.out]
      exact ⟨_, rfl, (by have h9 := (OwnDL.mid (c1 := []) (v1 := []) HO9.out rfl).mono hs1; rw [Nat.zero_add, List.nil_append] at h9; exact h9), HB9.out⟩
    | true =>
      by_cases k : C < 16777215
      · have k' : ¬ (C ≥ 16777215) := by omega
        have HF : Hid (V = joinK xs [⟨q, C + 1⟩]) := hide (HV2.out ⟨ca, cb, k⟩)
        have hwr : IntKind.i64.wrap (C + 1) = C + 1 := by rw [IntKind.wrap_i64]; omega
        have HZ := hide (OwnDL.snoc (ownDL_nil w1 w1.heap.size w1.heap.size) (Nat.le_refl _) 72 2 1 #[.int .i64 q, .int .i64 (C + 1)] (by decide) rfl)
        have bX := (Below.refl w1.heap.size w1).alloc (Nat.le_refl _) (.cells #[.int .i64 q, .int .i64 (C + 1)] 72)
        have HBX := hide (HB.out.trans (bX.mono HB.out.size))
        have HRX := hide (HR.out.at HBX.out)
        have hs1 := HBX.out.size
        clear bX k
        go_wp2_with fail
        have HQX : Hid (Reads (w1.alloc (.cells #[.int .i64 q, .int .i64 (C + 1)] 72)) (w1.alloc (.cells #[.int .i64 q, .int .i64 (C + 1)] 72)).heap.size (smps [⟨q, C + 1⟩]) (.slice (some ⟨w1.heap.size, 0, none⟩) 1 1)) := hide ((OwnDL.mid (c1 := []) (v1 := []) HZ.out rfl).rd (Nat.le_refl _))
        refine (joinKS _ xs [⟨q, C + 1⟩] _ _ HRX.out HQX.out (by simp; omega)).mono ?_
        rintro e w3 ⟨r, rfl, o9, b9⟩
        have HO := hide (o9.mono hs1)
        replace HBX := hide (HBX.out.trans (b9.mono hs1))
        clear b9 o9
        go_wp2
        go_ret
        rw [HF.out]
        exact ⟨_, rfl, HO.out, HBX.out⟩
      · have k' : C ≥ 16777215 := by omega
        have HF : Hid (V = xs) := hide (HV1.out (fun h => k h.2.2))
        have HZ := hide (OwnDL.snoc (ownDL_nil w1 w1.heap.size w1.heap.size) (Nat.le_refl _) 72 2 0 #[] (by decide) rfl)
        have bX := (Below.refl w1.heap.size w1).alloc (Nat.le_refl _) (.cells #[] 72)
        have HBX := hide (HB.out.trans (bX.mono HB.out.size))
        have HRX := hide (HR.out.at HBX.out)
        have hsX := HBX.out.size
        have hs1 := HB.out.size
        have hs2 := bX.size
        clear bX
        go_wp2_with (first
          | (at_builtin; refine appN rfl _ _ 44 rfl w1.heap.size _ 72 i0 (.agg #[.int .i64 0, .int .i64 0]) 2 16 Try.underlying44 HI.out.1 HI.out.2.1 HI.out.2.2.1 HI.out.2.2.2 rfl (by decide) w1.heap.size 0 0 [] [] [] [] [] rfl HZ.out rfl _ rfl xs.length 72 (xs.flatMap smpD) HRX.out (flat_smp xs) (by omega) (by decide) (Nat.le_refl _) hs2 ?_; intro v9 w9 o9 g9 hb9; obtain ⟨a9, c9, e9⟩ := (OwnDL.mid (c1 := []) (v1 := []) o9 rfl).shape; subst e9; have HO9 := hide o9; have HB9 := hide (HBX.out.grown g9 hsX (fun q hq => by cases hq; omega)); clear o9 g9)
          | fail)
        go_ret
        rw [HF.out]
        exact ⟨_, rfl, (by have h9 := (OwnDL.mid (c1 := []) (v1 := []) HO9.out rfl).mono hs1; rw [Nat.zero_add, List.nil_append] at h9; exact h9), HB9.out⟩
end Go.Proofs.Ytllghgcancennaa
