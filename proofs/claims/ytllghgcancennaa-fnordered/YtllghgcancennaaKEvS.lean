/-
  Events in the model.
-/
import Derived.Test.YtllghgcancennaaJ10
import Derived.Test.YtllghgcancennaaJ13
import Derived.Test.YtllghgcancennaaJ14
import Derived.Deep.RegionHeld
namespace Go.Proofs.Ytllghgcancennaa
open Go.RowKit

set_option maxRecDepth 100000 in
set_option maxHeartbeats 8000000 in
theorem eventsOkS (w : World) (xs : List Evt) (v : Value) (h : Reads w w.heap.size (evts xs) v) (hm : xs.length ≤ 1048576) :
    Calls Try.prog 33 #[v] w fun e w' => e = .returned (.bool (evB xs)) ∧ Below w.heap.size w w' := by
  have HR := hide h
  obtain ⟨a1, c1, e1, _⟩ := h.shape
  subst e1
  clear h
  have HN : Hid (∀ j, j < xs.length → evAt (xs.getD j default) = false → evB xs = false) := hide (fun j h1 h2 => evB_no h1 h2)
  have HYs : Hid ((∀ i, i < xs.length → evAt (xs.getD i default) = true) → evB xs = decide (xs.length ≤ 3000)) := hide evB_yes
  generalize evB xs = V at *
  go_enter Try.func33, Try.ntmps33
  go_wp2
  go_loopw [3] (fun i wr => ∃ j : Nat, j ≤ xs.length ∧ i = .int .i64 (j : Int) ∧ Hid (Below w.heap.size w wr) ∧ Hid (∀ i, i < j → evAt (xs.getD i default) = true)) (fun i _ => xs.length - (intOf i).toNat)
  case atStart => exact ⟨0, Nat.zero_le _, rfl, hide (Below.refl _ _), hide (fun i hi => by omega)⟩
  case round =>
    obtain ⟨j, hj, rfl, HB, HQ⟩ := hrel
    by_cases hlt : j < xs.length
    · obtain ⟨a', cap', ea, hcap, _, hc⟩ := event_at (HR.out.at HB.out)
      cases ea
      obtain ⟨b, o, rfl, hbb, hcell⟩ := hc (by omega)
      obtain ⟨d0, d1, d2, d3⟩ := hcell j hlt
      clear hc hcell
      obtain ⟨y, hy⟩ : ∃ y, xs.getD j default = y := ⟨_, rfl⟩
      rw [hy] at d0 d1 d2 d3
      have HY := hide hy
      clear hy
      have hltI : (j : Int) < (xs.length : Int) := by omega
      go_upto_region 5 with fail
      clear d0 d1 d2 d3
      have bA := (Below.refl wr.heap.size wr).alloc (Nat.le_refl _) (.cells #[.int .i64 y.w, .int .i64 y.k, .int .i64 y.i, .int .i64 y.a] 40)
      have EF := hide (heap_alloc_new wr (.cells #[.int .i64 y.w, .int .i64 y.k, .int .i64 y.i, .int .i64 y.a] 40))
      have HBw := hide (HB.out.trans (bA.mono HB.out.size))
      clear bA hbb
      obtain ⟨gf, hgf⟩ : ∃ g, wr.heap.size = g := ⟨_, rfl⟩
      rw [hgf] at EF ⊢
      clear hgf
      generalize wr.alloc (.cells #[.int .i64 y.w, .int .i64 y.k, .int .i64 y.i, .int .i64 y.a] 40) = W2 at *
      have k0 := (box_of EF.out).1 0 _ rfl
      have k1 := (box_of EF.out).1 1 _ rfl
      have k2 := (box_of EF.out).1 2 _ rfl
      have k3 := (box_of EF.out).1 3 _ rfl
      go_wp2_with fail
      refine (inSpec _ _ _ _).mono ?_
      rintro e x2 ⟨rfl, hx2⟩
      rw [hx2]
      clear hx2 x2
      cases c0 : inB y.w 1 1000000 with
      | false =>
        have HF : Hid (V = false) := hide (HN.out j hlt (by unfold evAt; rw [HY.out, c0]; rfl))
        go_wp2
        go_ret
        exact ⟨by rw [HF.out]; rfl, HBw.out⟩
      | true =>
        go_wp2_with fail
        refine (inSpec _ _ _ _).mono ?_
        rintro e x2 ⟨rfl, hx2⟩
        rw [hx2]
        clear hx2 x2
        cases c1 : inB y.k 0 6 with
        | false =>
          have HF : Hid (V = false) := hide (HN.out j hlt (by unfold evAt; rw [HY.out, c0, c1]; rfl))
          go_wp2
          go_ret
          exact ⟨by rw [HF.out]; rfl, HBw.out⟩
        | true =>
          go_wp2_with fail
          refine (inSpec _ _ _ _).mono ?_
          rintro e x2 ⟨rfl, hx2⟩
          rw [hx2]
          clear hx2 x2
          cases c2 : inB y.i 0 1000000 with
          | false =>
            have HF : Hid (V = false) := hide (HN.out j hlt (by unfold evAt; rw [HY.out, c0, c1, c2]; rfl))
            go_wp2
            go_ret
            exact ⟨by rw [HF.out]; rfl, HBw.out⟩
          | true =>
            go_wp2_with fail
            refine (inSpec _ _ _ _).mono ?_
            rintro e x2 ⟨rfl, hx2⟩
            rw [hx2]
            clear hx2 x2
            cases c3 : inB y.a 0 7 with
            | false =>
              have HF : Hid (V = false) := hide (HN.out j hlt (by unfold evAt; rw [HY.out, c0, c1, c2, c3]; rfl))
              go_wp2
              go_ret
              exact ⟨by rw [HF.out]; rfl, HBw.out⟩
            | true =>
              have HQ2 : Hid (∀ i, i < j + 1 → evAt (xs.getD i default) = true) := hide (fun q hq => by
                rcases Nat.lt_succ_iff_lt_or_eq.1 hq with h | rfl
                · exact HQ.out q h
                · unfold evAt; rw [HY.out, c0, c1, c2, c3]; rfl)
              go_wp2
              exact ⟨⟨j + 1, by omega, by go_num, HBw, HQ2⟩, by simp [intOf]; omega⟩
    · obtain rfl : j = xs.length := by omega
      have HF := hide (HYs.out HQ.out)
      by_cases k9 : xs.length ≤ 3000
      · have k9' : (xs.length : Int) ≤ 3000 := by omega
        have HF2 : Hid (V = true) := hide (by rw [HF.out]; exact decide_eq_true k9)
        go_wp2
        go_ret
        exact ⟨by rw [HF2.out]; rfl, HB.out⟩
      · have k9' : ¬ (xs.length : Int) ≤ 3000 := by omega
        have HF2 : Hid (V = false) := hide (by rw [HF.out]; exact decide_eq_false k9)
        go_wp2
        go_ret
        exact ⟨by rw [HF2.out]; rfl, HB.out⟩
theorem dec_beq (x y : Int) : decide (x = y) = (x == y) := by rw [Bool.eq_iff_iff]; simp
set_option maxRecDepth 100000 in
set_option maxHeartbeats 16000000 in
theorem clashS (w : World) (a b : Evt) :
    Calls Try.prog 32 #[.agg #[.int .i64 a.w, .int .i64 a.k, .int .i64 a.i, .int .i64 a.a], .agg #[.int .i64 b.w, .int .i64 b.k, .int .i64 b.i, .int .i64 b.a]] w fun e w' => e = .returned (.bool (clashB a b)) ∧ Below w.heap.size w w' := by
  obtain ⟨V, hV⟩ : ∃ V, clashB a b = V := ⟨_, rfl⟩
  have HV := hide hV.symm
  rw [hV]
  clear hV
  have HBB := hide (((Below.refl w.heap.size w).alloc (Nat.le_refl _) (.cells #[.int .i64 a.w, .int .i64 a.k, .int .i64 a.i, .int .i64 a.a] 40)).alloc (by simp) (.cells #[.int .i64 b.w, .int .i64 b.k, .int .i64 b.i, .int .i64 b.a] 40))
  cases ka1 : (a.k == 1) with
  | true =>
    have ka2 : (a.k == 2) = false := by rw [eq_of_beq ka1]; rfl
    cases kb1 : (b.k == 1) with
    | true =>
      have kb2 : (b.k == 2) = false := by rw [eq_of_beq kb1]; rfl
      cases ew : (a.w == b.w) with
      | true =>
        cases ei : (a.i == b.i) with
        | true =>
          cases ea : (a.a == b.a) with
          | true =>
            have ewn : (a.w != b.w) = false := by simp only [bne, ew]; rfl
            have ein : (a.i != b.i) = false := by simp only [bne, ei]; rfl
            have ean : (a.a != b.a) = false := by simp only [bne, ea]; rfl
            have HF : Hid (V = false) := hide (by rw [HV.out]; unfold clashB rwB; simp only [dec_beq, ka1, ka2, kb1, kb2, ew, ei, ea]; rfl)
            go_enter Try.func32, Try.ntmps32
            go_wp2
            go_ret
            exact ⟨by rw [HF.out]; rfl, HBB.out⟩
          | false =>
            have ewn : (a.w != b.w) = false := by simp only [bne, ew]; rfl
            have ein : (a.i != b.i) = false := by simp only [bne, ei]; rfl
            have ean : (a.a != b.a) = true := by simp only [bne, ea]; rfl
            have HF : Hid (V = false) := hide (by rw [HV.out]; unfold clashB rwB; simp only [dec_beq, ka1, ka2, kb1, kb2, ew, ei, ea]; rfl)
            go_enter Try.func32, Try.ntmps32
            go_wp2
            go_ret
            exact ⟨by rw [HF.out]; rfl, HBB.out⟩
        | false =>
          cases ea : (a.a == b.a) with
          | true =>
            have ewn : (a.w != b.w) = false := by simp only [bne, ew]; rfl
            have ein : (a.i != b.i) = true := by simp only [bne, ei]; rfl
            have ean : (a.a != b.a) = false := by simp only [bne, ea]; rfl
            have HF : Hid (V = false) := hide (by rw [HV.out]; unfold clashB rwB; simp only [dec_beq, ka1, ka2, kb1, kb2, ew, ei, ea]; rfl)
            go_enter Try.func32, Try.ntmps32
            go_wp2
            go_ret
            exact ⟨by rw [HF.out]; rfl, HBB.out⟩
          | false =>
            have ewn : (a.w != b.w) = false := by simp only [bne, ew]; rfl
            have ein : (a.i != b.i) = true := by simp only [bne, ei]; rfl
            have ean : (a.a != b.a) = true := by simp only [bne, ea]; rfl
            have HF : Hid (V = false) := hide (by rw [HV.out]; unfold clashB rwB; simp only [dec_beq, ka1, ka2, kb1, kb2, ew, ei, ea]; rfl)
            go_enter Try.func32, Try.ntmps32
            go_wp2
            go_ret
            exact ⟨by rw [HF.out]; rfl, HBB.out⟩
      | false =>
        cases ei : (a.i == b.i) with
        | true =>
          cases ea : (a.a == b.a) with
          | true =>
            have ewn : (a.w != b.w) = true := by simp only [bne, ew]; rfl
            have ein : (a.i != b.i) = false := by simp only [bne, ei]; rfl
            have ean : (a.a != b.a) = false := by simp only [bne, ea]; rfl
            have HF : Hid (V = false) := hide (by rw [HV.out]; unfold clashB rwB; simp only [dec_beq, ka1, ka2, kb1, kb2, ew, ei, ea]; rfl)
            go_enter Try.func32, Try.ntmps32
            go_wp2
            go_ret
            exact ⟨by rw [HF.out]; rfl, HBB.out⟩
          | false =>
            have ewn : (a.w != b.w) = true := by simp only [bne, ew]; rfl
            have ein : (a.i != b.i) = false := by simp only [bne, ei]; rfl
            have ean : (a.a != b.a) = true := by simp only [bne, ea]; rfl
            have HF : Hid (V = false) := hide (by rw [HV.out]; unfold clashB rwB; simp only [dec_beq, ka1, ka2, kb1, kb2, ew, ei, ea]; rfl)
            go_enter Try.func32, Try.ntmps32
            go_wp2
            go_ret
            exact ⟨by rw [HF.out]; rfl, HBB.out⟩
        | false =>
          cases ea : (a.a == b.a) with
          | true =>
            have ewn : (a.w != b.w) = true := by simp only [bne, ew]; rfl
            have ein : (a.i != b.i) = true := by simp only [bne, ei]; rfl
            have ean : (a.a != b.a) = false := by simp only [bne, ea]; rfl
            have HF : Hid (V = false) := hide (by rw [HV.out]; unfold clashB rwB; simp only [dec_beq, ka1, ka2, kb1, kb2, ew, ei, ea]; rfl)
            go_enter Try.func32, Try.ntmps32
            go_wp2
            go_ret
            exact ⟨by rw [HF.out]; rfl, HBB.out⟩
          | false =>
            have ewn : (a.w != b.w) = true := by simp only [bne, ew]; rfl
            have ein : (a.i != b.i) = true := by simp only [bne, ei]; rfl
            have ean : (a.a != b.a) = true := by simp only [bne, ea]; rfl
            have HF : Hid (V = false) := hide (by rw [HV.out]; unfold clashB rwB; simp only [dec_beq, ka1, ka2, kb1, kb2, ew, ei, ea]; rfl)
            go_enter Try.func32, Try.ntmps32
            go_wp2
            go_ret
            exact ⟨by rw [HF.out]; rfl, HBB.out⟩
    | false =>
      cases kb2 : (b.k == 2) with
      | true =>
        cases ew : (a.w == b.w) with
        | true =>
          cases ei : (a.i == b.i) with
          | true =>
            cases ea : (a.a == b.a) with
            | true =>
              have ewn : (a.w != b.w) = false := by simp only [bne, ew]; rfl
              have ein : (a.i != b.i) = false := by simp only [bne, ei]; rfl
              have ean : (a.a != b.a) = false := by simp only [bne, ea]; rfl
              have HF : Hid (V = false) := hide (by rw [HV.out]; unfold clashB rwB; simp only [dec_beq, ka1, ka2, kb1, kb2, ew, ei, ea]; rfl)
              go_enter Try.func32, Try.ntmps32
              go_wp2
              go_ret
              exact ⟨by rw [HF.out]; rfl, HBB.out⟩
            | false =>
              have ewn : (a.w != b.w) = false := by simp only [bne, ew]; rfl
              have ein : (a.i != b.i) = false := by simp only [bne, ei]; rfl
              have ean : (a.a != b.a) = true := by simp only [bne, ea]; rfl
              have HF : Hid (V = false) := hide (by rw [HV.out]; unfold clashB rwB; simp only [dec_beq, ka1, ka2, kb1, kb2, ew, ei, ea]; rfl)
              go_enter Try.func32, Try.ntmps32
              go_wp2
              go_ret
              exact ⟨by rw [HF.out]; rfl, HBB.out⟩
          | false =>
            cases ea : (a.a == b.a) with
            | true =>
              have ewn : (a.w != b.w) = false := by simp only [bne, ew]; rfl
              have ein : (a.i != b.i) = true := by simp only [bne, ei]; rfl
              have ean : (a.a != b.a) = false := by simp only [bne, ea]; rfl
              have HF : Hid (V = false) := hide (by rw [HV.out]; unfold clashB rwB; simp only [dec_beq, ka1, ka2, kb1, kb2, ew, ei, ea]; rfl)
              go_enter Try.func32, Try.ntmps32
              go_wp2
              go_ret
              exact ⟨by rw [HF.out]; rfl, HBB.out⟩
            | false =>
              have ewn : (a.w != b.w) = false := by simp only [bne, ew]; rfl
              have ein : (a.i != b.i) = true := by simp only [bne, ei]; rfl
              have ean : (a.a != b.a) = true := by simp only [bne, ea]; rfl
              have HF : Hid (V = false) := hide (by rw [HV.out]; unfold clashB rwB; simp only [dec_beq, ka1, ka2, kb1, kb2, ew, ei, ea]; rfl)
              go_enter Try.func32, Try.ntmps32
              go_wp2
              go_ret
              exact ⟨by rw [HF.out]; rfl, HBB.out⟩
        | false =>
          cases ei : (a.i == b.i) with
          | true =>
            cases ea : (a.a == b.a) with
            | true =>
              have ewn : (a.w != b.w) = true := by simp only [bne, ew]; rfl
              have ein : (a.i != b.i) = false := by simp only [bne, ei]; rfl
              have ean : (a.a != b.a) = false := by simp only [bne, ea]; rfl
              have HF : Hid (V = true) := hide (by rw [HV.out]; unfold clashB rwB; simp only [dec_beq, ka1, ka2, kb1, kb2, ew, ei, ea]; rfl)
              go_enter Try.func32, Try.ntmps32
              go_wp2
              go_ret
              exact ⟨by rw [HF.out]; rfl, HBB.out⟩
            | false =>
              have ewn : (a.w != b.w) = true := by simp only [bne, ew]; rfl
              have ein : (a.i != b.i) = false := by simp only [bne, ei]; rfl
              have ean : (a.a != b.a) = true := by simp only [bne, ea]; rfl
              have HF : Hid (V = false) := hide (by rw [HV.out]; unfold clashB rwB; simp only [dec_beq, ka1, ka2, kb1, kb2, ew, ei, ea]; rfl)
              go_enter Try.func32, Try.ntmps32
              go_wp2
              go_ret
              exact ⟨by rw [HF.out]; rfl, HBB.out⟩
          | false =>
            cases ea : (a.a == b.a) with
            | true =>
              have ewn : (a.w != b.w) = true := by simp only [bne, ew]; rfl
              have ein : (a.i != b.i) = true := by simp only [bne, ei]; rfl
              have ean : (a.a != b.a) = false := by simp only [bne, ea]; rfl
              have HF : Hid (V = false) := hide (by rw [HV.out]; unfold clashB rwB; simp only [dec_beq, ka1, ka2, kb1, kb2, ew, ei, ea]; rfl)
              go_enter Try.func32, Try.ntmps32
              go_wp2
              go_ret
              exact ⟨by rw [HF.out]; rfl, HBB.out⟩
            | false =>
              have ewn : (a.w != b.w) = true := by simp only [bne, ew]; rfl
              have ein : (a.i != b.i) = true := by simp only [bne, ei]; rfl
              have ean : (a.a != b.a) = true := by simp only [bne, ea]; rfl
              have HF : Hid (V = false) := hide (by rw [HV.out]; unfold clashB rwB; simp only [dec_beq, ka1, ka2, kb1, kb2, ew, ei, ea]; rfl)
              go_enter Try.func32, Try.ntmps32
              go_wp2
              go_ret
              exact ⟨by rw [HF.out]; rfl, HBB.out⟩
      | false =>
        cases ew : (a.w == b.w) with
        | true =>
          cases ei : (a.i == b.i) with
          | true =>
            cases ea : (a.a == b.a) with
            | true =>
              have ewn : (a.w != b.w) = false := by simp only [bne, ew]; rfl
              have ein : (a.i != b.i) = false := by simp only [bne, ei]; rfl
              have ean : (a.a != b.a) = false := by simp only [bne, ea]; rfl
              have HF : Hid (V = false) := hide (by rw [HV.out]; unfold clashB rwB; simp only [dec_beq, ka1, ka2, kb1, kb2, ew, ei, ea]; rfl)
              go_enter Try.func32, Try.ntmps32
              go_wp2
              go_ret
              exact ⟨by rw [HF.out]; rfl, HBB.out⟩
            | false =>
              have ewn : (a.w != b.w) = false := by simp only [bne, ew]; rfl
              have ein : (a.i != b.i) = false := by simp only [bne, ei]; rfl
              have ean : (a.a != b.a) = true := by simp only [bne, ea]; rfl
              have HF : Hid (V = false) := hide (by rw [HV.out]; unfold clashB rwB; simp only [dec_beq, ka1, ka2, kb1, kb2, ew, ei, ea]; rfl)
              go_enter Try.func32, Try.ntmps32
              go_wp2
              go_ret
              exact ⟨by rw [HF.out]; rfl, HBB.out⟩
          | false =>
            cases ea : (a.a == b.a) with
            | true =>
              have ewn : (a.w != b.w) = false := by simp only [bne, ew]; rfl
              have ein : (a.i != b.i) = true := by simp only [bne, ei]; rfl
              have ean : (a.a != b.a) = false := by simp only [bne, ea]; rfl
              have HF : Hid (V = false) := hide (by rw [HV.out]; unfold clashB rwB; simp only [dec_beq, ka1, ka2, kb1, kb2, ew, ei, ea]; rfl)
              go_enter Try.func32, Try.ntmps32
              go_wp2
              go_ret
              exact ⟨by rw [HF.out]; rfl, HBB.out⟩
            | false =>
              have ewn : (a.w != b.w) = false := by simp only [bne, ew]; rfl
              have ein : (a.i != b.i) = true := by simp only [bne, ei]; rfl
              have ean : (a.a != b.a) = true := by simp only [bne, ea]; rfl
              have HF : Hid (V = false) := hide (by rw [HV.out]; unfold clashB rwB; simp only [dec_beq, ka1, ka2, kb1, kb2, ew, ei, ea]; rfl)
              go_enter Try.func32, Try.ntmps32
              go_wp2
              go_ret
              exact ⟨by rw [HF.out]; rfl, HBB.out⟩
        | false =>
          cases ei : (a.i == b.i) with
          | true =>
            cases ea : (a.a == b.a) with
            | true =>
              have ewn : (a.w != b.w) = true := by simp only [bne, ew]; rfl
              have ein : (a.i != b.i) = false := by simp only [bne, ei]; rfl
              have ean : (a.a != b.a) = false := by simp only [bne, ea]; rfl
              have HF : Hid (V = false) := hide (by rw [HV.out]; unfold clashB rwB; simp only [dec_beq, ka1, ka2, kb1, kb2, ew, ei, ea]; rfl)
              go_enter Try.func32, Try.ntmps32
              go_wp2
              go_ret
              exact ⟨by rw [HF.out]; rfl, HBB.out⟩
            | false =>
              have ewn : (a.w != b.w) = true := by simp only [bne, ew]; rfl
              have ein : (a.i != b.i) = false := by simp only [bne, ei]; rfl
              have ean : (a.a != b.a) = true := by simp only [bne, ea]; rfl
              have HF : Hid (V = false) := hide (by rw [HV.out]; unfold clashB rwB; simp only [dec_beq, ka1, ka2, kb1, kb2, ew, ei, ea]; rfl)
              go_enter Try.func32, Try.ntmps32
              go_wp2
              go_ret
              exact ⟨by rw [HF.out]; rfl, HBB.out⟩
          | false =>
            cases ea : (a.a == b.a) with
            | true =>
              have ewn : (a.w != b.w) = true := by simp only [bne, ew]; rfl
              have ein : (a.i != b.i) = true := by simp only [bne, ei]; rfl
              have ean : (a.a != b.a) = false := by simp only [bne, ea]; rfl
              have HF : Hid (V = false) := hide (by rw [HV.out]; unfold clashB rwB; simp only [dec_beq, ka1, ka2, kb1, kb2, ew, ei, ea]; rfl)
              go_enter Try.func32, Try.ntmps32
              go_wp2
              go_ret
              exact ⟨by rw [HF.out]; rfl, HBB.out⟩
            | false =>
              have ewn : (a.w != b.w) = true := by simp only [bne, ew]; rfl
              have ein : (a.i != b.i) = true := by simp only [bne, ei]; rfl
              have ean : (a.a != b.a) = true := by simp only [bne, ea]; rfl
              have HF : Hid (V = false) := hide (by rw [HV.out]; unfold clashB rwB; simp only [dec_beq, ka1, ka2, kb1, kb2, ew, ei, ea]; rfl)
              go_enter Try.func32, Try.ntmps32
              go_wp2
              go_ret
              exact ⟨by rw [HF.out]; rfl, HBB.out⟩
  | false =>
    cases ka2 : (a.k == 2) with
    | true =>
      cases kb1 : (b.k == 1) with
      | true =>
        have kb2 : (b.k == 2) = false := by rw [eq_of_beq kb1]; rfl
        cases ew : (a.w == b.w) with
        | true =>
          cases ei : (a.i == b.i) with
          | true =>
            cases ea : (a.a == b.a) with
            | true =>
              have ewn : (a.w != b.w) = false := by simp only [bne, ew]; rfl
              have ein : (a.i != b.i) = false := by simp only [bne, ei]; rfl
              have ean : (a.a != b.a) = false := by simp only [bne, ea]; rfl
              have HF : Hid (V = false) := hide (by rw [HV.out]; unfold clashB rwB; simp only [dec_beq, ka1, ka2, kb1, kb2, ew, ei, ea]; rfl)
              go_enter Try.func32, Try.ntmps32
              go_wp2
              go_ret
              exact ⟨by rw [HF.out]; rfl, HBB.out⟩
            | false =>
              have ewn : (a.w != b.w) = false := by simp only [bne, ew]; rfl
              have ein : (a.i != b.i) = false := by simp only [bne, ei]; rfl
              have ean : (a.a != b.a) = true := by simp only [bne, ea]; rfl
              have HF : Hid (V = false) := hide (by rw [HV.out]; unfold clashB rwB; simp only [dec_beq, ka1, ka2, kb1, kb2, ew, ei, ea]; rfl)
              go_enter Try.func32, Try.ntmps32
              go_wp2
              go_ret
              exact ⟨by rw [HF.out]; rfl, HBB.out⟩
          | false =>
            cases ea : (a.a == b.a) with
            | true =>
              have ewn : (a.w != b.w) = false := by simp only [bne, ew]; rfl
              have ein : (a.i != b.i) = true := by simp only [bne, ei]; rfl
              have ean : (a.a != b.a) = false := by simp only [bne, ea]; rfl
              have HF : Hid (V = false) := hide (by rw [HV.out]; unfold clashB rwB; simp only [dec_beq, ka1, ka2, kb1, kb2, ew, ei, ea]; rfl)
              go_enter Try.func32, Try.ntmps32
              go_wp2
              go_ret
              exact ⟨by rw [HF.out]; rfl, HBB.out⟩
            | false =>
              have ewn : (a.w != b.w) = false := by simp only [bne, ew]; rfl
              have ein : (a.i != b.i) = true := by simp only [bne, ei]; rfl
              have ean : (a.a != b.a) = true := by simp only [bne, ea]; rfl
              have HF : Hid (V = false) := hide (by rw [HV.out]; unfold clashB rwB; simp only [dec_beq, ka1, ka2, kb1, kb2, ew, ei, ea]; rfl)
              go_enter Try.func32, Try.ntmps32
              go_wp2
              go_ret
              exact ⟨by rw [HF.out]; rfl, HBB.out⟩
        | false =>
          cases ei : (a.i == b.i) with
          | true =>
            cases ea : (a.a == b.a) with
            | true =>
              have ewn : (a.w != b.w) = true := by simp only [bne, ew]; rfl
              have ein : (a.i != b.i) = false := by simp only [bne, ei]; rfl
              have ean : (a.a != b.a) = false := by simp only [bne, ea]; rfl
              have HF : Hid (V = true) := hide (by rw [HV.out]; unfold clashB rwB; simp only [dec_beq, ka1, ka2, kb1, kb2, ew, ei, ea]; rfl)
              go_enter Try.func32, Try.ntmps32
              go_wp2
              go_ret
              exact ⟨by rw [HF.out]; rfl, HBB.out⟩
            | false =>
              have ewn : (a.w != b.w) = true := by simp only [bne, ew]; rfl
              have ein : (a.i != b.i) = false := by simp only [bne, ei]; rfl
              have ean : (a.a != b.a) = true := by simp only [bne, ea]; rfl
              have HF : Hid (V = false) := hide (by rw [HV.out]; unfold clashB rwB; simp only [dec_beq, ka1, ka2, kb1, kb2, ew, ei, ea]; rfl)
              go_enter Try.func32, Try.ntmps32
              go_wp2
              go_ret
              exact ⟨by rw [HF.out]; rfl, HBB.out⟩
          | false =>
            cases ea : (a.a == b.a) with
            | true =>
              have ewn : (a.w != b.w) = true := by simp only [bne, ew]; rfl
              have ein : (a.i != b.i) = true := by simp only [bne, ei]; rfl
              have ean : (a.a != b.a) = false := by simp only [bne, ea]; rfl
              have HF : Hid (V = false) := hide (by rw [HV.out]; unfold clashB rwB; simp only [dec_beq, ka1, ka2, kb1, kb2, ew, ei, ea]; rfl)
              go_enter Try.func32, Try.ntmps32
              go_wp2
              go_ret
              exact ⟨by rw [HF.out]; rfl, HBB.out⟩
            | false =>
              have ewn : (a.w != b.w) = true := by simp only [bne, ew]; rfl
              have ein : (a.i != b.i) = true := by simp only [bne, ei]; rfl
              have ean : (a.a != b.a) = true := by simp only [bne, ea]; rfl
              have HF : Hid (V = false) := hide (by rw [HV.out]; unfold clashB rwB; simp only [dec_beq, ka1, ka2, kb1, kb2, ew, ei, ea]; rfl)
              go_enter Try.func32, Try.ntmps32
              go_wp2
              go_ret
              exact ⟨by rw [HF.out]; rfl, HBB.out⟩
      | false =>
        cases kb2 : (b.k == 2) with
        | true =>
          cases ew : (a.w == b.w) with
          | true =>
            cases ei : (a.i == b.i) with
            | true =>
              cases ea : (a.a == b.a) with
              | true =>
                have ewn : (a.w != b.w) = false := by simp only [bne, ew]; rfl
                have ein : (a.i != b.i) = false := by simp only [bne, ei]; rfl
                have ean : (a.a != b.a) = false := by simp only [bne, ea]; rfl
                have HF : Hid (V = false) := hide (by rw [HV.out]; unfold clashB rwB; simp only [dec_beq, ka1, ka2, kb1, kb2, ew, ei, ea]; rfl)
                go_enter Try.func32, Try.ntmps32
                go_wp2
                go_ret
                exact ⟨by rw [HF.out]; rfl, HBB.out⟩
              | false =>
                have ewn : (a.w != b.w) = false := by simp only [bne, ew]; rfl
                have ein : (a.i != b.i) = false := by simp only [bne, ei]; rfl
                have ean : (a.a != b.a) = true := by simp only [bne, ea]; rfl
                have HF : Hid (V = false) := hide (by rw [HV.out]; unfold clashB rwB; simp only [dec_beq, ka1, ka2, kb1, kb2, ew, ei, ea]; rfl)
                go_enter Try.func32, Try.ntmps32
                go_wp2
                go_ret
                exact ⟨by rw [HF.out]; rfl, HBB.out⟩
            | false =>
              cases ea : (a.a == b.a) with
              | true =>
                have ewn : (a.w != b.w) = false := by simp only [bne, ew]; rfl
                have ein : (a.i != b.i) = true := by simp only [bne, ei]; rfl
                have ean : (a.a != b.a) = false := by simp only [bne, ea]; rfl
                have HF : Hid (V = false) := hide (by rw [HV.out]; unfold clashB rwB; simp only [dec_beq, ka1, ka2, kb1, kb2, ew, ei, ea]; rfl)
                go_enter Try.func32, Try.ntmps32
                go_wp2
                go_ret
                exact ⟨by rw [HF.out]; rfl, HBB.out⟩
              | false =>
                have ewn : (a.w != b.w) = false := by simp only [bne, ew]; rfl
                have ein : (a.i != b.i) = true := by simp only [bne, ei]; rfl
                have ean : (a.a != b.a) = true := by simp only [bne, ea]; rfl
                have HF : Hid (V = false) := hide (by rw [HV.out]; unfold clashB rwB; simp only [dec_beq, ka1, ka2, kb1, kb2, ew, ei, ea]; rfl)
                go_enter Try.func32, Try.ntmps32
                go_wp2
                go_ret
                exact ⟨by rw [HF.out]; rfl, HBB.out⟩
          | false =>
            cases ei : (a.i == b.i) with
            | true =>
              cases ea : (a.a == b.a) with
              | true =>
                have ewn : (a.w != b.w) = true := by simp only [bne, ew]; rfl
                have ein : (a.i != b.i) = false := by simp only [bne, ei]; rfl
                have ean : (a.a != b.a) = false := by simp only [bne, ea]; rfl
                have HF : Hid (V = true) := hide (by rw [HV.out]; unfold clashB rwB; simp only [dec_beq, ka1, ka2, kb1, kb2, ew, ei, ea]; rfl)
                go_enter Try.func32, Try.ntmps32
                go_wp2
                go_ret
                exact ⟨by rw [HF.out]; rfl, HBB.out⟩
              | false =>
                have ewn : (a.w != b.w) = true := by simp only [bne, ew]; rfl
                have ein : (a.i != b.i) = false := by simp only [bne, ei]; rfl
                have ean : (a.a != b.a) = true := by simp only [bne, ea]; rfl
                have HF : Hid (V = false) := hide (by rw [HV.out]; unfold clashB rwB; simp only [dec_beq, ka1, ka2, kb1, kb2, ew, ei, ea]; rfl)
                go_enter Try.func32, Try.ntmps32
                go_wp2
                go_ret
                exact ⟨by rw [HF.out]; rfl, HBB.out⟩
            | false =>
              cases ea : (a.a == b.a) with
              | true =>
                have ewn : (a.w != b.w) = true := by simp only [bne, ew]; rfl
                have ein : (a.i != b.i) = true := by simp only [bne, ei]; rfl
                have ean : (a.a != b.a) = false := by simp only [bne, ea]; rfl
                have HF : Hid (V = false) := hide (by rw [HV.out]; unfold clashB rwB; simp only [dec_beq, ka1, ka2, kb1, kb2, ew, ei, ea]; rfl)
                go_enter Try.func32, Try.ntmps32
                go_wp2
                go_ret
                exact ⟨by rw [HF.out]; rfl, HBB.out⟩
              | false =>
                have ewn : (a.w != b.w) = true := by simp only [bne, ew]; rfl
                have ein : (a.i != b.i) = true := by simp only [bne, ei]; rfl
                have ean : (a.a != b.a) = true := by simp only [bne, ea]; rfl
                have HF : Hid (V = false) := hide (by rw [HV.out]; unfold clashB rwB; simp only [dec_beq, ka1, ka2, kb1, kb2, ew, ei, ea]; rfl)
                go_enter Try.func32, Try.ntmps32
                go_wp2
                go_ret
                exact ⟨by rw [HF.out]; rfl, HBB.out⟩
        | false =>
          cases ew : (a.w == b.w) with
          | true =>
            cases ei : (a.i == b.i) with
            | true =>
              cases ea : (a.a == b.a) with
              | true =>
                have ewn : (a.w != b.w) = false := by simp only [bne, ew]; rfl
                have ein : (a.i != b.i) = false := by simp only [bne, ei]; rfl
                have ean : (a.a != b.a) = false := by simp only [bne, ea]; rfl
                have HF : Hid (V = false) := hide (by rw [HV.out]; unfold clashB rwB; simp only [dec_beq, ka1, ka2, kb1, kb2, ew, ei, ea]; rfl)
                go_enter Try.func32, Try.ntmps32
                go_wp2
                go_ret
                exact ⟨by rw [HF.out]; rfl, HBB.out⟩
              | false =>
                have ewn : (a.w != b.w) = false := by simp only [bne, ew]; rfl
                have ein : (a.i != b.i) = false := by simp only [bne, ei]; rfl
                have ean : (a.a != b.a) = true := by simp only [bne, ea]; rfl
                have HF : Hid (V = false) := hide (by rw [HV.out]; unfold clashB rwB; simp only [dec_beq, ka1, ka2, kb1, kb2, ew, ei, ea]; rfl)
                go_enter Try.func32, Try.ntmps32
                go_wp2
                go_ret
                exact ⟨by rw [HF.out]; rfl, HBB.out⟩
            | false =>
              cases ea : (a.a == b.a) with
              | true =>
                have ewn : (a.w != b.w) = false := by simp only [bne, ew]; rfl
                have ein : (a.i != b.i) = true := by simp only [bne, ei]; rfl
                have ean : (a.a != b.a) = false := by simp only [bne, ea]; rfl
                have HF : Hid (V = false) := hide (by rw [HV.out]; unfold clashB rwB; simp only [dec_beq, ka1, ka2, kb1, kb2, ew, ei, ea]; rfl)
                go_enter Try.func32, Try.ntmps32
                go_wp2
                go_ret
                exact ⟨by rw [HF.out]; rfl, HBB.out⟩
              | false =>
                have ewn : (a.w != b.w) = false := by simp only [bne, ew]; rfl
                have ein : (a.i != b.i) = true := by simp only [bne, ei]; rfl
                have ean : (a.a != b.a) = true := by simp only [bne, ea]; rfl
                have HF : Hid (V = false) := hide (by rw [HV.out]; unfold clashB rwB; simp only [dec_beq, ka1, ka2, kb1, kb2, ew, ei, ea]; rfl)
                go_enter Try.func32, Try.ntmps32
                go_wp2
                go_ret
                exact ⟨by rw [HF.out]; rfl, HBB.out⟩
          | false =>
            cases ei : (a.i == b.i) with
            | true =>
              cases ea : (a.a == b.a) with
              | true =>
                have ewn : (a.w != b.w) = true := by simp only [bne, ew]; rfl
                have ein : (a.i != b.i) = false := by simp only [bne, ei]; rfl
                have ean : (a.a != b.a) = false := by simp only [bne, ea]; rfl
                have HF : Hid (V = false) := hide (by rw [HV.out]; unfold clashB rwB; simp only [dec_beq, ka1, ka2, kb1, kb2, ew, ei, ea]; rfl)
                go_enter Try.func32, Try.ntmps32
                go_wp2
                go_ret
                exact ⟨by rw [HF.out]; rfl, HBB.out⟩
              | false =>
                have ewn : (a.w != b.w) = true := by simp only [bne, ew]; rfl
                have ein : (a.i != b.i) = false := by simp only [bne, ei]; rfl
                have ean : (a.a != b.a) = true := by simp only [bne, ea]; rfl
                have HF : Hid (V = false) := hide (by rw [HV.out]; unfold clashB rwB; simp only [dec_beq, ka1, ka2, kb1, kb2, ew, ei, ea]; rfl)
                go_enter Try.func32, Try.ntmps32
                go_wp2
                go_ret
                exact ⟨by rw [HF.out]; rfl, HBB.out⟩
            | false =>
              cases ea : (a.a == b.a) with
              | true =>
                have ewn : (a.w != b.w) = true := by simp only [bne, ew]; rfl
                have ein : (a.i != b.i) = true := by simp only [bne, ei]; rfl
                have ean : (a.a != b.a) = false := by simp only [bne, ea]; rfl
                have HF : Hid (V = false) := hide (by rw [HV.out]; unfold clashB rwB; simp only [dec_beq, ka1, ka2, kb1, kb2, ew, ei, ea]; rfl)
                go_enter Try.func32, Try.ntmps32
                go_wp2
                go_ret
                exact ⟨by rw [HF.out]; rfl, HBB.out⟩
              | false =>
                have ewn : (a.w != b.w) = true := by simp only [bne, ew]; rfl
                have ein : (a.i != b.i) = true := by simp only [bne, ei]; rfl
                have ean : (a.a != b.a) = true := by simp only [bne, ea]; rfl
                have HF : Hid (V = false) := hide (by rw [HV.out]; unfold clashB rwB; simp only [dec_beq, ka1, ka2, kb1, kb2, ew, ei, ea]; rfl)
                go_enter Try.func32, Try.ntmps32
                go_wp2
                go_ret
                exact ⟨by rw [HF.out]; rfl, HBB.out⟩
    | false =>
      cases kb1 : (b.k == 1) with
      | true =>
        have kb2 : (b.k == 2) = false := by rw [eq_of_beq kb1]; rfl
        cases ew : (a.w == b.w) with
        | true =>
          cases ei : (a.i == b.i) with
          | true =>
            cases ea : (a.a == b.a) with
            | true =>
              have ewn : (a.w != b.w) = false := by simp only [bne, ew]; rfl
              have ein : (a.i != b.i) = false := by simp only [bne, ei]; rfl
              have ean : (a.a != b.a) = false := by simp only [bne, ea]; rfl
              have HF : Hid (V = false) := hide (by rw [HV.out]; unfold clashB rwB; simp only [dec_beq, ka1, ka2, kb1, kb2, ew, ei, ea]; rfl)
              go_enter Try.func32, Try.ntmps32
              go_wp2
              go_ret
              exact ⟨by rw [HF.out]; rfl, HBB.out⟩
            | false =>
              have ewn : (a.w != b.w) = false := by simp only [bne, ew]; rfl
              have ein : (a.i != b.i) = false := by simp only [bne, ei]; rfl
              have ean : (a.a != b.a) = true := by simp only [bne, ea]; rfl
              have HF : Hid (V = false) := hide (by rw [HV.out]; unfold clashB rwB; simp only [dec_beq, ka1, ka2, kb1, kb2, ew, ei, ea]; rfl)
              go_enter Try.func32, Try.ntmps32
              go_wp2
              go_ret
              exact ⟨by rw [HF.out]; rfl, HBB.out⟩
          | false =>
            cases ea : (a.a == b.a) with
            | true =>
              have ewn : (a.w != b.w) = false := by simp only [bne, ew]; rfl
              have ein : (a.i != b.i) = true := by simp only [bne, ei]; rfl
              have ean : (a.a != b.a) = false := by simp only [bne, ea]; rfl
              have HF : Hid (V = false) := hide (by rw [HV.out]; unfold clashB rwB; simp only [dec_beq, ka1, ka2, kb1, kb2, ew, ei, ea]; rfl)
              go_enter Try.func32, Try.ntmps32
              go_wp2
              go_ret
              exact ⟨by rw [HF.out]; rfl, HBB.out⟩
            | false =>
              have ewn : (a.w != b.w) = false := by simp only [bne, ew]; rfl
              have ein : (a.i != b.i) = true := by simp only [bne, ei]; rfl
              have ean : (a.a != b.a) = true := by simp only [bne, ea]; rfl
              have HF : Hid (V = false) := hide (by rw [HV.out]; unfold clashB rwB; simp only [dec_beq, ka1, ka2, kb1, kb2, ew, ei, ea]; rfl)
              go_enter Try.func32, Try.ntmps32
              go_wp2
              go_ret
              exact ⟨by rw [HF.out]; rfl, HBB.out⟩
        | false =>
          cases ei : (a.i == b.i) with
          | true =>
            cases ea : (a.a == b.a) with
            | true =>
              have ewn : (a.w != b.w) = true := by simp only [bne, ew]; rfl
              have ein : (a.i != b.i) = false := by simp only [bne, ei]; rfl
              have ean : (a.a != b.a) = false := by simp only [bne, ea]; rfl
              have HF : Hid (V = false) := hide (by rw [HV.out]; unfold clashB rwB; simp only [dec_beq, ka1, ka2, kb1, kb2, ew, ei, ea]; rfl)
              go_enter Try.func32, Try.ntmps32
              go_wp2
              go_ret
              exact ⟨by rw [HF.out]; rfl, HBB.out⟩
            | false =>
              have ewn : (a.w != b.w) = true := by simp only [bne, ew]; rfl
              have ein : (a.i != b.i) = false := by simp only [bne, ei]; rfl
              have ean : (a.a != b.a) = true := by simp only [bne, ea]; rfl
              have HF : Hid (V = false) := hide (by rw [HV.out]; unfold clashB rwB; simp only [dec_beq, ka1, ka2, kb1, kb2, ew, ei, ea]; rfl)
              go_enter Try.func32, Try.ntmps32
              go_wp2
              go_ret
              exact ⟨by rw [HF.out]; rfl, HBB.out⟩
          | false =>
            cases ea : (a.a == b.a) with
            | true =>
              have ewn : (a.w != b.w) = true := by simp only [bne, ew]; rfl
              have ein : (a.i != b.i) = true := by simp only [bne, ei]; rfl
              have ean : (a.a != b.a) = false := by simp only [bne, ea]; rfl
              have HF : Hid (V = false) := hide (by rw [HV.out]; unfold clashB rwB; simp only [dec_beq, ka1, ka2, kb1, kb2, ew, ei, ea]; rfl)
              go_enter Try.func32, Try.ntmps32
              go_wp2
              go_ret
              exact ⟨by rw [HF.out]; rfl, HBB.out⟩
            | false =>
              have ewn : (a.w != b.w) = true := by simp only [bne, ew]; rfl
              have ein : (a.i != b.i) = true := by simp only [bne, ei]; rfl
              have ean : (a.a != b.a) = true := by simp only [bne, ea]; rfl
              have HF : Hid (V = false) := hide (by rw [HV.out]; unfold clashB rwB; simp only [dec_beq, ka1, ka2, kb1, kb2, ew, ei, ea]; rfl)
              go_enter Try.func32, Try.ntmps32
              go_wp2
              go_ret
              exact ⟨by rw [HF.out]; rfl, HBB.out⟩
      | false =>
        cases kb2 : (b.k == 2) with
        | true =>
          cases ew : (a.w == b.w) with
          | true =>
            cases ei : (a.i == b.i) with
            | true =>
              cases ea : (a.a == b.a) with
              | true =>
                have ewn : (a.w != b.w) = false := by simp only [bne, ew]; rfl
                have ein : (a.i != b.i) = false := by simp only [bne, ei]; rfl
                have ean : (a.a != b.a) = false := by simp only [bne, ea]; rfl
                have HF : Hid (V = false) := hide (by rw [HV.out]; unfold clashB rwB; simp only [dec_beq, ka1, ka2, kb1, kb2, ew, ei, ea]; rfl)
                go_enter Try.func32, Try.ntmps32
                go_wp2
                go_ret
                exact ⟨by rw [HF.out]; rfl, HBB.out⟩
              | false =>
                have ewn : (a.w != b.w) = false := by simp only [bne, ew]; rfl
                have ein : (a.i != b.i) = false := by simp only [bne, ei]; rfl
                have ean : (a.a != b.a) = true := by simp only [bne, ea]; rfl
                have HF : Hid (V = false) := hide (by rw [HV.out]; unfold clashB rwB; simp only [dec_beq, ka1, ka2, kb1, kb2, ew, ei, ea]; rfl)
                go_enter Try.func32, Try.ntmps32
                go_wp2
                go_ret
                exact ⟨by rw [HF.out]; rfl, HBB.out⟩
            | false =>
              cases ea : (a.a == b.a) with
              | true =>
                have ewn : (a.w != b.w) = false := by simp only [bne, ew]; rfl
                have ein : (a.i != b.i) = true := by simp only [bne, ei]; rfl
                have ean : (a.a != b.a) = false := by simp only [bne, ea]; rfl
                have HF : Hid (V = false) := hide (by rw [HV.out]; unfold clashB rwB; simp only [dec_beq, ka1, ka2, kb1, kb2, ew, ei, ea]; rfl)
                go_enter Try.func32, Try.ntmps32
                go_wp2
                go_ret
                exact ⟨by rw [HF.out]; rfl, HBB.out⟩
              | false =>
                have ewn : (a.w != b.w) = false := by simp only [bne, ew]; rfl
                have ein : (a.i != b.i) = true := by simp only [bne, ei]; rfl
                have ean : (a.a != b.a) = true := by simp only [bne, ea]; rfl
                have HF : Hid (V = false) := hide (by rw [HV.out]; unfold clashB rwB; simp only [dec_beq, ka1, ka2, kb1, kb2, ew, ei, ea]; rfl)
                go_enter Try.func32, Try.ntmps32
                go_wp2
                go_ret
                exact ⟨by rw [HF.out]; rfl, HBB.out⟩
          | false =>
            cases ei : (a.i == b.i) with
            | true =>
              cases ea : (a.a == b.a) with
              | true =>
                have ewn : (a.w != b.w) = true := by simp only [bne, ew]; rfl
                have ein : (a.i != b.i) = false := by simp only [bne, ei]; rfl
                have ean : (a.a != b.a) = false := by simp only [bne, ea]; rfl
                have HF : Hid (V = false) := hide (by rw [HV.out]; unfold clashB rwB; simp only [dec_beq, ka1, ka2, kb1, kb2, ew, ei, ea]; rfl)
                go_enter Try.func32, Try.ntmps32
                go_wp2
                go_ret
                exact ⟨by rw [HF.out]; rfl, HBB.out⟩
              | false =>
                have ewn : (a.w != b.w) = true := by simp only [bne, ew]; rfl
                have ein : (a.i != b.i) = false := by simp only [bne, ei]; rfl
                have ean : (a.a != b.a) = true := by simp only [bne, ea]; rfl
                have HF : Hid (V = false) := hide (by rw [HV.out]; unfold clashB rwB; simp only [dec_beq, ka1, ka2, kb1, kb2, ew, ei, ea]; rfl)
                go_enter Try.func32, Try.ntmps32
                go_wp2
                go_ret
                exact ⟨by rw [HF.out]; rfl, HBB.out⟩
            | false =>
              cases ea : (a.a == b.a) with
              | true =>
                have ewn : (a.w != b.w) = true := by simp only [bne, ew]; rfl
                have ein : (a.i != b.i) = true := by simp only [bne, ei]; rfl
                have ean : (a.a != b.a) = false := by simp only [bne, ea]; rfl
                have HF : Hid (V = false) := hide (by rw [HV.out]; unfold clashB rwB; simp only [dec_beq, ka1, ka2, kb1, kb2, ew, ei, ea]; rfl)
                go_enter Try.func32, Try.ntmps32
                go_wp2
                go_ret
                exact ⟨by rw [HF.out]; rfl, HBB.out⟩
              | false =>
                have ewn : (a.w != b.w) = true := by simp only [bne, ew]; rfl
                have ein : (a.i != b.i) = true := by simp only [bne, ei]; rfl
                have ean : (a.a != b.a) = true := by simp only [bne, ea]; rfl
                have HF : Hid (V = false) := hide (by rw [HV.out]; unfold clashB rwB; simp only [dec_beq, ka1, ka2, kb1, kb2, ew, ei, ea]; rfl)
                go_enter Try.func32, Try.ntmps32
                go_wp2
                go_ret
                exact ⟨by rw [HF.out]; rfl, HBB.out⟩
        | false =>
          cases ew : (a.w == b.w) with
          | true =>
            cases ei : (a.i == b.i) with
            | true =>
              cases ea : (a.a == b.a) with
              | true =>
                have ewn : (a.w != b.w) = false := by simp only [bne, ew]; rfl
                have ein : (a.i != b.i) = false := by simp only [bne, ei]; rfl
                have ean : (a.a != b.a) = false := by simp only [bne, ea]; rfl
                have HF : Hid (V = false) := hide (by rw [HV.out]; unfold clashB rwB; simp only [dec_beq, ka1, ka2, kb1, kb2, ew, ei, ea]; rfl)
                go_enter Try.func32, Try.ntmps32
                go_wp2
                go_ret
                exact ⟨by rw [HF.out]; rfl, HBB.out⟩
              | false =>
                have ewn : (a.w != b.w) = false := by simp only [bne, ew]; rfl
                have ein : (a.i != b.i) = false := by simp only [bne, ei]; rfl
                have ean : (a.a != b.a) = true := by simp only [bne, ea]; rfl
                have HF : Hid (V = false) := hide (by rw [HV.out]; unfold clashB rwB; simp only [dec_beq, ka1, ka2, kb1, kb2, ew, ei, ea]; rfl)
                go_enter Try.func32, Try.ntmps32
                go_wp2
                go_ret
                exact ⟨by rw [HF.out]; rfl, HBB.out⟩
            | false =>
              cases ea : (a.a == b.a) with
              | true =>
                have ewn : (a.w != b.w) = false := by simp only [bne, ew]; rfl
                have ein : (a.i != b.i) = true := by simp only [bne, ei]; rfl
                have ean : (a.a != b.a) = false := by simp only [bne, ea]; rfl
                have HF : Hid (V = false) := hide (by rw [HV.out]; unfold clashB rwB; simp only [dec_beq, ka1, ka2, kb1, kb2, ew, ei, ea]; rfl)
                go_enter Try.func32, Try.ntmps32
                go_wp2
                go_ret
                exact ⟨by rw [HF.out]; rfl, HBB.out⟩
              | false =>
                have ewn : (a.w != b.w) = false := by simp only [bne, ew]; rfl
                have ein : (a.i != b.i) = true := by simp only [bne, ei]; rfl
                have ean : (a.a != b.a) = true := by simp only [bne, ea]; rfl
                have HF : Hid (V = false) := hide (by rw [HV.out]; unfold clashB rwB; simp only [dec_beq, ka1, ka2, kb1, kb2, ew, ei, ea]; rfl)
                go_enter Try.func32, Try.ntmps32
                go_wp2
                go_ret
                exact ⟨by rw [HF.out]; rfl, HBB.out⟩
          | false =>
            cases ei : (a.i == b.i) with
            | true =>
              cases ea : (a.a == b.a) with
              | true =>
                have ewn : (a.w != b.w) = true := by simp only [bne, ew]; rfl
                have ein : (a.i != b.i) = false := by simp only [bne, ei]; rfl
                have ean : (a.a != b.a) = false := by simp only [bne, ea]; rfl
                have HF : Hid (V = false) := hide (by rw [HV.out]; unfold clashB rwB; simp only [dec_beq, ka1, ka2, kb1, kb2, ew, ei, ea]; rfl)
                go_enter Try.func32, Try.ntmps32
                go_wp2
                go_ret
                exact ⟨by rw [HF.out]; rfl, HBB.out⟩
              | false =>
                have ewn : (a.w != b.w) = true := by simp only [bne, ew]; rfl
                have ein : (a.i != b.i) = false := by simp only [bne, ei]; rfl
                have ean : (a.a != b.a) = true := by simp only [bne, ea]; rfl
                have HF : Hid (V = false) := hide (by rw [HV.out]; unfold clashB rwB; simp only [dec_beq, ka1, ka2, kb1, kb2, ew, ei, ea]; rfl)
                go_enter Try.func32, Try.ntmps32
                go_wp2
                go_ret
                exact ⟨by rw [HF.out]; rfl, HBB.out⟩
            | false =>
              cases ea : (a.a == b.a) with
              | true =>
                have ewn : (a.w != b.w) = true := by simp only [bne, ew]; rfl
                have ein : (a.i != b.i) = true := by simp only [bne, ei]; rfl
                have ean : (a.a != b.a) = false := by simp only [bne, ea]; rfl
                have HF : Hid (V = false) := hide (by rw [HV.out]; unfold clashB rwB; simp only [dec_beq, ka1, ka2, kb1, kb2, ew, ei, ea]; rfl)
                go_enter Try.func32, Try.ntmps32
                go_wp2
                go_ret
                exact ⟨by rw [HF.out]; rfl, HBB.out⟩
              | false =>
                have ewn : (a.w != b.w) = true := by simp only [bne, ew]; rfl
                have ein : (a.i != b.i) = true := by simp only [bne, ei]; rfl
                have ean : (a.a != b.a) = true := by simp only [bne, ea]; rfl
                have HF : Hid (V = false) := hide (by rw [HV.out]; unfold clashB rwB; simp only [dec_beq, ka1, ka2, kb1, kb2, ew, ei, ea]; rfl)
                go_enter Try.func32, Try.ntmps32
                go_wp2
                go_ret
                exact ⟨by rw [HF.out]; rfl, HBB.out⟩
end Go.Proofs.Ytllghgcancennaa
