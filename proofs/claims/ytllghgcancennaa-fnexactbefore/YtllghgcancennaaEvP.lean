/-
  Events in the program: EventsOk.
-/
import Derived.Test.YtllghgcancennaaEvM
import Derived.Test.YtllghgcancennaaBldV
namespace Go.Proofs.Ytllghgcancennaa
open Go.RowKit

theorem evAll_no {xs : List Evt} {j : Nat} (hj : j < xs.length) (h : evAt (xs.getD j default) = false) : xs.all evAt = false := by
  cases c : xs.all evAt with
  | false => rfl
  | true =>
    rw [List.all_eq_true] at c
    have := c (xs.getD j default) (by rw [List.getD_eq_getElem?_getD, List.getElem?_eq_getElem hj]; exact List.getElem_mem hj)
    rw [h] at this
    cases this
theorem evAll_yes {xs : List Evt} (h : ∀ i, i < xs.length → evAt (xs.getD i default) = true) : xs.all evAt = true := by
  rw [List.all_eq_true]
  intro y hy
  obtain ⟨i, hi, rfl⟩ := List.getElem_of_mem hy
  have := h i hi
  rwa [List.getD_eq_getElem?_getD, List.getElem?_eq_getElem hi] at this
set_option maxRecDepth 100000 in
set_option maxHeartbeats 4000000 in
theorem onumI (w : World) (q : Int) : Calls Try.prog 75 #[.int .i64 q] w fun e w' => e = .returned (.bool (inB q 1 1000000)) ∧ w' = w := by
  go_enter Try.func75, Try.ntmps75
  go_wp2_with fail
  refine (inImpl _ _ _ _).mono ?_
  rintro e x2 ⟨rfl, hx2⟩
  rw [hx2]
  clear hx2 x2
  go_wp2
  go_ret
  exact ⟨rfl, rfl⟩
set_option maxRecDepth 100000 in
set_option maxHeartbeats 8000000 in
theorem rightI (w : World) (y : Evt) :
    Calls Try.prog 63 #[.agg #[.int .i64 y.w, .int .i64 y.k, .int .i64 y.i, .int .i64 y.a]] w fun e w' => e = .returned (.bool (evAt y)) ∧ Below w.heap.size w w' := by
  obtain ⟨V, hV⟩ : ∃ V, evAt y = V := ⟨_, rfl⟩
  have HV := hide hV
  rw [hV]
  clear hV
  go_enter Try.func63, Try.ntmps63
  go_upto_region 1 with fail
  have bA := (Below.refl w.heap.size w).alloc (Nat.le_refl _) (.cells #[.int .i64 y.w, .int .i64 y.k, .int .i64 y.i, .int .i64 y.a] 40)
  have EF := hide (heap_alloc_new w (.cells #[.int .i64 y.w, .int .i64 y.k, .int .i64 y.i, .int .i64 y.a] 40))
  have HBw := hide bA
  clear bA
  obtain ⟨gf, hgf⟩ : ∃ g, w.heap.size = g := ⟨_, rfl⟩
  rw [hgf] at EF ⊢
  clear hgf
  generalize w.alloc (.cells #[.int .i64 y.w, .int .i64 y.k, .int .i64 y.i, .int .i64 y.a] 40) = W2 at *
  have k0 := (box_of EF.out).1 0 _ rfl
  have k1 := (box_of EF.out).1 1 _ rfl
  have k2 := (box_of EF.out).1 2 _ rfl
  have k3 := (box_of EF.out).1 3 _ rfl
  go_wp2_with fail
  refine (onumI _ _).mono ?_
  rintro e x2 ⟨rfl, hx2⟩
  rw [hx2]
  clear hx2 x2
  cases c0 : inB y.w 1 1000000 with
  | false =>
    have HF : Hid (V = false) := hide (by rw [← HV.out]; unfold evAt; rw [c0]; rfl)
    go_wp2
    go_ret
    exact ⟨by rw [HF.out]; rfl, HBw.out⟩
  | true =>
    go_wp2_with fail
    refine (inImpl _ _ _ _).mono ?_
    rintro e x2 ⟨rfl, hx2⟩
    rw [hx2]
    clear hx2 x2
    cases c1 : inB y.k 0 6 with
    | false =>
      have HF : Hid (V = false) := hide (by rw [← HV.out]; unfold evAt; rw [c0, c1]; rfl)
      go_wp2
      go_ret
      exact ⟨by rw [HF.out]; rfl, HBw.out⟩
    | true =>
      go_wp2_with fail
      refine (inImpl _ _ _ _).mono ?_
      rintro e x2 ⟨rfl, hx2⟩
      rw [hx2]
      clear hx2 x2
      cases c2 : inB y.i 0 1000000 with
      | false =>
        have HF : Hid (V = false) := hide (by rw [← HV.out]; unfold evAt; rw [c0, c1, c2]; rfl)
        go_wp2
        go_ret
        exact ⟨by rw [HF.out]; rfl, HBw.out⟩
      | true =>
        go_wp2_with fail
        refine (inImpl _ _ _ _).mono ?_
        rintro e x2 ⟨rfl, hx2⟩
        rw [hx2]
        clear hx2 x2
        have HF : Hid (V = inB y.a 0 7) := hide (by rw [← HV.out]; unfold evAt; rw [c0, c1, c2]; rfl)
        clear c0 c1 c2
        go_wp2
        go_ret
        exact ⟨by rw [HF.out]; rfl, HBw.out⟩
set_option maxRecDepth 100000 in
set_option maxHeartbeats 8000000 in
theorem eachEvI (w : World) (xs : List Evt) (u : Value) (h : Reads w w.heap.size (evts xs) u) (hm : xs.length ≤ 1048576) :
    Calls Try.prog 62 #[u, .int .i64 3000, .func (.func 63) #[] #[]] w fun e w' => e = .returned (.bool (evB xs)) ∧ Below w.heap.size w w' := by
  have HR := hide h
  obtain ⟨a1, c1, e1, _⟩ := h.shape
  subst e1
  clear h
  by_cases hl : xs.length ≤ 3000
  case neg =>
    have HF : Hid (evB xs = false) := hide (by unfold evB; rw [decide_eq_false hl, Bool.and_false])
    go_enter Try.func62, Try.ntmps62
    go_wp2
    go_ret
    exact ⟨by rw [HF.out]; rfl, Below.refl _ _⟩
  have HE : Hid (evB xs = xs.all evAt) := hide (by unfold evB; rw [decide_eq_true hl, Bool.and_true])
  have HN : Hid (∀ j, j < xs.length → evAt (xs.getD j default) = false → xs.all evAt = false) := hide (fun j h1 h2 => evAll_no h1 h2)
  have HYs : Hid ((∀ i, i < xs.length → evAt (xs.getD i default) = true) → xs.all evAt = true) := hide (fun h => evAll_yes h)
  rw [HE.out]
  generalize xs.all evAt = V at *
  clear HE
  go_enter Try.func62, Try.ntmps62
  go_wp2
  go_loopw [15] (fun i wr => ∃ j : Nat, j ≤ xs.length ∧ i = .int .i64 (j : Int) ∧ Hid (Below w.heap.size w wr) ∧ Hid (∀ i, i < j → evAt (xs.getD i default) = true)) (fun i _ => xs.length - (intOf i).toNat)
  case atStart => exact ⟨0, Nat.zero_le _, rfl, hide (Below.refl _ _), hide (fun i hi => by omega)⟩
  case round =>
    obtain ⟨j, hj, rfl, HBr, HQ⟩ := hrel
    by_cases hlt : j < xs.length
    · skip
      obtain ⟨a', cap', ea, hcap, _, hc⟩ := event_at (HR.out.at HBr.out)
      cases ea
      obtain ⟨b, o, rfl, hbb, hcell⟩ := hc (by omega)
      obtain ⟨d0, d1, d2, d3⟩ := hcell j hlt
      clear hcell hc
      obtain ⟨y, hy⟩ : ∃ y, xs.getD j default = y := ⟨_, rfl⟩
      rw [hy] at d0 d1 d2 d3
      have HY := hide hy
      clear hy
      go_wp2_with fail
      have b1 := (Below.refl wr.heap.size wr).alloc (Nat.le_refl _) (.cells #[.int .i64 y.w, .int .i64 y.k, .int .i64 y.i, .int .i64 y.a] 40)
      replace HBr := hide (HBr.out.trans (b1.mono HBr.out.size))
      clear b1 d0 d1 d2 d3
      generalize wr.alloc (.cells #[.int .i64 y.w, .int .i64 y.k, .int .i64 y.i, .int .i64 y.a] 40) = W at *
      refine (rightI _ y).mono ?_
      rintro e w1 ⟨rfl, b1⟩
      replace HBr := hide (HBr.out.trans (b1.mono HBr.out.size))
      clear b1
      cases c : evAt y with
      | false =>
        have HF : Hid (V = false) := hide (HN.out j hlt (by rw [HY.out]; exact c))
        go_wp2
        go_ret
        exact ⟨by rw [HF.out]; rfl, HBr.out⟩
      | true =>
        have HQ2 : Hid (∀ i, i < j + 1 → evAt (xs.getD i default) = true) := hide (fun i hi => by
          rcases Nat.lt_succ_iff_lt_or_eq.1 hi with h | rfl
          · exact HQ.out i h
          · rw [HY.out]; exact c)
        go_wp2
        exact ⟨⟨j + 1, by omega, by go_num, HBr, HQ2⟩, by simp [intOf]; omega⟩
    · obtain rfl : j = xs.length := by omega
      have HF : Hid (V = true) := hide (HYs.out HQ.out)
      go_wp2
      go_ret
      exact ⟨by rw [HF.out]; rfl, HBr.out⟩
set_option maxRecDepth 100000 in
set_option maxHeartbeats 4000000 in
theorem eventsOkI (w : World) (xs : List Evt) (v : Value) (h : Reads w w.heap.size (evts xs) v) (hm : xs.length ≤ 1048576) :
    Calls Try.prog 39 #[v] w fun e w' => e = .returned (.bool (evB xs)) ∧ Below w.heap.size w w' := by
  have HR := hide h
  obtain ⟨a1, c1, e1, _⟩ := h.shape
  subst e1
  clear h
  go_enter Try.func39, Try.ntmps39
  go_wp2_with fail
  refine (eachEvI _ xs _ HR.out hm).mono ?_
  rintro e w1 ⟨rfl, b1⟩
  have HB := hide b1
  clear b1
  go_wp2
  go_ret
  exact ⟨rfl, HB.out⟩
end Go.Proofs.Ytllghgcancennaa
