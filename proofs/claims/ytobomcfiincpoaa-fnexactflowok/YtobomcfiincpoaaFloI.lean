/-
  FlowOk and Meet in the program.
-/
import Derived.Test.YtobomcfiincpoaaFloM
import Derived.Test.YtobomcfiincpoaaTypI
import Derived.Test.YtobomcfiincpoaaStepX
import Derived.Test.YtobomcfiincpoaaDeepF
namespace Go.Proofs.Ytobomcfiincpoaa
open Go.RowKit

set_option maxRecDepth 100000 in
set_option maxHeartbeats 4000000 in
theorem flowC (w : World) (x : Pg) (u : Value) (p : Nat) (t : Ty) (h : Reads w w.heap.size (kins x.k) u) (hm : x.k.length ≤ 1048576) (hp : w.cell? ⟨p, 0, none⟩ = some u) (hpl : p < w.heap.size) :
    Calls Try.prog 24 #[tyV t, .pointer (some ⟨p, 0, none⟩)] w fun e w' => e = .returned (.bool (tyB x.k t)) ∧ Below w.heap.size w w' := by
  have HR := hide h
  obtain ⟨a1, c1, e1, _⟩ := h.shape
  subst e1
  clear h
  have bA := ((Below.refl w.heap.size w).alloc (Nat.le_refl _) (.cells #[.int .i64 t.k, .int .i64 t.c] 51))
  have G0 := heap_alloc_new w (.cells #[.int .i64 t.k, .int .i64 t.c] 51)
  have E0 := hide (G0)
  have HB := hide bA
  replace HR := hide (HR.out.at bA)
  have q0 := (bA.cell (p := ⟨p, 0, none⟩) hpl).trans hp
  clear bA G0 hp
  unfold tyV
  go_enter Try.func24, Try.ntmps24
  go_wp2_with fail
  generalize (w.alloc (.cells #[.int .i64 t.k, .int .i64 t.c] 51)) = W at *
  refine (typeOkI _ x _ t HR.out hm).mono ?_
  rintro e w1 ⟨rfl, b1⟩
  replace HB := hide (HB.out.trans (b1.mono HB.out.size))
  clear b1
  go_wp2
  go_ret
  exact ⟨rfl, HB.out⟩
def eaB (ks : List Kd) (l : List Ty) : Bool := decide (l.length ≤ 6) && l.all (tyB ks)
set_option maxRecDepth 100000 in
set_option maxHeartbeats 4000000 in
theorem eachI (w : World) (x : Pg) (u : Value) (l : List Ty) (v : Value) (p : Nat) (h : Reads w w.heap.size (kins x.k) u) (hl : Reads w w.heap.size (tys l) v) (hm : x.k.length ≤ 1048576) (hln : l.length ≤ 1048576) (hp : w.cell? ⟨p, 0, none⟩ = some u) (hpl : p < w.heap.size) :
    Calls Try.prog 26 #[v, .int .i64 6, .func (.func 24) #[] #[.pointer (some ⟨p, 0, none⟩)]] w fun e w' => e = .returned (.bool (eaB x.k l)) ∧ Below w.heap.size w w' := by
  have HR := hide h
  have HL := hide hl
  obtain ⟨a1, c1, e1, _⟩ := h.shape
  obtain ⟨a2, c2, e2, _⟩ := hl.shape
  subst e1 e2
  clear h hl
  have HV1 : Hid (¬ l.length ≤ 6 → eaB x.k l = false) := hide (fun h => by unfold eaB; rw [decide_eq_false h]; rfl)
  have HV2 : Hid (l.all (tyB x.k) = false → eaB x.k l = false) := hide (fun h => by unfold eaB; rw [h]; simp)
  have HV3 : Hid (l.length ≤ 6 → l.all (tyB x.k) = true → eaB x.k l = true) := hide (fun h h' => by unfold eaB; rw [h', decide_eq_true h]; rfl)
  generalize eaB x.k l = V at *
  by_cases g : l.length ≤ 6
  · have g' : ¬ ((l.length : Int) > 6) := by omega
    go_enter Try.func26, Try.ntmps26
    go_wp2
    go_loopw [15] (fun i wr => ∃ j : Nat, j ≤ l.length ∧ i = .int .i64 (j : Int) ∧ Hid (Below w.heap.size w wr) ∧ Hid (∀ i, i < j → tyB x.k (l.getD i default) = true)) (fun i _ => l.length - (intOf i).toNat)
    case atStart => exact ⟨0, Nat.zero_le _, rfl, hide (Below.refl _ _), hide (fun i hi => by omega)⟩
    case round =>
      obtain ⟨j, hj, rfl, HB, HQ⟩ := hrel
      by_cases hlt : j < l.length
      · obtain ⟨a', cap', ea, hcap, _, hc⟩ := type_at (HL.out.at HB.out)
        cases ea
        obtain ⟨b, o, rfl, hbb, hcell⟩ := hc (by omega)
        obtain ⟨d0, d1⟩ := hcell j hlt
        clear hcell hc
        obtain ⟨y, hy⟩ : ∃ y, l.getD j default = y := ⟨_, rfl⟩
        rw [hy] at d0 d1
        have HY := hide hy
        clear hy
        go_wp2_with fail
        have b1 := (Below.refl wr.heap.size wr).alloc (Nat.le_refl _) (.cells #[.int .i64 y.k, .int .i64 y.c] 51)
        replace HB := hide (HB.out.trans (b1.mono HB.out.size))
        clear b1 d0 d1
        generalize wr.alloc (.cells #[.int .i64 y.k, .int .i64 y.c] 51) = W at *
        refine (flowC _ x _ p y (HR.out.at HB.out) hm ((HB.out.cell (p := ⟨p, 0, none⟩) hpl).trans hp) (Nat.lt_of_lt_of_le hpl HB.out.size)).mono ?_
        rintro e w1 ⟨rfl, b1⟩
        replace HB := hide (HB.out.trans (b1.mono HB.out.size))
        clear b1
        cases c : tyB x.k y with
        | false =>
          have HF : Hid (V = false) := hide (HV2.out (all_hit hlt (by rw [HY.out]; exact c)))
          go_wp2
          go_ret
          exact ⟨by rw [HF.out]; rfl, HB.out⟩
        | true =>
          have HQ2 : Hid (∀ i, i < j + 1 → tyB x.k (l.getD i default) = true) := hide (fun i hi => by
            rcases Nat.lt_succ_iff_lt_or_eq.1 hi with h | rfl
            · exact HQ.out i h
            · rw [HY.out]; exact c)
          go_wp2
          exact ⟨⟨j + 1, by omega, by go_num, HB, HQ2⟩, by simp [intOf]; omega⟩
      · obtain rfl : j = l.length := by omega
        have HF : Hid (V = true) := hide (HV3.out g (all_yes HQ.out))
        go_wp2
        go_ret
        exact ⟨by rw [HF.out]; rfl, HB.out⟩
  · have g' : ((l.length : Int) > 6) := by omega
    have HF : Hid (V = false) := hide (HV1.out g)
    clear g
    go_enter Try.func26, Try.ntmps26
    go_wp2
    go_ret
    exact ⟨by rw [HF.out]; rfl, Below.refl _ _⟩
theorem flB_ea (ks : List Kd) (f : Fl) : flB ks f = (eaB ks f.lo && (eaB ks f.st && inB f.h 0 4)) := by
  unfold flB eaB
  cases f.lo.all (tyB ks) <;> cases f.st.all (tyB ks) <;> cases decide (f.lo.length ≤ 6) <;> cases decide (f.st.length ≤ 6) <;> rfl
set_option maxRecDepth 100000 in
set_option maxHeartbeats 4000000 in
theorem flowOkI (w : World) (x : Pg) (u : Value) (f : Fl) (u1 u2 : Value) (h : Reads w w.heap.size (kins x.k) u) (h1 : Reads w w.heap.size (tys f.lo) u1) (h2 : Reads w w.heap.size (tys f.st) u2) (hm : x.k.length ≤ 1048576) (hf : FlG f) :
    Calls Try.prog 10 #[pgV x u, flV f u1 u2] w fun e w' => e = .returned (.bool (flB x.k f)) ∧ Below w.heap.size w w' := by
  have HR := hide h
  have H1 := hide h1
  have H2 := hide h2
  have hl1 := hf.lo.1
  have hl2 := hf.st.1
  obtain ⟨a1, c1, e1, _⟩ := h.shape
  obtain ⟨a2, c2, e2, _⟩ := h1.shape
  obtain ⟨a3, c3, e3, _⟩ := h2.shape
  subst e1 e2 e3
  clear h h1 h2 hf
  have HV := hide (flB_ea x.k f)
  generalize flB x.k f = V at *
  have bA := (((Below.refl w.heap.size w).alloc (Nat.le_refl _) (.cells #[.slice a1 x.k.length c1] 33)).alloc (by simp) (.cells #[.slice a2 f.lo.length c2, .slice a3 f.st.length c3, .int .i64 f.h] 37))
  have G0 := heap_alloc_new w (.cells #[.slice a1 x.k.length c1] 33)
  have G1 := heap_alloc_new (w.alloc (.cells #[.slice a1 x.k.length c1] 33)) (.cells #[.slice a2 f.lo.length c2, .slice a3 f.st.length c3, .int .i64 f.h] 37)
  simp only [World.size_alloc] at G1
  have E0 := hide ((Below.heap_alloc _ (.cells #[.slice a2 f.lo.length c2, .slice a3 f.st.length c3, .int .i64 f.h] 37) _ (by simp)).trans (G0))
  have E1 := hide (G1)
  have HB := hide bA
  replace HR := hide (HR.out.at bA)
  replace H1 := hide (H1.out.at bA)
  replace H2 := hide (H2.out.at bA)
  have hpl : w.heap.size < (((w.alloc (.cells #[.slice a1 x.k.length c1] 33)).alloc (.cells #[.slice a2 f.lo.length c2, .slice a3 f.st.length c3, .int .i64 f.h] 37))).heap.size := by simp only [World.size_alloc]; omega
  clear bA G0 G1
  unfold pgV flV
  go_enter Try.func10, Try.ntmps10
  go_wp2_with fail
  generalize ((w.alloc (.cells #[.slice a1 x.k.length c1] 33)).alloc (.cells #[.slice a2 f.lo.length c2, .slice a3 f.st.length c3, .int .i64 f.h] 37)) = W at *
  refine (eachI _ x _ f.lo _ w.heap.size HR.out H1.out hm hl1 ((box_of E0.out).1 0 _ rfl) hpl).mono ?_
  rintro e w1 ⟨rfl, b1⟩
  replace E0 := hide ((b1.block _ (Array.getElem?_eq_some_iff.1 E0.out).1).trans E0.out)
  replace E1 := hide ((b1.block _ (Array.getElem?_eq_some_iff.1 E1.out).1).trans E1.out)
  replace HR := hide (HR.out.at b1)
  replace H2 := hide (H2.out.at b1)
  replace HB := hide (HB.out.trans (b1.mono HB.out.size))
  replace hpl := Nat.lt_of_lt_of_le hpl b1.size
  clear b1
  cases c : eaB x.k f.lo with
  | false =>
    have HF : Hid (V = false) := hide (by rw [HV.out, c]; rfl)
    go_wp2
    go_ret
    exact ⟨by rw [HF.out]; rfl, HB.out⟩
  | true =>
    have q1 := (box_of E1.out).1 1 _ rfl
    go_wp2_with fail
    clear q1
    refine (eachI _ x _ f.st _ w.heap.size HR.out H2.out hm hl2 ((box_of E0.out).1 0 _ rfl) hpl).mono ?_
    rintro e w2 ⟨rfl, b1⟩
    replace E0 := hide ((b1.block _ (Array.getElem?_eq_some_iff.1 E0.out).1).trans E0.out)
    replace E1 := hide ((b1.block _ (Array.getElem?_eq_some_iff.1 E1.out).1).trans E1.out)
    replace HB := hide (HB.out.trans (b1.mono HB.out.size))
    clear b1
    cases c' : eaB x.k f.st with
    | false =>
      have HF : Hid (V = false) := hide (by rw [HV.out, c, c']; rfl)
      go_wp2
      go_ret
      exact ⟨by rw [HF.out]; rfl, HB.out⟩
    | true =>
      have HF : Hid (V = inB f.h 0 4) := hide (by rw [HV.out, c, c']; rfl)
      have q2 := (box_of E1.out).1 2 _ rfl
      go_wp2_with fail
      refine (inImpl _ _ _ _).mono ?_
      rintro e w3 ⟨rfl, hw1⟩
      rw [hw1]
      clear hw1 w3
      go_wp2
      go_ret
      exact ⟨by rw [HF.out]; rfl, HB.out⟩
end Go.Proofs.Ytobomcfiincpoaa
