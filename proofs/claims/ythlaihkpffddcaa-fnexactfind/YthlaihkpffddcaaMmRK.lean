/-
  Memories as data. Marks, and what is held.
-/
import Derived.Test.YthlaihkpffddcaaMmR
import Derived.Test.YthlaihkpffddcaaObRK
namespace Go.Proofs.Ythlaihkpffddcaa
open Go.ChangeShapes Go.WideShapes Go.RowKit

def mkoMm (k : Nat) (x : Mm) : Mm := ⟨mkObs (k) x.o, mkLks (k + cntObs x.o) x.l⟩
def mmCto (x : Mm) : Nat := cntObs x.o + cntLks x.l
theorem mmCto_le (x : Mm) : mmCto x ≤ 8 * mmW x := by
  have h_o := cntObs_le x.o
  have h_l := cntLks_le x.l
  unfold mmCto mmW
  omega
theorem mmD_owns {w : World} {b : Nat} {x : Mm} {u1 u2 : Value} {F : List Nat} (h : OwnsL w b (mmD x) [u1, u2] F) :
    ∃ F1 F2, F = F1 ++ (F2) ∧ Owns w b (obs x.o) u1 F1 ∧ Owns w b (lks x.l) u2 F2 := by
  unfold mmD at h
  obtain ⟨_, _, F1, _, e, rfl, h0, h⟩ := ownsL_cons h
  cases e
  obtain ⟨_, _, F2, _, e, rfl, h1, h⟩ := ownsL_cons h
  cases e
  unfold OwnsL at h
  refine ⟨F1, F2, ?_, h0, h1⟩
  rw [h.2]
  simp
theorem mmD_mk {w : World} {b : Nat} {x : Mm} {u1 u2 : Value} {F1 F2 : List Nat} (h1 : Owns w b (obs x.o) u1 F1) (h2 : Owns w b (lks x.l) u2 F2) : OwnsL w b (mmD x) [u1, u2] (F1 ++ (F2)) := by
  have := ownsL_mk h1 (ownsL_mk h2 (ownsL_nil))
  simp at this
  exact this
set_option maxRecDepth 100000 in
set_option maxHeartbeats 4000000 in
theorem mkMmO (w : World) (b K : Nat) (x : Mm) (u1 u2 : Value) (F : List Nat) (h : OwnsL w b (mmD x) [u1, u2] F) (hnd : F.Nodup) (hK : 0 < K) (hm : K + mmCto x ≤ 100000000) :
    Calls Try.prog 25 #[mmV x u1 u2, .int .i64 (K : Int)] w fun e w' => e = .returned (.int .i64 ((K + mmCto x : Nat) : Int)) ∧ OwnsL w' b (mmD (mkoMm K x)) [u1, u2] F ∧ Chg F w w' := by
  obtain ⟨F1, F2, rfl, h1, h2⟩ := mmD_owns h
  obtain ⟨a1, k1, e1⟩ := h1.sl
  obtain ⟨a2, k2, e2⟩ := h2.sl
  subst e1 e2
  have n1 := List.nodup_append.1 hnd
  have hcc : mmCto x = cntObs x.o + cntLks x.l := rfl
  have G0 := hide (heap_alloc_new w (.cells #[.slice a1 x.o.length k1, .slice a2 x.l.length k2] 39))
  have bA := (Below.refl w.heap.size w).alloc (Nat.le_refl _) (.cells #[.slice a1 x.o.length k1, .slice a2 x.l.length k2] 39)
  have L1 := Owns.lt _ _ _ h1
  have H1 := hide (h1.same (fun q hq => bA.block q (L1 q hq).2))
  have L2 := Owns.lt _ _ _ h2
  have H2 := hide (h2.same (fun q hq => bA.block q (L2 q hq).2))
  have HC := hide (Chg.of_below (F := F1 ++ (F2)) bA)
  have D01 : Hid (w.heap.size ∉ F1) := hide (fun hm => by have := (L1 _ hm).2; omega)
  have D02 : Hid (w.heap.size ∉ F2) := hide (fun hm => by have := (L2 _ hm).2; omega)
  have D12 : Hid (∀ q ∈ F2, q ∉ F1) := hide (fun q hq hq' => n1.2.2 q hq' q (by simp [hq]) rfl)
  have D21 : Hid (∀ q ∈ F1, q ∉ F2) := hide (fun q hq hq' => n1.2.2 q hq q (by simp [hq']) rfl)
  have N1 := hide n1.1
  have S1 : Hid (∀ q ∈ F1, q ∈ F1 ++ (F2)) := hide (fun q hq => by simp [hq])
  have N2 := hide n1.2.1
  have S2 : Hid (∀ q ∈ F2, q ∈ F1 ++ (F2)) := hide (fun q hq => by simp [hq])
  clear h1 L1 h2 L2 n1 bA h
  unfold mmV
  go_enter Try.func25, Try.ntmps25
  go_wp2_with fail
  generalize w.alloc (.cells #[.slice a1 x.o.length k1, .slice a2 x.l.length k2] 39) = W at *
  refine (mkObsR _ b (K) _ rfl _ x.o F1 H1.out N1.out (by omega) (by omega)).mono ?_
  rintro e w1 ⟨rfl, o1, c1⟩
  replace H1 := hide o1
  replace H2 := hide (H2.out.same (fun q hq => c1.block q (Owns.lt _ _ _ H2.out q hq).2 (D12.out q hq)))
  replace G0 := hide ((c1.block _ (Array.getElem?_eq_some_iff.1 G0.out).1 D01.out).trans G0.out)
  replace HC := hide (HC.out.trans (c1.mono S1.out))
  clear o1 c1
  have f1 := (box_of G0.out).1 1 _ rfl
  go_wp2_with fail
  clear f1
  refine (mkLksR _ b (K + cntObs x.o) _ rfl _ x.l F2 H2.out N2.out (by omega) (by omega)).mono ?_
  rintro e w2 ⟨rfl, o2, c2⟩
  replace H2 := hide o2
  replace H1 := hide (H1.out.same (fun q hq => c2.block q (Owns.lt _ _ _ H1.out q hq).2 (D21.out q hq)))
  replace HC := hide (HC.out.trans (c2.mono S2.out))
  clear o2 c2
  have HF := hide (mmD_mk (x := mkoMm K x) H1.out H2.out)
  have HE : Hid (K + mmCto x = K + cntObs x.o + cntLks x.l) := hide (by omega)
  go_wp2
  go_ret
  exact ⟨by rw [HE.out]; rfl, HF.out, HC.out⟩
theorem mkMmI (w : World) (b hi K : Nat) (m : Int) (hmK : m = (K : Int)) (x : Mm) (u1 u2 : Value) (h : OwnDL w b hi (mmD x) [u1, u2]) (hK : 0 < K) (hm : K + mmCto x ≤ 100000000) :
    Calls Try.prog 25 #[mmV x u1 u2, .int .i64 m] w fun e w' => e = .returned (.int .i64 ((K + mmCto x : Nat) : Int)) ∧ OwnDL w' b hi (mmD (mkoMm K x)) [u1, u2] ∧ ChgI b hi w w' := by
  subst hmK
  obtain ⟨F, h1, h2, h3⟩ := h
  have hl := OwnsL.lt _ _ _ h1
  refine (mkMmO w b K x u1 u2 F h1 h2 hK hm).mono ?_
  rintro e w1 ⟨rfl, o1, c1⟩
  exact ⟨rfl, ⟨F, o1, h2, h3⟩, c1.int (fun q hq => ⟨(hl q hq).1, h3 q hq⟩)⟩
set_option maxRecDepth 100000 in
set_option maxHeartbeats 4000000 in
theorem heldMmO (w : World) (K : Nat) (m : Int) (hmK : m = (K : Int)) (x : Mm) (u1 u2 : Value) (h : ReadsL w w.heap.size (mmD (mkoMm K x)) [u1, u2]) (hK : 0 < K) (hm : K + mmCto x ≤ 100000000) :
    Calls Try.prog 34 #[mmV x u1 u2, .int .i64 m] w fun e w' => e = .returned (.int .i64 ((K + mmCto x : Nat) : Int)) ∧ Below w.heap.size w w' := by
  subst hmK
  obtain ⟨_, _, e, h1, h⟩ := readsL_cons h
  cases e
  obtain ⟨_, _, e, h2, h⟩ := readsL_cons h
  cases e
  replace h1 : Reads w w.heap.size (obs (mkObs (K) x.o)) u1 := h1
  replace h2 : Reads w w.heap.size (lks (mkLks (K + cntObs x.o) x.l)) u2 := h2
  obtain ⟨a1, k1, e1, _⟩ := h1.shape
  obtain ⟨a2, k2, e2, _⟩ := h2.shape
  subst e1 e2
  clear h
  rw [mkObs_len] at h1 ⊢
  rw [mkLks_len] at h2 ⊢
  have hc : mmCto x = cntObs x.o + cntLks x.l := rfl
  have HC : Hid (K + mmCto x = K + cntObs x.o + cntLks x.l) := hide (by omega)
  have bA := (Below.refl w.heap.size w).alloc (Nat.le_refl _) (.cells #[.slice a1 x.o.length k1, .slice a2 x.l.length k2] 39)
  have HX := hide (Box.new w #[.slice a1 x.o.length k1, .slice a2 x.l.length k2] 39)
  have HB := hide bA
  have H1 := hide (h1.at bA)
  have H2 := hide (h2.at bA)
  have hgs : Hid (w.heap.size < (w.alloc (.cells #[.slice a1 x.o.length k1, .slice a2 x.l.length k2] 39)).heap.size) := hide (by simp)
  clear bA h1 h2
  unfold mmV
  go_enter Try.func34, Try.ntmps34
  go_wp2_with fail
  generalize w.alloc (.cells #[.slice a1 x.o.length k1, .slice a2 x.l.length k2] 39) = W at *
  refine (heldObsR _ (K) _ rfl _ x.o H1.out (by omega) (by omega)).mono ?_
  rintro e w1 ⟨rfl, b1⟩
  replace HX := hide (HX.out.below hgs.out b1)
  replace hgs := hide (Nat.lt_of_lt_of_le hgs.out b1.size)
  replace H2 := hide (H2.out.at b1)
  replace HB := hide (HB.out.trans (b1.mono HB.out.size))
  clear b1
  have hn1 : ¬ (((K + cntObs x.o : Nat) : Int) < 0) := by omega
  have f1 := HX.out 1 _ rfl
  go_wp2_with fail
  clear f1 hn1
  refine (heldLksR _ (K + cntObs x.o) _ rfl _ x.l H2.out (by omega) (by omega)).mono ?_
  rintro e w2 ⟨rfl, b2⟩
  replace HX := hide (HX.out.below hgs.out b2)
  replace hgs := hide (Nat.lt_of_lt_of_le hgs.out b2.size)
  replace HB := hide (HB.out.trans (b2.mono HB.out.size))
  clear b2
  have hn2 : ¬ (((K + cntObs x.o + cntLks x.l : Nat) : Int) < 0) := by omega
  go_wp2
  go_ret
  exact ⟨by rw [HC.out]; rfl, HB.out⟩
end Go.Proofs.Ythlaihkpffddcaa
