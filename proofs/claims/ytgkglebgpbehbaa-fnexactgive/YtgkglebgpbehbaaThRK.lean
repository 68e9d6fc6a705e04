/-
  Threads as data. Marks, and what is held.
-/
import Derived.Test.YtgkglebgpbehbaaThR
import Derived.Test.YtgkglebgpbehbaaFrRK
namespace Go.Proofs.Ytgkglebgpbehbaa
open Go.ChangeShapes Go.WideShapes Go.RowKit

def thCnt (x : Th) : Nat := 3 + cntFrs x.f
def mkTh (k : Nat) (x : Th) : Th := ⟨((k : Nat) : Int), mkFrs (k + 1) x.f, ((k + 1 + cntFrs x.f : Nat) : Int), ((k + 1 + cntFrs x.f : Nat) : Int) + 1⟩
theorem thCnt_le (x : Th) : thCnt x ≤ 8 * thW x + 8 := by
  have h_f := cntFrs_le x.f
  unfold thCnt thW
  omega
def mkThs : Nat → List Th → List Th
  | _, [] => []
  | k, x :: xs => mkTh k x :: mkThs (k + thCnt x) xs
def cntThs (xs : List Th) : Nat := tot thCnt xs
theorem mkThs_len : ∀ (k : Nat) (xs : List Th), (mkThs k xs).length = xs.length
  | _, [] => rfl
  | k, x :: xs => by simp [mkThs, mkThs_len _ xs]
theorem mkThs_get : ∀ (k : Nat) (xs : List Th) (j : Nat), j < xs.length → (mkThs k xs).getD j default = mkTh (k + tot thCnt (xs.take j)) (xs.getD j default)
  | k, [], j, h => by simp at h
  | k, x :: xs, 0, h => by simp [mkThs, tot]
  | k, x :: xs, j + 1, h => by
    rw [mkThs, List.getD_cons_succ, mkThs_get _ xs j (by simpa using h), List.getD_cons_succ]
    congr 1
    unfold tot
    rw [List.take_succ_cons, List.map_cons, List.sum_cons]; omega
theorem cntThs_le (xs : List Th) : cntThs xs ≤ 8 * thsW xs := tot_cnt thCnt thW thCnt_le xs
def mkoTh (k : Nat) (x : Th) : Th := ⟨x.i, mkFrs (k) x.f, x.s, x.d⟩
def thCto (x : Th) : Nat := cntFrs x.f
theorem thCto_le (x : Th) : thCto x ≤ 8 * thW x := by
  have h_f := cntFrs_le x.f
  unfold thCto thW
  omega
theorem thD_owns {w : World} {b : Nat} {x : Th} {u1 : Value} {F : List Nat} (h : OwnsL w b (thD x) [.int .i64 x.i, u1, .int .i64 x.s, .int .i64 x.d] F) :
    ∃ F1, F = F1 ∧ Owns w b (frs x.f) u1 F1 := by
  unfold thD at h
  obtain ⟨_, _, _, _, e, rfl, h0, h⟩ := ownsL_cons h
  cases e
  unfold Owns at h0
  obtain ⟨_, _, F1, _, e, rfl, h1, h⟩ := ownsL_cons h
  cases e
  obtain ⟨_, _, _, _, e, rfl, h2, h⟩ := ownsL_cons h
  cases e
  unfold Owns at h2
  obtain ⟨_, _, _, _, e, rfl, h3, h⟩ := ownsL_cons h
  cases e
  unfold Owns at h3
  unfold OwnsL at h
  refine ⟨F1, ?_, h1⟩
  rw [h0.2, h2.2, h3.2, h.2]
  simp
theorem thD_mk {w : World} {b : Nat} {x : Th} {u1 : Value} {F1 : List Nat} (h1 : Owns w b (frs x.f) u1 F1) : OwnsL w b (thD x) [.int .i64 x.i, u1, .int .i64 x.s, .int .i64 x.d] (F1) := by
  have := ownsL_mk (owns_val (w := w) (b := b) (u := .int .i64 x.i)) (ownsL_mk h1 (ownsL_mk (owns_val (w := w) (b := b) (u := .int .i64 x.s)) (ownsL_mk (owns_val (w := w) (b := b) (u := .int .i64 x.d)) (ownsL_nil))))
  simp at this
  exact this
set_option maxRecDepth 100000 in
set_option maxHeartbeats 4000000 in
theorem mkThO (w : World) (b K : Nat) (x : Th) (u1 : Value) (F : List Nat) (h : OwnsL w b (thD x) [.int .i64 x.i, u1, .int .i64 x.s, .int .i64 x.d] F) (hnd : F.Nodup) (hK : 0 < K) (hm : K + thCto x ≤ 100000000) :
    Calls Try.prog 16 #[thV x u1, .int .i64 (K : Int)] w fun e w' => e = .returned (.int .i64 ((K + thCto x : Nat) : Int)) ∧ OwnsL w' b (thD (mkoTh K x)) [.int .i64 x.i, u1, .int .i64 x.s, .int .i64 x.d] F ∧ Chg F w w' := by
  obtain ⟨F, rfl, h1⟩ := thD_owns h
  obtain ⟨a1, k1, e1⟩ := h1.sl
  subst e1
  have hcc : thCto x = cntFrs x.f := rfl
  have G0 := hide (heap_alloc_new w (.cells #[.int .i64 x.i, .slice a1 x.f.length k1, .int .i64 x.s, .int .i64 x.d] 37))
  have bA := (Below.refl w.heap.size w).alloc (Nat.le_refl _) (.cells #[.int .i64 x.i, .slice a1 x.f.length k1, .int .i64 x.s, .int .i64 x.d] 37)
  have L1 := Owns.lt _ _ _ h1
  have H1 := hide (h1.same (fun q hq => bA.block q (L1 q hq).2))
  have HC := hide (Chg.of_below (F := F) bA)
  have D01 : Hid (w.heap.size ∉ F) := hide (fun hm => by have := (L1 _ hm).2; omega)
  have N1 := hide hnd
  have S1 : Hid (∀ q ∈ F, q ∈ F) := hide (fun q hq => by simp [hq])
  clear h1 L1 bA h
  unfold thV
  go_enter Try.func16, Try.ntmps16
  go_wp2_with fail
  generalize w.alloc (.cells #[.int .i64 x.i, .slice a1 x.f.length k1, .int .i64 x.s, .int .i64 x.d] 37) = W at *
  refine (mkFrsR _ b (K) _ rfl _ x.f F H1.out N1.out (by omega) (by omega)).mono ?_
  rintro e w1 ⟨rfl, o1, c1⟩
  replace H1 := hide o1
  replace HC := hide (HC.out.trans (c1.mono S1.out))
  clear o1 c1
  have HF := hide (thD_mk (x := mkoTh K x) H1.out)
  have HE : Hid (K + thCto x = K + cntFrs x.f) := hide (by omega)
  go_wp2
  go_ret
  exact ⟨by rw [HE.out]; rfl, HF.out, HC.out⟩
theorem mkThI (w : World) (b hi K : Nat) (m : Int) (hmK : m = (K : Int)) (x : Th) (u1 : Value) (h : OwnDL w b hi (thD x) [.int .i64 x.i, u1, .int .i64 x.s, .int .i64 x.d]) (hK : 0 < K) (hm : K + thCto x ≤ 100000000) :
    Calls Try.prog 16 #[thV x u1, .int .i64 m] w fun e w' => e = .returned (.int .i64 ((K + thCto x : Nat) : Int)) ∧ OwnDL w' b hi (thD (mkoTh K x)) [.int .i64 x.i, u1, .int .i64 x.s, .int .i64 x.d] ∧ ChgI b hi w w' := by
  subst hmK
  obtain ⟨F, h1, h2, h3⟩ := h
  have hl := OwnsL.lt _ _ _ h1
  refine (mkThO w b K x u1 F h1 h2 hK hm).mono ?_
  rintro e w1 ⟨rfl, o1, c1⟩
  exact ⟨rfl, ⟨F, o1, h2, h3⟩, c1.int (fun q hq => ⟨(hl q hq).1, h3 q hq⟩)⟩
set_option maxRecDepth 100000 in
set_option maxHeartbeats 4000000 in
theorem heldThO (w : World) (K : Nat) (m : Int) (hmK : m = (K : Int)) (x : Th) (u1 : Value) (h : ReadsL w w.heap.size (thD (mkoTh K x)) [.int .i64 x.i, u1, .int .i64 x.s, .int .i64 x.d]) (hK : 0 < K) (hm : K + thCto x ≤ 100000000) :
    Calls Try.prog 17 #[thV x u1, .int .i64 m] w fun e w' => e = .returned (.int .i64 ((K + thCto x : Nat) : Int)) ∧ Below w.heap.size w w' := by
  subst hmK
  obtain ⟨_, _, e, _, h⟩ := readsL_cons h
  cases e
  obtain ⟨_, _, e, h1, h⟩ := readsL_cons h
  cases e
  obtain ⟨_, _, e, _, h⟩ := readsL_cons h
  cases e
  obtain ⟨_, _, e, _, h⟩ := readsL_cons h
  cases e
  replace h1 : Reads w w.heap.size (frs (mkFrs (K) x.f)) u1 := h1
  obtain ⟨a1, k1, e1, _⟩ := h1.shape
  subst e1
  clear h
  rw [mkFrs_len] at h1 ⊢
  have hc : thCto x = cntFrs x.f := rfl
  have HC : Hid (K + thCto x = K + cntFrs x.f) := hide (by omega)
  have bA := (Below.refl w.heap.size w).alloc (Nat.le_refl _) (.cells #[.int .i64 x.i, .slice a1 x.f.length k1, .int .i64 x.s, .int .i64 x.d] 37)
  have HX := hide (Box.new w #[.int .i64 x.i, .slice a1 x.f.length k1, .int .i64 x.s, .int .i64 x.d] 37)
  have HB := hide bA
  have H1 := hide (h1.at bA)
  have hgs : Hid (w.heap.size < (w.alloc (.cells #[.int .i64 x.i, .slice a1 x.f.length k1, .int .i64 x.s, .int .i64 x.d] 37)).heap.size) := hide (by simp)
  clear bA h1
  unfold thV
  go_enter Try.func17, Try.ntmps17
  go_wp2_with fail
  generalize w.alloc (.cells #[.int .i64 x.i, .slice a1 x.f.length k1, .int .i64 x.s, .int .i64 x.d] 37) = W at *
  refine (heldFrsR _ (K) _ rfl _ x.f H1.out (by omega) (by omega)).mono ?_
  rintro e w1 ⟨rfl, b1⟩
  replace HX := hide (HX.out.below hgs.out b1)
  replace hgs := hide (Nat.lt_of_lt_of_le hgs.out b1.size)
  replace HB := hide (HB.out.trans (b1.mono HB.out.size))
  clear b1
  have hn1 : ¬ (((K + cntFrs x.f : Nat) : Int) < 0) := by omega
  go_wp2
  go_ret
  exact ⟨by rw [HC.out]; rfl, HB.out⟩
end Go.Proofs.Ytgkglebgpbehbaa
