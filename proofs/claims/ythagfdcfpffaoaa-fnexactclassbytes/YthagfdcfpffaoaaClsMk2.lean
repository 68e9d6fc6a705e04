/-
  What marks leave of a class of one's own.
-/
import Derived.Test.YthagfdcfpffaoaaClsMk
import Derived.Test.YthagfdcfpffaoaaClsLaw
namespace Go.Proofs.Ythagfdcfpffaoaa
open Go.RowKit

def cntC (x : Cl) : Nat := 4 * x.p.length + 2 * x.f.length + tot cntM x.m
def mkC (k : Nat) (x : Cl) : Cl := ⟨x.n, x.s, mkKs k x.p.length, mkFs (k + 4 * x.p.length) x.f.length, mkMs (k + 4 * x.p.length + 2 * x.f.length) x.m⟩
/-- The three rows of a class, each with its blocks. -/
theorem clD_owns {w : World} {b : Nat} {x : Cl} {s t u1 u2 u3 : Value} {F : List Nat} (h : OwnsL w b (clD x) [s, t, u1, u2, u3] F) :
    ∃ F1 F2 F3, F = F1 ++ (F2 ++ F3) ∧ s = .string x.n ∧ t = .string x.s ∧ Owns w b (pool x.p) u1 F1 ∧ Owns w b (flds x.f) u2 F2 ∧ Owns w b (mets x.m) u3 F3 := by
  unfold clD at h
  obtain ⟨_, _, _, _, e, rfl, h1, h⟩ := ownsL_cons h
  cases e
  unfold Owns at h1
  obtain ⟨_, _, _, _, e, rfl, h2, h⟩ := ownsL_cons h
  cases e
  unfold Owns at h2
  obtain ⟨_, _, F1, _, e, rfl, h3, h⟩ := ownsL_cons h
  cases e
  obtain ⟨_, _, F2, _, e, rfl, h4, h⟩ := ownsL_cons h
  cases e
  obtain ⟨_, _, F3, _, e, rfl, h5, h⟩ := ownsL_cons h
  cases e
  unfold OwnsL at h
  refine ⟨F1, F2, F3, ?_, h1.1, h2.1, h3, h4, h5⟩
  rw [h1.2, h2.2, h.2]
  simp
theorem clD_mk {w : World} {b : Nat} {x : Cl} {u1 u2 u3 : Value} {F1 F2 F3 : List Nat} (h1 : Owns w b (pool x.p) u1 F1) (h2 : Owns w b (flds x.f) u2 F2) (h3 : Owns w b (mets x.m) u3 F3) : OwnsL w b (clD x) [.string x.n, .string x.s, u1, u2, u3] (F1 ++ (F2 ++ F3)) := by
  have := ownsL_mk (owns_val (w := w) (b := b) (u := .string x.n)) (ownsL_mk (owns_val (u := .string x.s)) (ownsL_mk h1 (ownsL_mk h2 (ownsL_mk h3 ownsL_nil))))
  simp only [List.nil_append, List.append_nil] at this
  exact this
set_option maxRecDepth 100000 in
set_option maxHeartbeats 4000000 in
theorem mkCls (w : World) (b K : Nat) (x : Cl) (u1 u2 u3 : Value) (F : List Nat) (h : OwnsL w b (clD x) [.string x.n, .string x.s, u1, u2, u3] F) (hnd : F.Nodup) (hK : 0 < K) (hm : K + cntC x ≤ 100000000) :
    Calls Try.prog 13 #[clV x u1 u2 u3, .int .i64 (K : Int)] w fun e w' => e = .returned (.int .i64 ((K + cntC x : Nat) : Int)) ∧ OwnsL w' b (clD (mkC K x)) [.string x.n, .string x.s, u1, u2, u3] F ∧ Chg F w w' := by
  obtain ⟨F1, F2, F3, rfl, _, _, h1, h2, h3⟩ := clD_owns h
  obtain ⟨a1, k1, e1⟩ := h1.sl
  obtain ⟨a2, k2, e2⟩ := h2.sl
  obtain ⟨a3, k3, e3⟩ := h3.sl
  subst e1 e2 e3
  have n1 := List.nodup_append.1 hnd
  have n2 := List.nodup_append.1 n1.2.1
  have hcc : cntC x = 4 * x.p.length + 2 * x.f.length + tot cntM x.m := rfl
  have G0 := hide (heap_alloc_new w (.cells #[.string x.n, .string x.s, .slice a1 x.p.length k1, .slice a2 x.f.length k2, .slice a3 x.m.length k3] 33))
  have bA := (Below.refl w.heap.size w).alloc (Nat.le_refl _) (.cells #[.string x.n, .string x.s, .slice a1 x.p.length k1, .slice a2 x.f.length k2, .slice a3 x.m.length k3] 33)
  have L1 := Owns.lt _ _ _ h1
  have L2 := Owns.lt _ _ _ h2
  have L3 := Owns.lt _ _ _ h3
  have H1 := hide (h1.same (fun q hq => bA.block q (L1 q hq).2))
  have H2 := hide (h2.same (fun q hq => bA.block q (L2 q hq).2))
  have H3 := hide (h3.same (fun q hq => bA.block q (L3 q hq).2))
  have HC := hide (Chg.of_below (F := F1 ++ (F2 ++ F3)) bA)
  have D0 : Hid (w.heap.size ∉ F1 ∧ w.heap.size ∉ F2 ∧ w.heap.size ∉ F3) := hide ⟨fun hm => by have := (L1 _ hm).2; omega, fun hm => by have := (L2 _ hm).2; omega, fun hm => by have := (L3 _ hm).2; omega⟩
  have D12 : Hid (∀ q ∈ F2, q ∉ F1) := hide (fun q hq hq' => n1.2.2 q hq' q (by simp [hq]) rfl)
  have D13 : Hid (∀ q ∈ F3, q ∉ F1) := hide (fun q hq hq' => n1.2.2 q hq' q (by simp [hq]) rfl)
  have D23 : Hid (∀ q ∈ F3, q ∉ F2) := hide (fun q hq hq' => n2.2.2 q hq' q hq rfl)
  have D21 : Hid (∀ q ∈ F1, q ∉ F2) := hide (fun q hq hq' => n1.2.2 q hq q (by simp [hq']) rfl)
  have D31 : Hid (∀ q ∈ F1, q ∉ F3) := hide (fun q hq hq' => n1.2.2 q hq q (by simp [hq']) rfl)
  have D32 : Hid (∀ q ∈ F2, q ∉ F3) := hide (fun q hq hq' => n2.2.2 q hq q hq' rfl)
  have N1 := hide n1.1
  have N2 := hide n2.1
  have N3 := hide n2.2.1
  have S1 : Hid (∀ q ∈ F1, q ∈ F1 ++ (F2 ++ F3)) := hide (fun q hq => by simp [hq])
  have S2 : Hid (∀ q ∈ F2, q ∈ F1 ++ (F2 ++ F3)) := hide (fun q hq => by simp [hq])
  have S3 : Hid (∀ q ∈ F3, q ∈ F1 ++ (F2 ++ F3)) := hide (fun q hq => by simp [hq])
  clear h1 h2 h3 n1 n2 L1 L2 L3 bA h
  unfold clV
  go_enter Try.func13, Try.ntmps13
  go_wp2_with fail
  generalize w.alloc (.cells #[.string x.n, .string x.s, .slice a1 x.p.length k1, .slice a2 x.f.length k2, .slice a3 x.m.length k3] 33) = W at *
  refine (mkKcs _ b K _ x.p F1 H1.out N1.out hK (by omega)).mono ?_
  rintro e w1 ⟨rfl, o1, c1⟩
  replace H1 := hide o1
  replace H2 := hide (H2.out.same (fun q hq => c1.block q (Owns.lt _ _ _ H2.out q hq).2 (D12.out q hq)))
  replace H3 := hide (H3.out.same (fun q hq => c1.block q (Owns.lt _ _ _ H3.out q hq).2 (D13.out q hq)))
  replace G0 := hide ((c1.block _ (Array.getElem?_eq_some_iff.1 G0.out).1 D0.out.1).trans G0.out)
  replace HC := hide (HC.out.trans (c1.mono S1.out))
  clear o1 c1
  have f3 := (box_of G0.out).1 3 _ rfl
  go_wp2_with fail
  clear f3
  refine (mkFds _ b (K + 4 * x.p.length) _ x.f F2 H2.out N2.out (by omega) (by omega)).mono ?_
  rintro e w2 ⟨rfl, o2, c2⟩
  replace H2 := hide o2
  replace H1 := hide (H1.out.same (fun q hq => c2.block q (Owns.lt _ _ _ H1.out q hq).2 (D21.out q hq)))
  replace H3 := hide (H3.out.same (fun q hq => c2.block q (Owns.lt _ _ _ H3.out q hq).2 (D23.out q hq)))
  replace G0 := hide ((c2.block _ (Array.getElem?_eq_some_iff.1 G0.out).1 D0.out.2.1).trans G0.out)
  replace HC := hide (HC.out.trans (c2.mono S2.out))
  clear o2 c2
  have f4 := (box_of G0.out).1 4 _ rfl
  go_wp2_with fail
  clear f4
  refine (mkMes _ b (K + 4 * x.p.length + 2 * x.f.length) _ x.m F3 H3.out N3.out (by omega) (by omega)).mono ?_
  rintro e w3 ⟨rfl, o3, c3⟩
  replace H1 := hide (H1.out.same (fun q hq => c3.block q (Owns.lt _ _ _ H1.out q hq).2 (D31.out q hq)))
  replace H2 := hide (H2.out.same (fun q hq => c3.block q (Owns.lt _ _ _ H2.out q hq).2 (D32.out q hq)))
  replace HC := hide (HC.out.trans (c3.mono S3.out))
  have HF : Hid (OwnsL w3 b (clD (mkC K x)) [.string x.n, .string x.s, .slice a1 x.p.length k1, .slice a2 x.f.length k2, .slice a3 x.m.length k3] (F1 ++ (F2 ++ F3))) := hide (clD_mk (x := mkC K x) H1.out H2.out o3)
  clear o3 c3
  go_wp2
  go_ret
  exact ⟨by rw [hcc, show K + (4 * x.p.length + 2 * x.f.length + tot cntM x.m) = K + 4 * x.p.length + 2 * x.f.length + tot cntM x.m from by omega]; rfl, HF.out, HC.out⟩
end Go.Proofs.Ythagfdcfpffaoaa
