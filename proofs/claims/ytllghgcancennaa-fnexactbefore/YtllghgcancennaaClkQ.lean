/-
  Clocks: what is true of counts, of joined clocks, of who knows whom.
-/
import Derived.Test.YtllghgcancennaaClkM
namespace Go.Proofs.Ytllghgcancennaa
open Go.RowKit

def Srt : Int → List Smp → Prop
  | _, [] => True
  | lo, x :: xs => lo < x.w ∧ x.w ≤ 1000000 ∧ 1 ≤ x.n ∧ x.n ≤ 16777215 ∧ Srt x.w xs
theorem srt_mono {lo lo' : Int} : ∀ {xs : List Smp}, Srt lo xs → lo' ≤ lo → Srt lo' xs
  | [], _, _ => trivial
  | x :: xs, h, hl => ⟨by have := h.1; omega, h.2⟩
theorem srt_of : ∀ (xs : List Smp) (lo : Int), (∀ i, i < xs.length → ((xs.getD i default).w ≤ 1000000 ∧ 1 ≤ (xs.getD i default).n ∧ (xs.getD i default).n ≤ 16777215) ∧ (i = 0 → lo < (xs.getD i default).w) ∧ (0 < i → (xs.getD (i - 1) default).w < (xs.getD i default).w)) → Srt lo xs
  | [], _, _ => trivial
  | x :: xs, lo, h => by
    have h0 := h 0 (by simp)
    rw [List.getD_cons_zero] at h0
    refine ⟨h0.2.1 rfl, h0.1.1, h0.1.2.1, h0.1.2.2, srt_of xs x.w (fun i hi => ?_)⟩
    have h1 := h (i + 1) (by simpa using hi)
    rw [List.getD_cons_succ] at h1
    refine ⟨h1.1, fun hz => ?_, fun hp => ?_⟩
    · subst hz
      have := h1.2.2 (by omega)
      simpa using this
    · have := h1.2.2 (by omega)
      obtain ⟨k, rfl⟩ : ∃ k, i = k + 1 := ⟨i - 1, by omega⟩
      simpa using this
theorem srt_to : ∀ (xs : List Smp) (lo : Int), Srt lo xs → ∀ i, i < xs.length → ((xs.getD i default).w ≤ 1000000 ∧ 1 ≤ (xs.getD i default).n ∧ (xs.getD i default).n ≤ 16777215) ∧ lo < (xs.getD i default).w ∧ (0 < i → (xs.getD (i - 1) default).w < (xs.getD i default).w)
  | [], _, _, i, hi => by simp at hi
  | x :: xs, lo, h, 0, _ => ⟨⟨h.2.1, h.2.2.1, h.2.2.2.1⟩, h.1, fun hp => by omega⟩
  | x :: xs, lo, h, i + 1, hi => by
    have ih := srt_to xs x.w h.2.2.2.2 i (by simpa using hi)
    rw [List.getD_cons_succ]
    refine ⟨ih.1, by have := h.1; have := ih.2.1; omega, fun _ => ?_⟩
    cases i with
    | zero => simpa using ih.2.1
    | succ k =>
      have := ih.2.2 (by omega)
      simpa using this
theorem clkB_srt {xs : List Smp} (h : clkB xs = true) : Srt 0 xs := by
  refine srt_of xs 0 (fun i hi => ?_)
  have h1 := clkB_at h hi
  unfold clkAt at h1
  rw [Bool.and_eq_true, Bool.and_eq_true, Bool.or_eq_true] at h1
  obtain ⟨h2, h3, h4⟩ := h1
  have h2 := inB_yes h2
  have h3 := inB_yes h3
  refine ⟨⟨h2.2, h3⟩, fun _ => by omega, fun hp => ?_⟩
  rcases h4 with h4 | h4
  · have := of_decide_eq_true h4
    omega
  · exact of_decide_eq_true h4
theorem srt_clkB {xs : List Smp} (h : Srt 0 xs) : clkB xs = true := by
  refine clkB_yes (fun i hi => ?_)
  have h1 := srt_to xs 0 h i hi
  unfold clkAt
  rw [inB_mk (by omega) h1.1.1, inB_mk h1.1.2.1 h1.1.2.2, Bool.true_and, Bool.true_and, Bool.or_eq_true]
  rcases Nat.eq_zero_or_pos i with h0 | h0
  · exact Or.inl (decide_eq_true h0)
  · exact Or.inr (decide_eq_true (h1.2.2 h0))
theorem cnt_low {q : Int} : ∀ {xs : List Smp} {lo : Int}, Srt lo xs → q ≤ lo → cntX xs q = 0
  | [], _, _, _ => rfl
  | x :: xs, lo, h, hq => by
    unfold cntX
    rw [if_neg (by have := h.1; omega)]
    exact cnt_low h.2.2.2.2 (by have := h.1; omega)
theorem cnt_pos {q : Int} : ∀ {xs : List Smp} {lo : Int}, Srt lo xs → 0 ≤ cntX xs q
  | [], _, _ => by unfold cntX; omega
  | x :: xs, lo, h => by
    unfold cntX
    split
    · have := h.2.2.1; omega
    · exact cnt_pos h.2.2.2.2
theorem cnt_mem {y : Smp} : ∀ {xs : List Smp} {lo : Int}, Srt lo xs → y ∈ xs → cntX xs y.w = y.n ∧ lo < y.w
  | [], _, _, h => by simp at h
  | x :: xs, lo, h, hy => by
    rcases List.mem_cons.1 hy with rfl | hy
    · exact ⟨by unfold cntX; rw [if_pos rfl], h.1⟩
    · have ih := cnt_mem h.2.2.2.2 hy
      refine ⟨?_, by have := h.1; have := ih.2; omega⟩
      unfold cntX
      rw [if_neg (by have := ih.2; omega)]
      exact ih.1
/-- Where a count comes from. -/
theorem cnt_from {q : Int} : ∀ {xs : List Smp}, cntX xs q = 0 ∨ ∃ y ∈ xs, y.w = q ∧ y.n = cntX xs q
  | [] => Or.inl rfl
  | x :: xs => by
    unfold cntX
    split
    · rename_i h
      exact Or.inr ⟨x, by simp, h, rfl⟩
    · rcases cnt_from (q := q) (xs := xs) with h | ⟨y, h1, h2, h3⟩
      · exact Or.inl h
      · exact Or.inr ⟨y, by simp [h1], h2, h3⟩
theorem srt_ext : ∀ {a b : List Smp} {lo : Int}, Srt lo a → Srt lo b → (∀ q, cntX a q = cntX b q) → a = b
  | [], [], _, _, _, _ => rfl
  | [], y :: b, lo, _, hb, h => by
    have h1 := h y.w
    unfold cntX at h1
    rw [if_pos rfl] at h1
    have := hb.2.2.1
    omega
  | x :: a, [], lo, ha, _, h => by
    have h1 := h x.w
    unfold cntX at h1
    rw [if_pos rfl] at h1
    have := ha.2.2.1
    omega
  | x :: a, y :: b, lo, ha, hb, h => by
    have hw : x.w = y.w := by
      rcases Int.lt_trichotomy x.w y.w with hl | he | hl
      · have h1 := h x.w
        rw [cnt_low (lo := x.w) (xs := y :: b) ⟨hl, hb.2⟩ (Int.le_refl _)] at h1
        unfold cntX at h1
        rw [if_pos rfl] at h1
        have := ha.2.2.1
        omega
      · exact he
      · have h1 := h y.w
        rw [cnt_low (lo := y.w) (xs := x :: a) ⟨hl, ha.2⟩ (Int.le_refl _)] at h1
        unfold cntX at h1
        rw [if_pos rfl] at h1
        have := hb.2.2.1
        omega
    have hn : x.n = y.n := by
      have h1 := h x.w
      unfold cntX at h1
      rw [if_pos rfl, if_pos hw.symm] at h1
      exact h1
    have hxy : x = y := by
      cases x; cases y
      dsimp only at hw hn
      rw [hw, hn]
    subst hxy
    have ht : a = b := srt_ext ha.2.2.2.2 hb.2.2.2.2 (fun q => by
      by_cases hq : x.w = q
      · subst hq
        rw [cnt_low ha.2.2.2.2 (Int.le_refl _), cnt_low hb.2.2.2.2 (Int.le_refl _)]
      · have h1 := h q
        unfold cntX at h1
        rw [if_neg hq, if_neg hq] at h1
        exact h1)
    rw [ht]
theorem srt_join (a b : List Smp) : ∀ lo, Srt lo a → Srt lo b → Srt lo (joinK a b) := by
  induction a, b using joinK.induct with
  | case1 b => intro lo _ h; rw [joinK]; exact h
  | case2 x a => intro lo h _; rw [joinK]; exact h
  | case3 x a y b h ih =>
    intro lo ha hb
    rw [joinK, if_pos h]
    exact ⟨ha.1, ha.2.1, ha.2.2.1, ha.2.2.2.1, ih x.w ha.2.2.2.2 ⟨h, hb.2⟩⟩
  | case4 x a y b h1 h2 ih =>
    intro lo ha hb
    rw [joinK, if_neg h1, if_pos h2]
    exact ⟨hb.1, hb.2.1, hb.2.2.1, hb.2.2.2.1, ih y.w ⟨h2, ha.2⟩ hb.2.2.2.2⟩
  | case5 x a y b h1 h2 ih =>
    intro lo ha hb
    rw [joinK, if_neg h1, if_neg h2]
    have e : x.w = y.w := by omega
    refine ⟨ha.1, ha.2.1, ?_, ?_, ih x.w ha.2.2.2.2 (by rw [e]; exact hb.2.2.2.2)⟩
    · show 1 ≤ max x.n y.n
      have := ha.2.2.1
      omega
    · show max x.n y.n ≤ 16777215
      have := ha.2.2.2.1
      have := hb.2.2.2.1
      omega
theorem cnt_join (q : Int) (a b : List Smp) : ∀ lo, Srt lo a → Srt lo b → cntX (joinK a b) q = max (cntX a q) (cntX b q) := by
  induction a, b using joinK.induct with
  | case1 b =>
    intro lo _ h
    rw [joinK]
    have := cnt_pos (q := q) h
    have e : cntX [] q = 0 := rfl
    rw [e]
    omega
  | case2 x a =>
    intro lo h _
    rw [joinK]
    have := cnt_pos (q := q) h
    have e : cntX [] q = 0 := rfl
    rw [e]
    omega
  | case3 x a y b h ih =>
    intro lo ha hb
    rw [joinK, if_pos h]
    have ih2 := ih x.w ha.2.2.2.2 ⟨h, hb.2⟩
    by_cases hq : x.w = q
    · subst hq
      have e := cnt_low (q := x.w) (lo := x.w) (xs := y :: b) ⟨h, hb.2⟩ (Int.le_refl _)
      have e1 : cntX (x :: joinK a (y :: b)) x.w = x.n := by unfold cntX; rw [if_pos rfl]
      have e2 : cntX (x :: a) x.w = x.n := by unfold cntX; rw [if_pos rfl]
      rw [e, e1, e2]
      have := ha.2.2.1
      omega
    · have e1 : cntX (x :: joinK a (y :: b)) q = cntX (joinK a (y :: b)) q := by rw [cntX, if_neg hq]
      have e2 : cntX (x :: a) q = cntX a q := by rw [cntX, if_neg hq]
      rw [e1, e2, ih2]
  | case4 x a y b h1 h2 ih =>
    intro lo ha hb
    rw [joinK, if_neg h1, if_pos h2]
    have ih2 := ih y.w ⟨h2, ha.2⟩ hb.2.2.2.2
    by_cases hq : y.w = q
    · subst hq
      have e := cnt_low (q := y.w) (lo := y.w) (xs := x :: a) ⟨h2, ha.2⟩ (Int.le_refl _)
      have e1 : cntX (y :: joinK (x :: a) b) y.w = y.n := by unfold cntX; rw [if_pos rfl]
      have e2 : cntX (y :: b) y.w = y.n := by unfold cntX; rw [if_pos rfl]
      rw [e, e1, e2]
      have := hb.2.2.1
      omega
    · have e1 : cntX (y :: joinK (x :: a) b) q = cntX (joinK (x :: a) b) q := by rw [cntX, if_neg hq]
      have e2 : cntX (y :: b) q = cntX b q := by rw [cntX, if_neg hq]
      rw [e1, e2, ih2]
  | case5 x a y b h1 h2 ih =>
    intro lo ha hb
    rw [joinK, if_neg h1, if_neg h2]
    have e : x.w = y.w := by omega
    have ih2 := ih x.w ha.2.2.2.2 (by rw [e]; exact hb.2.2.2.2)
    by_cases hq : x.w = q
    · have e1 : cntX ((⟨x.w, max x.n y.n⟩ : Smp) :: joinK a b) q = max x.n y.n := by rw [cntX, if_pos hq]
      have e2 : cntX (x :: a) q = x.n := by rw [cntX, if_pos hq]
      have e3 : cntX (y :: b) q = y.n := by rw [cntX, if_pos (by omega)]
      rw [e1, e2, e3]
    · have e1 : cntX ((⟨x.w, max x.n y.n⟩ : Smp) :: joinK a b) q = cntX (joinK a b) q := by rw [cntX, if_neg hq]
      have e2 : cntX (x :: a) q = cntX a q := by rw [cntX, if_neg hq]
      have e3 : cntX (y :: b) q = cntX b q := by rw [cntX, if_neg (by omega)]
      rw [e1, e2, e3, ih2]
theorem knows_mk {a b : List Smp} (ha : clkB a = true) (hb : clkB b = true) (h : ∀ q, cntX b q ≤ cntX a q) : knowsB a b = true := by
  unfold knowsB
  rw [ha, hb, Bool.and_true, Bool.and_true, List.all_eq_true]
  intro y hy
  have h1 := (cnt_mem (clkB_srt hb) hy).1
  have h2 := h y.w
  exact decide_eq_true (by omega)
theorem knows_le {a b : List Smp} (h : knowsB a b = true) (q : Int) : cntX b q ≤ cntX a q := by
  unfold knowsB at h
  rw [Bool.and_eq_true, Bool.and_eq_true, List.all_eq_true] at h
  obtain ⟨h1, h2, _⟩ := h
  rcases cnt_from (q := q) (xs := b) with h3 | ⟨y, h3, h4, h5⟩
  · rw [h3]
    exact cnt_pos (clkB_srt h2)
  · have := of_decide_eq_true (h1 y h3)
    rw [h4] at this
    omega
theorem joinC_yes {a b : List Smp} (ha : clkB a = true) (hb : clkB b = true) : joinC a b = joinK a b ∧ clkB (joinC a b) = true ∧ ∀ q, cntX (joinC a b) q = max (cntX a q) (cntX b q) := by
  have e : joinC a b = joinK a b := by unfold joinC; rw [if_pos ⟨ha, hb⟩]
  exact ⟨e, by rw [e]; exact srt_clkB (srt_join a b 0 (clkB_srt ha) (clkB_srt hb)), fun q => by rw [e]; exact cnt_join q a b 0 (clkB_srt ha) (clkB_srt hb)⟩
theorem joinC_no {a b : List Smp} (h : ¬ (clkB a = true ∧ clkB b = true)) : joinC a b = [] := by unfold joinC; rw [if_neg h]
theorem join_knows1 {a b : List Smp} (ha : clkB a = true) (hb : clkB b = true) : knowsB (joinC a b) a = true := knows_mk (joinC_yes ha hb).2.1 ha (fun q => by rw [(joinC_yes ha hb).2.2]; omega)
theorem join_knows2 {a b : List Smp} (ha : clkB a = true) (hb : clkB b = true) : knowsB (joinC a b) b = true := knows_mk (joinC_yes ha hb).2.1 hb (fun q => by rw [(joinC_yes ha hb).2.2]; omega)
theorem join_comm {a b : List Smp} (ha : clkB a = true) (hb : clkB b = true) : joinC b a = joinC a b := srt_ext (clkB_srt (joinC_yes hb ha).2.1) (clkB_srt (joinC_yes ha hb).2.1) (fun q => by rw [(joinC_yes ha hb).2.2, (joinC_yes hb ha).2.2]; omega)
theorem join_self {a : List Smp} (ha : clkB a = true) : joinC a a = a := srt_ext (clkB_srt (joinC_yes ha ha).2.1) (clkB_srt ha) (fun q => by rw [(joinC_yes ha ha).2.2]; omega)
theorem join_of {a b : List Smp} (ha : clkB a = true) (hb : clkB b = true) (h : knowsB a b = true) : joinC a b = a := srt_ext (clkB_srt (joinC_yes ha hb).2.1) (clkB_srt ha) (fun q => by rw [(joinC_yes ha hb).2.2]; have := knows_le h q; omega)
theorem tick_knows {e : List Smp} {q : Int} (he : clkB e = true) : knowsB (tickX e q) e = true := by
  unfold tickX
  split
  · rename_i h
    have h2 := inB_yes h.2.1
    have h3 := cnt_pos (q := q) (clkB_srt he)
    have hs : Srt 0 [⟨q, cntX e q + 1⟩] := ⟨by show 0 < q; omega, by show q ≤ 1000000; omega, by show 1 ≤ cntX e q + 1; omega, by show cntX e q + 1 ≤ 16777215; have := h.2.2; omega, trivial⟩
    exact knows_mk (srt_clkB (srt_join _ _ 0 (clkB_srt he) hs)) he (fun p => by rw [cnt_join p _ _ 0 (clkB_srt he) hs]; omega)
  · exact knows_mk he he (fun p => Int.le_refl _)
theorem tick_ahead {e t : List Smp} {q : Int} (h : cntX e q < cntX t q) : knowsB e t = false := by
  cases c : knowsB e t with
  | false => rfl
  | true =>
    have := knows_le c q
    omega
end Go.Proofs.Ytllghgcancennaa
