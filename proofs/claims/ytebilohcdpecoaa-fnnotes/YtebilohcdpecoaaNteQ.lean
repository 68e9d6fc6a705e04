/-
  Notes: what is true of noted versions, of merged notes, of who covers whom.
-/
import Derived.Test.YtebilohcdpecoaaNteM
namespace Go.Proofs.Ytebilohcdpecoaa
open Go.RowKit

def Nrt : Int → List Nte → Prop
  | _, [] => True
  | lo, x :: xs => lo < x.w ∧ x.w ≤ 1000000 ∧ 1 ≤ x.n ∧ x.n ≤ 16777215 ∧ Nrt x.w xs
theorem nrt_mono {lo lo' : Int} : ∀ {xs : List Nte}, Nrt lo xs → lo' ≤ lo → Nrt lo' xs
  | [], _, _ => trivial
  | x :: xs, h, hl => ⟨by have := h.1; omega, h.2⟩
theorem nrt_of : ∀ (xs : List Nte) (lo : Int), (∀ i, i < xs.length → ((xs.getD i default).w ≤ 1000000 ∧ 1 ≤ (xs.getD i default).n ∧ (xs.getD i default).n ≤ 16777215) ∧ (i = 0 → lo < (xs.getD i default).w) ∧ (0 < i → (xs.getD (i - 1) default).w < (xs.getD i default).w)) → Nrt lo xs
  | [], _, _ => trivial
  | x :: xs, lo, h => by
    have h0 := h 0 (by simp)
    rw [List.getD_cons_zero] at h0
    refine ⟨h0.2.1 rfl, h0.1.1, h0.1.2.1, h0.1.2.2, nrt_of xs x.w (fun i hi => ?_)⟩
    have h1 := h (i + 1) (by simpa using hi)
    rw [List.getD_cons_succ] at h1
    refine ⟨h1.1, fun hz => ?_, fun hp => ?_⟩
    · subst hz
      have := h1.2.2 (by omega)
      simpa using this
    · have := h1.2.2 (by omega)
      obtain ⟨k, rfl⟩ : ∃ k, i = k + 1 := ⟨i - 1, by omega⟩
      simpa using this
theorem nrt_to : ∀ (xs : List Nte) (lo : Int), Nrt lo xs → ∀ i, i < xs.length → ((xs.getD i default).w ≤ 1000000 ∧ 1 ≤ (xs.getD i default).n ∧ (xs.getD i default).n ≤ 16777215) ∧ lo < (xs.getD i default).w ∧ (0 < i → (xs.getD (i - 1) default).w < (xs.getD i default).w)
  | [], _, _, i, hi => by simp at hi
  | x :: xs, lo, h, 0, _ => ⟨⟨h.2.1, h.2.2.1, h.2.2.2.1⟩, h.1, fun hp => by omega⟩
  | x :: xs, lo, h, i + 1, hi => by
    have ih := nrt_to xs x.w h.2.2.2.2 i (by simpa using hi)
    rw [List.getD_cons_succ]
    refine ⟨ih.1, by have := h.1; have := ih.2.1; omega, fun _ => ?_⟩
    cases i with
    | zero => simpa using ih.2.1
    | succ k =>
      have := ih.2.2 (by omega)
      simpa using this
theorem nteB_nrt {xs : List Nte} (h : nteB xs = true) : Nrt 0 xs := by
  refine nrt_of xs 0 (fun i hi => ?_)
  have h1 := nteB_at h hi
  unfold nteAt at h1
  rw [Bool.and_eq_true, Bool.and_eq_true, Bool.or_eq_true] at h1
  obtain ⟨h2, h3, h4⟩ := h1
  have h2 := inB_yes h2
  have h3 := inB_yes h3
  refine ⟨⟨h2.2, h3⟩, fun _ => by omega, fun hp => ?_⟩
  rcases h4 with h4 | h4
  · have := of_decide_eq_true h4
    omega
  · exact of_decide_eq_true h4
theorem nrt_nteB {xs : List Nte} (h : Nrt 0 xs) : nteB xs = true := by
  refine nteB_yes (fun i hi => ?_)
  have h1 := nrt_to xs 0 h i hi
  unfold nteAt
  rw [inB_mk (by omega) h1.1.1, inB_mk h1.1.2.1 h1.1.2.2, Bool.true_and, Bool.true_and, Bool.or_eq_true]
  rcases Nat.eq_zero_or_pos i with h0 | h0
  · exact Or.inl (decide_eq_true h0)
  · exact Or.inr (decide_eq_true (h1.2.2 h0))
theorem nv_low {q : Int} : ∀ {xs : List Nte} {lo : Int}, Nrt lo xs → q ≤ lo → nvX xs q = 0
  | [], _, _, _ => rfl
  | x :: xs, lo, h, hq => by
    unfold nvX
    rw [if_neg (by have := h.1; omega)]
    exact nv_low h.2.2.2.2 (by have := h.1; omega)
theorem nv_pos {q : Int} : ∀ {xs : List Nte} {lo : Int}, Nrt lo xs → 0 ≤ nvX xs q
  | [], _, _ => by unfold nvX; omega
  | x :: xs, lo, h => by
    unfold nvX
    split
    · have := h.2.2.1; omega
    · exact nv_pos h.2.2.2.2
theorem nv_mem {y : Nte} : ∀ {xs : List Nte} {lo : Int}, Nrt lo xs → y ∈ xs → nvX xs y.w = y.n ∧ lo < y.w
  | [], _, _, h => by simp at h
  | x :: xs, lo, h, hy => by
    rcases List.mem_cons.1 hy with rfl | hy
    · exact ⟨by unfold nvX; rw [if_pos rfl], h.1⟩
    · have ih := nv_mem h.2.2.2.2 hy
      refine ⟨?_, by have := h.1; have := ih.2; omega⟩
      unfold nvX
      rw [if_neg (by have := ih.2; omega)]
      exact ih.1
/-- Where a count comes from. -/
theorem nv_from {q : Int} : ∀ {xs : List Nte}, nvX xs q = 0 ∨ ∃ y ∈ xs, y.w = q ∧ y.n = nvX xs q
  | [] => Or.inl rfl
  | x :: xs => by
    unfold nvX
    split
    · rename_i h
      exact Or.inr ⟨x, by simp, h, rfl⟩
    · rcases nv_from (q := q) (xs := xs) with h | ⟨y, h1, h2, h3⟩
      · exact Or.inl h
      · exact Or.inr ⟨y, by simp [h1], h2, h3⟩
theorem nrt_ext : ∀ {a b : List Nte} {lo : Int}, Nrt lo a → Nrt lo b → (∀ q, nvX a q = nvX b q) → a = b
  | [], [], _, _, _, _ => rfl
  | [], y :: b, lo, _, hb, h => by
    have h1 := h y.w
    unfold nvX at h1
    rw [if_pos rfl] at h1
    have := hb.2.2.1
    omega
  | x :: a, [], lo, ha, _, h => by
    have h1 := h x.w
    unfold nvX at h1
    rw [if_pos rfl] at h1
    have := ha.2.2.1
    omega
  | x :: a, y :: b, lo, ha, hb, h => by
    have hw : x.w = y.w := by
      rcases Int.lt_trichotomy x.w y.w with hl | he | hl
      · have h1 := h x.w
        rw [nv_low (lo := x.w) (xs := y :: b) ⟨hl, hb.2⟩ (Int.le_refl _)] at h1
        unfold nvX at h1
        rw [if_pos rfl] at h1
        have := ha.2.2.1
        omega
      · exact he
      · have h1 := h y.w
        rw [nv_low (lo := y.w) (xs := x :: a) ⟨hl, ha.2⟩ (Int.le_refl _)] at h1
        unfold nvX at h1
        rw [if_pos rfl] at h1
        have := hb.2.2.1
        omega
    have hn : x.n = y.n := by
      have h1 := h x.w
      unfold nvX at h1
      rw [if_pos rfl, if_pos hw.symm] at h1
      exact h1
    have hxy : x = y := by
      cases x; cases y
      dsimp only at hw hn
      rw [hw, hn]
    subst hxy
    have ht : a = b := nrt_ext ha.2.2.2.2 hb.2.2.2.2 (fun q => by
      by_cases hq : x.w = q
      · subst hq
        rw [nv_low ha.2.2.2.2 (Int.le_refl _), nv_low hb.2.2.2.2 (Int.le_refl _)]
      · have h1 := h q
        unfold nvX at h1
        rw [if_neg hq, if_neg hq] at h1
        exact h1)
    rw [ht]
theorem nrt_join (a b : List Nte) : ∀ lo, Nrt lo a → Nrt lo b → Nrt lo (joinN a b) := by
  induction a, b using joinN.induct with
  | case1 b => intro lo _ h; rw [joinN]; exact h
  | case2 x a => intro lo h _; rw [joinN]; exact h
  | case3 x a y b h ih =>
    intro lo ha hb
    rw [joinN, if_pos h]
    exact ⟨ha.1, ha.2.1, ha.2.2.1, ha.2.2.2.1, ih x.w ha.2.2.2.2 ⟨h, hb.2⟩⟩
  | case4 x a y b h1 h2 ih =>
    intro lo ha hb
    rw [joinN, if_neg h1, if_pos h2]
    exact ⟨hb.1, hb.2.1, hb.2.2.1, hb.2.2.2.1, ih y.w ⟨h2, ha.2⟩ hb.2.2.2.2⟩
  | case5 x a y b h1 h2 ih =>
    intro lo ha hb
    rw [joinN, if_neg h1, if_neg h2]
    have e : x.w = y.w := by omega
    refine ⟨ha.1, ha.2.1, ?_, ?_, ih x.w ha.2.2.2.2 (by rw [e]; exact hb.2.2.2.2)⟩
    · show 1 ≤ max x.n y.n
      have := ha.2.2.1
      omega
    · show max x.n y.n ≤ 16777215
      have := ha.2.2.2.1
      have := hb.2.2.2.1
      omega
theorem nv_join (q : Int) (a b : List Nte) : ∀ lo, Nrt lo a → Nrt lo b → nvX (joinN a b) q = max (nvX a q) (nvX b q) := by
  induction a, b using joinN.induct with
  | case1 b =>
    intro lo _ h
    rw [joinN]
    have := nv_pos (q := q) h
    have e : nvX [] q = 0 := rfl
    rw [e]
    omega
  | case2 x a =>
    intro lo h _
    rw [joinN]
    have := nv_pos (q := q) h
    have e : nvX [] q = 0 := rfl
    rw [e]
    omega
  | case3 x a y b h ih =>
    intro lo ha hb
    rw [joinN, if_pos h]
    have ih2 := ih x.w ha.2.2.2.2 ⟨h, hb.2⟩
    by_cases hq : x.w = q
    · subst hq
      have e := nv_low (q := x.w) (lo := x.w) (xs := y :: b) ⟨h, hb.2⟩ (Int.le_refl _)
      have e1 : nvX (x :: joinN a (y :: b)) x.w = x.n := by unfold nvX; rw [if_pos rfl]
      have e2 : nvX (x :: a) x.w = x.n := by unfold nvX; rw [if_pos rfl]
      rw [e, e1, e2]
      have := ha.2.2.1
      omega
    · have e1 : nvX (x :: joinN a (y :: b)) q = nvX (joinN a (y :: b)) q := by rw [nvX, if_neg hq]
      have e2 : nvX (x :: a) q = nvX a q := by rw [nvX, if_neg hq]
      rw [e1, e2, ih2]
  | case4 x a y b h1 h2 ih =>
    intro lo ha hb
    rw [joinN, if_neg h1, if_pos h2]
    have ih2 := ih y.w ⟨h2, ha.2⟩ hb.2.2.2.2
    by_cases hq : y.w = q
    · subst hq
      have e := nv_low (q := y.w) (lo := y.w) (xs := x :: a) ⟨h2, ha.2⟩ (Int.le_refl _)
      have e1 : nvX (y :: joinN (x :: a) b) y.w = y.n := by unfold nvX; rw [if_pos rfl]
      have e2 : nvX (y :: b) y.w = y.n := by unfold nvX; rw [if_pos rfl]
      rw [e, e1, e2]
      have := hb.2.2.1
      omega
    · have e1 : nvX (y :: joinN (x :: a) b) q = nvX (joinN (x :: a) b) q := by rw [nvX, if_neg hq]
      have e2 : nvX (y :: b) q = nvX b q := by rw [nvX, if_neg hq]
      rw [e1, e2, ih2]
  | case5 x a y b h1 h2 ih =>
    intro lo ha hb
    rw [joinN, if_neg h1, if_neg h2]
    have e : x.w = y.w := by omega
    have ih2 := ih x.w ha.2.2.2.2 (by rw [e]; exact hb.2.2.2.2)
    by_cases hq : x.w = q
    · have e1 : nvX ((⟨x.w, max x.n y.n⟩ : Nte) :: joinN a b) q = max x.n y.n := by rw [nvX, if_pos hq]
      have e2 : nvX (x :: a) q = x.n := by rw [nvX, if_pos hq]
      have e3 : nvX (y :: b) q = y.n := by rw [nvX, if_pos (by omega)]
      rw [e1, e2, e3]
    · have e1 : nvX ((⟨x.w, max x.n y.n⟩ : Nte) :: joinN a b) q = nvX (joinN a b) q := by rw [nvX, if_neg hq]
      have e2 : nvX (x :: a) q = nvX a q := by rw [nvX, if_neg hq]
      have e3 : nvX (y :: b) q = nvX b q := by rw [nvX, if_neg (by omega)]
      rw [e1, e2, e3, ih2]
theorem ntk_nte {xs : List Nte} (h : ntkB xs = true) : nteB xs = true := by
  unfold ntkB at h
  rw [Bool.and_eq_true] at h
  exact h.1
theorem ntk_nrt {xs : List Nte} (h : ntkB xs = true) : Nrt 0 xs := nteB_nrt (ntk_nte h)
theorem ntk_mk {xs : List Nte} (h : Nrt 0 xs) (hl : xs.length ≤ 130) : ntkB xs = true := by
  unfold ntkB
  rw [nrt_nteB h, decide_eq_true hl]
  rfl
theorem joinN_nrt {a b : List Nte} (ha : ntkB a = true) (hb : ntkB b = true) : Nrt 0 (joinN a b) := nrt_join a b 0 (ntk_nrt ha) (ntk_nrt hb)
theorem cov_mk {a b : List Nte} (ha : ntkB a = true) (hb : ntkB b = true) (h : ∀ q, nvX b q ≤ nvX a q) : covB a b = true := by
  unfold covB
  rw [ha, hb, Bool.and_true, Bool.and_true, List.all_eq_true]
  intro y hy
  have h1 := (nv_mem (ntk_nrt hb) hy).1
  have h2 := h y.w
  exact decide_eq_true (by omega)
theorem cov_ok {a b : List Nte} (h : covB a b = true) : ntkB a = true ∧ ntkB b = true := by
  unfold covB at h
  rw [Bool.and_eq_true, Bool.and_eq_true] at h
  exact h.2
theorem cov_le {a b : List Nte} (h : covB a b = true) (q : Int) : nvX b q ≤ nvX a q := by
  have h2 := cov_ok h
  unfold covB at h
  rw [Bool.and_eq_true, List.all_eq_true] at h
  rcases nv_from (q := q) (xs := b) with h3 | ⟨y, h3, h4, h5⟩
  · rw [h3]
    exact nv_pos (ntk_nrt h2.1)
  · have := of_decide_eq_true (h.1 y h3)
    rw [h4] at this
    omega
theorem cov_eq {a b : List Nte} (ha : ntkB a = true) (hb : ntkB b = true) : covB a b = true ↔ joinN a b = a := by
  constructor
  · intro h
    exact nrt_ext (joinN_nrt ha hb) (ntk_nrt ha) (fun q => by rw [nv_join q a b 0 (ntk_nrt ha) (ntk_nrt hb)]; have := cov_le h q; omega)
  · intro h
    refine cov_mk ha hb (fun q => ?_)
    have := nv_join q a b 0 (ntk_nrt ha) (ntk_nrt hb)
    rw [h] at this
    omega
theorem joinN_self {a : List Nte} (ha : ntkB a = true) : joinN a a = a := nrt_ext (joinN_nrt ha ha) (ntk_nrt ha) (fun q => by rw [nv_join q a a 0 (ntk_nrt ha) (ntk_nrt ha)]; omega)
theorem joinN_comm {a b : List Nte} (ha : ntkB a = true) (hb : ntkB b = true) : joinN b a = joinN a b := nrt_ext (joinN_nrt hb ha) (joinN_nrt ha hb) (fun q => by rw [nv_join q a b 0 (ntk_nrt ha) (ntk_nrt hb), nv_join q b a 0 (ntk_nrt hb) (ntk_nrt ha)]; omega)
theorem joinN_assoc {a b c : List Nte} (ha : ntkB a = true) (hb : ntkB b = true) (hc : ntkB c = true) : joinN (joinN a b) c = joinN a (joinN b c) :=
  nrt_ext (nrt_join _ _ 0 (joinN_nrt ha hb) (ntk_nrt hc)) (nrt_join _ _ 0 (ntk_nrt ha) (joinN_nrt hb hc)) (fun q => by
    rw [nv_join q _ _ 0 (joinN_nrt ha hb) (ntk_nrt hc), nv_join q _ _ 0 (ntk_nrt ha) (joinN_nrt hb hc), nv_join q a b 0 (ntk_nrt ha) (ntk_nrt hb), nv_join q b c 0 (ntk_nrt hb) (ntk_nrt hc)]
    omega)
theorem mergeX_no {a b : List Nte} (h : ¬ (ntkB a = true ∧ ntkB b = true)) : mergeX a b = a := by
  unfold mergeX
  rw [if_neg (fun h1 => h ⟨h1.1, h1.2.1⟩)]
theorem mergeX_big {a b : List Nte} (h : ¬ ntkB (joinN a b) = true) : mergeX a b = a := by
  unfold mergeX
  rw [if_neg (fun h1 => h h1.2.2)]
theorem mergeX_in {a b : List Nte} (ha : ntkB a = true) (hb : ntkB b = true) (hj : ntkB (joinN a b) = true) : mergeX a b = joinN a b := by
  unfold mergeX
  rw [if_pos ⟨ha, hb, hj⟩]
/-- What is short enough is merged. -/
theorem mergeX_short {a b : List Nte} (ha : ntkB a = true) (hb : ntkB b = true) (hl : a.length + b.length ≤ 130) : mergeX a b = joinN a b ∧ ntkB (joinN a b) = true := by
  have hj := ntk_mk (joinN_nrt ha hb) (by have := joinN_len a b; omega)
  exact ⟨mergeX_in ha hb hj, hj⟩
theorem mergeX_len {a b : List Nte} : (mergeX a b).length ≤ a.length + b.length := by
  unfold mergeX
  split
  · exact joinN_len a b
  · omega
theorem mergeX_three {a b c : List Nte} (ha : ntkB a = true) (hb : ntkB b = true) (hc : ntkB c = true) (hl : a.length + b.length + c.length ≤ 130) : mergeX (mergeX a b) c = mergeX a (mergeX b c) := by
  obtain ⟨e1, k1⟩ := mergeX_short ha hb (by omega)
  obtain ⟨e2, k2⟩ := mergeX_short hb hc (by omega)
  rw [e1, e2, (mergeX_short k1 hc (by have := joinN_len a b; omega)).1, (mergeX_short ha k2 (by have := joinN_len b c; omega)).1]
  exact joinN_assoc ha hb hc
theorem mergeX_comm {a b : List Nte} (ha : ntkB a = true) (hb : ntkB b = true) (hl : a.length + b.length ≤ 130) : mergeX b a = mergeX a b := by
  rw [(mergeX_short ha hb hl).1, (mergeX_short hb ha (by omega)).1]
  exact joinN_comm ha hb
theorem mergeX_self {a : List Nte} (ha : ntkB a = true) : mergeX a a = a := by
  rw [mergeX_in ha ha (by rw [joinN_self ha]; exact ha), joinN_self ha]
/-- Either it was merged, and then it covers both; or it is as it was. -/
theorem mergeX_cases {a b : List Nte} (ha : ntkB a = true) (hb : ntkB b = true) : (mergeX a b = a ∧ ntkB (joinN a b) = false) ∨ (mergeX a b = joinN a b ∧ ntkB (joinN a b) = true) := by
  cases hj : ntkB (joinN a b) with
  | false => exact .inl ⟨mergeX_big (by rw [hj]; simp), rfl⟩
  | true => exact .inr ⟨mergeX_in ha hb hj, rfl⟩
theorem mergeX_nv {a b : List Nte} (ha : ntkB a = true) (hb : ntkB b = true) (q : Int) : nvX (mergeX a b) q ≤ max (nvX a q) (nvX b q) := by
  rcases mergeX_cases ha hb with ⟨e, _⟩ | ⟨e, _⟩
  · rw [e]; omega
  · rw [e, nv_join q a b 0 (ntk_nrt ha) (ntk_nrt hb)]
    exact Int.le_refl _
theorem mergeX_ntk {a b : List Nte} (ha : ntkB a = true) (hb : ntkB b = true) : ntkB (mergeX a b) = true := by
  rcases mergeX_cases ha hb with ⟨e, _⟩ | ⟨e, h⟩
  · rw [e]; exact ha
  · rw [e]; exact h
theorem mergeX_cov1 {a b : List Nte} (ha : ntkB a = true) (hb : ntkB b = true) : covB (mergeX a b) a = true := by
  rcases mergeX_cases ha hb with ⟨e, _⟩ | ⟨e, h⟩
  · rw [e]; exact cov_mk ha ha (fun q => Int.le_refl _)
  · rw [e]; exact cov_mk h ha (fun q => by rw [nv_join q a b 0 (ntk_nrt ha) (ntk_nrt hb)]; omega)
/-- Where it does not cover the other one, it is as it was. -/
theorem mergeX_cov2 {a b : List Nte} (ha : ntkB a = true) (hb : ntkB b = true) (h : covB (mergeX a b) b = false) : mergeX a b = a := by
  rcases mergeX_cases ha hb with ⟨e, _⟩ | ⟨e, hj⟩
  · exact e
  · rw [e, cov_mk hj hb (fun q => by rw [nv_join q a b 0 (ntk_nrt ha) (ntk_nrt hb)]; omega)] at h
    cases h
theorem mergeX_again {a b : List Nte} (ha : ntkB a = true) (hb : ntkB b = true) (h : covB (mergeX a b) b = true) : mergeX (mergeX a b) b = mergeX a b := by
  have hm := mergeX_ntk ha hb
  have he := (cov_eq hm hb).1 h
  rw [mergeX_in hm hb (by rw [he]; exact hm), he]
end Go.Proofs.Ytebilohcdpecoaa
