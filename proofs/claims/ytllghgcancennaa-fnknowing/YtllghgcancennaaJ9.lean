/-
  Joined: ClkQ, EvR.
-/
import Derived.Test.YtllghgcancennaaJ8
import Derived.Test.YtllghgcancennaaJ7
import Derived.Laws.StructEq
/-
  Clocks: what is true of counts, of joined clocks, of who knows whom.
-/
namespace Go.Proofs.Ytllghgcancennaa
open Go.RowKit

def Srt : Int → List Smp → Prop
  | _, [] => True
  | lo, x :: xs => lo < x.w ∧ x.w ≤ 1000000 ∧ 1 ≤ x.n ∧ x.n ≤ 16777215 ∧ Srt x.w xs
theorem srt_mono {lo lo' : Int} : ∀ {xs : List Smp}, Srt lo xs → lo' ≤ lo → Srt lo' xs
  | [], _, _ => trivial
  | x :: xs, h, hl => ⟨by have := h.1; omega, h.2⟩
theorem srt_of : ∀ (xs : List Smp) (lo : Int), (∀ i, i < xs.length → ((xs.getD i default).w ≤ 1000000 ∧ 1 ≤ (xs.getD i default).n ∧ (xs.getD i default).n ≤ 16777215) ∧ (i = 0 → lo < (xs.getD i default).w) ∧ (0 < i → (xs.getD (i - 1) default).w < (xs.getD i default).w)) → Srt lo xs
  | [], _, _ => trivial
  | x :: xs, lo, h => by
    have h0 := h 0 (by simp)
    rw [List.getD_cons_zero] at h0
    refine ⟨h0.2.1 rfl, h0.1.1, h0.1.2.1, h0.1.2.2, srt_of xs x.w (fun i hi => ?_)⟩
    have h1 := h (i + 1) (by simpa using hi)
    rw [List.getD_cons_succ] at h1
    refine ⟨h1.1, fun hz => ?_, fun hp => ?_⟩
    · subst hz
      have := h1.2.2 (by omega)
      simpa using this
    · have := h1.2.2 (by omega)
      obtain ⟨k, rfl⟩ : ∃ k, i = k + 1 := ⟨i - 1, by omega⟩
      simpa using this
theorem srt_to : ∀ (xs : List Smp) (lo : Int), Srt lo xs → ∀ i, i < xs.length → ((xs.getD i default).w ≤ 1000000 ∧ 1 ≤ (xs.getD i default).n ∧ (xs.getD i default).n ≤ 16777215) ∧ lo < (xs.getD i default).w ∧ (0 < i → (xs.getD (i - 1) default).w < (xs.getD i default).w)
  | [], _, _, i, hi => by simp at hi
  | x :: xs, lo, h, 0, _ => ⟨⟨h.2.1, h.2.2.1, h.2.2.2.1⟩, h.1, fun hp => by omega⟩
  | x :: xs, lo, h, i + 1, hi => by
    have ih := srt_to xs x.w h.2.2.2.2 i (by simpa using hi)
    rw [List.getD_cons_succ]
    refine ⟨ih.1, by have := h.1; have := ih.2.1; omega, fun _ => ?_⟩
    cases i with
    | zero => simpa using ih.2.1
    | succ k =>
      have := ih.2.2 (by omega)
      simpa using this
theorem clkB_srt {xs : List Smp} (h : clkB xs = true) : Srt 0 xs := by
  refine srt_of xs 0 (fun i hi => ?_)
  have h1 := clkB_at h hi
  unfold clkAt at h1
  rw [Bool.and_eq_true, Bool.and_eq_true, Bool.or_eq_true] at h1
  obtain ⟨h2, h3, h4⟩ := h1
  have h2 := inB_yes h2
  have h3 := inB_yes h3
  refine ⟨⟨h2.2, h3⟩, fun _ => by omega, fun hp => ?_⟩
  rcases h4 with h4 | h4
  · have := of_decide_eq_true h4
    omega
  · exact of_decide_eq_true h4
theorem srt_clkB {xs : List Smp} (h : Srt 0 xs) : clkB xs = true := by
  refine clkB_yes (fun i hi => ?_)
  have h1 := srt_to xs 0 h i hi
  unfold clkAt
  rw [inB_mk (by omega) h1.1.1, inB_mk h1.1.2.1 h1.1.2.2, Bool.true_and, Bool.true_and, Bool.or_eq_true]
  rcases Nat.eq_zero_or_pos i with h0 | h0
  · exact Or.inl (decide_eq_true h0)
  · exact Or.inr (decide_eq_true (h1.2.2 h0))
theorem cnt_low {q : Int} : ∀ {xs : List Smp} {lo : Int}, Srt lo xs → q ≤ lo → cntX xs q = 0
  | [], _, _, _ => rfl
  | x :: xs, lo, h, hq => by
    unfold cntX
    rw [if_neg (by have := h.1; omega)]
    exact cnt_low h.2.2.2.2 (by have := h.1; omega)
theorem cnt_pos {q : Int} : ∀ {xs : List Smp} {lo : Int}, Srt lo xs → 0 ≤ cntX xs q
  | [], _, _ => by unfold cntX; omega
  | x :: xs, lo, h => by
    unfold cntX
    split
    · have := h.2.2.1; omega
    · exact cnt_pos h.2.2.2.2
theorem cnt_mem {y : Smp} : ∀ {xs : List Smp} {lo : Int}, Srt lo xs → y ∈ xs → cntX xs y.w = y.n ∧ lo < y.w
  | [], _, _, h => by simp at h
  | x :: xs, lo, h, hy => by
    rcases List.mem_cons.1 hy with rfl | hy
    · exact ⟨by unfold cntX; rw [if_pos rfl], h.1⟩
    · have ih := cnt_mem h.2.2.2.2 hy
      refine ⟨?_, by have := h.1; have := ih.2; omega⟩
      unfold cntX
      rw [if_neg (by have := ih.2; omega)]
      exact ih.1
/-- Where a count comes from. -/
theorem cnt_from {q : Int} : ∀ {xs : List Smp}, cntX xs q = 0 ∨ ∃ y ∈ xs, y.w = q ∧ y.n = cntX xs q
  | [] => Or.inl rfl
  | x :: xs => by
    unfold cntX
    split
    · rename_i h
      exact Or.inr ⟨x, by simp, h, rfl⟩
    · rcases cnt_from (q := q) (xs := xs) with h | ⟨y, h1, h2, h3⟩
      · exact Or.inl h
      · exact Or.inr ⟨y, by simp [h1], h2, h3⟩
theorem srt_ext : ∀ {a b : List Smp} {lo : Int}, Srt lo a → Srt lo b → (∀ q, cntX a q = cntX b q) → a = b
  | [], [], _, _, _, _ => rfl
  | [], y :: b, lo, _, hb, h => by
    have h1 := h y.w
    unfold cntX at h1
    rw [if_pos rfl] at h1
    have := hb.2.2.1
    omega
  | x :: a, [], lo, ha, _, h => by
    have h1 := h x.w
    unfold cntX at h1
    rw [if_pos rfl] at h1
    have := ha.2.2.1
    omega
  | x :: a, y :: b, lo, ha, hb, h => by
    have hw : x.w = y.w := by
      rcases Int.lt_trichotomy x.w y.w with hl | he | hl
      · have h1 := h x.w
        rw [cnt_low (lo := x.w) (xs := y :: b) ⟨hl, hb.2⟩ (Int.le_refl _)] at h1
        unfold cntX at h1
        rw [if_pos rfl] at h1
        have := ha.2.2.1
        omega
      · exact he
      · have h1 := h y.w
        rw [cnt_low (lo := y.w) (xs := x :: a) ⟨hl, ha.2⟩ (Int.le_refl _)] at h1
        unfold cntX at h1
        rw [if_pos rfl] at h1
        have := hb.2.2.1
        omega
    have hn : x.n = y.n := by
      have h1 := h x.w
      unfold cntX at h1
      rw [if_pos rfl, if_pos hw.symm] at h1
      exact h1
    have hxy : x = y := by
      cases x; cases y
      dsimp only at hw hn
      rw [hw, hn]
    subst hxy
    have ht : a = b := srt_ext ha.2.2.2.2 hb.2.2.2.2 (fun q => by
      by_cases hq : x.w = q
      · subst hq
        rw [cnt_low ha.2.2.2.2 (Int.le_refl _), cnt_low hb.2.2.2.2 (Int.le_refl _)]
      · have h1 := h q
        unfold cntX at h1
        rw [if_neg hq, if_neg hq] at h1
        exact h1)
    rw [ht]
theorem srt_join (a b : List Smp) : ∀ lo, Srt lo a → Srt lo b → Srt lo (joinK a b) := by
  induction a, b using joinK.induct with
  | case1 b => intro lo _ h; rw [joinK]; exact h
  | case2 x a => intro lo h _; rw [joinK]; exact h
  | case3 x a y b h ih =>
    intro lo ha hb
    rw [joinK, if_pos h]
    exact ⟨ha.1, ha.2.1, ha.2.2.1, ha.2.2.2.1, ih x.w ha.2.2.2.2 ⟨h, hb.2⟩⟩
  | case4 x a y b h1 h2 ih =>
    intro lo ha hb
    rw [joinK, if_neg h1, if_pos h2]
    exact ⟨hb.1, hb.2.1, hb.2.2.1, hb.2.2.2.1, ih y.w ⟨h2, ha.2⟩ hb.2.2.2.2⟩
  | case5 x a y b h1 h2 ih =>
    intro lo ha hb
    rw [joinK, if_neg h1, if_neg h2]
    have e : x.w = y.w := by omega
    refine ⟨ha.1, ha.2.1, ?_, ?_, ih x.w ha.2.2.2.2 (by rw [e]; exact hb.2.2.2.2)⟩
    · show 1 ≤ max x.n y.n
      have := ha.2.2.1
      omega
    · show max x.n y.n ≤ 16777215
      have := ha.2.2.2.1
      have := hb.2.2.2.1
      omega
theorem cnt_join (q : Int) (a b : List Smp) : ∀ lo, Srt lo a → Srt lo b → cntX (joinK a b) q = max (cntX a q) (cntX b q) := by
  induction a, b using joinK.induct with
  | case1 b =>
    intro lo _ h
    rw [joinK]
    have := cnt_pos (q := q) h
    have e : cntX [] q = 0 := rfl
    rw [e]
    omega
  | case2 x a =>
    intro lo h _
    rw [joinK]
    have := cnt_pos (q := q) h
    have e : cntX [] q = 0 := rfl
    rw [e]
    omega
  | case3 x a y b h ih =>
    intro lo ha hb
    rw [joinK, if_pos h]
    have ih2 := ih x.w ha.2.2.2.2 ⟨h, hb.2⟩
    by_cases hq : x.w = q
    · subst hq
      have e := cnt_low (q := x.w) (lo := x.w) (xs := y :: b) ⟨h, hb.2⟩ (Int.le_refl _)
      have e1 : cntX (x :: joinK a (y :: b)) x.w = x.n := by unfold cntX; rw [if_pos rfl]
      have e2 : cntX (x :: a) x.w = x.n := by unfold cntX; rw [if_pos rfl]
      rw [e, e1, e2]
      have := ha.2.2.1
      omega
    · have e1 : cntX (x :: joinK a (y :: b)) q = cntX (joinK a (y :: b)) q := by rw [cntX, if_neg hq]
      have e2 : cntX (x :: a) q = cntX a q := by rw [cntX, if_neg hq]
      rw [e1, e2, ih2]
  | case4 x a y b h1 h2 ih =>
    intro lo ha hb
    rw [joinK, if_neg h1, if_pos h2]
    have ih2 := ih y.w ⟨h2, ha.2⟩ hb.2.2.2.2
    by_cases hq : y.w = q
    · subst hq
      have e := cnt_low (q := y.w) (lo := y.w) (xs := x :: a) ⟨h2, ha.2⟩ (Int.le_refl _)
      have e1 : cntX (y :: joinK (x :: a) b) y.w = y.n := by unfold cntX; rw [if_pos rfl]
      have e2 : cntX (y :: b) y.w = y.n := by unfold cntX; rw [if_pos rfl]
      rw [e, e1, e2]
      have := hb.2.2.1
      omega
    · have e1 : cntX (y :: joinK (x :: a) b) q = cntX (joinK (x :: a) b) q := by rw [cntX, if_neg hq]
      have e2 : cntX (y :: b) q = cntX b q := by rw [cntX, if_neg hq]
      rw [e1, e2, ih2]
  | case5 x a y b h1 h2 ih =>
    intro lo ha hb
    rw [joinK, if_neg h1, if_neg h2]
    have e : x.w = y.w := by omega
    have ih2 := ih x.w ha.2.2.2.2 (by rw [e]; exact hb.2.2.2.2)
    by_cases hq : x.w = q
    · have e1 : cntX ((⟨x.w, max x.n y.n⟩ : Smp) :: joinK a b) q = max x.n y.n := by rw [cntX, if_pos hq]
      have e2 : cntX (x :: a) q = x.n := by rw [cntX, if_pos hq]
      have e3 : cntX (y :: b) q = y.n := by rw [cntX, if_pos (by omega)]
      rw [e1, e2, e3]
    · have e1 : cntX ((⟨x.w, max x.n y.n⟩ : Smp) :: joinK a b) q = cntX (joinK a b) q := by rw [cntX, if_neg hq]
      have e2 : cntX (x :: a) q = cntX a q := by rw [cntX, if_neg hq]
      have e3 : cntX (y :: b) q = cntX b q := by rw [cntX, if_neg (by omega)]
      rw [e1, e2, e3, ih2]
theorem knows_mk {a b : List Smp} (ha : clkB a = true) (hb : clkB b = true) (h : ∀ q, cntX b q ≤ cntX a q) : knowsB a b = true := by
  unfold knowsB
  rw [ha, hb, Bool.and_true, Bool.and_true, List.all_eq_true]
  intro y hy
  have h1 := (cnt_mem (clkB_srt hb) hy).1
  have h2 := h y.w
  exact decide_eq_true (by omega)
theorem knows_le {a b : List Smp} (h : knowsB a b = true) (q : Int) : cntX b q ≤ cntX a q := by
  unfold knowsB at h
  rw [Bool.and_eq_true, Bool.and_eq_true, List.all_eq_true] at h
  obtain ⟨h1, h2, _⟩ := h
  rcases cnt_from (q := q) (xs := b) with h3 | ⟨y, h3, h4, h5⟩
  · rw [h3]
    exact cnt_pos (clkB_srt h2)
  · have := of_decide_eq_true (h1 y h3)
    rw [h4] at this
    omega
theorem joinC_yes {a b : List Smp} (ha : clkB a = true) (hb : clkB b = true) : joinC a b = joinK a b ∧ clkB (joinC a b) = true ∧ ∀ q, cntX (joinC a b) q = max (cntX a q) (cntX b q) := by
  have e : joinC a b = joinK a b := by unfold joinC; rw [if_pos ⟨ha, hb⟩]
  exact ⟨e, by rw [e]; exact srt_clkB (srt_join a b 0 (clkB_srt ha) (clkB_srt hb)), fun q => by rw [e]; exact cnt_join q a b 0 (clkB_srt ha) (clkB_srt hb)⟩
theorem joinC_no {a b : List Smp} (h : ¬ (clkB a = true ∧ clkB b = true)) : joinC a b = [] := by unfold joinC; rw [if_neg h]
theorem join_knows1 {a b : List Smp} (ha : clkB a = true) (hb : clkB b = true) : knowsB (joinC a b) a = true := knows_mk (joinC_yes ha hb).2.1 ha (fun q => by rw [(joinC_yes ha hb).2.2]; omega)
theorem join_knows2 {a b : List Smp} (ha : clkB a = true) (hb : clkB b = true) : knowsB (joinC a b) b = true := knows_mk (joinC_yes ha hb).2.1 hb (fun q => by rw [(joinC_yes ha hb).2.2]; omega)
theorem join_comm {a b : List Smp} (ha : clkB a = true) (hb : clkB b = true) : joinC b a = joinC a b := srt_ext (clkB_srt (joinC_yes hb ha).2.1) (clkB_srt (joinC_yes ha hb).2.1) (fun q => by rw [(joinC_yes ha hb).2.2, (joinC_yes hb ha).2.2]; omega)
theorem join_self {a : List Smp} (ha : clkB a = true) : joinC a a = a := srt_ext (clkB_srt (joinC_yes ha ha).2.1) (clkB_srt ha) (fun q => by rw [(joinC_yes ha ha).2.2]; omega)
theorem join_of {a b : List Smp} (ha : clkB a = true) (hb : clkB b = true) (h : knowsB a b = true) : joinC a b = a := srt_ext (clkB_srt (joinC_yes ha hb).2.1) (clkB_srt ha) (fun q => by rw [(joinC_yes ha hb).2.2]; have := knows_le h q; omega)
theorem tick_knows {e : List Smp} {q : Int} (he : clkB e = true) : knowsB (tickX e q) e = true := by
  unfold tickX
  split
  · rename_i h
    have h2 := inB_yes h.2.1
    have h3 := cnt_pos (q := q) (clkB_srt he)
    have hs : Srt 0 [⟨q, cntX e q + 1⟩] := ⟨by show 0 < q; omega, by show q ≤ 1000000; omega, by show 1 ≤ cntX e q + 1; omega, by show cntX e q + 1 ≤ 16777215; have := h.2.2; omega, trivial⟩
    exact knows_mk (srt_clkB (srt_join _ _ 0 (clkB_srt he) hs)) he (fun p => by rw [cnt_join p _ _ 0 (clkB_srt he) hs]; omega)
  · exact knows_mk he he (fun p => Int.le_refl _)
theorem tick_ahead {e t : List Smp} {q : Int} (h : cntX e q < cntX t q) : knowsB e t = false := by
  cases c : knowsB e t with
  | false => rfl
  | true =>
    have := knows_le c q
    omega
end Go.Proofs.Ytllghgcancennaa
/-
  Events as data: how they come in, how great they are, copies, comparison, marks.
-/
namespace Go.Proofs.Ytllghgcancennaa
open Go.ChangeShapes Go.WideShapes Go.RowKit

structure Evt where
  w : Int
  k : Int
  i : Int
  a : Int
instance : Inhabited Evt := ⟨⟨0, 0, 0, 0⟩⟩
def evtD (x : Evt) : List Dt := [.val (.int .i64 x.w), .val (.int .i64 x.k), .val (.int .i64 x.i), .val (.int .i64 x.a)]
def evtV (x : Evt) : Value := .agg #[.int .i64 x.w, .int .i64 x.k, .int .i64 x.i, .int .i64 x.a]
def evts (xs : List Evt) : Dt := .row 40 4 xs.length (xs.flatMap evtD)
theorem event_at {w : World} {B : Nat} {v : Value} {xs : List Evt} (h : Reads w B (evts xs) v) :
    ∃ a cap, v = .slice a xs.length cap ∧ xs.length ≤ cap ∧ (a = none → cap = 0) ∧ (0 < xs.length → ∃ b o, a = some ⟨b, o, none⟩ ∧ b < B ∧ ∀ j, j < xs.length → w.cell? ⟨b, o + j * 4, none⟩ = some (.int .i64 (xs.getD j default).w) ∧ w.cell? ⟨b, o + j * 4 + 1, none⟩ = some (.int .i64 (xs.getD j default).k) ∧ w.cell? ⟨b, o + j * 4 + 2, none⟩ = some (.int .i64 (xs.getD j default).i) ∧ w.cell? ⟨b, o + j * 4 + 3, none⟩ = some (.int .i64 (xs.getD j default).a)) := by
  obtain ⟨a, cap, rfl, h1, h2, h3⟩ := row_at (f := evtD) (k := 4) (fun _ => rfl) rfl h
  refine ⟨a, cap, rfl, h1, h2, fun hp => ?_⟩
  obtain ⟨b, o, rfl, hb, hc⟩ := h3 hp
  refine ⟨b, o, rfl, hb, fun j hj => ?_⟩
  obtain ⟨vs, h4, h5⟩ := hc j hj
  obtain ⟨u0, vs0, rfl, q0, h4⟩ := readsL_cons h4
  obtain ⟨u1, vs1, rfl, q1, h4⟩ := readsL_cons h4
  obtain ⟨u2, vs2, rfl, q2, h4⟩ := readsL_cons h4
  obtain ⟨u3, vs3, rfl, q3, h4⟩ := readsL_cons h4
  obtain rfl := readsL_nil h4
  obtain rfl := reads_val q0
  obtain rfl := reads_val q1
  obtain rfl := reads_val q2
  obtain rfl := reads_val q3
  have c0 := h5 0 (by omega)
  have c1 := h5 1 (by omega)
  have c2 := h5 2 (by omega)
  have c3 := h5 3 (by omega)
  rw [Nat.add_zero] at c0
  exact ⟨c0, c1, c2, c3⟩
structure EvtR (x : Evt) : Prop where
  w : -9223372036854775808 ≤ x.w ∧ x.w ≤ 9223372036854775807
  k : -9223372036854775808 ≤ x.k ∧ x.k ≤ 9223372036854775807
  i : -9223372036854775808 ≤ x.i ∧ x.i ≤ 9223372036854775807
  a : -9223372036854775808 ≤ x.a ∧ x.a ≤ 9223372036854775807
def evtW (_x : Evt) : Nat := 0
structure EvtG (x : Evt) : Prop where
  w : -9223372036854775808 ≤ x.w ∧ x.w ≤ 9223372036854775807
  k : -9223372036854775808 ≤ x.k ∧ x.k ≤ 9223372036854775807
  i : -9223372036854775808 ≤ x.i ∧ x.i ≤ 9223372036854775807
  a : -9223372036854775808 ≤ x.a ∧ x.a ≤ 9223372036854775807
theorem evtG_of {x : Evt} (hr : EvtR x) (_hw : evtW x ≤ 1048576) : EvtG x := ⟨hr.w, hr.k, hr.i, hr.a⟩
def evtsR (xs : List Evt) : Prop := xs.length ≤ maxLen ∧ ∀ y ∈ xs, EvtR y
def evtsW (xs : List Evt) : Nat := xs.length
def evtsG (xs : List Evt) : Prop := xs.length ≤ 1048576 ∧ ∀ y ∈ xs, EvtG y
theorem evtsG_of {xs : List Evt} (hr : evtsR xs) (hw : evtsW xs ≤ 1048576) : evtsG xs := ⟨hw, fun y hy => evtG_of (hr.2 y hy) (Nat.zero_le _)⟩
def evtC (x : Evt) : List Value := [.int .i64 x.w, .int .i64 x.k, .int .i64 x.i, .int .i64 x.a]
theorem evt_reads {w : World} {B : Nat} (x : Evt) : ReadsL w B (evtD x) (evtC x) := readsL_mk reads_val' (readsL_mk reads_val' (readsL_mk reads_val' (readsL_mk reads_val' readsL_none)))
set_option maxRecDepth 100000 in
theorem evt_cells {H : Type} {enc : TypeId × Value → H} {W : World} {fuel : Nat} {cs : List Value} {x : DataW H × List MemPlace}
    (h : DataW.trod enc Try.prog W 0 (fun _ => true) true fuel 54 cs = some x) : ∃ y, cs = evtC y ∧ EvtR y := by
  have c0 : Try.prog.cellsOf 54 = 4 := by kernel_rfl
  have cc0 : Try.prog.cellsOf 3 = 1 := by kernel_rfl
  obtain ⟨xs, n, rfl, rfl, hlen, hxl, hf⟩ := DataW.trod_struct Try.underlying54 h
  rw [c0] at hlen
  match xs, hxl, cs, hlen with
  | [y0, y1, y2, y3], _, [v0, v1, v2, v3], _ =>
    have g0 := hf 0 _ rfl
    have g1 := hf 1 _ rfl
    have g2 := hf 2 _ rfl
    have g3 := hf 3 _ rfl
    simp [cc0] at g0 g1 g2 g3
    obtain ⟨a0, e0, _, b0⟩ := DataW.trod_int Try.underlying3 g0
    obtain ⟨a1, e1, _, b1⟩ := DataW.trod_int Try.underlying3 g1
    obtain ⟨a2, e2, _, b2⟩ := DataW.trod_int Try.underlying3 g2
    obtain ⟨a3, e3, _, b3⟩ := DataW.trod_int Try.underlying3 g3
    simp at e0 e1 e2 e3
    subst e0 e1 e2 e3
    exact ⟨⟨a0, a1, a2, a3⟩, rfl, ⟨bounds_i64 b0, bounds_i64 b1, bounds_i64 b2, bounds_i64 b3⟩⟩
def IsEvt (_W : World) (v : Value) : Prop := ∃ (x : Evt), v = evtV x ∧ EvtR x
set_option maxRecDepth 100000 in
theorem openEvt {H : Type} {enc : TypeId × Value → H} {W : World} {r : Reach} {base : Nat} {v : Value} {d : DataW H} {p : List MemPlace}
    (hv : Value.okWide Try.prog W r base 54 v) (h : DataW.Trod enc Try.prog W 0 (fun _ => true) true 54 v d p) : IsEvt W v := by
  have c0 : Try.prog.cellsOf 54 = 4 := by kernel_rfl
  have cc0 : Try.prog.cellsOf 3 = 1 := by kernel_rfl
  obtain ⟨cs, rfl, _⟩ := okWide_struct Try.underlying54 hv
  obtain ⟨fuel, h⟩ := h
  obtain ⟨xs, n, rfl, hd, hlen, hxl, hf⟩ := DataW.trod_struct Try.underlying54 h
  rw [c0] at hlen
  have hcs : (Value.agg cs).cells.toList = cs.toList := rfl
  rw [hcs] at hlen hf
  obtain ⟨l⟩ := cs
  match xs, hxl, l, hlen with
  | [y0, y1, y2, y3], _, [v0, v1, v2, v3], _ =>
    have g0 := hf 0 _ rfl
    have g1 := hf 1 _ rfl
    have g2 := hf 2 _ rfl
    have g3 := hf 3 _ rfl
    simp [cc0] at g0 g1 g2 g3
    obtain ⟨a0, e0, _, b0⟩ := DataW.trod_int Try.underlying3 g0
    obtain ⟨a1, e1, _, b1⟩ := DataW.trod_int Try.underlying3 g1
    obtain ⟨a2, e2, _, b2⟩ := DataW.trod_int Try.underlying3 g2
    obtain ⟨a3, e3, _, b3⟩ := DataW.trod_int Try.underlying3 g3
    simp at e0 e1 e2 e3
    subst e0 e1 e2 e3
    exact ⟨⟨a0, a1, a2, a3⟩, rfl, ⟨bounds_i64 b0, bounds_i64 b1, bounds_i64 b2, bounds_i64 b3⟩⟩
def IsEvts (W : World) (v : Value) : Prop := ∃ (x : List Evt), Reads W W.heap.size (evts x) v ∧ evtsR x
set_option maxRecDepth 100000 in
theorem openEvts {H : Type} {enc : TypeId × Value → H} {W : World} {r : Reach} {base : Nat} {v : Value} {d : DataW H} {p : List MemPlace}
    (hv : Value.okWide Try.prog W r base 22 v) (h : DataW.Trod enc Try.prog W 0 (fun _ => true) true 22 v d p) : IsEvts W v := by
  obtain ⟨a, len, cap, rfl⟩ := okWide_slice Try.underlying22 hv
  obtain ⟨z0, h0a, h0b, h0c⟩ := rd_open (sz := 4) (Q := EvtR) (f := evtC) Try.underlying22 (by kernel_rfl) (by decide) (fun _ => rfl) (fun _ _ _ h => evt_cells h) h
  have r0 : Reads W W.heap.size (evts z0) (.slice a len cap) := by
    have := reads_row (T := 40) (f := evtD) (m := id) z0 h0a (fun y _ => evt_reads y)
    rwa [List.map_id] at this
  exact ⟨z0, r0, ⟨h0b, all_of_getD h0c⟩⟩
theorem szEvts (w : World) (v : Value) (xs : List Evt) (left : Int) (h : Reads w w.heap.size (evts xs) v) (h0 : 0 ≤ left) (h1 : left ≤ 1048576) (hr : evtsR xs) :
    Calls Try.prog 9 #[v, .int .i64 left] w fun e w' => e = .returned (.int .i64 (szR left (evtsW xs))) ∧ Below w.heap.size w w' := by
  obtain ⟨a, c, e, _⟩ := h.shape
  subst e
  have hm := hr.1
  unfold maxLen at hm
  unfold evtsW
  clear h hr
  generalize xs.length = len at *
  have hw : IntKind.i64.wrap (left - (len : Int)) = left - (len : Int) := by rw [IntKind.wrap_i64]; omega
  by_cases h : left - (len : Int) < 0
  · rw [szR_neg (by omega)]
    go_enter Try.func9, Try.ntmps9
    go_wp2
    go_ret
    exact ⟨rfl, Below.refl _ _⟩
  · rw [szR_pos (by omega)]
    go_enter Try.func9, Try.ntmps9
    go_wp2
    go_ret
    exact ⟨by first | rfl | (exact ret_int (by omega)), Below.refl _ _⟩
set_option maxRecDepth 100000 in
set_option maxHeartbeats 4000000 in
theorem toEvt (w : World) (x : Evt) : Calls Try.prog 36 #[evtV x] w fun e w' => e = .returned (evtV x) ∧ Below w.heap.size w w' := by
  unfold evtV
  go_enter Try.func36, Try.ntmps36
  go_wp2
  exact bodyPost_ret (v := .agg #[.int .i64 x.w, .int .i64 x.k, .int .i64 x.i, .int .i64 x.a]) (by simp [results, Try.results36, go_sem]) rfl ⟨rfl, (((Below.refl _ _).alloc (Nat.le_refl _) _).alloc (by simp) _).alloc (by simp; omega) _⟩
theorem Try.infoEvt : (Try.prog.info? 40).map (fun i => (i.zero, i.size, i.bytes)) = some (some (.agg #[.int .i64 0, .int .i64 0, .int .i64 0, .int .i64 0]), 4, 32) := by kernel_rfl
theorem loadEvt {w : World} {g : Nat} {a0 a1 a2 a3 : Value} (h : w.heap[g]? = some (.cells #[a0, a1, a2, a3] 40 (0, 0))) : (loadVar 40 ⟨g, 0, none⟩).run Try.prog w = .ok (.agg #[a0, a1, a2, a3]) w :=
  run_loadVar_row w g 40 40 #[a0, a1, a2, a3] (0, 0) _ h Try.underlying40 rfl (by kernel_rfl)
set_option maxRecDepth 100000 in
set_option maxHeartbeats 4000000 in
theorem toEvts (w : World) (v : Value) (xs : List Evt) (h : Reads w w.heap.size (evts xs) v) (hg : evtsG xs) :
    Calls Try.prog 11 #[v] w fun e w' => ∃ v', e = .returned v' ∧ OwnD w' w.heap.size w'.heap.size (evts xs) v' ∧ Below w.heap.size w w' := by
  obtain ⟨hm, hgd⟩ := hg
  have HX : Hid (∀ wr, Below w.heap.size w wr → _) := hide (fun wr hb => event_at (h.at hb))
  have HG : Hid (∀ j, j < xs.length → EvtG (xs.getD j default)) := hide (fun j hj => getD_mem hgd j hj)
  clear hgd
  obtain ⟨a, cap, rfl, _⟩ := event_at h
  have HD : Hid (∀ W hi v, OwnD W w.heap.size hi (.row 40 4 xs.length (upTo evtD [.int .i64 0, .int .i64 0, .int .i64 0, .int .i64 0] xs xs.length)) v → OwnD W w.heap.size hi (evts xs) v) := hide (fun W hi v h => by unfold evts; rwa [upTo_all] at h)
  clear h
  obtain ⟨i0, hi, hz0, hz1, hz2⟩ := info_parts Try.infoEvt
  generalize hn : xs.length = n at *
  go_enter Try.func11, Try.ntmps11
  go_wp2_with (at_make; refine wpList_make_full _ rfl _ _ 25 rfl w.heap.size 40 i0 (.agg #[.int .i64 0, .int .i64 0, .int .i64 0, .int .i64 0]) 4 Try.underlying25 hi hz0 hz1 _ _ _ _ n rfl rfl rfl rfl (by rw [hz2]; omega) (by unfold maxLen; omega) (Nat.le_refl _) ?_; intro w1 ho1 hg1)
  have o1 : OwnD w1 w.heap.size w1.heap.size (.row 40 4 n (upTo evtD [.int .i64 0, .int .i64 0, .int .i64 0, .int .i64 0] xs 0)) (.slice (some ⟨w.heap.size, 0, none⟩) n n) := ownD_made hn rfl (by decide) rfl ho1 (fun q hq => (World.ownsRow.lt ho1 q hq).2)
  have hl1 : w.heap.size < w1.heap.size := (World.ownsRow.lt ho1 _ rfl).2
  have b1 : Below w.heap.size w w1 := (Below.refl _ _).grown hg1 (Nat.le_refl _) (fun k hk => by cases hk)
  clear ho1 hg1 hi hz0 hz1 hz2
  go_loopw [4] (fun i wr => ∃ (j : Nat), j ≤ n ∧ i = .int .i64 (j : Int) ∧ Hid (OwnD wr w.heap.size wr.heap.size (.row 40 4 n (upTo evtD [.int .i64 0, .int .i64 0, .int .i64 0, .int .i64 0] xs j)) (.slice (some ⟨w.heap.size, 0, none⟩) n n)) ∧ Hid (Below w.heap.size w wr) ∧ w.heap.size < wr.heap.size) (fun i _ => n - (intOf i).toNat)
  case atStart => exact ⟨0, Nat.zero_le _, rfl, hide o1, hide b1, hl1⟩
  case round =>
    clear o1 b1
    obtain ⟨j, hj, rfl, HO, HB, hlt0⟩ := hrel
    by_cases hlt : j < n
    · obtain ⟨a', cap', ea, _, _, hx⟩ := HX.out wr HB.out
      cases ea
      obtain ⟨b, o, rfl, _, hcell⟩ := hx (by omega)
      obtain ⟨e0, e1, e2, e3⟩ := hcell j hlt
      clear hcell hx
      have HL : Hid (xs.getD j default = xs.getD j default) := hide rfl
      generalize hx9 : xs.getD j default = x at *
      have OU : Hid (∀ W : World, OwnDL W W.heap.size W.heap.size (evtD (xs.getD j default)) [.int .i64 x.w, .int .i64 x.k, .int .i64 x.i, .int .i64 x.a]) := hide (fun W => by rw [hx9]; exact OwnDL.val (OwnDL.val (OwnDL.val (OwnDL.val (ownDL_nil _ _ _)))))
      clear hx9 HL
      go_wp2_with fail
      refine (toEvt _ x).mono ?_
      rintro e w2 ⟨rfl, b2⟩
      have hs2 := b2.size
      replace HO := hide ((HO.out.below b2).up hs2)
      replace HB := hide (HB.out.trans (b2.mono HB.out.size))
      replace hlt0 : w.heap.size < w2.heap.size := by omega
      clear b2
      unfold evtV
      obtain ⟨hc, hf, ho2⟩ := OwnD.fill (f := evtD) (k := 4) (fun _ => rfl) rfl hn hlt HO.out (OU.out w2) (Nat.le_refl _) (Nat.le_of_lt hlt0) (Nat.le_refl _)
      obtain ⟨y0, d0⟩ := hc 0 (by omega)
      obtain ⟨y1, d1⟩ := hc 1 (by omega)
      obtain ⟨y2, d2⟩ := hc 2 (by omega)
      obtain ⟨y3, d3⟩ := hc 3 (by omega)
      rw [Nat.add_zero]  at d0
      have hb2 := setRow_below [.int .i64 x.w, .int .i64 x.k, .int .i64 x.i, .int .i64 x.a] w2 (j * 4) HB.out (Nat.le_refl _)
      have hs9 : w2.heap.size = (setRow w2 w.heap.size (j * 4) [.int .i64 x.w, .int .i64 x.k, .int .i64 x.i, .int .i64 x.a]).heap.size := by simp [setRow]
      rw [hs9] at ho2
      clear hs9
      simp only [setRow, Nat.add_assoc, Nat.reduceAdd] at ho2 hb2
      replace HO := hide ho2
      have HB2 := hide hb2
      clear ho2 hb2 hc HB OU
      go_wp2
      exact ⟨⟨j + 1, by omega, by go_num, HO, HB2, by simp; omega⟩, by simp [intOf]; omega⟩
    · obtain rfl : j = n := by omega
      have HF := hide (HD.out _ _ _ HO.out)
      go_wp2
      go_ret
      exact ⟨_, rfl, HF.out, HB.out⟩
set_option maxRecDepth 100000 in
set_option maxHeartbeats 4000000 in
theorem eqEvt (w : World) (x : Evt) : Calls Try.prog 38 #[evtV x, evtV x] w fun e w' => e = .returned (.bool true) ∧ Below w.heap.size w w' := by
  have n_w : (x.w != x.w) = false := by simp
  have n_k : (x.k != x.k) = false := by simp
  have n_i : (x.i != x.i) = false := by simp
  have n_a : (x.a != x.a) = false := by simp
  unfold evtV
  go_enter Try.func38, Try.ntmps38
  go_wp2
  go_ret
  exact ⟨rfl, ((Below.refl _ _).alloc (Nat.le_refl _) _).alloc (by simp) _⟩
set_option maxRecDepth 100000 in
set_option maxHeartbeats 4000000 in
theorem eqEvts (w : World) (v1 v2 : Value) (xs : List Evt) (h1 : Reads w w.heap.size (evts xs) v1) (h2 : Reads w w.heap.size (evts xs) v2) (hg : evtsG xs) :
    Calls Try.prog 13 #[v1, v2] w fun e w' => e = .returned (.bool true) ∧ Below w.heap.size w w' := by
  obtain ⟨hm, hgd⟩ := hg
  have HX1 : Hid (∀ wr, Below w.heap.size w wr → _) := hide (fun wr hb => event_at (h1.at hb))
  have HX2 : Hid (∀ wr, Below w.heap.size w wr → _) := hide (fun wr hb => event_at (h2.at hb))
  have HG : Hid (∀ j, j < xs.length → EvtG (xs.getD j default)) := hide (fun j hj => getD_mem hgd j hj)
  clear hgd
  obtain ⟨a1, cap1, rfl, _⟩ := event_at h1
  obtain ⟨a2, cap2, rfl, _⟩ := event_at h2
  clear h1 h2
  generalize hn : xs.length = n at *
  have hne : ((n : Int) != (n : Int)) = false := by simp
  go_enter Try.func13, Try.ntmps13
  go_wp2
  go_loopw [5] (fun i wr => ∃ j : Nat, j ≤ n ∧ i = .int .i64 (j : Int) ∧ Below w.heap.size w wr) (fun i _ => n - (intOf i).toNat)
  case atStart => exact ⟨0, Nat.zero_le _, rfl, Below.refl _ _⟩
  case round =>
    obtain ⟨j, hj, rfl, hb⟩ := hrel
    have HB := hide hb
    have hs := hb.size
    clear hb
    by_cases hlt : j < n
    · obtain ⟨a1', cap1', ea1, _, _, hx1⟩ := HX1.out wr HB.out
      cases ea1
      obtain ⟨b1, o1, rfl, hb1, hc1⟩ := hx1 (by omega)
      obtain ⟨a2', cap2', ea2, _, _, hx2⟩ := HX2.out wr HB.out
      cases ea2
      obtain ⟨b2, o2, rfl, hb2, hc2⟩ := hx2 (by omega)
      obtain ⟨e0, e1, e2, e3⟩ := hc1 j hlt
      obtain ⟨d0, d1, d2, d3⟩ := hc2 j hlt
      have HGj := hide (HG.out j hlt)
      clear hx1 hx2 hc1 hc2
      generalize xs.getD j default = p at *
      go_wp2
      go_cut [26] from 11 to 26 (fun s wq => s = .bool false ∧ Below w.heap.size w wq)
      case first =>
        go_region_with (go_at_call 38; refine (eqEvt _ p).mono ?_; rintro e w1 ⟨rfl, b1⟩; have HB1 := hide (HB.out.trans (below_of_drew b1 |>.mono hs)); clear b1)
        all_goals (go_wp2_with fail; go_meet; exact ⟨rfl, HB1.out⟩)
      case rest =>
        obtain ⟨rfl, hB⟩ := hcut
        have HB2 := hide hB
        clear hB
        go_wp2
        exact ⟨⟨j + 1, hlt, by go_num, HB2.out⟩, by simp [intOf]; omega⟩
    · go_wp2
      go_ret
      exact ⟨rfl, HB.out⟩
def evtCnt (_x : Evt) : Nat := 4
def mkEvt (k : Nat) (_x : Evt) : Evt := ⟨((k : Nat) : Int), ((k : Nat) : Int) + 1, ((k : Nat) : Int) + 2, ((k : Nat) : Int) + 3⟩
def mkEvts : Nat → List Evt → List Evt
  | _, [] => []
  | k, x :: xs => mkEvt k x :: mkEvts (k + evtCnt x) xs
def cntEvts (xs : List Evt) : Nat := tot evtCnt xs
theorem mkEvts_len : ∀ (k : Nat) (xs : List Evt), (mkEvts k xs).length = xs.length
  | _, [] => rfl
  | k, x :: xs => by simp [mkEvts, mkEvts_len _ xs]
theorem mkEvts_get : ∀ (k : Nat) (xs : List Evt) (j : Nat), j < xs.length → (mkEvts k xs).getD j default = mkEvt (k + tot evtCnt (xs.take j)) (xs.getD j default)
  | k, [], j, h => by simp at h
  | k, x :: xs, 0, h => by simp [mkEvts, tot]
  | k, x :: xs, j + 1, h => by
    rw [mkEvts, List.getD_cons_succ, mkEvts_get _ xs j (by simpa using h), List.getD_cons_succ]
    congr 1
    unfold tot
    rw [List.take_succ_cons, List.map_cons, List.sum_cons]; omega
theorem cntEvts_le (xs : List Evt) : cntEvts xs ≤ 8 * evtsW xs := tot_cnt0 evtCnt (fun _ => by unfold evtCnt; omega) xs
set_option maxRecDepth 100000 in
set_option maxHeartbeats 4000000 in
theorem mkEvtsR (w : World) (b K : Nat) (m : Int) (hmK : m = (K : Int)) (v : Value) (xs : List Evt) (F : List Nat) (h : Owns w b (evts xs) v F) (hnd : F.Nodup) (hK : 0 < K) (hm : K + cntEvts xs ≤ 100000000) :
    Calls Try.prog 17 #[v, .int .i64 m] w fun e w' => e = .returned (.int .i64 ((K + cntEvts xs : Nat) : Int)) ∧ Owns w' b (evts (mkEvts K xs)) v F ∧ Chg F w w' := by
  subst hmK
  have HCN : Hid (cntEvts xs = tot evtCnt xs) := hide rfl
  rw [HCN.out] at hm
  have HST : Hid (Owns w b (.row 40 4 xs.length ((mixR evtD (mkEvts K xs) xs 0).flatten)) v F) := hide (by rw [mixR_zero]; exact h)
  have HEN : Hid (∀ W, Owns W b (.row 40 4 xs.length ((mixR evtD (mkEvts K xs) xs xs.length).flatten)) v F → Owns W b (evts (mkEvts K xs)) v F) := hide (fun W h => by rw [mixR_end _ (mkEvts_len K _)] at h; unfold evts; rw [mkEvts_len]; exact h)
  have hML := mkEvts_len K xs
  have HTS : Hid (∀ j, j < xs.length → tot evtCnt (xs.take (j + 1)) = tot evtCnt (xs.take j) + evtCnt (xs.getD j default)) := hide (fun j hj => tot_step _ xs j hj)
  have HTL : Hid (∀ j, tot evtCnt (xs.take j) ≤ tot evtCnt xs) := hide (tot_le _ xs)
  have HTE : Hid (tot evtCnt (xs.take xs.length) = tot evtCnt xs) := hide (by rw [List.take_length])
  have HG : Hid (∀ j, j < xs.length → (mixR evtD (mkEvts K xs) xs j).getD j [] = evtD (xs.getD j default)) := hide (fun j hj => mixR_get _ hML hj)
  have HS : Hid (∀ j, j < xs.length → (mixR evtD (mkEvts K xs) xs j).set j (evtD (mkEvt (K + tot evtCnt (xs.take j)) (xs.getD j default))) = mixR evtD (mkEvts K xs) xs (j + 1)) := hide (fun j hj => by rw [← mkEvts_get K xs j hj]; exact mixR_step _ hML hj)
  have HA : Hid (∀ j, ∀ r ∈ mixR evtD (mkEvts K xs) xs j, r.length = 4) := hide (fun j => mixR_all (f := evtD) (k := 4) (fun _ => rfl) _ _ j)
  have HLn : Hid (∀ j, j ≤ xs.length → (mixR evtD (mkEvts K xs) xs j).length = xs.length) := hide (fun j hj => mixR_len _ hML hj)
  have hxl : xs.length ≤ tot evtCnt xs := tot_one _ (fun _ => by unfold evtCnt; omega) xs
  have hsl := h.slice
  clear h hML
  rw [HCN.out]
  generalize hn : xs.length = n at *
  rcases hsl with ⟨rfl, rfl⟩ | ⟨g, c, rfl⟩
  · have hx0 : xs = [] := List.eq_nil_of_length_eq_zero hn
    have HX0 : Hid (tot evtCnt xs = 0) := hide (by rw [hx0]; rfl)
    go_enter Try.func17, Try.ntmps17
    go_wp2
    go_loopw [1, 5] (fun q i wr => q = .int .i64 (K : Int) ∧ i = .int .i64 0 ∧ wr = w) (fun _ _ _ => 0)
    case atStart => exact ⟨rfl, rfl, rfl⟩
    case round =>
      obtain ⟨rfl, rfl, rfl⟩ := hrel
      go_wp2
      go_ret
      exact ⟨by rw [HX0.out]; rfl, HEN.out _ HST.out, Chg.refl _ _⟩
  · go_enter Try.func17, Try.ntmps17
    go_wp2
    go_loopw [1, 5] (fun q i wr => ∃ j : Nat, j ≤ n ∧ q = .int .i64 ((K + tot evtCnt (xs.take j) : Nat) : Int) ∧ i = .int .i64 (j : Int) ∧ Hid (Owns wr b (.row 40 4 n ((mixR evtD (mkEvts K xs) xs j).flatten)) (.slice (some ⟨g, 0, none⟩) n c) F) ∧ Hid (Chg F w wr)) (fun _ i _ => n - (intOf i).toNat)
    case atStart => exact ⟨0, Nat.zero_le _, by simp [tot], rfl, HST, hide (Chg.refl _ _)⟩
    case round =>
      clear HST
      obtain ⟨j, hj, rfl, rfl, HO, HC⟩ := hrel
      by_cases hlt : j < n
      · have hcap : n ≤ c := by
          have := HO.out
          unfold Owns at this
          obtain ⟨us, G, h2, _⟩ := this
          obtain ⟨_, a, cap, e, h3, _⟩ := rd_own h2 (Nat.le_refl _)
          cases e
          exact h3
        obtain ⟨q, hq⟩ : ∃ q, K + tot evtCnt (xs.take j) = q := ⟨_, rfl⟩
        have hq0 : 0 < q := by omega
        have hts := HTS.out j hlt
        have htl := HTL.out (j + 1)
        have HA1 := hide (HA.out j)
        have HL1 := hide (HLn.out j hj)
        have HG1 := HG.out j hlt
        have HS1 := HS.out j hlt
        obtain ⟨x, hx⟩ : ∃ x, xs.getD j default = x := ⟨_, rfl⟩
        rw [hx] at HG1 HS1 hts
        have hcm : evtCnt x = 4 := rfl
        have hqm : q + (4) ≤ 100000000 := by omega
        rw [hq] at HS1 ⊢
        have HG2 := hide HG1
        have HS2 := hide HS1
        have HQ := hide hq
        clear hx hq HG1 HS1
        obtain ⟨rs, hrs⟩ : ∃ rs, mixR evtD (mkEvts K xs) xs j = rs := ⟨_, rfl⟩
        rw [hrs] at HO HA1 HL1 HG2 HS2
        clear hrs
        have h0 : ∀ i, i < 4 → rs.flatten[j * 4 + i]? = (evtD x)[i]? := fun i hi => by rw [rows_get rs j i HA1.out (by have := HL1.out; omega) hi, HG2.out]
        obtain ⟨d0, z0, hgF, ho⟩ := HO.out.cell hnd (i := j * 4) (z := .int .i64 x.w) (by rw [show j * 4 = j * 4 + 0 from rfl, h0 0 (by omega)]; rfl) (.int .i64 (q : Int))
        replace HO := hide ho
        replace HC := hide (HC.out.set hgF (j * 4) (.int .i64 (q : Int)))
        clear ho
        obtain ⟨d1, z1, hgF, ho⟩ := HO.out.cell hnd (i := j * 4 + 1) (z := .int .i64 x.k) (by rw [List.getElem?_set_ne (by omega), h0 1 (by omega)]; rfl) (.int .i64 ((q : Int) + 1))
        replace HO := hide ho
        replace HC := hide (HC.out.set hgF (j * 4 + 1) (.int .i64 ((q : Int) + 1)))
        clear ho
        obtain ⟨d2, z2, hgF, ho⟩ := HO.out.cell hnd (i := j * 4 + 2) (z := .int .i64 x.i) (by rw [List.getElem?_set_ne (by omega), List.getElem?_set_ne (by omega), h0 2 (by omega)]; rfl) (.int .i64 ((q : Int) + 1 + 1))
        replace HO := hide ho
        replace HC := hide (HC.out.set hgF (j * 4 + 2) (.int .i64 ((q : Int) + 1 + 1)))
        clear ho
        obtain ⟨d3, z3, hgF, ho⟩ := HO.out.cell hnd (i := j * 4 + 3) (z := .int .i64 x.a) (by rw [List.getElem?_set_ne (by omega), List.getElem?_set_ne (by omega), List.getElem?_set_ne (by omega), h0 3 (by omega)]; rfl) (.int .i64 ((q : Int) + 1 + 1 + 1))
        replace HO := hide ho
        replace HC := hide (HC.out.set hgF (j * 4 + 3) (.int .i64 ((q : Int) + 1 + 1 + 1)))
        clear ho
        have HZ : Hid (((((rs.flatten.set (j * 4) (.val (.int .i64 (q : Int)))).set (j * 4 + 1) (.val (.int .i64 ((q : Int) + 1)))).set (j * 4 + 2) (.val (.int .i64 ((q : Int) + 1 + 1)))).set (j * 4 + 3) (.val (.int .i64 ((q : Int) + 1 + 1 + 1)))) = (rs.set j (evtD (mkEvt q x))).flatten) := hide (by
          have hl := HL1.out
          have hlen : ∀ (rs' : List (List Dt)) (r : List Dt), (∀ r ∈ rs', r.length = 4) → r.length = 4 → ∀ r' ∈ rs'.set j r, r'.length = 4 := fun rs' r h1 h2 r' hr => by
            rcases List.mem_or_eq_of_mem_set hr with h | h
            · exact h1 r' h
            · rw [h]; exact h2
          rw [show j * 4 = j * 4 + 0 from rfl]
          rw [rows_set rs j 0 _ HA1.out (by omega) (by omega), HG2.out]
          rw [rows_set _ j 1 _ (hlen _ _ HA1.out rfl) (by rw [List.length_set]; omega) (by omega), List.getD_eq_getElem?_getD, List.getElem?_set_self (by omega), Option.getD_some, List.set_set]
          rw [rows_set _ j 2 _ (hlen _ _ HA1.out rfl) (by rw [List.length_set]; omega) (by omega), List.getD_eq_getElem?_getD, List.getElem?_set_self (by omega), Option.getD_some, List.set_set]
          rw [rows_set _ j 3 _ (hlen _ _ HA1.out rfl) (by rw [List.length_set]; omega) (by omega), List.getD_eq_getElem?_getD, List.getElem?_set_self (by omega), Option.getD_some, List.set_set]
          unfold evtD mkEvt
          rfl)
        rw [HZ.out, HS2.out] at HO
        go_wp2
        exact ⟨⟨j + 1, by omega, by have hh := HQ.out; congr 1; omega, by go_num, HO, HC⟩, by simp [intOf]; omega⟩
      · obtain rfl : j = n := by omega
        have HF := hide (HEN.out _ HO.out)
        go_wp2
        go_ret
        exact ⟨by rw [HTE.out]; rfl, HF.out, HC.out⟩
theorem mkEvtsI (w : World) (b hi K : Nat) (m : Int) (hmK : m = (K : Int)) (v : Value) (xs : List Evt) (h : OwnD w b hi (evts xs) v) (hK : 0 < K) (hm : K + cntEvts xs ≤ 100000000) :
    Calls Try.prog 17 #[v, .int .i64 m] w fun e w' => e = .returned (.int .i64 ((K + cntEvts xs : Nat) : Int)) ∧ OwnD w' b hi (evts (mkEvts K xs)) v ∧ ChgI b hi w w' := by
  obtain ⟨F, h1, h2, h3⟩ := h
  have hl := Owns.lt _ _ _ h1
  refine (mkEvtsR w b K m hmK v xs F h1 h2 hK hm).mono ?_
  rintro e w1 ⟨rfl, o1, c1⟩
  exact ⟨rfl, ⟨F, o1, h2, h3⟩, c1.int (fun q hq => ⟨(hl q hq).1, h3 q hq⟩)⟩
end Go.Proofs.Ytllghgcancennaa
