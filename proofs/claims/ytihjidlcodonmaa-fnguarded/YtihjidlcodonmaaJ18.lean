/-
  Joined: ClcY, ClcS.
-/
import Derived.Test.YtihjidlcodonmaaJ17
import Derived.Test.YtihjidlcodonmaaJ13
/-
  The first race of a list of events, and the accesses that it is enough to keep.
-/
namespace Go.Proofs.Ytihjidlcodonmaa
open Go.RowKit

def raceB (xs : List Evt) (i j : Nat) : Bool := clashB (xs.getD i default) (xs.getD j default) && decide (cntX (clk xs j) (who xs i) < cntX (clk xs i) (who xs i))
def racesAt (xs : List Evt) (j : Nat) : Bool := (List.range j).any (fun i => raceB xs i j)
def raceX (xs : List Evt) : Int := if evB xs = true then (match (List.range xs.length).find? (racesAt xs) with | some j => (j : Int) | none => -1) else -1
theorem racesAt_yes {xs : List Evt} {i j : Nat} (hi : i < j) (h : raceB xs i j = true) : racesAt xs j = true := by
  unfold racesAt
  rw [List.any_eq_true]
  exact ⟨i, List.mem_range.2 hi, h⟩
theorem racesAt_no {xs : List Evt} {j : Nat} (h : ∀ i, i < j → raceB xs i j = false) : racesAt xs j = false := by
  unfold racesAt
  rw [List.any_eq_false]
  intro i hi
  rw [h i (List.mem_range.1 hi)]
  simp
theorem racesAt_none {xs : List Evt} {i j : Nat} (h : racesAt xs j = false) (hi : i < j) : raceB xs i j = false := by
  unfold racesAt at h
  rw [List.any_eq_false] at h
  have := h i (List.mem_range.2 hi)
  simpa using this
theorem find_range {p : Nat → Bool} : ∀ (n : Nat), (∀ j, j < n → p j = false) → (List.range n).find? p = none := fun n h => by
  rw [List.find?_eq_none]
  intro j hj
  rw [h j (List.mem_range.1 hj)]
  simp
theorem find_range_hit {p : Nat → Bool} {n j : Nat} (hj : j < n) (hp : p j = true) (h : ∀ i, i < j → p i = false) : (List.range n).find? p = some j := by
  rw [List.find?_range_eq_some]
  exact ⟨hp, List.mem_range.2 hj, fun i hi => by rw [h i hi]; rfl⟩
theorem raceX_hit {xs : List Evt} (he : evB xs = true) {j : Nat} (hj : j < xs.length) (hr : racesAt xs j = true) (h : ∀ i, i < j → racesAt xs i = false) : raceX xs = (j : Int) := by
  unfold raceX
  rw [if_pos he, find_range_hit hj hr h]
theorem raceX_none {xs : List Evt} (h : ∀ i, i < xs.length → racesAt xs i = false) : raceX xs = -1 := by
  unfold raceX
  split
  · rw [find_range _ h]
  · rfl
theorem raceX_no {xs : List Evt} (h : evB xs = false) : raceX xs = -1 := by
  unfold raceX
  rw [h]
  rfl

theorem clash_iff (a b : Evt) : clashB a b = true ↔ a.w ≠ b.w ∧ a.i = b.i ∧ a.a = b.a ∧ rwB a.k = true ∧ rwB b.k = true ∧ (a.k = 2 ∨ b.k = 2) := by
  unfold clashB
  simp [Bool.and_eq_true, Bool.or_eq_true, decide_eq_true_eq]
instance : DecidableEq Evt := fun a b => decidable_of_iff (a.w = b.w ∧ a.k = b.k ∧ a.i = b.i ∧ a.a = b.a) (by cases a; cases b; simp)
/-- What is kept of the first n events at a field. -/
def accF (xs : List Evt) (p q : Int) : Nat → Evt → Option Int
  | 0, _ => none
  | n + 1, a =>
    if rwB (xs.getD n default).k = true ∧ (xs.getD n default).i = p ∧ (xs.getD n default).a = q then
      (if a = xs.getD n default then some (cntX (clk xs n) (who xs n)) else if (xs.getD n default).k = 2 then none else accF xs p q n a)
    else accF xs p q n a
/-- An event that touches a field. -/
def tch (xs : List Evt) (p q : Int) (i : Nat) : Prop := rwB (xs.getD i default).k = true ∧ (xs.getD i default).i = p ∧ (xs.getD i default).a = q
theorem accF_yes {xs : List Evt} {p q : Int} {n : Nat} (h : tch xs p q n) (a : Evt) : accF xs p q (n + 1) a = if a = xs.getD n default then some (cntX (clk xs n) (who xs n)) else if (xs.getD n default).k = 2 then none else accF xs p q n a := by
  unfold tch at h
  rw [accF, if_pos h]
theorem accF_no {xs : List Evt} {p q : Int} {n : Nat} (h : ¬ tch xs p q n) (a : Evt) : accF xs p q (n + 1) a = accF xs p q n a := by
  unfold tch at h
  rw [accF, if_neg h]
theorem acc_sound {xs : List Evt} {p q : Int} : ∀ {n : Nat} {a : Evt} {c : Int}, accF xs p q n a = some c → ∃ i, i < n ∧ xs.getD i default = a ∧ tch xs p q i ∧ c = cntX (clk xs i) (who xs i)
  | 0, a, c, h => by cases h
  | n + 1, a, c, h => by
    have up : accF xs p q n a = some c → ∃ i, i < n + 1 ∧ xs.getD i default = a ∧ tch xs p q i ∧ c = cntX (clk xs i) (who xs i) := fun h => by
      obtain ⟨i, h1, h2⟩ := acc_sound h
      exact ⟨i, by omega, h2⟩
    by_cases t : tch xs p q n
    · rw [accF_yes t] at h
      split at h
      · rename_i e
        cases h
        exact ⟨n, by omega, e.symm, t, rfl⟩
      · split at h
        · cases h
        · exact up h
    · rw [accF_no t] at h
      exact up h
/-- What is kept covers all that is ahead. -/
theorem acc_covers {xs : List Evt} (he : evB xs = true) {p q : Int} : ∀ {n : Nat}, n ≤ xs.length → (∀ j, j < n → racesAt xs j = false) → ∀ i, i < n → tch xs p q i →
    (∃ c, accF xs p q n (xs.getD i default) = some c ∧ cntX (clk xs i) (who xs i) ≤ c) ∨
    ∃ l, i < l ∧ l < n ∧ tch xs p q l ∧ (xs.getD l default).k = 2 ∧ (∃ c, accF xs p q n (xs.getD l default) = some c ∧ cntX (clk xs l) (who xs l) ≤ c) ∧ cntX (clk xs i) (who xs i) ≤ cntX (clk xs l) (who xs i)
  | 0, _, _, i, hi, _ => by omega
  | n + 1, hn, hr, i, hi, ht => by
    have ih := acc_covers he (p := p) (q := q) (n := n) (by omega) (fun j hj => hr j (by omega))
    by_cases t : tch xs p q n
    · by_cases e : i = n
      · subst e
        left
        exact ⟨_, by rw [accF_yes t, if_pos rfl], Int.le_refl _⟩
      · have hin : i < n := by omega
        by_cases k2 : (xs.getD n default).k = 2
        · right
          refine ⟨n, hin, by omega, t, k2, ⟨_, by rw [accF_yes t, if_pos rfl], Int.le_refl _⟩, ?_⟩
          by_cases hw : who xs i = who xs n
          · exact thread_mono he n hin (by omega) hw _
          · have h1 := racesAt_none (hr n (by omega)) hin
            unfold raceB at h1
            have h2 : clashB (xs.getD i default) (xs.getD n default) = true := (clash_iff _ _).2 ⟨hw, ht.2.1.trans t.2.1.symm, ht.2.2.trans t.2.2.symm, ht.1, t.1, .inr k2⟩
            rw [h2, Bool.true_and, decide_eq_false_iff_not] at h1
            omega
        · have keep : ∀ m, m < n → ∀ c, accF xs p q n (xs.getD m default) = some c → cntX (clk xs m) (who xs m) ≤ c → ∃ c', accF xs p q (n + 1) (xs.getD m default) = some c' ∧ cntX (clk xs m) (who xs m) ≤ c' := fun m hm c h1 h2 => by
            rw [accF_yes t]
            by_cases e2 : xs.getD m default = xs.getD n default
            · rw [if_pos e2]
              refine ⟨_, rfl, ?_⟩
              have hw : who xs m = who xs n := by unfold who; rw [e2]
              have := thread_mono he n hm (by omega) hw (who xs m)
              rw [← hw]
              exact this
            · rw [if_neg e2, if_neg k2]
              exact ⟨c, h1, h2⟩
          rcases ih i hin ht with ⟨c, h1, h2⟩ | ⟨l, l1, l2, l3, l4, ⟨c, h1, h2⟩, l5⟩
          · exact .inl (keep i hin c h1 h2)
          · exact .inr ⟨l, l1, by omega, l3, l4, keep l l2 c h1 h2, l5⟩
    · have e : i ≠ n := fun e => t (e ▸ ht)
      rcases ih i (by omega) ht with ⟨c, h1, h2⟩ | ⟨l, l1, l2, l3, l4, ⟨c, h1, h2⟩, l5⟩
      · exact .inl ⟨c, by rw [accF_no t]; exact h1, h2⟩
      · exact .inr ⟨l, l1, by omega, l3, l4, ⟨c, by rw [accF_no t]; exact h1, h2⟩, l5⟩
/-- The accesses that are kept tell whether an event races. -/
theorem acc_tells {xs : List Evt} (he : evB xs = true) {j : Nat} (hj : j < xs.length) (hr : ∀ i, i < j → racesAt xs i = false) {y : Evt} (hy : xs.getD j default = y) :
    racesAt xs j = true ↔ ∃ a c, accF xs y.i y.a j a = some c ∧ clashB a y = true ∧ cntX (clk xs j) a.w < c := by
  constructor
  · intro h
    unfold racesAt at h
    rw [List.any_eq_true] at h
    obtain ⟨i, hi, h⟩ := h
    have hij := List.mem_range.1 hi
    unfold raceB at h
    rw [Bool.and_eq_true, decide_eq_true_eq, hy] at h
    obtain ⟨hc, hlt⟩ := h
    have hc' := (clash_iff _ _).1 hc
    have ht : tch xs y.i y.a i := ⟨hc'.2.2.2.1, hc'.2.1, hc'.2.2.1⟩
    rcases acc_covers he (by omega) hr i hij ht with ⟨c, h1, h2⟩ | ⟨l, l1, l2, l3, l4, ⟨c, h1, h2⟩, l5⟩
    · exact ⟨_, c, h1, hc, by show cntX (clk xs j) (who xs i) < c; omega⟩
    · by_cases hw : who xs l = who xs j
      · exfalso
        have := thread_mono he j l2 hj hw (who xs i)
        omega
      · by_cases hk : cntX (clk xs j) (who xs l) < c
        · refine ⟨_, c, h1, (clash_iff _ _).2 ⟨?_, l3.2.1, l3.2.2, l3.1, hc'.2.2.2.2.1, .inl l4⟩, hk⟩
          unfold who at hw
          rw [hy] at hw
          exact hw
        · exfalso
          have := knowing he j l2 hj (by omega) (who xs i)
          omega
  · rintro ⟨a, c, h1, h2, h3⟩
    obtain ⟨i, h4, h5, h6, h7⟩ := acc_sound h1
    refine racesAt_yes h4 ?_
    unfold raceB
    rw [h5, hy, h2, Bool.true_and, decide_eq_true_eq]
    have : who xs i = a.w := by unfold who; rw [h5]
    rw [this] at h7 ⊢
    omega
theorem race_rw {xs : List Evt} {j : Nat} (h : rwB (xs.getD j default).k = false) : racesAt xs j = false := by
  refine racesAt_no (fun i _ => ?_)
  unfold raceB
  cases c : clashB (xs.getD i default) (xs.getD j default) with
  | false => rfl
  | true =>
    have := ((clash_iff _ _).1 c).2.2.2.2.1
    rw [h] at this
    cases this
end Go.Proofs.Ytihjidlcodonmaa
/-
  The clocks of events in the model: the last event of a kind.
-/
namespace Go.Proofs.Ytihjidlcodonmaa
open Go.RowKit

set_option maxRecDepth 100000 in
set_option maxHeartbeats 8000000 in
theorem lastS (w : World) (xs : List Evt) (v : Value) (n : Nat) (k i q : Int) (h : Reads w w.heap.size (evts xs) v) (hm : xs.length ≤ 1048576) (hn : n ≤ xs.length) :
    Calls Try.prog 59 #[v, .int .i64 (n : Int), .int .i64 k, .int .i64 i, .int .i64 q] w fun e w' => e = .returned (.int .i64 (lastI xs k i q n)) ∧ Below w.heap.size w w' := by
  have HR := hide h
  obtain ⟨a1, c1, e1, _⟩ := h.shape
  subst e1
  clear h
  obtain ⟨V, hV⟩ : ∃ V, lastI xs k i q n = V := ⟨_, rfl⟩
  have HV := hide hV
  rw [hV]
  clear hV
  go_enter Try.func59, Try.ntmps59
  go_wp2
  go_loopw [11] (fun x wr => ∃ j : Nat, j ≤ xs.length ∧ x = .int .i64 ((j : Int) - 1) ∧ Hid (Below w.heap.size w wr) ∧ Hid (lastI xs k i q j = V)) (fun x _ => (intOf x + 1).toNat)
  case atStart => exact ⟨n, hn, by go_num, hide (Below.refl _ _), HV⟩
  case round =>
    obtain ⟨j, hj, rfl, HB, HL⟩ := hrel
    cases j with
    | zero =>
      have HF : Hid (V = -1) := hide (by rw [← HL.out, lastI])
      have e0 : ((0 : Nat) : Int) - 1 = -1 := rfl
      rw [e0]
      go_wp2
      go_ret
      exact ⟨by rw [HF.out]; rfl, HB.out⟩
    | succ p =>
      have hlt : p < xs.length := hj
      have hp1 : ((p + 1 : Nat) : Int) - 1 = (p : Int) := by omega
      rw [hp1]
      have hp0 : (0 : Int) ≤ (p : Int) := by omega
      clear hp1
      obtain ⟨a', cap', ea, hcap, _, hc⟩ := event_at (HR.out.at HB.out)
      cases ea
      obtain ⟨b, o, rfl, hbb, hcell⟩ := hc (by omega)
      obtain ⟨d0, d1, d2, d3⟩ := hcell p hlt
      clear hc hcell
      obtain ⟨y, hy⟩ : ∃ y, xs.getD p default = y := ⟨_, rfl⟩
      rw [hy] at d0 d1 d2 d3
      have HY := hide hy
      clear hy
      have hltI : (p : Int) < (xs.length : Int) := by omega
      go_upto_region 5 with fail
      clear d0 d1 d2 d3
      have bA := (Below.refl wr.heap.size wr).alloc (Nat.le_refl _) (.cells #[.int .i64 y.w, .int .i64 y.k, .int .i64 y.i, .int .i64 y.a] 41)
      have EF := hide (heap_alloc_new wr (.cells #[.int .i64 y.w, .int .i64 y.k, .int .i64 y.i, .int .i64 y.a] 41))
      have HBw := hide (HB.out.trans (bA.mono HB.out.size))
      clear bA hbb
      obtain ⟨gf, hgf⟩ : ∃ g, wr.heap.size = g := ⟨_, rfl⟩
      rw [hgf] at EF ⊢
      clear hgf
      generalize wr.alloc (.cells #[.int .i64 y.w, .int .i64 y.k, .int .i64 y.i, .int .i64 y.a] 41) = W2 at *
      have k0 := (box_of EF.out).1 0 _ rfl
      have k1 := (box_of EF.out).1 1 _ rfl
      have k2 := (box_of EF.out).1 2 _ rfl
      by_cases c1 : k < 0
      · by_cases c4 : q < 0
        · have HH : hitE y k i q = true := by unfold hitE; simp [c1, c4]
          have HF : Hid (V = (p : Int)) := hide (by rw [← HL.out, lastI, if_pos (by rw [HY.out]; exact HH)])
          go_wp2
          go_ret
          exact ⟨by rw [HF.out]; rfl, HBw.out⟩
        · cases c5 : (y.w == q) with
          | true =>
            have c5e : y.w = q := eq_of_beq c5
            have HH : hitE y k i q = true := by unfold hitE; simp [c1, c4, c5e]
            have HF : Hid (V = (p : Int)) := hide (by rw [← HL.out, lastI, if_pos (by rw [HY.out]; exact HH)])
            go_wp2
            go_ret
            exact ⟨by rw [HF.out]; rfl, HBw.out⟩
          | false =>
            have c5e : ¬ y.w = q := fun e => by rw [e] at c5; simp at c5
            have HH : hitE y k i q = false := by unfold hitE; simp [c1, c4, c5e]
            have HL2 : Hid (lastI xs k i q p = V) := hide (by rw [← HL.out, lastI, if_neg (by rw [HY.out, HH]; simp)])
            go_wp2
            exact ⟨⟨p, by omega, by go_num, HBw, HL2⟩, by simp [intOf]⟩
      · cases c2 : (y.k == k) with
        | false =>
          have c2e : ¬ y.k = k := fun e => by rw [e] at c2; simp at c2
          have HH : hitE y k i q = false := by unfold hitE; simp [c1, c2e]
          have HL2 : Hid (lastI xs k i q p = V) := hide (by rw [← HL.out, lastI, if_neg (by rw [HY.out, HH]; simp)])
          go_wp2
          exact ⟨⟨p, by omega, by go_num, HBw, HL2⟩, by simp [intOf]⟩
        | true =>
          have c2e : y.k = k := eq_of_beq c2
          cases c3 : (y.i == i) with
          | false =>
            have c3e : ¬ y.i = i := fun e => by rw [e] at c3; simp at c3
            have HH : hitE y k i q = false := by unfold hitE; simp [c1, c3e]
            have HL2 : Hid (lastI xs k i q p = V) := hide (by rw [← HL.out, lastI, if_neg (by rw [HY.out, HH]; simp)])
            go_wp2
            exact ⟨⟨p, by omega, by go_num, HBw, HL2⟩, by simp [intOf]⟩
          | true =>
            have c3e : y.i = i := eq_of_beq c3
            by_cases c4 : q < 0
            · have HH : hitE y k i q = true := by unfold hitE; simp [c2e, c3e, c4]
              have HF : Hid (V = (p : Int)) := hide (by rw [← HL.out, lastI, if_pos (by rw [HY.out]; exact HH)])
              go_wp2
              go_ret
              exact ⟨by rw [HF.out]; rfl, HBw.out⟩
            · cases c5 : (y.w == q) with
              | true =>
                have c5e : y.w = q := eq_of_beq c5
                have HH : hitE y k i q = true := by unfold hitE; simp [c2e, c3e, c4, c5e]
                have HF : Hid (V = (p : Int)) := hide (by rw [← HL.out, lastI, if_pos (by rw [HY.out]; exact HH)])
                go_wp2
                go_ret
                exact ⟨by rw [HF.out]; rfl, HBw.out⟩
              | false =>
                have c5e : ¬ y.w = q := fun e => by rw [e] at c5; simp at c5
                have HH : hitE y k i q = false := by unfold hitE; simp [c2e, c3e, c4, c5e]
                have HL2 : Hid (lastI xs k i q p = V) := hide (by rw [← HL.out, lastI, if_neg (by rw [HY.out, HH]; simp)])
                go_wp2
                exact ⟨⟨p, by omega, by go_num, HBw, HL2⟩, by simp [intOf]⟩
end Go.Proofs.Ytihjidlcodonmaa
