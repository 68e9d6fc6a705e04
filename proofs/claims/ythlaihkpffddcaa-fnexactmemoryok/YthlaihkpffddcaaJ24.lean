/-
  Joined: MemM, MemS.
-/
import Derived.Test.YthlaihkpffddcaaJ23
import Derived.Test.YthlaihkpffddcaaJ21
import Derived.Test.YthlaihkpffddcaaJ20
/-
  One memory: where an object stands, what is read.
-/
namespace Go.Proofs.Ythlaihkpffddcaa
open Go.RowKit

def obAt : List Ob → Int → Nat → Int
  | [], _, _ => -1
  | y :: ys, q, n => if y.i = q then (n : Int) else obAt ys q (n + 1)
theorem obAt_hit {q : Int} : ∀ {xs : List Ob} {j n : Nat}, j < xs.length → (xs.getD j default).i = q → (∀ i, i < j → ¬ (xs.getD i default).i = q) → obAt xs q n = ((n + j : Nat) : Int)
  | [], j, n, h, _, _ => by simp at h
  | y :: ys, 0, n, _, h, _ => by
    rw [List.getD_cons_zero] at h
    unfold obAt
    rw [if_pos h]; rfl
  | y :: ys, j + 1, n, h, h1, h2 => by
    have h0 := h2 0 (by omega)
    rw [List.getD_cons_zero] at h0
    rw [List.getD_cons_succ] at h1
    unfold obAt
    rw [if_neg h0, obAt_hit (j := j) (by simpa using h) h1 (fun i hi => by have := h2 (i + 1) (by omega); rwa [List.getD_cons_succ] at this)]
    congr 1; omega
theorem obAt_no {q : Int} : ∀ {xs : List Ob} {n : Nat}, (∀ i, i < xs.length → ¬ (xs.getD i default).i = q) → obAt xs q n = -1
  | [], n, _ => rfl
  | y :: ys, n, h => by
    have h0 := h 0 (by simp)
    rw [List.getD_cons_zero] at h0
    unfold obAt
    rw [if_neg h0]
    exact obAt_no (fun i hi => by have := h (i + 1) (by simpa using hi); rwa [List.getD_cons_succ] at this)
theorem obAt_lt {q : Int} : ∀ {xs : List Ob} {n : Nat}, obAt xs q n = -1 ∨ ((n : Int) ≤ obAt xs q n ∧ obAt xs q n < ((n + xs.length : Nat) : Int))
  | [], n => .inl rfl
  | y :: ys, n => by
    unfold obAt
    split
    · refine .inr ⟨Int.le_refl _, ?_⟩
      simp only [List.length_cons]; omega
    · rcases obAt_lt (q := q) (xs := ys) (n := n + 1) with h | ⟨h1, h2⟩
      · exact .inl h
      · exact .inr ⟨by omega, by simp only [List.length_cons]; omega⟩
def atM (m : Mm) (q : Int) : Int := obAt m.o q 0
def fieldsM (m : Mm) (q : Int) : List Vl := (m.o.getD (atM m q).toNat default).f
/-- Whether the object q and its field at are there. -/
def hasF (m : Mm) (q at' : Int) : Bool := decide (0 ≤ atM m q) && inB at' 0 ((fieldsM m q).length - 1)
def readV (m : Mm) (q at' : Int) : Vl := if hasF m q at' = true then (fieldsM m q).getD at'.toNat default else ⟨false, 0⟩
end Go.Proofs.Ythlaihkpffddcaa
/-
  One memory in the model: where an object stands, what is read.
-/
namespace Go.Proofs.Ythlaihkpffddcaa
open Go.RowKit

set_option maxRecDepth 100000 in
set_option maxHeartbeats 4000000 in
theorem atS (w : World) (m : Mm) (u1 u2 : Value) (q : Int) (h1 : Reads w w.heap.size (obs m.o) u1) (h2 : Reads w w.heap.size (lks m.l) u2) (hm : m.o.length ≤ 1048576) :
    Calls Try.prog 39 #[mmV m u1 u2, .int .i64 q] w fun e w' => e = .returned (.int .i64 (atM m q)) ∧ Below w.heap.size w w' := by
  have HR := hide h1
  obtain ⟨a1, c1, e1, _⟩ := h1.shape
  obtain ⟨a2, c2, e2, _⟩ := h2.shape
  subst e1 e2
  clear h1 h2
  have HY : Hid (∀ j, j < m.o.length → (m.o.getD j default).i = q → (∀ i, i < j → ¬ (m.o.getD i default).i = q) → atM m q = (j : Int)) := hide (fun j h1 h2 h3 => by unfold atM; rw [obAt_hit h1 h2 h3, Nat.zero_add])
  have HN : Hid ((∀ i, i < m.o.length → ¬ (m.o.getD i default).i = q) → atM m q = -1) := hide (fun h => obAt_no h)
  generalize atM m q = V at *
  have bA := ((Below.refl w.heap.size w).alloc (Nat.le_refl _) (.cells #[.slice a1 m.o.length c1, .slice a2 m.l.length c2] 39))
  have G0 := heap_alloc_new w (.cells #[.slice a1 m.o.length c1, .slice a2 m.l.length c2] 39)
  have E0 := hide (G0)
  have HB := hide bA
  replace HR := hide (HR.out.at bA)
  clear bA G0
  unfold mmV
  go_enter Try.func39, Try.ntmps39
  go_wp2
  generalize (w.alloc (.cells #[.slice a1 m.o.length c1, .slice a2 m.l.length c2] 39)) = W at *
  have q0 := (box_of E0.out).1 0 _ rfl
  go_loopw [5] (fun i wr => ∃ j : Nat, j ≤ m.o.length ∧ i = .int .i64 (j : Int) ∧ wr = W ∧ Hid (∀ i, i < j → ¬ (m.o.getD i default).i = q)) (fun i _ => m.o.length - (intOf i).toNat)
  case atStart => exact ⟨0, Nat.zero_le _, rfl, rfl, hide (fun i hi => by omega)⟩
  case round =>
    obtain ⟨j, hj, rfl, rfl, HQ⟩ := hrel
    by_cases hlt : j < m.o.length
    · obtain ⟨a', cap', ea, hcap, _, hc⟩ := object_at HR.out
      cases ea
      obtain ⟨b, o, rfl, hbb, hcell⟩ := hc (by omega)
      obtain ⟨pv1, d0, d1, d2, r1⟩ := hcell j hlt
      clear hcell hc r1 d1 d2
      obtain ⟨y, hy⟩ : ∃ y, m.o.getD j default = y := ⟨_, rfl⟩
      rw [hy] at d0
      have HX := hide hy
      clear hy
      by_cases k : y.i = q
      · have k' : (y.i == q) = true := by simpa using k
        have HF : Hid (V = (j : Int)) := hide (HY.out j hlt (by rw [HX.out]; exact k) HQ.out)
        clear k
        go_wp2
        go_ret
        exact ⟨by rw [HF.out]; rfl, HB.out⟩
      · have k' : (y.i == q) = false := by simpa using k
        have HQ2 : Hid (∀ i, i < j + 1 → ¬ (m.o.getD i default).i = q) := hide (fun i hi => by
          rcases Nat.lt_succ_iff_lt_or_eq.1 hi with h | rfl
          · exact HQ.out i h
          · rw [HX.out]; exact k)
        clear k
        go_wp2
        exact ⟨⟨j + 1, by omega, by go_num, by first | rfl | trivial, HQ2⟩, by simp [intOf]; omega⟩
    · obtain rfl : j = m.o.length := by omega
      have HF : Hid (V = -1) := hide (HN.out HQ.out)
      go_wp2
      go_ret
      exact ⟨by rw [HF.out]; rfl, HB.out⟩
set_option maxRecDepth 100000 in
set_option maxHeartbeats 8000000 in
theorem readS (w : World) (m : Mm) (u1 u2 : Value) (q at' : Int) (h1 : Reads w w.heap.size (obs m.o) u1) (h2 : Reads w w.heap.size (lks m.l) u2) (hg : obsG m.o) :
    Calls Try.prog 28 #[mmV m u1 u2, .int .i64 q, .int .i64 at'] w fun e w' => e = .returned (.tuple #[vlV (readV m q at'), .bool (hasF m q at')]) ∧ Below w.heap.size w w' := by
  have HR := hide h1
  have HL := hide h2
  have hm := hg.1
  have HGf : Hid (∀ j, j < m.o.length → (m.o.getD j default).f.length ≤ 1048576) := hide (fun j hj => (getD_mem hg.2 j hj).f.1)
  obtain ⟨a1, c1, e1, _⟩ := h1.shape
  obtain ⟨a2, c2, e2, _⟩ := h2.shape
  subst e1 e2
  clear h1 h2 hg
  have HV1 : Hid (atM m q < 0 → readV m q at' = ⟨false, 0⟩ ∧ hasF m q at' = false) := hide (fun h => by
    have e : hasF m q at' = false := by unfold hasF; rw [decide_eq_false (by omega)]; rfl
    exact ⟨by unfold readV; rw [if_neg (by rw [e]; simp)], e⟩)
  have HV2 : Hid (∀ j : Nat, atM m q = (j : Int) → inB at' 0 (((m.o.getD j default).f.length : Int) - 1) = false → readV m q at' = ⟨false, 0⟩ ∧ hasF m q at' = false) := hide (fun j hj h => by
    have e : hasF m q at' = false := by unfold hasF fieldsM; rw [hj, Int.toNat_natCast, h]; simp
    exact ⟨by unfold readV; rw [if_neg (by rw [e]; simp)], e⟩)
  have HV3 : Hid (∀ j : Nat, atM m q = (j : Int) → inB at' 0 (((m.o.getD j default).f.length : Int) - 1) = true → readV m q at' = (m.o.getD j default).f.getD at'.toNat default ∧ hasF m q at' = true) := hide (fun j hj h => by
    have e : hasF m q at' = true := by unfold hasF fieldsM; rw [hj, Int.toNat_natCast, h]; simp
    exact ⟨by unfold readV fieldsM; rw [if_pos e, hj, Int.toNat_natCast], e⟩)
  have hat := obAt_lt (q := q) (xs := m.o) (n := 0)
  replace hat : atM m q = -1 ∨ (((0 : Nat) : Int) ≤ atM m q ∧ atM m q < ((0 + m.o.length : Nat) : Int)) := hat
  generalize hasF m q at' = C at *
  generalize readV m q at' = V at *
  have bA := (((Below.refl w.heap.size w).alloc (Nat.le_refl _) (.cells #[.slice a1 m.o.length c1, .slice a2 m.l.length c2] 39)).alloc (by simp) (.cells #[.bool false, .int .i64 0] 59))
  have G0 := heap_alloc_new w (.cells #[.slice a1 m.o.length c1, .slice a2 m.l.length c2] 39)
  have G1 := heap_alloc_new (w.alloc (.cells #[.slice a1 m.o.length c1, .slice a2 m.l.length c2] 39)) (.cells #[.bool false, .int .i64 0] 59)
  simp only [World.size_alloc] at G1
  have E0 := hide ((Below.heap_alloc _ (.cells #[.bool false, .int .i64 0] 59) _ (by simp)).trans (G0))
  have E1 := hide (G1)
  have HB := hide bA
  replace HR := hide (HR.out.at bA)
  replace HL := hide (HL.out.at bA)
  clear bA G0 G1
  unfold mmV
  go_enter Try.func28, Try.ntmps28
  go_wp2_with fail
  generalize ((w.alloc (.cells #[.slice a1 m.o.length c1, .slice a2 m.l.length c2] 39)).alloc (.cells #[.bool false, .int .i64 0] 59)) = W at *
  refine (atS _ m _ _ q HR.out HL.out hm).mono ?_
  rintro e w1 ⟨rfl, b1⟩
  replace E0 := hide ((b1.block _ (Array.getElem?_eq_some_iff.1 E0.out).1).trans E0.out)
  replace E1 := hide ((b1.block _ (Array.getElem?_eq_some_iff.1 E1.out).1).trans E1.out)
  replace HR := hide (HR.out.at b1)
  replace HB := hide (HB.out.trans (b1.mono HB.out.size))
  clear b1
  generalize atM m q = K at *
  have s0 := (box_of E1.out).1 0 _ rfl
  have s1 := (box_of E1.out).1 1 _ rfl
  have sz := (box_of E1.out).2
  by_cases k0 : K < 0
  · have HF := hide (HV1.out k0)
    clear HV1 HV2 HV3 hat
    go_wp2
    refine bodyPost_ret (v := .tuple #[.agg #[.bool false, .int .i64 0], .bool false]) (results_ct Try.results28 _ _ _ rfl (loadVl (putN2 E1.out _ _))) rfl ⟨by rw [HF.out.1, HF.out.2]; rfl, ?_⟩
    exact (HB.out.setCell (by simp <;> omega) _).setCell (by simp <;> omega) _
  · obtain ⟨j, hj⟩ : ∃ j : Nat, K = (j : Int) := ⟨K.toNat, by omega⟩
    subst hj
    have hlt : j < m.o.length := by omega
    have hltI : (j : Int) < (m.o.length : Int) := by omega
    clear hat HV1
    obtain ⟨a', cap', ea, hcap, _, hc⟩ := object_at HR.out
    cases ea
    obtain ⟨b, o, rfl, hbb, hcell⟩ := hc (by omega)
    obtain ⟨pv1, d0, d1, d2, r1⟩ := hcell j hlt
    have hfl := HGf.out j hlt
    have HW2 := hide (HV2.out j rfl)
    have HW3 := hide (HV3.out j rfl)
    clear hcell hc d0 d1 HV2 HV3
    obtain ⟨y, hy⟩ : ∃ y, (m.o.getD j default).f = y := ⟨_, rfl⟩
    rw [hy] at r1 hfl HW2 HW3
    clear hy
    obtain ⟨fa, fc, fe, _⟩ := r1.shape
    subst fe
    have q0 := (box_of E0.out).1 0 _ rfl
    have hw : IntKind.i64.wrap ((y.length : Int) - 1) = (y.length : Int) - 1 := by rw [IntKind.wrap_i64]; omega
    go_wp2_with fail
    refine (inSpec _ _ _ _).mono ?_
    rintro e w2 ⟨rfl, hw2⟩
    rw [hw2]
    clear hw2 w2
    cases ci : inB at' 0 ((y.length : Int) - 1) with
    | false =>
      have HF := hide (HW2.out ci)
      clear HW2 HW3
      go_wp2
      refine bodyPost_ret (v := .tuple #[.agg #[.bool false, .int .i64 0], .bool false]) (results_ct Try.results28 _ _ _ rfl (loadVl (putN2 E1.out _ _))) rfl ⟨by rw [HF.out.1, HF.out.2]; rfl, ?_⟩
      exact (HB.out.setCell (by simp <;> omega) _).setCell (by simp <;> omega) _
    | true =>
      obtain ⟨hv, hc'⟩ := HW3.out ci
      have HF := hide hv
      have HF2 := hide hc'
      have hin := inB_yes ci
      obtain ⟨t, ht⟩ : ∃ t : Nat, at' = (t : Int) := ⟨at'.toNat, by omega⟩
      subst ht
      have htl : t < y.length := by omega
      have htI : (t : Int) < (y.length : Int) := by omega
      obtain ⟨_, _, ea, _, _, hc2⟩ := val_at r1
      cases ea
      obtain ⟨b2, o2, rfl, hbb2, hcell2⟩ := hc2 (by omega)
      obtain ⟨f0, f1⟩ := hcell2 t htl
      rw [Int.toNat_natCast] at HF
      generalize y.getD t default = z at *
      clear HW2 HW3 hv hc' hcell2 hc2 hin ci
      go_wp2
      refine bodyPost_ret (v := .tuple #[.agg #[.bool z.r, .int .i64 z.n], .bool true]) (results_ct Try.results28 _ _ _ rfl (loadVl (putN2 E1.out _ _))) rfl ⟨by rw [HF.out, HF2.out]; rfl, ?_⟩
      exact (HB.out.setCell (by simp <;> omega) _).setCell (by simp <;> omega) _
end Go.Proofs.Ythlaihkpffddcaa
