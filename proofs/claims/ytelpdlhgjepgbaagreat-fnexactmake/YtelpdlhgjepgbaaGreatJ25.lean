/-
  Joined: MemM, MemS.
-/
import Derived.Test.YtelpdlhgjepgbaaGreatJ19
import Derived.Test.YtelpdlhgjepgbaaGreatJ24
import Derived.Test.YtelpdlhgjepgbaaGreatJ23
/-
  One memory: where an object stands, what is read.
-/
namespace Go.Proofs.YtelpdlhgjepgbaaGreat
open Go.RowKit

def obAt : List Ob → Int → Nat → Int
  | [], _, _ => -1
  | y :: ys, q, n => if y.i = q then (n : Int) else obAt ys q (n + 1)
theorem obAt_hit {q : Int} : ∀ {xs : List Ob} {j n : Nat}, j < xs.length → (xs.getD j default).i = q → (∀ i, i < j → ¬ (xs.getD i default).i = q) → obAt xs q n = ((n + j : Nat) : Int)
  | [], j, n, h, _, _ => by simp at h
  | y :: ys, 0, n, _, h, _ => by
    rw [List.getD_cons_zero] at h
    unfold obAt
    rw [if_pos h]; rfl
  | y :: ys, j + 1, n, h, h1, h2 => by
    have h0 := h2 0 (by omega)
    rw [List.getD_cons_zero] at h0
    rw [List.getD_cons_succ] at h1
    unfold obAt
    rw [if_neg h0, obAt_hit (j := j) (by simpa using h) h1 (fun i hi => by have := h2 (i + 1) (by omega); rwa [List.getD_cons_succ] at this)]
    congr 1; omega
theorem obAt_no {q : Int} : ∀ {xs : List Ob} {n : Nat}, (∀ i, i < xs.length → ¬ (xs.getD i default).i = q) → obAt xs q n = -1
  | [], n, _ => rfl
  | y :: ys, n, h => by
    have h0 := h 0 (by simp)
    rw [List.getD_cons_zero] at h0
    unfold obAt
    rw [if_neg h0]
    exact obAt_no (fun i hi => by have := h (i + 1) (by simpa using hi); rwa [List.getD_cons_succ] at this)
theorem obAt_lt {q : Int} : ∀ {xs : List Ob} {n : Nat}, obAt xs q n = -1 ∨ ((n : Int) ≤ obAt xs q n ∧ obAt xs q n < ((n + xs.length : Nat) : Int))
  | [], n => .inl rfl
  | y :: ys, n => by
    unfold obAt
    split
    · refine .inr ⟨Int.le_refl _, ?_⟩
      simp only [List.length_cons]; omega
    · rcases obAt_lt (q := q) (xs := ys) (n := n + 1) with h | ⟨h1, h2⟩
      · exact .inl h
      · exact .inr ⟨by omega, by simp only [List.length_cons]; omega⟩
def atM (m : Mm) (q : Int) : Int := obAt m.o q 0
def fieldsM (m : Mm) (q : Int) : List Vl := (m.o.getD (atM m q).toNat default).f
/-- Whether the object q and its field at are there. -/
def hasF (m : Mm) (q at' : Int) : Bool := decide (0 ≤ atM m q) && inB at' 0 ((fieldsM m q).length - 1)
def readV (m : Mm) (q at' : Int) : Vl := if hasF m q at' = true then (fieldsM m q).getD at'.toNat default else ⟨false, 0⟩
end Go.Proofs.YtelpdlhgjepgbaaGreat
/-
  One memory in the model: where an object stands, what is read.
-/
namespace Go.Proofs.YtelpdlhgjepgbaaGreat
open Go.RowKit

set_option maxRecDepth 100000 in
set_option maxHeartbeats 4000000 in
theorem atS (w : World) (m : Mm) (u1 u2 : Value) (q : Int) (h1 : Reads w w.heap.size (obs m.o) u1) (h2 : Reads w w.heap.size (lks m.l) u2) (hm : m.o.length ≤ 1048576) :
    Calls Tryz.prog 19 #[mmV m u1 u2, .int .i64 q] w fun e w' => e = .returned (.int .i64 (atM m q)) ∧ Below w.heap.size w w' := by
  have HR := hide h1
  obtain ⟨a1, c1, e1, _⟩ := h1.shape
  obtain ⟨a2, c2, e2, _⟩ := h2.shape
  subst e1 e2
  clear h1 h2
  have HY : Hid (∀ j, j < m.o.length → (m.o.getD j default).i = q → (∀ i, i < j → ¬ (m.o.getD i default).i = q) → atM m q = (j : Int)) := hide (fun j h1 h2 h3 => by unfold atM; rw [obAt_hit h1 h2 h3, Nat.zero_add])
  have HN : Hid ((∀ i, i < m.o.length → ¬ (m.o.getD i default).i = q) → atM m q = -1) := hide (fun h => obAt_no h)
  generalize atM m q = V at *
  have bA := ((Below.refl w.heap.size w).alloc (Nat.le_refl _) (.cells #[.slice a1 m.o.length c1, .slice a2 m.l.length c2] 34))
  have G0 := heap_alloc_new w (.cells #[.slice a1 m.o.length c1, .slice a2 m.l.length c2] 34)
  have E0 := hide (G0)
  have HB := hide bA
  replace HR := hide (HR.out.at bA)
  clear bA G0
  unfold mmV
  go_enter Tryz.func19, Tryz.ntmps19
  go_wp2
  generalize (w.alloc (.cells #[.slice a1 m.o.length c1, .slice a2 m.l.length c2] 34)) = W at *
  have q0 := (box_of E0.out).1 0 _ rfl
  go_loopw [5] (fun i wr => ∃ j : Nat, j ≤ m.o.length ∧ i = .int .i64 (j : Int) ∧ wr = W ∧ Hid (∀ i, i < j → ¬ (m.o.getD i default).i = q)) (fun i _ => m.o.length - (intOf i).toNat)
  case atStart => exact ⟨0, Nat.zero_le _, rfl, rfl, hide (fun i hi => by omega)⟩
  case round =>
    obtain ⟨j, hj, rfl, rfl, HQ⟩ := hrel
    by_cases hlt : j < m.o.length
    · obtain ⟨a', cap', ea, hcap, _, hc⟩ := object_at HR.out
      cases ea
      obtain ⟨b, o, rfl, hbb, hcell⟩ := hc (by omega)
      obtain ⟨pv1, d0, d1, d2, r1⟩ := hcell j hlt
      clear hcell hc r1 d1 d2
      obtain ⟨y, hy⟩ : ∃ y, m.o.getD j default = y := ⟨_, rfl⟩
      rw [hy] at d0
      have HX := hide hy
      clear hy
      by_cases k : y.i = q
      · have k' : (y.i == q) = true := by simpa using k
        have HF : Hid (V = (j : Int)) := hide (HY.out j hlt (by rw [HX.out]; exact k) HQ.out)
        clear k
        go_wp2
        go_ret
        exact ⟨by rw [HF.out]; rfl, HB.out⟩
      · have k' : (y.i == q) = false := by simpa using k
        have HQ2 : Hid (∀ i, i < j + 1 → ¬ (m.o.getD i default).i = q) := hide (fun i hi => by
          rcases Nat.lt_succ_iff_lt_or_eq.1 hi with h | rfl
          · exact HQ.out i h
          · rw [HX.out]; exact k)
        clear k
        go_wp2
        exact ⟨⟨j + 1, by omega, by go_num, by first | rfl | trivial, HQ2⟩, by simp [intOf]; omega⟩
    · obtain rfl : j = m.o.length := by omega
      have HF : Hid (V = -1) := hide (HN.out HQ.out)
      go_wp2
      go_ret
      exact ⟨by rw [HF.out]; rfl, HB.out⟩
end Go.Proofs.YtelpdlhgjepgbaaGreat
