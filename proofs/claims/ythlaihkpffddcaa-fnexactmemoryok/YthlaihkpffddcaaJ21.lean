/-
  Joined: BldW, InB.
-/
import Derived.Test.YthlaihkpffddcaaJ20
import Derived.Test.YthlaihkpffddcaaRows
import Derived.Test.YthlaihkpffddcaaJ1
/-
  A variable that is built: a field gets a row that is new.
-/
namespace Go.Proofs.Ythlaihkpffddcaa
open Go.RowKit

theorem Bv.fresh {W wr w' : World} {L m : Nat} {T : TypeId} {c d : Dt} {c1 c2 : List Dt} {v1 v2 : List Value} {x v' : Value} (h : Bv W wr L T (c1 ++ c :: c2) (v1 ++ x :: v2)) (i : Nat) (hi : v1.length = i) (hl : v1.length = c1.length) (hb : Below wr.heap.size wr w') (ho : OwnD w' m w'.heap.size d v') (hm : wr.heap.size ≤ m) :
    Bv W (w'.setCell ⟨L, i, none⟩ v') L T (c1 ++ d :: c2) (v1 ++ v' :: v2) := by
  have h3 := h.lt
  subst hi
  have hx := (hb.block L h3).trans h.box
  have hs := hb.size
  refine ⟨?_, ?_, ?_⟩
  · rw [heap_setCell_same w' L v1.length _ _ _ hx]
    simp
  · have h4 := (h.own.below hb).repl hl ho hm (by omega) hs
    exact (h4.same (fun q hq _ _ => heap_setCell_other _ _ _ _ (by simp; omega))).up (by simp)
  · exact (h.bel.trans (hb.mono (Nat.le_of_lt h3))).setCell (by simp) _
theorem ownDL_vals (w : World) (b hi : Nat) (vs : List Value) : OwnDL w b hi (vs.map .val) vs := ⟨[], ownsL_vals vs, List.nodup_nil, fun q hq => by simp at hq⟩
theorem ownD_zero (w : World) (T : TypeId) (k : Nat) : OwnD (w.alloc (.cells #[] T)) w.heap.size (w.alloc (.cells #[] T)).heap.size (.row T k 0 []) (.slice (some ⟨w.heap.size, 0, none⟩) 0 0) := by
  refine ⟨[w.heap.size], ?_, by simp, fun q hq => by simp at hq ⊢; omega⟩
  unfold Owns
  exact ⟨[], [], World.ownsRow_lit w #[] 0 (Nat.le_refl _) (by decide) (by simp), ownsL_nil, rfl⟩
end Go.Proofs.Ythlaihkpffddcaa
/-
  Whether a number lies from one to another, asked by the program and by its model.
-/
namespace Go.Proofs.Ythlaihkpffddcaa
open Go.RowKit

/-- n lies from a to b. -/
def inB (n a b : Int) : Bool := decide (a ≤ n ∧ n ≤ b)
theorem inB_yes {n a b : Int} (h : inB n a b = true) : a ≤ n ∧ n ≤ b := of_decide_eq_true h
theorem inB_no {n a b : Int} (h : inB n a b = false) : n < a ∨ b < n := by
  have := of_decide_eq_false h
  omega
theorem inB_mk {n a b : Int} (h1 : a ≤ n) (h2 : n ≤ b) : inB n a b = true := decide_eq_true ⟨h1, h2⟩
theorem inB_not {n a b : Int} (h : n < a ∨ b < n) : inB n a b = false := decide_eq_false (by omega)

theorem inYes (x lo hi : Int) (w : World) (h1 : lo ≤ x) (h2 : x ≤ hi) :
    Calls Try.prog 40 #[.int .i64 x, .int .i64 lo, .int .i64 hi] w fun e w' => e = .returned (.bool true) ∧ w' = w := by
  go_enter Try.func40, Try.ntmps40
  go_wp2
  go_ret
  exact ⟨ret_bool (by simp), rfl⟩

theorem inNo (x lo hi : Int) (w : World) (h : x < lo ∨ hi < x) :
    Calls Try.prog 40 #[.int .i64 x, .int .i64 lo, .int .i64 hi] w fun e w' => e = .returned (.bool false) ∧ w' = w := by
  by_cases h1 : lo ≤ x
  · have h2 : hi < x := by omega
    clear h
    go_enter Try.func40, Try.ntmps40
    go_wp2
    go_ret
    exact ⟨ret_bool (by simp [h2]), rfl⟩
  · clear h
    go_enter Try.func40, Try.ntmps40
    go_wp2
    go_ret
    exact ⟨ret_bool (by simp), rfl⟩

theorem inSpec (n a b : Int) (w : World) :
    Calls Try.prog 40 #[.int .i64 n, .int .i64 a, .int .i64 b] w fun e w' => e = .returned (.bool (inB n a b)) ∧ w' = w := by
  cases h : inB n a b with
  | true => have := inB_yes h; exact inYes n a b w this.1 this.2
  | false => exact inNo n a b w (inB_no h)
theorem inImpl (n a b : Int) (w : World) :
    Calls Try.prog 72 #[.int .i64 n, .int .i64 a, .int .i64 b] w fun e w' => e = .returned (.bool (inB n a b)) ∧ w' = w := by
  by_cases h1 : a ≤ n
  · by_cases h2 : n ≤ b
    · rw [inB_mk h1 h2]
      go_enter Try.func72, Try.ntmps72
      go_wp2
      go_ret
      exact ⟨ret_bool (by simp), rfl⟩
    · rw [inB_not (.inr (by omega))]
      go_enter Try.func72, Try.ntmps72
      go_wp2
      go_ret
      exact ⟨ret_bool (by simp), rfl⟩
  · rw [inB_not (.inl (by omega))]
    go_enter Try.func72, Try.ntmps72
    go_wp2
    go_ret
    exact ⟨ret_bool (by simp), rfl⟩
end Go.Proofs.Ythlaihkpffddcaa
