/-
  Joined: IntR, InB.
-/
import Derived.Test.YtofnpgheppgcaaaJ14
import Derived.Test.YtofnpgheppgcaaaJ10
import Derived.Deep.QuietTactic
import Derived.BigQuiet
import Derived.Test.YtofnpgheppgcaaaRows
import Derived.Test.YtofnpgheppgcaaaJ1
/-
  Rows of ints: how they come in, how great they are, copies, comparison, marks.
-/
namespace Go.Proofs.Ytofnpgheppgcaaa
open Go.ChangeShapes Go.WideShapes Go.RowKit

def niD (z : Int) : List Dt := [.val (.int .i64 z)]
def ints (z : List Int) : Dt := .row 3 1 z.length (z.flatMap niD)
theorem int_at {w : World} {B : Nat} {v : Value} {xs : List Int} (h : Reads w B (ints xs) v) :
    ∃ a cap, v = .slice a xs.length cap ∧ xs.length ≤ cap ∧ (a = none → cap = 0) ∧ (0 < xs.length → ∃ b o, a = some ⟨b, o, none⟩ ∧ b < B ∧ ∀ j, j < xs.length → w.cell? ⟨b, o + j, none⟩ = some (.int .i64 (xs.getD j default))) := by
  obtain ⟨a, cap, rfl, h1, h2, h3⟩ := row_at (f := niD) (k := 1) (fun _ => rfl) rfl h
  refine ⟨a, cap, rfl, h1, h2, fun hp => ?_⟩
  obtain ⟨b, o, rfl, hb, hc⟩ := h3 hp
  refine ⟨b, o, rfl, hb, fun j hj => ?_⟩
  obtain ⟨vs, h4, h5⟩ := hc j hj
  obtain ⟨u0, vs0, rfl, q0, h4⟩ := readsL_cons h4
  obtain rfl := readsL_nil h4
  obtain rfl := reads_val q0
  have c0 := h5 0 (by omega)
  simp only [Nat.mul_one, Nat.add_zero] at c0
  exact c0
def intsR (xs : List Int) : Prop := xs.length ≤ maxLen ∧ ∀ y ∈ xs, -9223372036854775808 ≤ y ∧ y ≤ 9223372036854775807
def intsW (xs : List Int) : Nat := xs.length
def intsG (xs : List Int) : Prop := xs.length ≤ 1048576 ∧ ∀ y ∈ xs, -9223372036854775808 ≤ y ∧ y ≤ 9223372036854775807
theorem intsG_of {xs : List Int} (hr : intsR xs) (hw : intsW xs ≤ 1048576) : intsG xs := ⟨hw, hr.2⟩
theorem ni_reads {w : World} {B : Nat} (x : Int) : ReadsL w B (niD x) [Value.int .i64 x] := readsL_mk reads_val' readsL_none
theorem OwnDL.joinI {w : World} {b hi m : Nat} {c1 c2 : List Dt} {u1 u2 : List Value} (h : OwnDL w b m c1 u1) (h' : OwnDL w m hi c2 u2) (hb : b ≤ m) (hm : m ≤ hi) : OwnDL w b hi (c1 ++ c2) (u1 ++ u2) := by
  obtain ⟨F, h1, h2, h3⟩ := h
  obtain ⟨G, g1, g2, g3⟩ := h'
  refine ⟨F ++ G, OwnsL.join h1 (g1.mono hb), List.nodup_append.2 ⟨h2, g2, fun x hx y hy e => ?_⟩, fun q hq => ?_⟩
  · have a := h3 x hx
    have b := (OwnsL.lt _ _ _ g1 y hy).1
    omega
  · rcases List.mem_append.1 hq with hq | hq
    · exact Nat.lt_of_lt_of_le (h3 q hq) hm
    · exact g3 q hq
theorem ownD_oneI {w : World} {b hi : Nat} {d : Dt} {v : Value} (h : OwnD w b hi d v) : OwnDL w b hi [d] [v] := by
  obtain ⟨F, h1, h2, h3⟩ := h
  refine ⟨F ++ [], ownsL_mk h1 ownsL_nil, by simpa using h2, fun q hq => h3 q (by simpa using hq)⟩
theorem Try.infoNi : (Try.prog.info? 3).map (fun i => (i.zero, i.size, i.bytes)) = some (some (.int .i64 0), 1, 8) := by kernel_rfl
set_option maxRecDepth 100000 in
set_option maxHeartbeats 1000000 in
theorem eqInts (w : World) (v1 v2 : Value) (xs : List Int) (h1 : Reads w w.heap.size (ints xs) v1) (h2 : Reads w w.heap.size (ints xs) v2) (hg : intsG xs) :
    Calls Try.prog 32 #[v1, v2] w fun e w' => e = .returned (.bool true) ∧ Below w.heap.size w w' := by
  have hm := hg.1
  clear hg
  refine Calls.mono (R := fun e w' => e = .returned (.bool true) ∧ ∃ q, w' = w.drewN q) ?_ (by rintro e w1 ⟨a, q, rfl⟩; exact ⟨a, below_drewN (Below.refl _ _) q⟩)
  obtain ⟨a1, c1, rfl, _, _, hx1⟩ := int_at h1
  obtain ⟨a2, c2, rfl, _, _, hx2⟩ := int_at h2
  have HX1 := hide hx1
  have HX2 := hide hx2
  clear h1 h2 hx1 hx2
  have hne : ((xs.length : Int) != (xs.length : Int)) = false := by simp
  generalize hn : xs.length = n at *
  go_enter Try.func32, Try.ntmps32
  go_wp2
  go_loopw [5] (fun i wr => ∃ k : Nat, k ≤ n ∧ i = .int .i64 k ∧ ∃ q, wr = w.drewN q) (fun i _ => n - (intOf i).toNat)
  case atStart => exact ⟨0, Nat.zero_le _, rfl, 0, rfl⟩
  case round =>
    obtain ⟨k, hk, rfl, q, rfl⟩ := hrel
    by_cases hlt : k < n
    · obtain ⟨b1, o1, rfl, _, hc1⟩ := HX1.out (by omega)
      obtain ⟨b2, o2, rfl, _, hc2⟩ := HX2.out (by omega)
      have e1 := hc1 k hlt
      have e2 := hc2 k hlt
      clear hc1 hc2 HX1 HX2
      have hbe : ((xs.getD k default) != (xs.getD k default)) = false := by simp
      go_wp2
      go_quiet (fail)
      go_wp2
      go_roundw
      case rel => exact ⟨k + 1, by omega, by go_num, q + nq, rfl⟩
      case measure => simp [intOf]; omega
    · go_wp2
      go_ret
      exact ⟨rfl, q, rfl⟩
end Go.Proofs.Ytofnpgheppgcaaa
/-
  Whether a number lies from one to another, asked by the program and by its model.
-/
namespace Go.Proofs.Ytofnpgheppgcaaa
open Go.RowKit

/-- n lies from a to b. -/
def inB (n a b : Int) : Bool := decide (a ≤ n ∧ n ≤ b)
theorem inB_yes {n a b : Int} (h : inB n a b = true) : a ≤ n ∧ n ≤ b := of_decide_eq_true h
theorem inB_no {n a b : Int} (h : inB n a b = false) : n < a ∨ b < n := by
  have := of_decide_eq_false h
  omega
theorem inB_mk {n a b : Int} (h1 : a ≤ n) (h2 : n ≤ b) : inB n a b = true := decide_eq_true ⟨h1, h2⟩
theorem inB_not {n a b : Int} (h : n < a ∨ b < n) : inB n a b = false := decide_eq_false (by omega)

theorem inYes (x lo hi : Int) (w : World) (h1 : lo ≤ x) (h2 : x ≤ hi) :
    Calls Try.prog 39 #[.int .i64 x, .int .i64 lo, .int .i64 hi] w fun e w' => e = .returned (.bool true) ∧ w' = w := by
  go_enter Try.func39, Try.ntmps39
  go_wp2
  go_ret
  exact ⟨ret_bool (by simp), rfl⟩

theorem inNo (x lo hi : Int) (w : World) (h : x < lo ∨ hi < x) :
    Calls Try.prog 39 #[.int .i64 x, .int .i64 lo, .int .i64 hi] w fun e w' => e = .returned (.bool false) ∧ w' = w := by
  by_cases h1 : lo ≤ x
  · have h2 : hi < x := by omega
    clear h
    go_enter Try.func39, Try.ntmps39
    go_wp2
    go_ret
    exact ⟨ret_bool (by simp [h2]), rfl⟩
  · clear h
    go_enter Try.func39, Try.ntmps39
    go_wp2
    go_ret
    exact ⟨ret_bool (by simp), rfl⟩

theorem inSpec (n a b : Int) (w : World) :
    Calls Try.prog 39 #[.int .i64 n, .int .i64 a, .int .i64 b] w fun e w' => e = .returned (.bool (inB n a b)) ∧ w' = w := by
  cases h : inB n a b with
  | true => have := inB_yes h; exact inYes n a b w this.1 this.2
  | false => exact inNo n a b w (inB_no h)
theorem inImpl (n a b : Int) (w : World) :
    Calls Try.prog 67 #[.int .i64 n, .int .i64 a, .int .i64 b] w fun e w' => e = .returned (.bool (inB n a b)) ∧ w' = w := by
  by_cases h1 : a ≤ n
  · by_cases h2 : n ≤ b
    · rw [inB_mk h1 h2]
      go_enter Try.func67, Try.ntmps67
      go_wp2
      go_ret
      exact ⟨ret_bool (by simp), rfl⟩
    · rw [inB_not (.inr (by omega))]
      go_enter Try.func67, Try.ntmps67
      go_wp2
      go_ret
      exact ⟨ret_bool (by simp), rfl⟩
  · rw [inB_not (.inl (by omega))]
    go_enter Try.func67, Try.ntmps67
    go_wp2
    go_ret
    exact ⟨ret_bool (by simp), rfl⟩
end Go.Proofs.Ytofnpgheppgcaaa
