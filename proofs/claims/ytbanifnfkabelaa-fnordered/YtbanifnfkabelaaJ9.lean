/-
  Joined: ClkR, InB.
-/
import Derived.Test.YtbanifnfkabelaaJ8
import Derived.Laws.StructEq
import Derived.Test.YtbanifnfkabelaaRows
import Derived.Test.YtbanifnfkabelaaJ1
/-
  Stamps as data: how they come in, how great they are, copies, comparison, marks.
-/
namespace Go.Proofs.Ytbanifnfkabelaa
open Go.ChangeShapes Go.WideShapes Go.RowKit

structure Smp where
  w : Int
  n : Int
instance : Inhabited Smp := ⟨⟨0, 0⟩⟩
def smpD (x : Smp) : List Dt := [.val (.int .i64 x.w), .val (.int .i64 x.n)]
def smpV (x : Smp) : Value := .agg #[.int .i64 x.w, .int .i64 x.n]
def smps (xs : List Smp) : Dt := .row 64 2 xs.length (xs.flatMap smpD)
theorem stamp_at {w : World} {B : Nat} {v : Value} {xs : List Smp} (h : Reads w B (smps xs) v) :
    ∃ a cap, v = .slice a xs.length cap ∧ xs.length ≤ cap ∧ (a = none → cap = 0) ∧ (0 < xs.length → ∃ b o, a = some ⟨b, o, none⟩ ∧ b < B ∧ ∀ j, j < xs.length → w.cell? ⟨b, o + j * 2, none⟩ = some (.int .i64 (xs.getD j default).w) ∧ w.cell? ⟨b, o + j * 2 + 1, none⟩ = some (.int .i64 (xs.getD j default).n)) := by
  obtain ⟨a, cap, rfl, h1, h2, h3⟩ := row_at (f := smpD) (k := 2) (fun _ => rfl) rfl h
  refine ⟨a, cap, rfl, h1, h2, fun hp => ?_⟩
  obtain ⟨b, o, rfl, hb, hc⟩ := h3 hp
  refine ⟨b, o, rfl, hb, fun j hj => ?_⟩
  obtain ⟨vs, h4, h5⟩ := hc j hj
  obtain ⟨u0, vs0, rfl, q0, h4⟩ := readsL_cons h4
  obtain ⟨u1, vs1, rfl, q1, h4⟩ := readsL_cons h4
  obtain rfl := readsL_nil h4
  obtain rfl := reads_val q0
  obtain rfl := reads_val q1
  have c0 := h5 0 (by omega)
  have c1 := h5 1 (by omega)
  rw [Nat.add_zero] at c0
  exact ⟨c0, c1⟩
structure SmpR (x : Smp) : Prop where
  w : -9223372036854775808 ≤ x.w ∧ x.w ≤ 9223372036854775807
  n : -9223372036854775808 ≤ x.n ∧ x.n ≤ 9223372036854775807
def smpW (_x : Smp) : Nat := 0
structure SmpG (x : Smp) : Prop where
  w : -9223372036854775808 ≤ x.w ∧ x.w ≤ 9223372036854775807
  n : -9223372036854775808 ≤ x.n ∧ x.n ≤ 9223372036854775807
theorem smpG_of {x : Smp} (hr : SmpR x) (_hw : smpW x ≤ 1048576) : SmpG x := ⟨hr.w, hr.n⟩
def smpsR (xs : List Smp) : Prop := xs.length ≤ maxLen ∧ ∀ y ∈ xs, SmpR y
def smpsW (xs : List Smp) : Nat := xs.length
def smpsG (xs : List Smp) : Prop := xs.length ≤ 1048576 ∧ ∀ y ∈ xs, SmpG y
theorem smpsG_of {xs : List Smp} (hr : smpsR xs) (hw : smpsW xs ≤ 1048576) : smpsG xs := ⟨hw, fun y hy => smpG_of (hr.2 y hy) (Nat.zero_le _)⟩
theorem Try.infoSmp : (Try.prog.info? 64).map (fun i => (i.zero, i.size, i.bytes)) = some (some (.agg #[.int .i64 0, .int .i64 0]), 2, 16) := by kernel_rfl
theorem loadSmp {w : World} {g : Nat} {a0 a1 : Value} (h : w.heap[g]? = some (.cells #[a0, a1] 64 (0, 0))) : (loadVar 64 ⟨g, 0, none⟩).run Try.prog w = .ok (.agg #[a0, a1]) w :=
  run_loadVar_row w g 64 64 #[a0, a1] (0, 0) _ h Try.underlying64 rfl (by kernel_rfl)
def smpCnt (_x : Smp) : Nat := 2
def mkSmp (k : Nat) (_x : Smp) : Smp := ⟨((k : Nat) : Int), ((k : Nat) : Int) + 1⟩
def mkSmps : Nat → List Smp → List Smp
  | _, [] => []
  | k, x :: xs => mkSmp k x :: mkSmps (k + smpCnt x) xs
def cntSmps (xs : List Smp) : Nat := tot smpCnt xs
theorem mkSmps_len : ∀ (k : Nat) (xs : List Smp), (mkSmps k xs).length = xs.length
  | _, [] => rfl
  | k, x :: xs => by simp [mkSmps, mkSmps_len _ xs]
theorem mkSmps_get : ∀ (k : Nat) (xs : List Smp) (j : Nat), j < xs.length → (mkSmps k xs).getD j default = mkSmp (k + tot smpCnt (xs.take j)) (xs.getD j default)
  | k, [], j, h => by simp at h
  | k, x :: xs, 0, h => by simp [mkSmps, tot]
  | k, x :: xs, j + 1, h => by
    rw [mkSmps, List.getD_cons_succ, mkSmps_get _ xs j (by simpa using h), List.getD_cons_succ]
    congr 1
    unfold tot
    rw [List.take_succ_cons, List.map_cons, List.sum_cons]; omega
theorem cntSmps_le (xs : List Smp) : cntSmps xs ≤ 8 * smpsW xs := tot_cnt0 smpCnt (fun _ => by unfold smpCnt; omega) xs
end Go.Proofs.Ytbanifnfkabelaa
/-
  Whether a number lies from one to another, asked by the program and by its model.
-/
namespace Go.Proofs.Ytbanifnfkabelaa
open Go.RowKit

/-- n lies from a to b. -/
def inB (n a b : Int) : Bool := decide (a ≤ n ∧ n ≤ b)
theorem inB_yes {n a b : Int} (h : inB n a b = true) : a ≤ n ∧ n ≤ b := of_decide_eq_true h
theorem inB_no {n a b : Int} (h : inB n a b = false) : n < a ∨ b < n := by
  have := of_decide_eq_false h
  omega
theorem inB_mk {n a b : Int} (h1 : a ≤ n) (h2 : n ≤ b) : inB n a b = true := decide_eq_true ⟨h1, h2⟩
theorem inB_not {n a b : Int} (h : n < a ∨ b < n) : inB n a b = false := decide_eq_false (by omega)

theorem inYes (x lo hi : Int) (w : World) (h1 : lo ≤ x) (h2 : x ≤ hi) :
    Calls Try.prog 33 #[.int .i64 x, .int .i64 lo, .int .i64 hi] w fun e w' => e = .returned (.bool true) ∧ w' = w := by
  go_enter Try.func33, Try.ntmps33
  go_wp2
  go_ret
  exact ⟨ret_bool (by simp), rfl⟩

theorem inNo (x lo hi : Int) (w : World) (h : x < lo ∨ hi < x) :
    Calls Try.prog 33 #[.int .i64 x, .int .i64 lo, .int .i64 hi] w fun e w' => e = .returned (.bool false) ∧ w' = w := by
  by_cases h1 : lo ≤ x
  · have h2 : hi < x := by omega
    clear h
    go_enter Try.func33, Try.ntmps33
    go_wp2
    go_ret
    exact ⟨ret_bool (by simp [h2]), rfl⟩
  · clear h
    go_enter Try.func33, Try.ntmps33
    go_wp2
    go_ret
    exact ⟨ret_bool (by simp), rfl⟩

theorem inSpec (n a b : Int) (w : World) :
    Calls Try.prog 33 #[.int .i64 n, .int .i64 a, .int .i64 b] w fun e w' => e = .returned (.bool (inB n a b)) ∧ w' = w := by
  cases h : inB n a b with
  | true => have := inB_yes h; exact inYes n a b w this.1 this.2
  | false => exact inNo n a b w (inB_no h)
theorem inImpl (n a b : Int) (w : World) :
    Calls Try.prog 45 #[.int .i64 n, .int .i64 a, .int .i64 b] w fun e w' => e = .returned (.bool (inB n a b)) ∧ w' = w := by
  by_cases h1 : a ≤ n
  · by_cases h2 : n ≤ b
    · rw [inB_mk h1 h2]
      go_enter Try.func45, Try.ntmps45
      go_wp2
      go_ret
      exact ⟨ret_bool (by simp), rfl⟩
    · rw [inB_not (.inr (by omega))]
      go_enter Try.func45, Try.ntmps45
      go_wp2
      go_ret
      exact ⟨ret_bool (by simp), rfl⟩
  · rw [inB_not (.inl (by omega))]
    go_enter Try.func45, Try.ntmps45
    go_wp2
    go_ret
    exact ⟨ret_bool (by simp), rfl⟩
end Go.Proofs.Ytbanifnfkabelaa
