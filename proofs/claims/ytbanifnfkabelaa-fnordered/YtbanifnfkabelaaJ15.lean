/-
  Joined: DrawC, EvR.
-/
import Derived.Test.YtbanifnfkabelaaJ3
import Derived.Test.YtbanifnfkabelaaJ10
import Derived.Test.YtbanifnfkabelaaJ14
import Derived.Test.YtbanifnfkabelaaJ13
import Derived.Test.YtbanifnfkabelaaJ8
import Derived.Laws.StructEq
/-
  Any drawn clock: it lies in new memory, and is short.
-/
namespace Go.Proofs.Ytbanifnfkabelaa
open Go.RowKit

theorem ownD_litC (w : World) (b : Nat) (hB : b ≤ w.heap.size) (T : TypeId) (k n : Nat) (cs : Array Value) (hn : n ≤ 1000000) (hl : cs.size = n * k) : OwnD (w.alloc (.cells cs T)) b (w.alloc (.cells cs T)).heap.size (.row T k n (cs.toList.map .val)) (.slice (some ⟨w.heap.size, 0, none⟩) n n) := by
  have h := OwnDL.snoc (ownDL_nil w b w.heap.size) hB T k n cs hn hl
  exact OwnDL.mid (c1 := []) (v1 := []) h rfl
theorem ownDL_valsC (w : World) (b hi : Nat) (vs : List Value) : OwnDL w b hi (vs.map .val) vs := ⟨[], ownsL_vals vs, List.nodup_nil, fun q hq => by simp at hq⟩
theorem Cur.rowC {w w' : World} {g : Nat} {row : Option Nat} (h : Cur w g) (hg : w.grownBy w' row) (hr : ∀ k, row = some k → g < k) : Cur w' g := h.kept (fun k hk => hg.block k (by have := h.lt; omega) (fun e => by have := hr k e.symm; omega))
theorem smps_snoc (xs : List Smp) (y : Smp) : smps (xs ++ [y]) = .row 64 2 (xs.length + 1) (xs.flatMap smpD ++ smpD y) := by
  unfold smps
  rw [List.length_append, List.flatMap_append]
  simp
end Go.Proofs.Ytbanifnfkabelaa
/-
  Events as data: how they come in, how great they are, copies, comparison, marks.
-/
namespace Go.Proofs.Ytbanifnfkabelaa
open Go.ChangeShapes Go.WideShapes Go.RowKit

structure Evt where
  w : Int
  k : Int
  i : Int
  a : Int
instance : Inhabited Evt := ⟨⟨0, 0, 0, 0⟩⟩
def evtD (x : Evt) : List Dt := [.val (.int .i64 x.w), .val (.int .i64 x.k), .val (.int .i64 x.i), .val (.int .i64 x.a)]
def evtV (x : Evt) : Value := .agg #[.int .i64 x.w, .int .i64 x.k, .int .i64 x.i, .int .i64 x.a]
def evts (xs : List Evt) : Dt := .row 29 4 xs.length (xs.flatMap evtD)
theorem event_at {w : World} {B : Nat} {v : Value} {xs : List Evt} (h : Reads w B (evts xs) v) :
    ∃ a cap, v = .slice a xs.length cap ∧ xs.length ≤ cap ∧ (a = none → cap = 0) ∧ (0 < xs.length → ∃ b o, a = some ⟨b, o, none⟩ ∧ b < B ∧ ∀ j, j < xs.length → w.cell? ⟨b, o + j * 4, none⟩ = some (.int .i64 (xs.getD j default).w) ∧ w.cell? ⟨b, o + j * 4 + 1, none⟩ = some (.int .i64 (xs.getD j default).k) ∧ w.cell? ⟨b, o + j * 4 + 2, none⟩ = some (.int .i64 (xs.getD j default).i) ∧ w.cell? ⟨b, o + j * 4 + 3, none⟩ = some (.int .i64 (xs.getD j default).a)) := by
  obtain ⟨a, cap, rfl, h1, h2, h3⟩ := row_at (f := evtD) (k := 4) (fun _ => rfl) rfl h
  refine ⟨a, cap, rfl, h1, h2, fun hp => ?_⟩
  obtain ⟨b, o, rfl, hb, hc⟩ := h3 hp
  refine ⟨b, o, rfl, hb, fun j hj => ?_⟩
  obtain ⟨vs, h4, h5⟩ := hc j hj
  obtain ⟨u0, vs0, rfl, q0, h4⟩ := readsL_cons h4
  obtain ⟨u1, vs1, rfl, q1, h4⟩ := readsL_cons h4
  obtain ⟨u2, vs2, rfl, q2, h4⟩ := readsL_cons h4
  obtain ⟨u3, vs3, rfl, q3, h4⟩ := readsL_cons h4
  obtain rfl := readsL_nil h4
  obtain rfl := reads_val q0
  obtain rfl := reads_val q1
  obtain rfl := reads_val q2
  obtain rfl := reads_val q3
  have c0 := h5 0 (by omega)
  have c1 := h5 1 (by omega)
  have c2 := h5 2 (by omega)
  have c3 := h5 3 (by omega)
  rw [Nat.add_zero] at c0
  exact ⟨c0, c1, c2, c3⟩
structure EvtR (x : Evt) : Prop where
  w : -9223372036854775808 ≤ x.w ∧ x.w ≤ 9223372036854775807
  k : -9223372036854775808 ≤ x.k ∧ x.k ≤ 9223372036854775807
  i : -9223372036854775808 ≤ x.i ∧ x.i ≤ 9223372036854775807
  a : -9223372036854775808 ≤ x.a ∧ x.a ≤ 9223372036854775807
def evtW (_x : Evt) : Nat := 0
structure EvtG (x : Evt) : Prop where
  w : -9223372036854775808 ≤ x.w ∧ x.w ≤ 9223372036854775807
  k : -9223372036854775808 ≤ x.k ∧ x.k ≤ 9223372036854775807
  i : -9223372036854775808 ≤ x.i ∧ x.i ≤ 9223372036854775807
  a : -9223372036854775808 ≤ x.a ∧ x.a ≤ 9223372036854775807
theorem evtG_of {x : Evt} (hr : EvtR x) (_hw : evtW x ≤ 1048576) : EvtG x := ⟨hr.w, hr.k, hr.i, hr.a⟩
def evtsR (xs : List Evt) : Prop := xs.length ≤ maxLen ∧ ∀ y ∈ xs, EvtR y
def evtsW (xs : List Evt) : Nat := xs.length
def evtsG (xs : List Evt) : Prop := xs.length ≤ 1048576 ∧ ∀ y ∈ xs, EvtG y
theorem evtsG_of {xs : List Evt} (hr : evtsR xs) (hw : evtsW xs ≤ 1048576) : evtsG xs := ⟨hw, fun y hy => evtG_of (hr.2 y hy) (Nat.zero_le _)⟩
def evtCnt (_x : Evt) : Nat := 4
def mkEvt (k : Nat) (_x : Evt) : Evt := ⟨((k : Nat) : Int), ((k : Nat) : Int) + 1, ((k : Nat) : Int) + 2, ((k : Nat) : Int) + 3⟩
def mkEvts : Nat → List Evt → List Evt
  | _, [] => []
  | k, x :: xs => mkEvt k x :: mkEvts (k + evtCnt x) xs
def cntEvts (xs : List Evt) : Nat := tot evtCnt xs
theorem mkEvts_len : ∀ (k : Nat) (xs : List Evt), (mkEvts k xs).length = xs.length
  | _, [] => rfl
  | k, x :: xs => by simp [mkEvts, mkEvts_len _ xs]
theorem mkEvts_get : ∀ (k : Nat) (xs : List Evt) (j : Nat), j < xs.length → (mkEvts k xs).getD j default = mkEvt (k + tot evtCnt (xs.take j)) (xs.getD j default)
  | k, [], j, h => by simp at h
  | k, x :: xs, 0, h => by simp [mkEvts, tot]
  | k, x :: xs, j + 1, h => by
    rw [mkEvts, List.getD_cons_succ, mkEvts_get _ xs j (by simpa using h), List.getD_cons_succ]
    congr 1
    unfold tot
    rw [List.take_succ_cons, List.map_cons, List.sum_cons]; omega
theorem cntEvts_le (xs : List Evt) : cntEvts xs ≤ 8 * evtsW xs := tot_cnt0 evtCnt (fun _ => by unfold evtCnt; omega) xs
end Go.Proofs.Ytbanifnfkabelaa
