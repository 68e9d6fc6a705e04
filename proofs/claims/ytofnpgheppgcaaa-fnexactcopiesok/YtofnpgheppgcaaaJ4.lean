/-
  Joined: KfD, DeepSz.
-/
import Derived.Test.YtofnpgheppgcaaaJ3
import Derived.OpenShut
/-
  Consts and fields: what they are as data, their cells row by row, and how they come in.
-/
namespace Go.Proofs.Ytofnpgheppgcaaa
open Go.ChangeShapes Go.WideShapes Go.RowKit

structure Kc where
  k : Int
  n : Int
  a : ByteArray
  b : ByteArray
structure Fd where
  n : ByteArray
  t : ByteArray
instance : Inhabited Kc := ⟨⟨0, 0, ByteArray.empty, ByteArray.empty⟩⟩
instance : Inhabited Fd := ⟨⟨ByteArray.empty, ByteArray.empty⟩⟩
def kcD (x : Kc) : List Dt := [.val (.int .i64 x.k), .val (.int .i64 x.n), .val (.string x.a), .val (.string x.b)]
def fdD (x : Fd) : List Dt := [.val (.string x.n), .val (.string x.t)]
def pool (p : List Kc) : Dt := .row 130 4 p.length (p.flatMap kcD)
def flds (f : List Fd) : Dt := .row 101 2 f.length (f.flatMap fdD)
def kcV (x : Kc) : Value := .agg #[.int .i64 x.k, .int .i64 x.n, .string x.a, .string x.b]
def fdV (x : Fd) : Value := .agg #[.string x.n, .string x.t]
theorem const_at {w : World} {B : Nat} {v : Value} {xs : List Kc} (h : Reads w B (pool xs) v) :
    ∃ a cap, v = .slice a xs.length cap ∧ xs.length ≤ cap ∧ (a = none → cap = 0) ∧ (0 < xs.length → ∃ b o, a = some ⟨b, o, none⟩ ∧ b < B ∧ ∀ j, j < xs.length → w.cell? ⟨b, o + j * 4, none⟩ = some (.int .i64 (xs.getD j default).k) ∧ w.cell? ⟨b, o + j * 4 + 1, none⟩ = some (.int .i64 (xs.getD j default).n) ∧ w.cell? ⟨b, o + j * 4 + 2, none⟩ = some (.string (xs.getD j default).a) ∧ w.cell? ⟨b, o + j * 4 + 3, none⟩ = some (.string (xs.getD j default).b)) := by
  obtain ⟨a, cap, rfl, h1, h2, h3⟩ := row_at (f := kcD) (k := 4) (fun _ => rfl) rfl h
  refine ⟨a, cap, rfl, h1, h2, fun hp => ?_⟩
  obtain ⟨b, o, rfl, hb, hc⟩ := h3 hp
  refine ⟨b, o, rfl, hb, fun j hj => ?_⟩
  obtain ⟨vs, h4, h5⟩ := hc j hj
  obtain ⟨u0, vs0, rfl, q0, h4⟩ := readsL_cons h4
  obtain ⟨u1, vs1, rfl, q1, h4⟩ := readsL_cons h4
  obtain ⟨u2, vs2, rfl, q2, h4⟩ := readsL_cons h4
  obtain ⟨u3, vs3, rfl, q3, h4⟩ := readsL_cons h4
  obtain rfl := readsL_nil h4
  obtain rfl := reads_val q0
  obtain rfl := reads_val q1
  obtain rfl := reads_val q2
  obtain rfl := reads_val q3
  have c0 := h5 0 (by omega)
  have c1 := h5 1 (by omega)
  have c2 := h5 2 (by omega)
  have c3 := h5 3 (by omega)
  rw [Nat.add_zero] at c0
  exact ⟨c0, c1, c2, c3⟩
theorem field_at {w : World} {B : Nat} {v : Value} {xs : List Fd} (h : Reads w B (flds xs) v) :
    ∃ a cap, v = .slice a xs.length cap ∧ xs.length ≤ cap ∧ (a = none → cap = 0) ∧ (0 < xs.length → ∃ b o, a = some ⟨b, o, none⟩ ∧ b < B ∧ ∀ j, j < xs.length → w.cell? ⟨b, o + j * 2, none⟩ = some (.string (xs.getD j default).n) ∧ w.cell? ⟨b, o + j * 2 + 1, none⟩ = some (.string (xs.getD j default).t)) := by
  obtain ⟨a, cap, rfl, h1, h2, h3⟩ := row_at (f := fdD) (k := 2) (fun _ => rfl) rfl h
  refine ⟨a, cap, rfl, h1, h2, fun hp => ?_⟩
  obtain ⟨b, o, rfl, hb, hc⟩ := h3 hp
  refine ⟨b, o, rfl, hb, fun j hj => ?_⟩
  obtain ⟨vs, h4, h5⟩ := hc j hj
  obtain ⟨u0, vs0, rfl, q0, h4⟩ := readsL_cons h4
  obtain ⟨u1, vs1, rfl, q1, h4⟩ := readsL_cons h4
  obtain rfl := readsL_nil h4
  obtain rfl := reads_val q0
  obtain rfl := reads_val q1
  have c0 := h5 0 (by omega)
  have c1 := h5 1 (by omega)
  rw [Nat.add_zero] at c0
  exact ⟨c0, c1⟩
def KcR (x : Kc) : Prop := x.a.size ≤ maxLen ∧ x.b.size ≤ maxLen
def FdR (x : Fd) : Prop := x.n.size ≤ maxLen ∧ x.t.size ≤ maxLen
def kcC (x : Kc) : List Value := [.int .i64 x.k, .int .i64 x.n, .string x.a, .string x.b]
def fdC (x : Fd) : List Value := [.string x.n, .string x.t]
theorem kc_reads {w : World} {B : Nat} (x : Kc) : ReadsL w B (kcD x) (kcC x) := readsL_mk reads_val' (readsL_mk reads_val' (readsL_mk reads_val' (readsL_mk reads_val' readsL_none)))
theorem fd_reads {w : World} {B : Nat} (x : Fd) : ReadsL w B (fdD x) (fdC x) := readsL_mk reads_val' (readsL_mk reads_val' readsL_none)
set_option maxRecDepth 100000 in
theorem kc_cells {H : Type} {enc : TypeId × Value → H} {W : World} {fuel : Nat} {cs : List Value} {x : DataW H × List MemPlace}
    (h : DataW.trod enc Try.prog W 0 (fun _ => true) true fuel 122 cs = some x) : ∃ y, cs = kcC y ∧ KcR y := by
  have c0 : Try.prog.cellsOf 122 = 4 := by kernel_rfl
  have c3 : Try.prog.cellsOf 3 = 1 := by kernel_rfl
  have c9 : Try.prog.cellsOf 9 = 1 := by kernel_rfl
  obtain ⟨xs, n, rfl, rfl, hlen, hxl, hf⟩ := DataW.trod_struct Try.underlying122 h
  rw [c0] at hlen
  match xs, hxl, cs, hlen with
  | [y0, y1, y2, y3], _, [v0, v1, v2, v3], _ =>
    have g0 := hf 0 _ rfl
    have g1 := hf 1 _ rfl
    have g2 := hf 2 _ rfl
    have g3 := hf 3 _ rfl
    simp [c3, c9] at g0 g1 g2 g3
    obtain ⟨k, e0, _⟩ := DataW.trod_int Try.underlying3 g0
    obtain ⟨n, e1, _⟩ := DataW.trod_int Try.underlying3 g1
    obtain ⟨a, e2, _, ha⟩ := DataW.trod_string Try.underlying9 g2
    obtain ⟨b, e3, _, hb⟩ := DataW.trod_string Try.underlying9 g3
    simp at e0 e1 e2 e3
    exact ⟨⟨k, n, a, b⟩, by rw [e0, e1, e2, e3]; rfl, ha, hb⟩
set_option maxRecDepth 100000 in
theorem fd_cells {H : Type} {enc : TypeId × Value → H} {W : World} {fuel : Nat} {cs : List Value} {x : DataW H × List MemPlace}
    (h : DataW.trod enc Try.prog W 0 (fun _ => true) true fuel 124 cs = some x) : ∃ y, cs = fdC y ∧ FdR y := by
  have c0 : Try.prog.cellsOf 124 = 2 := by kernel_rfl
  have c9 : Try.prog.cellsOf 9 = 1 := by kernel_rfl
  obtain ⟨xs, n, rfl, rfl, hlen, hxl, hf⟩ := DataW.trod_struct Try.underlying124 h
  rw [c0] at hlen
  match xs, hxl, cs, hlen with
  | [y2, y3], _, [v2, v3], _ =>
    have g2 := hf 0 _ rfl
    have g3 := hf 1 _ rfl
    simp [c9] at g2 g3
    obtain ⟨a, e2, _, ha⟩ := DataW.trod_string Try.underlying9 g2
    obtain ⟨b, e3, _, hb⟩ := DataW.trod_string Try.underlying9 g3
    simp at e2 e3
    exact ⟨⟨a, b⟩, by rw [e2, e3]; rfl, ha, hb⟩
theorem st_cells {H : Type} {enc : TypeId × Value → H} {W : World} {fuel : Nat} {cs : List Value} {x : DataW H × List MemPlace}
    (h : DataW.trod enc Try.prog W 0 (fun _ => true) true fuel 9 cs = some x) : ∃ y : ByteArray, cs = [Value.string y] ∧ y.size ≤ maxLen := by
  obtain ⟨a, e2, _, ha⟩ := DataW.trod_string Try.underlying9 h
  exact ⟨a, e2, ha⟩
end Go.Proofs.Ytofnpgheppgcaaa
/-
  Sums over rows, and what is left of a sum.
-/
namespace Go.Proofs.Ytofnpgheppgcaaa

/-- What is left behind t of what was left. -/
def szR (left : Int) (t : Nat) : Int := if left < t then -1 else left - t
theorem szR_neg {left : Int} {t : Nat} (h : left < t) : szR left t = -1 := by unfold szR; rw [if_pos h]
theorem szR_pos {left : Int} {t : Nat} (h : ¬ left < t) : szR left t = left - t := by unfold szR; rw [if_neg h]
def tot {α : Type} (g : α → Nat) (xs : List α) : Nat := (xs.map g).sum
theorem tot_step {α : Type} [Inhabited α] (g : α → Nat) (xs : List α) (j : Nat) (h : j < xs.length) : tot g (xs.take (j + 1)) = tot g (xs.take j) + g (xs.getD j default) := by
  unfold tot
  rw [List.take_succ_eq_append_getElem h, List.map_append, List.sum_append, List.map_cons, List.map_nil, List.sum_cons, List.sum_nil]
  have : xs.getD j default = xs[j] := by simp [h]
  rw [this]; omega
theorem tot_le {α : Type} (g : α → Nat) (xs : List α) (j : Nat) : tot g (xs.take j) ≤ tot g xs := by
  unfold tot
  conv => rhs; rw [← List.take_append_drop j xs]
  rw [List.map_append, List.sum_append]
  omega
theorem tot_mem {α : Type} (g : α → Nat) {xs : List α} {x : α} (h : x ∈ xs) : g x ≤ tot g xs := by
  unfold tot
  induction xs with
  | nil => simp at h
  | cons y ys ih =>
    rcases List.mem_cons.1 h with rfl | h
    · simp
    · have := ih h; simp; omega
theorem getD_mem {α : Type} [Inhabited α] {Q : α → Prop} {xs : List α} (h : ∀ x ∈ xs, Q x) (j : Nat) (hj : j < xs.length) : Q (xs.getD j default) := by
  have : xs.getD j default = xs[j] := by simp [hj]
  rw [this]; exact h _ (List.getElem_mem _)
end Go.Proofs.Ytofnpgheppgcaaa
