/-
  Consts, fields, methods and classes: what they are as data, their cells row by row, and how they come in.
-/
import Derived.Test.YthagfdcfpffaoaaKfD
import Derived.OpenShut
namespace Go.Proofs.Ythagfdcfpffaoaa
open Go.ChangeShapes Go.WideShapes Go.RowKit

structure Me where
  n : ByteArray
  ps : List ByteArray
  r : ByteArray
  l : Int
  c : List Int
structure Cl where
  n : ByteArray
  s : ByteArray
  p : List Kc
  f : List Fd
  m : List Me
instance : Inhabited Me := ⟨⟨ByteArray.empty, [], ByteArray.empty, 0, []⟩⟩
instance : Inhabited Cl := ⟨⟨ByteArray.empty, ByteArray.empty, [], [], []⟩⟩

def meD (x : Me) : List Dt := [.val (.string x.n), strs x.ps, .val (.string x.r), .val (.int .i64 x.l), byts x.c]
def mets (m : List Me) : Dt := .row 48 5 m.length (m.flatMap meD)
def clD (x : Cl) : List Dt := [.val (.string x.n), .val (.string x.s), pool x.p, flds x.f, mets x.m]
def meV (x : Me) (u v : Value) : Value := .agg #[.string x.n, u, .string x.r, .int .i64 x.l, v]
def clV (x : Cl) (p f m : Value) : Value := .agg #[.string x.n, .string x.s, p, f, m]
theorem meth_at {w : World} {B : Nat} {v : Value} {xs : List Me} (h : Reads w B (mets xs) v) :
    ∃ a cap, v = .slice a xs.length cap ∧ xs.length ≤ cap ∧ (a = none → cap = 0) ∧ (0 < xs.length → ∃ b o, a = some ⟨b, o, none⟩ ∧ b < B ∧ ∀ j, j < xs.length → ∃ pv, ∃ cv, w.cell? ⟨b, o + j * 5, none⟩ = some (.string (xs.getD j default).n) ∧ w.cell? ⟨b, o + j * 5 + 1, none⟩ = some (pv) ∧ w.cell? ⟨b, o + j * 5 + 2, none⟩ = some (.string (xs.getD j default).r) ∧ w.cell? ⟨b, o + j * 5 + 3, none⟩ = some (.int .i64 (xs.getD j default).l) ∧ w.cell? ⟨b, o + j * 5 + 4, none⟩ = some (cv) ∧ Reads w B (strs (xs.getD j default).ps) pv ∧ Reads w B (byts (xs.getD j default).c) cv) := by
  obtain ⟨a, cap, rfl, h1, h2, h3⟩ := row_at (f := meD) (k := 5) (fun _ => rfl) rfl h
  refine ⟨a, cap, rfl, h1, h2, fun hp => ?_⟩
  obtain ⟨b, o, rfl, hb, hc⟩ := h3 hp
  refine ⟨b, o, rfl, hb, fun j hj => ?_⟩
  obtain ⟨vs, h4, h5⟩ := hc j hj
  obtain ⟨u0, vs0, rfl, q0, h4⟩ := readsL_cons h4
  obtain ⟨u1, vs1, rfl, q1, h4⟩ := readsL_cons h4
  obtain ⟨u2, vs2, rfl, q2, h4⟩ := readsL_cons h4
  obtain ⟨u3, vs3, rfl, q3, h4⟩ := readsL_cons h4
  obtain ⟨u4, vs4, rfl, q4, h4⟩ := readsL_cons h4
  obtain rfl := readsL_nil h4
  obtain rfl := reads_val q0
  obtain rfl := reads_val q2
  obtain rfl := reads_val q3
  have c0 := h5 0 (by omega)
  have c1 := h5 1 (by omega)
  have c2 := h5 2 (by omega)
  have c3 := h5 3 (by omega)
  have c4 := h5 4 (by omega)
  rw [Nat.add_zero] at c0
  exact ⟨u1, u4, c0, c1, c2, c3, c4, q1, q4⟩

def MeR (x : Me) : Prop := x.n.size ≤ maxLen ∧ x.r.size ≤ maxLen ∧ x.ps.length ≤ maxLen ∧ (∀ s ∈ x.ps, s.size ≤ maxLen) ∧ x.c.length ≤ maxLen ∧ Byt x.c ∧ (-9223372036854775808 ≤ x.l ∧ x.l ≤ 9223372036854775807)
def ClR (x : Cl) : Prop := x.n.size ≤ maxLen ∧ x.s.size ≤ maxLen ∧ x.p.length ≤ maxLen ∧ x.f.length ≤ maxLen ∧ x.m.length ≤ maxLen ∧ (∀ y ∈ x.p, KcR y) ∧ (∀ y ∈ x.f, FdR y) ∧ ∀ y ∈ x.m, MeR y
def meC (x : Me × Value × Value) : List Value := [.string x.1.n, x.2.1, .string x.1.r, .int .i64 x.1.l, x.2.2]
def MeQ (W : World) (y : Me × Value × Value) : Prop := ReadsL W W.heap.size (meD y.1) (meC y) ∧ MeR y.1
instance : Inhabited (Me × Value × Value) := ⟨(default, default, default)⟩
set_option maxRecDepth 100000 in
theorem me_cells {H : Type} {enc : TypeId × Value → H} {W : World} {fuel : Nat} {cs : List Value} {x : DataW H × List MemPlace}
    (h : DataW.trod enc Try.prog W 0 (fun _ => true) true fuel 79 cs = some x) : ∃ y, cs = meC y ∧ MeQ W y := by
  have c0 : Try.prog.cellsOf 79 = 5 := by kernel_rfl
  have c3 : Try.prog.cellsOf 3 = 1 := by kernel_rfl
  have c9 : Try.prog.cellsOf 9 = 1 := by kernel_rfl
  have c5 : Try.prog.cellsOf 46 = 1 := by kernel_rfl
  have c6 : Try.prog.cellsOf 37 = 1 := by kernel_rfl
  obtain ⟨xs, n, rfl, rfl, hlen, hxl, hf⟩ := DataW.trod_struct Try.underlying79 h
  rw [c0] at hlen
  match xs, hxl, cs, hlen with
  | [y0, y1, y2, y3, y4], _, [v0, v1, v2, v3, v4], _ =>
    have g0 := hf 0 _ rfl
    have g1 := hf 1 _ rfl
    have g2 := hf 2 _ rfl
    have g3 := hf 3 _ rfl
    have g4 := hf 4 _ rfl
    simp [c3, c9, c5, c6] at g0 g1 g2 g3 g4
    obtain ⟨a, e0, _, ha⟩ := DataW.trod_string Try.underlying9 g0
    obtain ⟨b, e2, _, hb⟩ := DataW.trod_string Try.underlying9 g2
    obtain ⟨l, e3, _, hl⟩ := DataW.trod_int Try.underlying3 g3
    simp at e0 e2 e3
    subst e0 e2 e3
    obtain ⟨ys, h1, h2, h2'⟩ := rd_open (sz := 1) (Q := fun y : ByteArray => y.size ≤ maxLen) (f := fun y : ByteArray => [Value.string y]) Try.underlying46 (by kernel_rfl) (by decide) (fun _ => rfl) (fun _ _ _ h => st_cells h) ⟨_, g1⟩
    obtain ⟨zs, h3, h4, h4'⟩ := rd_open (sz := 1) (Q := fun y : Int => 0 ≤ y ∧ y ≤ 255) (f := fun y : Int => [Value.int .u8 y]) Try.underlying37 (by kernel_rfl) (by decide) (fun _ => rfl) (fun _ _ _ h => by_cells h) ⟨_, g4⟩
    have r1 : Reads W W.heap.size (strs ys) v1 := by
      have := reads_row (T := 9) (f := txD) (m := id) ys h1 (fun y _ => readsL_mk reads_val' readsL_none)
      rwa [List.map_id] at this
    have r2 : Reads W W.heap.size (byts zs) v4 := by
      have := reads_row (T := 5) (f := byD) (m := id) zs h3 (fun y _ => readsL_mk reads_val' readsL_none)
      rwa [List.map_id] at this
    exact ⟨(⟨a, ys, b, l, zs⟩, v1, v4), rfl, readsL_mk reads_val' (readsL_mk r1 (readsL_mk reads_val' (readsL_mk reads_val' (readsL_mk r2 readsL_none)))), ha, hb, h2, all_of_getD h2', h4, all_of_getD h4', bounds_i64 hl⟩

def IsCls (W : World) (v : Value) : Prop := ∃ (c : Cl) (pv fv mv : Value), v = clV c pv fv mv ∧ Reads W W.heap.size (pool c.p) pv ∧ Reads W W.heap.size (flds c.f) fv ∧ Reads W W.heap.size (mets c.m) mv ∧ ClR c
set_option maxRecDepth 100000 in
theorem openCls {H : Type} {enc : TypeId × Value → H} {W : World} {r : Reach} {base : Nat} {v : Value} {d : DataW H} {p : List MemPlace}
    (hv : Value.okWide Try.prog W r base 26 v) (h : DataW.Trod enc Try.prog W 0 (fun _ => true) true 26 v d p) : IsCls W v := by
  have c0 : Try.prog.cellsOf 26 = 5 := by kernel_rfl
  have c9 : Try.prog.cellsOf 9 = 1 := by kernel_rfl
  have c5 : Try.prog.cellsOf 22 = 1 := by kernel_rfl
  have c6 : Try.prog.cellsOf 23 = 1 := by kernel_rfl
  have c7 : Try.prog.cellsOf 24 = 1 := by kernel_rfl
  obtain ⟨cs, rfl, _⟩ := okWide_struct Try.underlying26 hv
  obtain ⟨fuel, h⟩ := h
  obtain ⟨xs, n, rfl, hd, hlen, hxl, hf⟩ := DataW.trod_struct Try.underlying26 h
  rw [c0] at hlen
  have hcs : (Value.agg cs).cells.toList = cs.toList := rfl
  rw [hcs] at hlen hf
  obtain ⟨l⟩ := cs
  match xs, hxl, l, hlen with
  | [y0, y1, y2, y3, y4], _, [v0, v1, v2, v3, v4], _ =>
    have g0 := hf 0 _ rfl
    have g1 := hf 1 _ rfl
    have g2 := hf 2 _ rfl
    have g3 := hf 3 _ rfl
    have g4 := hf 4 _ rfl
    simp [c9, c5, c6, c7] at g0 g1 g2 g3 g4
    obtain ⟨a, e0, _, ha⟩ := DataW.trod_string Try.underlying9 g0
    obtain ⟨b, e1, _, hb⟩ := DataW.trod_string Try.underlying9 g1
    simp at e0 e1
    subst e0 e1
    obtain ⟨ks, h1, h2, h3⟩ := rd_open (sz := 4) (Q := KcR) (f := kcC) Try.underlying22 (by kernel_rfl) (by decide) (fun _ => rfl) (fun _ _ _ h => kc_cells h) ⟨_, g2⟩
    obtain ⟨fs, h4, h5, h6⟩ := rd_open (sz := 2) (Q := FdR) (f := fdC) Try.underlying23 (by kernel_rfl) (by decide) (fun _ => rfl) (fun _ _ _ h => fd_cells h) ⟨_, g3⟩
    obtain ⟨ms, h7, h8, h9⟩ := rd_open (sz := 5) (Q := MeQ W) (f := meC) Try.underlying24 (by kernel_rfl) (by decide) (fun _ => rfl) (fun _ _ _ h => me_cells h) ⟨_, g4⟩
    have r1 : Reads W W.heap.size (pool ks) v2 := by
      have := reads_row (T := 63) (f := kcD) (m := id) ks h1 (fun y _ => kc_reads y)
      rwa [List.map_id] at this
    have r2 : Reads W W.heap.size (flds fs) v3 := by
      have := reads_row (T := 65) (f := fdD) (m := id) fs h4 (fun y _ => fd_reads y)
      rwa [List.map_id] at this
    have q := all_of_getD h9
    have r3 : Reads W W.heap.size (mets (ms.map Prod.fst)) v4 := reads_row (T := 48) (f := meD) (m := Prod.fst) ms h7 (fun y hy => (q y hy).1)
    refine ⟨⟨a, b, ks, fs, ms.map Prod.fst⟩, v2, v3, v4, rfl, r1, r2, r3, ha, hb, h2, h5, by simpa using h8, all_of_getD h3, all_of_getD h6, fun y hy => ?_⟩
    obtain ⟨x, hx, rfl⟩ := List.mem_map.1 hy
    exact (q x hx).2
end Go.Proofs.Ythagfdcfpffaoaa
