/-
  Joined: RecD, PrgD.
-/
import Derived.Test.YtofnpgheppgcaaaJ5
/-
  Rows of texts, places, consts and fields: their ranges and weights, in one form.
-/
namespace Go.Proofs.Ytofnpgheppgcaaa
open Go.ChangeShapes Go.WideShapes Go.RowKit

def strsR (xs : List ByteArray) : Prop := xs.length ≤ maxLen ∧ ∀ y ∈ xs, y.size ≤ maxLen
def strsW (xs : List ByteArray) : Nat := xs.length + tot ByteArray.size xs
def strsG (xs : List ByteArray) : Prop := xs.length ≤ 1048576 ∧ ∀ y ∈ xs, y.size ≤ 1048576
theorem strsG_of {xs : List ByteArray} (_hr : strsR xs) (hw : strsW xs ≤ 1048576) : strsG xs := by
  unfold strsW at hw
  exact ⟨by omega, fun y hy => by have := tot_mem ByteArray.size hy; omega⟩
def inssR (xs : List Isn) : Prop := xs.length ≤ maxLen ∧ ∀ y ∈ xs, InR y
def inssW (xs : List Isn) : Nat := xs.length
def inssG (xs : List Isn) : Prop := xs.length ≤ 1048576 ∧ ∀ y ∈ xs, InR y
theorem inssG_of {xs : List Isn} (hr : inssR xs) (hw : inssW xs ≤ 1048576) : inssG xs := ⟨hw, hr.2⟩
def poolR (xs : List Kc) : Prop := xs.length ≤ maxLen ∧ ∀ y ∈ xs, KcR y
def poolW (xs : List Kc) : Nat := xs.length + tot kcW xs
def poolG (xs : List Kc) : Prop := xs.length ≤ 1048576 ∧ ∀ y ∈ xs, y.a.size ≤ 1048576 ∧ y.b.size ≤ 1048576
theorem poolG_of {xs : List Kc} (_hr : poolR xs) (hw : poolW xs ≤ 1048576) : poolG xs := by
  unfold poolW at hw
  exact ⟨by omega, fun y hy => by have := tot_mem kcW hy; have e : kcW y = y.a.size + y.b.size := rfl; omega⟩
def fldsR (xs : List Fd) : Prop := xs.length ≤ maxLen ∧ ∀ y ∈ xs, FdR y
def fldsW (xs : List Fd) : Nat := xs.length + tot fdW xs
def fldsG (xs : List Fd) : Prop := xs.length ≤ 1048576 ∧ ∀ y ∈ xs, y.n.size ≤ 1048576 ∧ y.t.size ≤ 1048576
theorem fldsG_of {xs : List Fd} (_hr : fldsR xs) (hw : fldsW xs ≤ 1048576) : fldsG xs := by
  unfold fldsW at hw
  exact ⟨by omega, fun y hy => by have := tot_mem fdW hy; have e : fdW y = y.n.size + y.t.size := rfl; omega⟩
end Go.Proofs.Ytofnpgheppgcaaa
/-
  Programs: their classes and methods as data, how they come in, and how great they are.
-/
namespace Go.Proofs.Ytofnpgheppgcaaa
open Go.ChangeShapes Go.WideShapes Go.RowKit

structure Co where
  n : ByteArray
  o : Int
  ps : List ByteArray
  r : ByteArray
  l : Int
  is : List Isn
instance : Inhabited Co := ⟨⟨ByteArray.empty, 0, [], ByteArray.empty, 0, []⟩⟩
def coD (x : Co) : List Dt := [.val (.string x.n), .val (.int .i64 x.o), strs x.ps, .val (.string x.r), .val (.int .i64 x.l), inss x.is]
def coV (x : Co) (u1 u2 : Value) : Value := .agg #[.string x.n, .int .i64 x.o, u1, .string x.r, .int .i64 x.l, u2]
def cods (xs : List Co) : Dt := .row 135 6 xs.length (xs.flatMap coD)
theorem code_at {w : World} {B : Nat} {v : Value} {xs : List Co} (h : Reads w B (cods xs) v) :
    ∃ a cap, v = .slice a xs.length cap ∧ xs.length ≤ cap ∧ (a = none → cap = 0) ∧ (0 < xs.length → ∃ b o, a = some ⟨b, o, none⟩ ∧ b < B ∧ ∀ j, j < xs.length → ∃ pv1, ∃ pv2, w.cell? ⟨b, o + j * 6, none⟩ = some (.string (xs.getD j default).n) ∧ w.cell? ⟨b, o + j * 6 + 1, none⟩ = some (.int .i64 (xs.getD j default).o) ∧ w.cell? ⟨b, o + j * 6 + 2, none⟩ = some (pv1) ∧ w.cell? ⟨b, o + j * 6 + 3, none⟩ = some (.string (xs.getD j default).r) ∧ w.cell? ⟨b, o + j * 6 + 4, none⟩ = some (.int .i64 (xs.getD j default).l) ∧ w.cell? ⟨b, o + j * 6 + 5, none⟩ = some (pv2) ∧ Reads w B (strs (xs.getD j default).ps) pv1 ∧ Reads w B (inss (xs.getD j default).is) pv2) := by
  obtain ⟨a, cap, rfl, h1, h2, h3⟩ := row_at (f := coD) (k := 6) (fun _ => rfl) rfl h
  refine ⟨a, cap, rfl, h1, h2, fun hp => ?_⟩
  obtain ⟨b, o, rfl, hb, hc⟩ := h3 hp
  refine ⟨b, o, rfl, hb, fun j hj => ?_⟩
  obtain ⟨vs, h4, h5⟩ := hc j hj
  obtain ⟨u0, vs0, rfl, q0, h4⟩ := readsL_cons h4
  obtain ⟨u1, vs1, rfl, q1, h4⟩ := readsL_cons h4
  obtain ⟨u2, vs2, rfl, q2, h4⟩ := readsL_cons h4
  obtain ⟨u3, vs3, rfl, q3, h4⟩ := readsL_cons h4
  obtain ⟨u4, vs4, rfl, q4, h4⟩ := readsL_cons h4
  obtain ⟨u5, vs5, rfl, q5, h4⟩ := readsL_cons h4
  obtain rfl := readsL_nil h4
  obtain rfl := reads_val q0
  obtain rfl := reads_val q1
  obtain rfl := reads_val q3
  obtain rfl := reads_val q4
  have c0 := h5 0 (by omega)
  have c1 := h5 1 (by omega)
  have c2 := h5 2 (by omega)
  have c3 := h5 3 (by omega)
  have c4 := h5 4 (by omega)
  have c5 := h5 5 (by omega)
  rw [Nat.add_zero] at c0
  exact ⟨u2, u5, c0, c1, c2, c3, c4, c5, q2, q5⟩
structure CoR (x : Co) : Prop where
  n : x.n.size ≤ maxLen
  o : -9223372036854775808 ≤ x.o ∧ x.o ≤ 9223372036854775807
  ps : strsR x.ps
  r : x.r.size ≤ maxLen
  l : -9223372036854775808 ≤ x.l ∧ x.l ≤ 9223372036854775807
  is : inssR x.is
def coW (x : Co) : Nat := x.n.size + strsW x.ps + x.r.size + inssW x.is
structure CoG (x : Co) : Prop where
  n : x.n.size ≤ 1048576
  o : -9223372036854775808 ≤ x.o ∧ x.o ≤ 9223372036854775807
  ps : strsG x.ps
  r : x.r.size ≤ 1048576
  l : -9223372036854775808 ≤ x.l ∧ x.l ≤ 9223372036854775807
  is : inssG x.is
theorem coG_of {x : Co} (hr : CoR x) (hw : coW x ≤ 1048576) : CoG x := by
  unfold coW at hw
  exact ⟨by omega, hr.o, strsG_of hr.ps (by omega), by omega, hr.l, inssG_of hr.is (by omega)⟩
def codsR (xs : List Co) : Prop := xs.length ≤ maxLen ∧ ∀ y ∈ xs, CoR y
def codsW (xs : List Co) : Nat := xs.length + tot coW xs
def codsG (xs : List Co) : Prop := xs.length ≤ 1048576 ∧ ∀ y ∈ xs, CoG y
theorem codsG_of {xs : List Co} (hr : codsR xs) (hw : codsW xs ≤ 1048576) : codsG xs := by
  unfold codsW at hw
  exact ⟨by omega, fun y hy => coG_of (hr.2 y hy) (by have := tot_mem coW hy; omega)⟩
structure Kd where
  n : ByteArray
  s : Int
  p : List Kc
  f : List Fd
  m : List Co
instance : Inhabited Kd := ⟨⟨ByteArray.empty, 0, [], [], []⟩⟩
def kdD (x : Kd) : List Dt := [.val (.string x.n), .val (.int .i64 x.s), pool x.p, flds x.f, cods x.m]
def kdV (x : Kd) (u1 u2 u3 : Value) : Value := .agg #[.string x.n, .int .i64 x.s, u1, u2, u3]
def kins (xs : List Kd) : Dt := .row 98 5 xs.length (xs.flatMap kdD)
theorem kind_at {w : World} {B : Nat} {v : Value} {xs : List Kd} (h : Reads w B (kins xs) v) :
    ∃ a cap, v = .slice a xs.length cap ∧ xs.length ≤ cap ∧ (a = none → cap = 0) ∧ (0 < xs.length → ∃ b o, a = some ⟨b, o, none⟩ ∧ b < B ∧ ∀ j, j < xs.length → ∃ pv1, ∃ pv2, ∃ pv3, w.cell? ⟨b, o + j * 5, none⟩ = some (.string (xs.getD j default).n) ∧ w.cell? ⟨b, o + j * 5 + 1, none⟩ = some (.int .i64 (xs.getD j default).s) ∧ w.cell? ⟨b, o + j * 5 + 2, none⟩ = some (pv1) ∧ w.cell? ⟨b, o + j * 5 + 3, none⟩ = some (pv2) ∧ w.cell? ⟨b, o + j * 5 + 4, none⟩ = some (pv3) ∧ Reads w B (pool (xs.getD j default).p) pv1 ∧ Reads w B (flds (xs.getD j default).f) pv2 ∧ Reads w B (cods (xs.getD j default).m) pv3) := by
  obtain ⟨a, cap, rfl, h1, h2, h3⟩ := row_at (f := kdD) (k := 5) (fun _ => rfl) rfl h
  refine ⟨a, cap, rfl, h1, h2, fun hp => ?_⟩
  obtain ⟨b, o, rfl, hb, hc⟩ := h3 hp
  refine ⟨b, o, rfl, hb, fun j hj => ?_⟩
  obtain ⟨vs, h4, h5⟩ := hc j hj
  obtain ⟨u0, vs0, rfl, q0, h4⟩ := readsL_cons h4
  obtain ⟨u1, vs1, rfl, q1, h4⟩ := readsL_cons h4
  obtain ⟨u2, vs2, rfl, q2, h4⟩ := readsL_cons h4
  obtain ⟨u3, vs3, rfl, q3, h4⟩ := readsL_cons h4
  obtain ⟨u4, vs4, rfl, q4, h4⟩ := readsL_cons h4
  obtain rfl := readsL_nil h4
  obtain rfl := reads_val q0
  obtain rfl := reads_val q1
  have c0 := h5 0 (by omega)
  have c1 := h5 1 (by omega)
  have c2 := h5 2 (by omega)
  have c3 := h5 3 (by omega)
  have c4 := h5 4 (by omega)
  rw [Nat.add_zero] at c0
  exact ⟨u2, u3, u4, c0, c1, c2, c3, c4, q2, q3, q4⟩
structure KdR (x : Kd) : Prop where
  n : x.n.size ≤ maxLen
  s : -9223372036854775808 ≤ x.s ∧ x.s ≤ 9223372036854775807
  p : poolR x.p
  f : fldsR x.f
  m : codsR x.m
def kdW (x : Kd) : Nat := x.n.size + poolW x.p + fldsW x.f + codsW x.m
structure KdG (x : Kd) : Prop where
  n : x.n.size ≤ 1048576
  s : -9223372036854775808 ≤ x.s ∧ x.s ≤ 9223372036854775807
  p : poolG x.p
  f : fldsG x.f
  m : codsG x.m
theorem kdG_of {x : Kd} (hr : KdR x) (hw : kdW x ≤ 1048576) : KdG x := by
  unfold kdW at hw
  exact ⟨by omega, hr.s, poolG_of hr.p (by omega), fldsG_of hr.f (by omega), codsG_of hr.m (by omega)⟩
def kinsR (xs : List Kd) : Prop := xs.length ≤ maxLen ∧ ∀ y ∈ xs, KdR y
def kinsW (xs : List Kd) : Nat := xs.length + tot kdW xs
def kinsG (xs : List Kd) : Prop := xs.length ≤ 1048576 ∧ ∀ y ∈ xs, KdG y
theorem kinsG_of {xs : List Kd} (hr : kinsR xs) (hw : kinsW xs ≤ 1048576) : kinsG xs := by
  unfold kinsW at hw
  exact ⟨by omega, fun y hy => kdG_of (hr.2 y hy) (by have := tot_mem kdW hy; omega)⟩
structure Pg where
  k : List Kd
instance : Inhabited Pg := ⟨⟨[]⟩⟩
def pgD (x : Pg) : List Dt := [kins x.k]
def pgV (_x : Pg) (u1 : Value) : Value := .agg #[u1]
structure PgR (x : Pg) : Prop where
  k : kinsR x.k
def pgW (x : Pg) : Nat := kinsW x.k
structure PgG (x : Pg) : Prop where
  k : kinsG x.k
theorem pgG_of {x : Pg} (hr : PgR x) (hw : pgW x ≤ 1048576) : PgG x := by
  unfold pgW at hw
  exact ⟨kinsG_of hr.k (by omega)⟩
def coC (x : Co × Value × Value) : List Value := [.string x.1.n, .int .i64 x.1.o, x.2.1, .string x.1.r, .int .i64 x.1.l, x.2.2]
def CoQ (W : World) (y : Co × Value × Value) : Prop := ReadsL W W.heap.size (coD y.1) (coC y) ∧ CoR y.1
set_option maxRecDepth 100000 in
theorem co_cells {H : Type} {enc : TypeId × Value → H} {W : World} {fuel : Nat} {cs : List Value} {x : DataW H × List MemPlace}
    (h : DataW.trod enc Try.prog W 0 (fun _ => true) true fuel 129 cs = some x) : ∃ y, cs = coC y ∧ CoQ W y := by
  have c0 : Try.prog.cellsOf 129 = 6 := by kernel_rfl
  have cc0 : Try.prog.cellsOf 9 = 1 := by kernel_rfl
  have cc1 : Try.prog.cellsOf 3 = 1 := by kernel_rfl
  have cc2 : Try.prog.cellsOf 126 = 1 := by kernel_rfl
  have cc3 : Try.prog.cellsOf 127 = 1 := by kernel_rfl
  obtain ⟨xs, n, rfl, rfl, hlen, hxl, hf⟩ := DataW.trod_struct Try.underlying129 h
  rw [c0] at hlen
  match xs, hxl, cs, hlen with
  | [y0, y1, y2, y3, y4, y5], _, [v0, v1, v2, v3, v4, v5], _ =>
    have g0 := hf 0 _ rfl
    have g1 := hf 1 _ rfl
    have g2 := hf 2 _ rfl
    have g3 := hf 3 _ rfl
    have g4 := hf 4 _ rfl
    have g5 := hf 5 _ rfl
    simp [cc0, cc1, cc2, cc3] at g0 g1 g2 g3 g4 g5
    obtain ⟨a0, e0, _, b0⟩ := DataW.trod_string Try.underlying9 g0
    obtain ⟨a1, e1, _, b1⟩ := DataW.trod_int Try.underlying3 g1
    obtain ⟨a3, e3, _, b3⟩ := DataW.trod_string Try.underlying9 g3
    obtain ⟨a4, e4, _, b4⟩ := DataW.trod_int Try.underlying3 g4
    simp at e0 e1 e3 e4
    subst e0 e1 e3 e4
    obtain ⟨z2, h2a, h2b, h2c⟩ := rd_open (sz := 1) (Q := (fun y : ByteArray => y.size ≤ maxLen)) (f := (fun y : ByteArray => [Value.string y])) Try.underlying126 (by kernel_rfl) (by decide) (fun _ => rfl) (fun _ _ _ h => st_cells h) ⟨_, g2⟩
    have r2 : Reads W W.heap.size (strs z2) v2 := by
      have := reads_row (T := 9) (f := txD) (m := id) z2 h2a (fun y _ => readsL_mk reads_val' readsL_none)
      rwa [List.map_id] at this
    obtain ⟨z5, h5a, h5b, h5c⟩ := rd_open (sz := 2) (Q := InR) (f := inC) Try.underlying127 (by kernel_rfl) (by decide) (fun _ => rfl) (fun _ _ _ h => in_cells h) ⟨_, g5⟩
    have r5 : Reads W W.heap.size (inss z5) v5 := by
      have := reads_row (T := 148) (f := inD) (m := id) z5 h5a (fun y _ => in_reads y)
      rwa [List.map_id] at this
    exact ⟨(⟨a0, a1, z2, a3, a4, z5⟩, v2, v5), rfl, readsL_mk reads_val' (readsL_mk reads_val' (readsL_mk r2 (readsL_mk reads_val' (readsL_mk reads_val' (readsL_mk r5 (readsL_none)))))), ⟨b0, bounds_i64 b1, ⟨h2b, all_of_getD h2c⟩, b3, bounds_i64 b4, ⟨h5b, all_of_getD h5c⟩⟩⟩
def kdC (x : Kd × Value × Value × Value) : List Value := [.string x.1.n, .int .i64 x.1.s, x.2.1, x.2.2.1, x.2.2.2]
def KdQ (W : World) (y : Kd × Value × Value × Value) : Prop := ReadsL W W.heap.size (kdD y.1) (kdC y) ∧ KdR y.1
set_option maxRecDepth 100000 in
theorem kd_cells {H : Type} {enc : TypeId × Value → H} {W : World} {fuel : Nat} {cs : List Value} {x : DataW H × List MemPlace}
    (h : DataW.trod enc Try.prog W 0 (fun _ => true) true fuel 92 cs = some x) : ∃ y, cs = kdC y ∧ KdQ W y := by
  have c0 : Try.prog.cellsOf 92 = 5 := by kernel_rfl
  have cc0 : Try.prog.cellsOf 9 = 1 := by kernel_rfl
  have cc1 : Try.prog.cellsOf 3 = 1 := by kernel_rfl
  have cc2 : Try.prog.cellsOf 88 = 1 := by kernel_rfl
  have cc3 : Try.prog.cellsOf 89 = 1 := by kernel_rfl
  have cc4 : Try.prog.cellsOf 90 = 1 := by kernel_rfl
  obtain ⟨xs, n, rfl, rfl, hlen, hxl, hf⟩ := DataW.trod_struct Try.underlying92 h
  rw [c0] at hlen
  match xs, hxl, cs, hlen with
  | [y0, y1, y2, y3, y4], _, [v0, v1, v2, v3, v4], _ =>
    have g0 := hf 0 _ rfl
    have g1 := hf 1 _ rfl
    have g2 := hf 2 _ rfl
    have g3 := hf 3 _ rfl
    have g4 := hf 4 _ rfl
    simp [cc0, cc1, cc2, cc3, cc4] at g0 g1 g2 g3 g4
    obtain ⟨a0, e0, _, b0⟩ := DataW.trod_string Try.underlying9 g0
    obtain ⟨a1, e1, _, b1⟩ := DataW.trod_int Try.underlying3 g1
    simp at e0 e1
    subst e0 e1
    obtain ⟨z2, h2a, h2b, h2c⟩ := rd_open (sz := 4) (Q := KcR) (f := kcC) Try.underlying88 (by kernel_rfl) (by decide) (fun _ => rfl) (fun _ _ _ h => kc_cells h) ⟨_, g2⟩
    have r2 : Reads W W.heap.size (pool z2) v2 := by
      have := reads_row (T := 130) (f := kcD) (m := id) z2 h2a (fun y _ => kc_reads y)
      rwa [List.map_id] at this
    obtain ⟨z3, h3a, h3b, h3c⟩ := rd_open (sz := 2) (Q := FdR) (f := fdC) Try.underlying89 (by kernel_rfl) (by decide) (fun _ => rfl) (fun _ _ _ h => fd_cells h) ⟨_, g3⟩
    have r3 : Reads W W.heap.size (flds z3) v3 := by
      have := reads_row (T := 101) (f := fdD) (m := id) z3 h3a (fun y _ => fd_reads y)
      rwa [List.map_id] at this
    obtain ⟨z4, h4a, h4b, h4c⟩ := rd_open (sz := 6) (Q := CoQ W) (f := coC) Try.underlying90 (by kernel_rfl) (by decide) (fun _ => rfl) (fun _ _ _ h => co_cells h) ⟨_, g4⟩
    have q4 := all_of_getD h4c
    have r4 : Reads W W.heap.size (cods (z4.map Prod.fst)) v4 := reads_row (T := 135) (f := coD) (m := Prod.fst) z4 h4a (fun y hy => (q4 y hy).1)
    exact ⟨(⟨a0, a1, z2, z3, z4.map Prod.fst⟩, v2, v3, v4), rfl, readsL_mk reads_val' (readsL_mk reads_val' (readsL_mk r2 (readsL_mk r3 (readsL_mk r4 (readsL_none))))), ⟨b0, bounds_i64 b1, ⟨h2b, all_of_getD h2c⟩, ⟨h3b, all_of_getD h3c⟩, ⟨by simpa using h4b, fun y hy => by
      obtain ⟨x, hx, rfl⟩ := List.mem_map.1 hy
      exact (q4 x hx).2⟩⟩⟩
def IsPg (W : World) (v : Value) : Prop := ∃ (x : Pg) (u1 : Value), v = pgV x u1 ∧ Reads W W.heap.size (kins x.k) u1 ∧ PgR x
set_option maxRecDepth 100000 in
theorem openPg {H : Type} {enc : TypeId × Value → H} {W : World} {r : Reach} {base : Nat} {v : Value} {d : DataW H} {p : List MemPlace}
    (hv : Value.okWide Try.prog W r base 24 v) (h : DataW.Trod enc Try.prog W 0 (fun _ => true) true 24 v d p) : IsPg W v := by
  have c0 : Try.prog.cellsOf 24 = 1 := by kernel_rfl
  have cc0 : Try.prog.cellsOf 22 = 1 := by kernel_rfl
  obtain ⟨cs, rfl, _⟩ := okWide_struct Try.underlying24 hv
  obtain ⟨fuel, h⟩ := h
  obtain ⟨xs, n, rfl, hd, hlen, hxl, hf⟩ := DataW.trod_struct Try.underlying24 h
  rw [c0] at hlen
  have hcs : (Value.agg cs).cells.toList = cs.toList := rfl
  rw [hcs] at hlen hf
  obtain ⟨l⟩ := cs
  match xs, hxl, l, hlen with
  | [y0], _, [v0], _ =>
    have g0 := hf 0 _ rfl
    simp [cc0] at g0
    obtain ⟨z0, h0a, h0b, h0c⟩ := rd_open (sz := 5) (Q := KdQ W) (f := kdC) Try.underlying22 (by kernel_rfl) (by decide) (fun _ => rfl) (fun _ _ _ h => kd_cells h) ⟨_, g0⟩
    have q0 := all_of_getD h0c
    have r0 : Reads W W.heap.size (kins (z0.map Prod.fst)) v0 := reads_row (T := 98) (f := kdD) (m := Prod.fst) z0 h0a (fun y hy => (q0 y hy).1)
    exact ⟨⟨z0.map Prod.fst⟩, v0, rfl, r0, ⟨⟨by simpa using h0b, fun y hy => by
      obtain ⟨x, hx, rfl⟩ := List.mem_map.1 hy
      exact (q0 x hx).2⟩⟩⟩
end Go.Proofs.Ytofnpgheppgcaaa
