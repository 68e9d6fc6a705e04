/-
  Consts, fields, methods and classes: what they are as data, their cells row by row, and how they come in.
-/
import Derived.Test.YtpgohlaimpiniaaDeep
import Derived.OpenShut
namespace Go.Proofs.Ytpgohlaimpiniaa
open Go.ChangeShapes Go.WideShapes Go.RowKit

structure Kc where
  k : Int
  n : Int
  a : ByteArray
  b : ByteArray
structure Fd where
  n : ByteArray
  t : ByteArray
structure Me where
  n : ByteArray
  ps : List ByteArray
  r : ByteArray
  l : Int
  c : List Int
structure Cl where
  n : ByteArray
  s : ByteArray
  p : List Kc
  f : List Fd
  m : List Me
instance : Inhabited Kc := ⟨⟨0, 0, ByteArray.empty, ByteArray.empty⟩⟩
instance : Inhabited Fd := ⟨⟨ByteArray.empty, ByteArray.empty⟩⟩
instance : Inhabited Me := ⟨⟨ByteArray.empty, [], ByteArray.empty, 0, []⟩⟩
instance : Inhabited Cl := ⟨⟨ByteArray.empty, ByteArray.empty, [], [], []⟩⟩

def kcD (x : Kc) : List Dt := [.val (.int .i64 x.k), .val (.int .i64 x.n), .val (.string x.a), .val (.string x.b)]
def fdD (x : Fd) : List Dt := [.val (.string x.n), .val (.string x.t)]
def txD (s : ByteArray) : List Dt := [.val (.string s)]
def byD (z : Int) : List Dt := [.val (.int .u8 z)]
def pool (p : List Kc) : Dt := .row 63 4 p.length (p.flatMap kcD)
def flds (f : List Fd) : Dt := .row 65 2 f.length (f.flatMap fdD)
def strs (s : List ByteArray) : Dt := .row 9 1 s.length (s.flatMap txD)
def byts (z : List Int) : Dt := .row 5 1 z.length (z.flatMap byD)
def meD (x : Me) : List Dt := [.val (.string x.n), strs x.ps, .val (.string x.r), .val (.int .i64 x.l), byts x.c]
def mets (m : List Me) : Dt := .row 48 5 m.length (m.flatMap meD)
def clD (x : Cl) : List Dt := [.val (.string x.n), .val (.string x.s), pool x.p, flds x.f, mets x.m]
def kcV (x : Kc) : Value := .agg #[.int .i64 x.k, .int .i64 x.n, .string x.a, .string x.b]
def fdV (x : Fd) : Value := .agg #[.string x.n, .string x.t]
def meV (x : Me) (u v : Value) : Value := .agg #[.string x.n, u, .string x.r, .int .i64 x.l, v]
def clV (x : Cl) (p f m : Value) : Value := .agg #[.string x.n, .string x.s, p, f, m]
theorem const_at {w : World} {B : Nat} {v : Value} {xs : List Kc} (h : Reads w B (pool xs) v) :
    ∃ a cap, v = .slice a xs.length cap ∧ xs.length ≤ cap ∧ (a = none → cap = 0) ∧ (0 < xs.length → ∃ b o, a = some ⟨b, o, none⟩ ∧ b < B ∧ ∀ j, j < xs.length → w.cell? ⟨b, o + j * 4, none⟩ = some (.int .i64 (xs.getD j default).k) ∧ w.cell? ⟨b, o + j * 4 + 1, none⟩ = some (.int .i64 (xs.getD j default).n) ∧ w.cell? ⟨b, o + j * 4 + 2, none⟩ = some (.string (xs.getD j default).a) ∧ w.cell? ⟨b, o + j * 4 + 3, none⟩ = some (.string (xs.getD j default).b)) := by
  obtain ⟨a, cap, rfl, h1, h2, h3⟩ := row_at (f := kcD) (k := 4) (fun _ => rfl) rfl h
  refine ⟨a, cap, rfl, h1, h2, fun hp => ?_⟩
  obtain ⟨b, o, rfl, hb, hc⟩ := h3 hp
  refine ⟨b, o, rfl, hb, fun j hj => ?_⟩
  obtain ⟨vs, h4, h5⟩ := hc j hj
  obtain ⟨u0, vs0, rfl, q0, h4⟩ := readsL_cons h4
  obtain ⟨u1, vs1, rfl, q1, h4⟩ := readsL_cons h4
  obtain ⟨u2, vs2, rfl, q2, h4⟩ := readsL_cons h4
  obtain ⟨u3, vs3, rfl, q3, h4⟩ := readsL_cons h4
  obtain rfl := readsL_nil h4
  obtain rfl := reads_val q0
  obtain rfl := reads_val q1
  obtain rfl := reads_val q2
  obtain rfl := reads_val q3
  have c0 := h5 0 (by omega)
  have c1 := h5 1 (by omega)
  have c2 := h5 2 (by omega)
  have c3 := h5 3 (by omega)
  rw [Nat.add_zero] at c0
  exact ⟨c0, c1, c2, c3⟩

theorem field_at {w : World} {B : Nat} {v : Value} {xs : List Fd} (h : Reads w B (flds xs) v) :
    ∃ a cap, v = .slice a xs.length cap ∧ xs.length ≤ cap ∧ (a = none → cap = 0) ∧ (0 < xs.length → ∃ b o, a = some ⟨b, o, none⟩ ∧ b < B ∧ ∀ j, j < xs.length → w.cell? ⟨b, o + j * 2, none⟩ = some (.string (xs.getD j default).n) ∧ w.cell? ⟨b, o + j * 2 + 1, none⟩ = some (.string (xs.getD j default).t)) := by
  obtain ⟨a, cap, rfl, h1, h2, h3⟩ := row_at (f := fdD) (k := 2) (fun _ => rfl) rfl h
  refine ⟨a, cap, rfl, h1, h2, fun hp => ?_⟩
  obtain ⟨b, o, rfl, hb, hc⟩ := h3 hp
  refine ⟨b, o, rfl, hb, fun j hj => ?_⟩
  obtain ⟨vs, h4, h5⟩ := hc j hj
  obtain ⟨u0, vs0, rfl, q0, h4⟩ := readsL_cons h4
  obtain ⟨u1, vs1, rfl, q1, h4⟩ := readsL_cons h4
  obtain rfl := readsL_nil h4
  obtain rfl := reads_val q0
  obtain rfl := reads_val q1
  have c0 := h5 0 (by omega)
  have c1 := h5 1 (by omega)
  rw [Nat.add_zero] at c0
  exact ⟨c0, c1⟩

theorem str_at {w : World} {B : Nat} {v : Value} {xs : List ByteArray} (h : Reads w B (strs xs) v) :
    ∃ a cap, v = .slice a xs.length cap ∧ xs.length ≤ cap ∧ (a = none → cap = 0) ∧ (0 < xs.length → ∃ b o, a = some ⟨b, o, none⟩ ∧ b < B ∧ ∀ j, j < xs.length → w.cell? ⟨b, o + j, none⟩ = some (.string (xs.getD j default))) := by
  obtain ⟨a, cap, rfl, h1, h2, h3⟩ := row_at (f := txD) (k := 1) (fun _ => rfl) rfl h
  refine ⟨a, cap, rfl, h1, h2, fun hp => ?_⟩
  obtain ⟨b, o, rfl, hb, hc⟩ := h3 hp
  refine ⟨b, o, rfl, hb, fun j hj => ?_⟩
  obtain ⟨vs, h4, h5⟩ := hc j hj
  obtain ⟨u0, vs0, rfl, q0, h4⟩ := readsL_cons h4
  obtain rfl := readsL_nil h4
  obtain rfl := reads_val q0
  have c0 := h5 0 (by omega)
  simp only [Nat.mul_one, Nat.add_zero] at c0
  exact c0

theorem meth_at {w : World} {B : Nat} {v : Value} {xs : List Me} (h : Reads w B (mets xs) v) :
    ∃ a cap, v = .slice a xs.length cap ∧ xs.length ≤ cap ∧ (a = none → cap = 0) ∧ (0 < xs.length → ∃ b o, a = some ⟨b, o, none⟩ ∧ b < B ∧ ∀ j, j < xs.length → ∃ pv, ∃ cv, w.cell? ⟨b, o + j * 5, none⟩ = some (.string (xs.getD j default).n) ∧ w.cell? ⟨b, o + j * 5 + 1, none⟩ = some (pv) ∧ w.cell? ⟨b, o + j * 5 + 2, none⟩ = some (.string (xs.getD j default).r) ∧ w.cell? ⟨b, o + j * 5 + 3, none⟩ = some (.int .i64 (xs.getD j default).l) ∧ w.cell? ⟨b, o + j * 5 + 4, none⟩ = some (cv) ∧ Reads w B (strs (xs.getD j default).ps) pv ∧ Reads w B (byts (xs.getD j default).c) cv) := by
  obtain ⟨a, cap, rfl, h1, h2, h3⟩ := row_at (f := meD) (k := 5) (fun _ => rfl) rfl h
  refine ⟨a, cap, rfl, h1, h2, fun hp => ?_⟩
  obtain ⟨b, o, rfl, hb, hc⟩ := h3 hp
  refine ⟨b, o, rfl, hb, fun j hj => ?_⟩
  obtain ⟨vs, h4, h5⟩ := hc j hj
  obtain ⟨u0, vs0, rfl, q0, h4⟩ := readsL_cons h4
  obtain ⟨u1, vs1, rfl, q1, h4⟩ := readsL_cons h4
  obtain ⟨u2, vs2, rfl, q2, h4⟩ := readsL_cons h4
  obtain ⟨u3, vs3, rfl, q3, h4⟩ := readsL_cons h4
  obtain ⟨u4, vs4, rfl, q4, h4⟩ := readsL_cons h4
  obtain rfl := readsL_nil h4
  obtain rfl := reads_val q0
  obtain rfl := reads_val q2
  obtain rfl := reads_val q3
  have c0 := h5 0 (by omega)
  have c1 := h5 1 (by omega)
  have c2 := h5 2 (by omega)
  have c3 := h5 3 (by omega)
  have c4 := h5 4 (by omega)
  rw [Nat.add_zero] at c0
  exact ⟨u1, u4, c0, c1, c2, c3, c4, q1, q4⟩

/-- Bytes as data are bytes as rows. -/
theorem byts_in {w : World} {B : Nat} {v : Value} {zs : List Int} (h : Reads w B (byts zs) v) (hm : zs.length ≤ 1048576) (hz : Byt zs) : ∃ a cap, v = .slice a zs.length cap ∧ zs.length ≤ cap ∧ (a = none → cap = 0) ∧ In w B a zs.length zs := by
  obtain ⟨a, cap, rfl, h1, h2, h3⟩ := row_at (f := byD) (k := 1) (fun _ => rfl) rfl h
  refine ⟨a, cap, rfl, h1, h2, rfl, hm, hz.at, fun hp => ?_⟩
  obtain ⟨b, o, rfl, hb, hc⟩ := h3 hp
  refine ⟨b, o, rfl, hb, fun j hj => ?_⟩
  obtain ⟨vs, h4, h5⟩ := hc j hj
  obtain ⟨u0, vs0, rfl, q0, h4⟩ := readsL_cons h4
  obtain rfl := readsL_nil h4
  obtain rfl := reads_val q0
  have c0 := h5 0 (by omega)
  simp only [Nat.mul_one, Nat.add_zero] at c0
  rw [c0]
  rfl
theorem byts_cells (zs : List Int) : zs.flatMap byD = (zs.map (Value.int .u8)).map Dt.val := by
  induction zs with
  | nil => rfl
  | cons z zs ih => rw [List.flatMap_cons, ih]; rfl
theorem strs_cells (zs : List ByteArray) : zs.flatMap txD = (zs.map Value.string).map Dt.val := by
  induction zs with
  | nil => rfl
  | cons z zs ih => rw [List.flatMap_cons, ih]; rfl
theorem Own.deep {w : World} {b hi : Nat} {v : Value} {zs : List Int} (h : Own w b v zs) (hq : ∀ q, v.ownBlock = some q → q < hi) : OwnD w b hi (byts zs) v := by
  refine ⟨v.ownBlock.toList, ?_, ?_, fun q hm => hq q (by simpa using hm)⟩
  · unfold byts Owns
    refine ⟨zs.map (Value.int .u8), [], h, ?_, by simp⟩
    rw [byts_cells]
    exact ownsL_vals _
  · cases v.ownBlock <;> simp
theorem OwnD.bytes {w : World} {b hi : Nat} {v : Value} {zs : List Int} (h : OwnD w b hi (byts zs) v) : Own w b v zs ∧ ∀ q, v.ownBlock = some q → q < hi := by
  obtain ⟨F, h1, _, h3⟩ := h
  unfold byts Owns at h1
  obtain ⟨us, G, h4, h5, rfl⟩ := h1
  rw [byts_cells] at h5
  have e := OwnsL.reads (Nat.le_refl _) _ _ _ h5
  have key : ∀ (xs us : List Value), ReadsL w w.heap.size (xs.map Dt.val) us → us = xs := by
    intro xs
    induction xs with
    | nil => intro us h; exact readsL_nil h
    | cons x xs ih =>
      intro us h
      obtain ⟨u, us', rfl, q, h'⟩ := readsL_cons h
      rw [reads_val q, ih _ h']
  rw [key _ _ e] at h4
  exact ⟨h4, fun q hq => h3 q (by rw [hq]; simp)⟩
theorem readsL_join {w : World} {B : Nat} : ∀ {c1 c2 : List Dt} {u1 u2 : List Value}, ReadsL w B c1 u1 → ReadsL w B c2 u2 → ReadsL w B (c1 ++ c2) (u1 ++ u2)
  | [], c2, u1, u2, h, h' => by rw [readsL_nil h]; exact h'
  | c :: c1, c2, u1, u2, h, h' => by
    obtain ⟨u, us', rfl, h1, h2⟩ := readsL_cons h
    exact readsL_mk h1 (readsL_join h2 h')
theorem reads_rows {w : World} {B : Nat} {α β : Type} {f : β → List Dt} {m : α → β} {c : α → List Value} : ∀ (ys : List α), (∀ y ∈ ys, ReadsL w B (f (m y)) (c y)) → ReadsL w B ((ys.map m).flatMap f) (ys.flatMap c)
  | [], _ => readsL_none
  | y :: ys, h => by
    rw [List.map_cons, List.flatMap_cons, List.flatMap_cons]
    exact readsL_join (h y (by simp)) (reads_rows ys (fun z hz => h z (by simp [hz])))
theorem reads_row {w : World} {B : Nat} {α β : Type} {T : TypeId} {k : Nat} {f : β → List Dt} {m : α → β} {c : α → List Value} {v : Value} (ys : List α) (h : Rd w B k v ys.length (ys.flatMap c)) (hy : ∀ y ∈ ys, ReadsL w B (f (m y)) (c y)) : Reads w B (.row T k (ys.map m).length ((ys.map m).flatMap f)) v := by
  unfold Reads
  rw [List.length_map]
  exact ⟨_, h, reads_rows ys hy⟩
theorem all_of_getD {α : Type} [Inhabited α] {Q : α → Prop} {ys : List α} (h : ∀ j, j < ys.length → Q (ys.getD j default)) : ∀ y ∈ ys, Q y := fun y hy => by
  obtain ⟨j, hj, rfl⟩ := List.mem_iff_getElem.1 hy
  have := h j hj
  simpa [hj] using this

def KcR (x : Kc) : Prop := x.a.size ≤ maxLen ∧ x.b.size ≤ maxLen
def FdR (x : Fd) : Prop := x.n.size ≤ maxLen ∧ x.t.size ≤ maxLen
def MeR (x : Me) : Prop := x.n.size ≤ maxLen ∧ x.r.size ≤ maxLen ∧ x.ps.length ≤ maxLen ∧ (∀ s ∈ x.ps, s.size ≤ maxLen) ∧ x.c.length ≤ maxLen ∧ Byt x.c ∧ (-9223372036854775808 ≤ x.l ∧ x.l ≤ 9223372036854775807)
def ClR (x : Cl) : Prop := x.n.size ≤ maxLen ∧ x.s.size ≤ maxLen ∧ x.p.length ≤ maxLen ∧ x.f.length ≤ maxLen ∧ x.m.length ≤ maxLen ∧ (∀ y ∈ x.p, KcR y) ∧ (∀ y ∈ x.f, FdR y) ∧ ∀ y ∈ x.m, MeR y
def kcC (x : Kc) : List Value := [.int .i64 x.k, .int .i64 x.n, .string x.a, .string x.b]
def fdC (x : Fd) : List Value := [.string x.n, .string x.t]
def meC (x : Me × Value × Value) : List Value := [.string x.1.n, x.2.1, .string x.1.r, .int .i64 x.1.l, x.2.2]
theorem kc_reads {w : World} {B : Nat} (x : Kc) : ReadsL w B (kcD x) (kcC x) := readsL_mk reads_val' (readsL_mk reads_val' (readsL_mk reads_val' (readsL_mk reads_val' readsL_none)))
theorem fd_reads {w : World} {B : Nat} (x : Fd) : ReadsL w B (fdD x) (fdC x) := readsL_mk reads_val' (readsL_mk reads_val' readsL_none)
set_option maxRecDepth 100000 in
theorem kc_cells {H : Type} {enc : TypeId × Value → H} {W : World} {fuel : Nat} {cs : List Value} {x : DataW H × List MemPlace}
    (h : DataW.trod enc Try.prog W 0 (fun _ => true) true fuel 75 cs = some x) : ∃ y, cs = kcC y ∧ KcR y := by
  have c0 : Try.prog.cellsOf 75 = 4 := by kernel_rfl
  have c3 : Try.prog.cellsOf 3 = 1 := by kernel_rfl
  have c9 : Try.prog.cellsOf 9 = 1 := by kernel_rfl
  obtain ⟨xs, n, rfl, rfl, hlen, hxl, hf⟩ := DataW.trod_struct Try.underlying75 h
  rw [c0] at hlen
  match xs, hxl, cs, hlen with
  | [y0, y1, y2, y3], _, [v0, v1, v2, v3], _ =>
    have g0 := hf 0 _ rfl
    have g1 := hf 1 _ rfl
    have g2 := hf 2 _ rfl
    have g3 := hf 3 _ rfl
    simp [c3, c9] at g0 g1 g2 g3
    obtain ⟨k, e0, _⟩ := DataW.trod_int Try.underlying3 g0
    obtain ⟨n, e1, _⟩ := DataW.trod_int Try.underlying3 g1
    obtain ⟨a, e2, _, ha⟩ := DataW.trod_string Try.underlying9 g2
    obtain ⟨b, e3, _, hb⟩ := DataW.trod_string Try.underlying9 g3
    simp at e0 e1 e2 e3
    exact ⟨⟨k, n, a, b⟩, by rw [e0, e1, e2, e3]; rfl, ha, hb⟩
set_option maxRecDepth 100000 in
theorem fd_cells {H : Type} {enc : TypeId × Value → H} {W : World} {fuel : Nat} {cs : List Value} {x : DataW H × List MemPlace}
    (h : DataW.trod enc Try.prog W 0 (fun _ => true) true fuel 77 cs = some x) : ∃ y, cs = fdC y ∧ FdR y := by
  have c0 : Try.prog.cellsOf 77 = 2 := by kernel_rfl
  have c9 : Try.prog.cellsOf 9 = 1 := by kernel_rfl
  obtain ⟨xs, n, rfl, rfl, hlen, hxl, hf⟩ := DataW.trod_struct Try.underlying77 h
  rw [c0] at hlen
  match xs, hxl, cs, hlen with
  | [y2, y3], _, [v2, v3], _ =>
    have g2 := hf 0 _ rfl
    have g3 := hf 1 _ rfl
    simp [c9] at g2 g3
    obtain ⟨a, e2, _, ha⟩ := DataW.trod_string Try.underlying9 g2
    obtain ⟨b, e3, _, hb⟩ := DataW.trod_string Try.underlying9 g3
    simp at e2 e3
    exact ⟨⟨a, b⟩, by rw [e2, e3]; rfl, ha, hb⟩
theorem st_cells {H : Type} {enc : TypeId × Value → H} {W : World} {fuel : Nat} {cs : List Value} {x : DataW H × List MemPlace}
    (h : DataW.trod enc Try.prog W 0 (fun _ => true) true fuel 9 cs = some x) : ∃ y : ByteArray, cs = [Value.string y] ∧ y.size ≤ maxLen := by
  obtain ⟨a, e2, _, ha⟩ := DataW.trod_string Try.underlying9 h
  exact ⟨a, e2, ha⟩
theorem by_cells {H : Type} {enc : TypeId × Value → H} {W : World} {fuel : Nat} {cs : List Value} {x : DataW H × List MemPlace}
    (h : DataW.trod enc Try.prog W 0 (fun _ => true) true fuel 5 cs = some x) : ∃ y : Int, cs = [Value.int .u8 y] ∧ 0 ≤ y ∧ y ≤ 255 := by
  obtain ⟨a, e2, _, ha⟩ := DataW.trod_int Try.underlying5 h
  have := bounds_u8 ha
  exact ⟨a, e2, this.1, this.2⟩
def MeQ (W : World) (y : Me × Value × Value) : Prop := ReadsL W W.heap.size (meD y.1) (meC y) ∧ MeR y.1
instance : Inhabited (Me × Value × Value) := ⟨(default, default, default)⟩
set_option maxRecDepth 100000 in
theorem me_cells {H : Type} {enc : TypeId × Value → H} {W : World} {fuel : Nat} {cs : List Value} {x : DataW H × List MemPlace}
    (h : DataW.trod enc Try.prog W 0 (fun _ => true) true fuel 79 cs = some x) : ∃ y, cs = meC y ∧ MeQ W y := by
  have c0 : Try.prog.cellsOf 79 = 5 := by kernel_rfl
  have c3 : Try.prog.cellsOf 3 = 1 := by kernel_rfl
  have c9 : Try.prog.cellsOf 9 = 1 := by kernel_rfl
  have c5 : Try.prog.cellsOf 46 = 1 := by kernel_rfl
  have c6 : Try.prog.cellsOf 37 = 1 := by kernel_rfl
  obtain ⟨xs, n, rfl, rfl, hlen, hxl, hf⟩ := DataW.trod_struct Try.underlying79 h
  rw [c0] at hlen
  match xs, hxl, cs, hlen with
  | [y0, y1, y2, y3, y4], _, [v0, v1, v2, v3, v4], _ =>
    have g0 := hf 0 _ rfl
    have g1 := hf 1 _ rfl
    have g2 := hf 2 _ rfl
    have g3 := hf 3 _ rfl
    have g4 := hf 4 _ rfl
    simp [c3, c9, c5, c6] at g0 g1 g2 g3 g4
    obtain ⟨a, e0, _, ha⟩ := DataW.trod_string Try.underlying9 g0
    obtain ⟨b, e2, _, hb⟩ := DataW.trod_string Try.underlying9 g2
    obtain ⟨l, e3, _, hl⟩ := DataW.trod_int Try.underlying3 g3
    simp at e0 e2 e3
    subst e0 e2 e3
    obtain ⟨ys, h1, h2, h2'⟩ := rd_open (sz := 1) (Q := fun y : ByteArray => y.size ≤ maxLen) (f := fun y : ByteArray => [Value.string y]) Try.underlying46 (by kernel_rfl) (by decide) (fun _ => rfl) (fun _ _ _ h => st_cells h) ⟨_, g1⟩
    obtain ⟨zs, h3, h4, h4'⟩ := rd_open (sz := 1) (Q := fun y : Int => 0 ≤ y ∧ y ≤ 255) (f := fun y : Int => [Value.int .u8 y]) Try.underlying37 (by kernel_rfl) (by decide) (fun _ => rfl) (fun _ _ _ h => by_cells h) ⟨_, g4⟩
    have r1 : Reads W W.heap.size (strs ys) v1 := by
      have := reads_row (T := 9) (f := txD) (m := id) ys h1 (fun y _ => readsL_mk reads_val' readsL_none)
      rwa [List.map_id] at this
    have r2 : Reads W W.heap.size (byts zs) v4 := by
      have := reads_row (T := 5) (f := byD) (m := id) zs h3 (fun y _ => readsL_mk reads_val' readsL_none)
      rwa [List.map_id] at this
    exact ⟨(⟨a, ys, b, l, zs⟩, v1, v4), rfl, readsL_mk reads_val' (readsL_mk r1 (readsL_mk reads_val' (readsL_mk reads_val' (readsL_mk r2 readsL_none)))), ha, hb, h2, all_of_getD h2', h4, all_of_getD h4', bounds_i64 hl⟩

def IsCls (W : World) (v : Value) : Prop := ∃ (c : Cl) (pv fv mv : Value), v = clV c pv fv mv ∧ Reads W W.heap.size (pool c.p) pv ∧ Reads W W.heap.size (flds c.f) fv ∧ Reads W W.heap.size (mets c.m) mv ∧ ClR c
set_option maxRecDepth 100000 in
theorem openCls {H : Type} {enc : TypeId × Value → H} {W : World} {r : Reach} {base : Nat} {v : Value} {d : DataW H} {p : List MemPlace}
    (hv : Value.okWide Try.prog W r base 26 v) (h : DataW.Trod enc Try.prog W 0 (fun _ => true) true 26 v d p) : IsCls W v := by
  have c0 : Try.prog.cellsOf 26 = 5 := by kernel_rfl
  have c9 : Try.prog.cellsOf 9 = 1 := by kernel_rfl
  have c5 : Try.prog.cellsOf 22 = 1 := by kernel_rfl
  have c6 : Try.prog.cellsOf 23 = 1 := by kernel_rfl
  have c7 : Try.prog.cellsOf 24 = 1 := by kernel_rfl
  obtain ⟨cs, rfl, _⟩ := okWide_struct Try.underlying26 hv
  obtain ⟨fuel, h⟩ := h
  obtain ⟨xs, n, rfl, hd, hlen, hxl, hf⟩ := DataW.trod_struct Try.underlying26 h
  rw [c0] at hlen
  have hcs : (Value.agg cs).cells.toList = cs.toList := rfl
  rw [hcs] at hlen hf
  obtain ⟨l⟩ := cs
  match xs, hxl, l, hlen with
  | [y0, y1, y2, y3, y4], _, [v0, v1, v2, v3, v4], _ =>
    have g0 := hf 0 _ rfl
    have g1 := hf 1 _ rfl
    have g2 := hf 2 _ rfl
    have g3 := hf 3 _ rfl
    have g4 := hf 4 _ rfl
    simp [c9, c5, c6, c7] at g0 g1 g2 g3 g4
    obtain ⟨a, e0, _, ha⟩ := DataW.trod_string Try.underlying9 g0
    obtain ⟨b, e1, _, hb⟩ := DataW.trod_string Try.underlying9 g1
    simp at e0 e1
    subst e0 e1
    obtain ⟨ks, h1, h2, h3⟩ := rd_open (sz := 4) (Q := KcR) (f := kcC) Try.underlying22 (by kernel_rfl) (by decide) (fun _ => rfl) (fun _ _ _ h => kc_cells h) ⟨_, g2⟩
    obtain ⟨fs, h4, h5, h6⟩ := rd_open (sz := 2) (Q := FdR) (f := fdC) Try.underlying23 (by kernel_rfl) (by decide) (fun _ => rfl) (fun _ _ _ h => fd_cells h) ⟨_, g3⟩
    obtain ⟨ms, h7, h8, h9⟩ := rd_open (sz := 5) (Q := MeQ W) (f := meC) Try.underlying24 (by kernel_rfl) (by decide) (fun _ => rfl) (fun _ _ _ h => me_cells h) ⟨_, g4⟩
    have r1 : Reads W W.heap.size (pool ks) v2 := by
      have := reads_row (T := 63) (f := kcD) (m := id) ks h1 (fun y _ => kc_reads y)
      rwa [List.map_id] at this
    have r2 : Reads W W.heap.size (flds fs) v3 := by
      have := reads_row (T := 65) (f := fdD) (m := id) fs h4 (fun y _ => fd_reads y)
      rwa [List.map_id] at this
    have q := all_of_getD h9
    have r3 : Reads W W.heap.size (mets (ms.map Prod.fst)) v4 := reads_row (T := 48) (f := meD) (m := Prod.fst) ms h7 (fun y hy => (q y hy).1)
    refine ⟨⟨a, b, ks, fs, ms.map Prod.fst⟩, v2, v3, v4, rfl, r1, r2, r3, ha, hb, h2, h5, by simpa using h8, all_of_getD h3, all_of_getD h6, fun y hy => ?_⟩
    obtain ⟨x, hx, rfl⟩ := List.mem_map.1 hy
    exact (q x hx).2
end Go.Proofs.Ytpgohlaimpiniaa
