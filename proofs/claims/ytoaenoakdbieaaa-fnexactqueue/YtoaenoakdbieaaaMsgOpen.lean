/-
  Values, notes, cells and messages that come in, as the walks take them.
-/
import Derived.Test.YtoaenoakdbieaaaRowv
namespace Go.Proofs.Ytoaenoakdbieaaa
open Go.ChangeShapes Go.WideShapes Go.RowKit

/-- The cells of a note. -/
def noteC (x : Int × Int) : List Value := [.int .i64 x.1, .int .i64 x.2]
/-- The cells of a cell: its place, whether it is a number of an object, the number. -/
def cellC (x : Int × Bool × Int) : List Value := [.int .i64 x.1, .bool x.2.1, .int .i64 x.2.2]
theorem noteC_len (x : Int × Int) : (noteC x).length = 2 := rfl
theorem cellC_len (x : Int × Bool × Int) : (cellC x).length = 3 := rfl

set_option maxRecDepth 100000 in
theorem val_cells {H : Type} {enc : TypeId × Value → H} {W : World} {sp : Nat → Bool} {fuel : Nat} {cs : List Value} {x : DataW H × List MemPlace}
    (h : DataW.trod enc Try.prog W 0 sp true fuel 132 cs = some x) : ∃ r n, cs = [.bool r, .int .i64 n] := by
  have c0 : Try.prog.cellsOf 132 = 2 := by kernel_rfl
  have c4 : Try.prog.cellsOf 4 = 1 := by kernel_rfl
  have c3 : Try.prog.cellsOf 3 = 1 := by kernel_rfl
  obtain ⟨xs, n, rfl, rfl, hlen, hxl, hf⟩ := DataW.trod_struct Try.underlying132 h
  rw [c0] at hlen
  match xs, hxl, cs, hlen with
  | [y0, y1], _, [v0, v1], _ =>
    have g0 := hf 0 _ rfl
    have g1 := hf 1 _ rfl
    simp [c3, c4] at g0 g1
    obtain ⟨r, e0, _⟩ := DataW.trod_bool Try.underlying4 g0
    obtain ⟨n, e1, _⟩ := DataW.trod_int Try.underlying3 g1
    simp at e0 e1
    exact ⟨r, n, by rw [e0, e1]⟩

def IsVal (v : Value) : Prop := ∃ r n, v = .agg #[.bool r, .int .i64 n]
set_option maxRecDepth 100000 in
theorem openVal {H : Type} {enc : TypeId × Value → H} {W : World} {sp : Nat → Bool} {r : Reach} {base : Nat} {v : Value} {d : DataW H} {p : List MemPlace}
    (hv : Value.okWide Try.prog W r base 132 v) (h : DataW.Trod enc Try.prog W 0 sp true 132 v d p) : IsVal v := by
  obtain ⟨cs, rfl, _⟩ := okWide_struct Try.underlying132 hv
  obtain ⟨fuel, h⟩ := h
  obtain ⟨r, n, e⟩ := val_cells h
  simp [Value.cells] at e
  exact ⟨r, n, by rw [show cs = #[.bool r, .int .i64 n] from by cases cs; simp_all]⟩

set_option maxRecDepth 100000 in
theorem note_cells {H : Type} {enc : TypeId × Value → H} {W : World} {sp : Nat → Bool} {fuel : Nat} {cs : List Value} {x : DataW H × List MemPlace}
    (h : DataW.trod enc Try.prog W 0 sp true fuel 138 cs = some x) : ∃ y, cs = noteC y ∧ True := by
  have c0 : Try.prog.cellsOf 138 = 2 := by kernel_rfl
  have c3 : Try.prog.cellsOf 3 = 1 := by kernel_rfl
  obtain ⟨xs, n, rfl, rfl, hlen, hxl, hf⟩ := DataW.trod_struct Try.underlying138 h
  rw [c0] at hlen
  match xs, hxl, cs, hlen with
  | [y0, y1], _, [v0, v1], _ =>
    have g0 := hf 0 _ rfl
    have g1 := hf 1 _ rfl
    simp [c3] at g0 g1
    obtain ⟨m, e0, _⟩ := DataW.trod_int Try.underlying3 g0
    obtain ⟨n, e1, _⟩ := DataW.trod_int Try.underlying3 g1
    simp at e0 e1
    exact ⟨(m, n), by rw [e0, e1]; rfl, trivial⟩

def IsNotes (W : World) (v : Value) : Prop := ∃ ns : List (Int × Int), Rd W W.heap.size 2 v ns.length (ns.flatMap noteC) ∧ ns.length ≤ maxLen
set_option maxRecDepth 100000 in
theorem openNotes {H : Type} {enc : TypeId × Value → H} {W : World} {sp : Nat → Bool} {r : Reach} {base : Nat} {v : Value} {d : DataW H} {p : List MemPlace}
    (hv : Value.okWide Try.prog W r base 56 v) (h : DataW.Trod enc Try.prog W 0 sp true 56 v d p) : IsNotes W v := by
  obtain ⟨a, len, cap, rfl⟩ := okWide_slice Try.underlying56 hv
  obtain ⟨ys, h1, h2, _⟩ := rd_open (Q := fun _ => True) (f := noteC) Try.underlying56 (by kernel_rfl) (by decide) noteC_len (fun _ _ _ h => note_cells h) h
  exact ⟨ys, h1, h2⟩
set_option maxRecDepth 100000 in
theorem cell_cells {H : Type} {enc : TypeId × Value → H} {W : World} {sp : Nat → Bool} {fuel : Nat} {cs : List Value} {x : DataW H × List MemPlace}
    (h : DataW.trod enc Try.prog W 0 sp true fuel 134 cs = some x) : ∃ y, cs = cellC y ∧ True := by
  have c0 : Try.prog.cellsOf 134 = 3 := by kernel_rfl
  have c1 : Try.prog.cellsOf 132 = 2 := by kernel_rfl
  have c3 : Try.prog.cellsOf 3 = 1 := by kernel_rfl
  obtain ⟨xs, n, rfl, rfl, hlen, hxl, hf⟩ := DataW.trod_struct Try.underlying134 h
  rw [c0] at hlen
  match xs, hxl, cs, hlen with
  | [y0, y1], _, [v0, v1, v2], _ =>
    have g0 := hf 0 _ rfl
    have g1 := hf 1 _ rfl
    simp [c3, c1] at g0 g1
    obtain ⟨m, e0, _⟩ := DataW.trod_int Try.underlying3 g0
    obtain ⟨r, n, e1⟩ := val_cells g1
    simp at e0 e1
    exact ⟨(m, r, n), by rw [e0, e1.1, e1.2]; rfl, trivial⟩

def IsMsg (W : World) (v : Value) : Prop := ∃ (k i u c n : Int) (cv nv : Value) (cs : List (Int × Bool × Int)) (ns : List (Int × Int)), v = .agg #[.int .i64 k, .int .i64 i, .int .i64 u, .int .i64 c, .int .i64 n, cv, nv] ∧
  Rd W W.heap.size 3 cv cs.length (cs.flatMap cellC) ∧ cs.length ≤ maxLen ∧ Rd W W.heap.size 2 nv ns.length (ns.flatMap noteC) ∧ ns.length ≤ maxLen
set_option maxRecDepth 100000 in
theorem openMsg {H : Type} {enc : TypeId × Value → H} {W : World} {sp : Nat → Bool} {r : Reach} {base : Nat} {v : Value} {d : DataW H} {p : List MemPlace}
    (hv : Value.okWide Try.prog W r base 58 v) (h : DataW.Trod enc Try.prog W 0 sp true 58 v d p) : IsMsg W v := by
  have c0 : Try.prog.cellsOf 58 = 7 := by kernel_rfl
  have c3 : Try.prog.cellsOf 3 = 1 := by kernel_rfl
  have c5 : Try.prog.cellsOf 55 = 1 := by kernel_rfl
  have c6 : Try.prog.cellsOf 56 = 1 := by kernel_rfl
  obtain ⟨cs, rfl, _⟩ := okWide_struct Try.underlying58 hv
  obtain ⟨fuel, h⟩ := h
  obtain ⟨xs, n, rfl, hd, hlen, hxl, hf⟩ := DataW.trod_struct Try.underlying58 h
  rw [c0] at hlen
  have hcs : (Value.agg cs).cells.toList = cs.toList := rfl
  rw [hcs] at hlen hf
  obtain ⟨l⟩ := cs
  match xs, hxl, l, hlen with
  | [y0, y1, y2, y3, y4, y5, y6], _, [v0, v1, v2, v3, v4, v5, v6], _ =>
    have g0 := hf 0 _ rfl
    have g1 := hf 1 _ rfl
    have g2 := hf 2 _ rfl
    have g3 := hf 3 _ rfl
    have g4 := hf 4 _ rfl
    have g5 := hf 5 _ rfl
    have g6 := hf 6 _ rfl
    simp [c3, c5, c6] at g0 g1 g2 g3 g4 g5 g6
    obtain ⟨k, e0, _⟩ := DataW.trod_int Try.underlying3 g0
    obtain ⟨i, e1, _⟩ := DataW.trod_int Try.underlying3 g1
    obtain ⟨u, e2, _⟩ := DataW.trod_int Try.underlying3 g2
    obtain ⟨c, e3, _⟩ := DataW.trod_int Try.underlying3 g3
    obtain ⟨m, e4, _⟩ := DataW.trod_int Try.underlying3 g4
    simp at e0 e1 e2 e3 e4
    subst e0 e1 e2 e3 e4
    obtain ⟨ys, h1, h2, _⟩ := rd_open (Q := fun _ => True) (f := cellC) Try.underlying55 (by kernel_rfl) (by decide) cellC_len (fun _ _ _ h => cell_cells h) ⟨_, g5⟩
    obtain ⟨zs, h3, h4, _⟩ := rd_open (Q := fun _ => True) (f := noteC) Try.underlying56 (by kernel_rfl) (by decide) noteC_len (fun _ _ _ h => note_cells h) ⟨_, g6⟩
    exact ⟨k, i, u, c, m, v5, v6, ys, zs, rfl, h1, h2, h3, h4⟩
end Go.Proofs.Ytoaenoakdbieaaa
