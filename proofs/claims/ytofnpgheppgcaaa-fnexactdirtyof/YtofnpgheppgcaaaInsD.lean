/-
  Places of code: what they are as data, and how they come in.
-/
import Derived.Test.YtofnpgheppgcaaaDeepB
namespace Go.Proofs.Ytofnpgheppgcaaa
open Go.ChangeShapes Go.WideShapes Go.RowKit

structure Isn where
  o : Int
  n : Int
instance : Inhabited Isn := ⟨⟨0, 0⟩⟩
def inD (x : Isn) : List Dt := [.val (.int .i64 x.o), .val (.int .i64 x.n)]
def inC (x : Isn) : List Value := [.int .i64 x.o, .int .i64 x.n]
def inV (x : Isn) : Value := .agg #[.int .i64 x.o, .int .i64 x.n]
def inss (xs : List Isn) : Dt := .row 148 2 xs.length (xs.flatMap inD)
theorem ins_at {w : World} {B : Nat} {v : Value} {xs : List Isn} (h : Reads w B (inss xs) v) :
    ∃ a cap, v = .slice a xs.length cap ∧ xs.length ≤ cap ∧ (a = none → cap = 0) ∧ (0 < xs.length → ∃ b o, a = some ⟨b, o, none⟩ ∧ b < B ∧ ∀ j, j < xs.length → w.cell? ⟨b, o + j * 2, none⟩ = some (.int .i64 (xs.getD j default).o) ∧ w.cell? ⟨b, o + j * 2 + 1, none⟩ = some (.int .i64 (xs.getD j default).n)) := by
  obtain ⟨a, cap, rfl, h1, h2, h3⟩ := row_at (f := inD) (k := 2) (fun _ => rfl) rfl h
  refine ⟨a, cap, rfl, h1, h2, fun hp => ?_⟩
  obtain ⟨b, o, rfl, hb, hc⟩ := h3 hp
  refine ⟨b, o, rfl, hb, fun j hj => ?_⟩
  obtain ⟨vs, h4, h5⟩ := hc j hj
  obtain ⟨u0, vs0, rfl, q0, h4⟩ := readsL_cons h4
  obtain ⟨u1, vs1, rfl, q1, h4⟩ := readsL_cons h4
  obtain rfl := readsL_nil h4
  obtain rfl := reads_val q0
  obtain rfl := reads_val q1
  have c0 := h5 0 (by omega)
  have c1 := h5 1 (by omega)
  rw [Nat.add_zero] at c0
  exact ⟨c0, c1⟩
theorem in_reads {w : World} {B : Nat} (x : Isn) : ReadsL w B (inD x) (inC x) := readsL_mk reads_val' (readsL_mk reads_val' readsL_none)
/-- Numbers of 64 bits. -/
def InR (x : Isn) : Prop := (-9223372036854775808 ≤ x.o ∧ x.o ≤ 9223372036854775807) ∧ (-9223372036854775808 ≤ x.n ∧ x.n ≤ 9223372036854775807)
set_option maxRecDepth 100000 in
theorem in_cells {H : Type} {enc : TypeId × Value → H} {W : World} {fuel : Nat} {cs : List Value} {x : DataW H × List MemPlace}
    (h : DataW.trod enc Try.prog W 0 (fun _ => true) true fuel 150 cs = some x) : ∃ y, cs = inC y ∧ InR y := by
  have c0 : Try.prog.cellsOf 150 = 2 := by kernel_rfl
  have c3 : Try.prog.cellsOf 3 = 1 := by kernel_rfl
  obtain ⟨xs, n, rfl, rfl, hlen, hxl, hf⟩ := DataW.trod_struct Try.underlying150 h
  rw [c0] at hlen
  match xs, hxl, cs, hlen with
  | [y2, y3], _, [v2, v3], _ =>
    have g2 := hf 0 _ rfl
    have g3 := hf 1 _ rfl
    simp [c3] at g2 g3
    obtain ⟨a, e2, _, ha⟩ := DataW.trod_int Try.underlying3 g2
    obtain ⟨b, e3, _, hb⟩ := DataW.trod_int Try.underlying3 g3
    simp at e2 e3
    exact ⟨⟨a, b⟩, by rw [e2, e3]; rfl, bounds_i64 ha, bounds_i64 hb⟩
def IsInss (W : World) (v : Value) : Prop := ∃ (xs : List Isn), Reads W W.heap.size (inss xs) v ∧ xs.length ≤ maxLen ∧ ∀ x ∈ xs, InR x
set_option maxRecDepth 100000 in
theorem openInss {H : Type} {enc : TypeId × Value → H} {W : World} {r : Reach} {base : Nat} {v : Value} {d : DataW H} {p : List MemPlace}
    (hv : Value.okWide Try.prog W r base 127 v) (h : DataW.Trod enc Try.prog W 0 (fun _ => true) true 127 v d p) : IsInss W v := by
  obtain ⟨a, len, cap, rfl⟩ := okWide_slice Try.underlying127 hv
  obtain ⟨ys, h1, h2, h3⟩ := rd_open (sz := 2) (Q := InR) (f := inC) Try.underlying127 (by kernel_rfl) (by decide) (fun _ => rfl) (fun _ _ _ h => in_cells h) h
  have r1 : Reads W W.heap.size (inss ys) (.slice a len cap) := by
    have := reads_row (T := 148) (f := inD) (m := id) ys h1 (fun y _ => in_reads y)
    rwa [List.map_id] at this
  exact ⟨ys, r1, h2, all_of_getD h3⟩
end Go.Proofs.Ytofnpgheppgcaaa
