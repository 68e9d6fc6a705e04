/-
  Types and flows as data, how they come in, how great they are.
-/
import Derived.Test.YtobomcfiincpoaaRecD
namespace Go.Proofs.Ytobomcfiincpoaa
open Go.ChangeShapes Go.WideShapes Go.RowKit

structure Ty where
  k : Int
  c : Int
instance : Inhabited Ty := ⟨⟨0, 0⟩⟩
def tyD (x : Ty) : List Dt := [.val (.int .i64 x.k), .val (.int .i64 x.c)]
def tyV (x : Ty) : Value := .agg #[.int .i64 x.k, .int .i64 x.c]
def tys (xs : List Ty) : Dt := .row 51 2 xs.length (xs.flatMap tyD)
theorem type_at {w : World} {B : Nat} {v : Value} {xs : List Ty} (h : Reads w B (tys xs) v) :
    ∃ a cap, v = .slice a xs.length cap ∧ xs.length ≤ cap ∧ (a = none → cap = 0) ∧ (0 < xs.length → ∃ b o, a = some ⟨b, o, none⟩ ∧ b < B ∧ ∀ j, j < xs.length → w.cell? ⟨b, o + j * 2, none⟩ = some (.int .i64 (xs.getD j default).k) ∧ w.cell? ⟨b, o + j * 2 + 1, none⟩ = some (.int .i64 (xs.getD j default).c)) := by
  obtain ⟨a, cap, rfl, h1, h2, h3⟩ := row_at (f := tyD) (k := 2) (fun _ => rfl) rfl h
  refine ⟨a, cap, rfl, h1, h2, fun hp => ?_⟩
  obtain ⟨b, o, rfl, hb, hc⟩ := h3 hp
  refine ⟨b, o, rfl, hb, fun j hj => ?_⟩
  obtain ⟨vs, h4, h5⟩ := hc j hj
  obtain ⟨u0, vs0, rfl, q0, h4⟩ := readsL_cons h4
  obtain ⟨u1, vs1, rfl, q1, h4⟩ := readsL_cons h4
  obtain rfl := readsL_nil h4
  obtain rfl := reads_val q0
  obtain rfl := reads_val q1
  have c0 := h5 0 (by omega)
  have c1 := h5 1 (by omega)
  rw [Nat.add_zero] at c0
  exact ⟨c0, c1⟩
structure TyR (x : Ty) : Prop where
  k : -9223372036854775808 ≤ x.k ∧ x.k ≤ 9223372036854775807
  c : -9223372036854775808 ≤ x.c ∧ x.c ≤ 9223372036854775807
def tyW (_x : Ty) : Nat := 0
structure TyG (x : Ty) : Prop where
  k : -9223372036854775808 ≤ x.k ∧ x.k ≤ 9223372036854775807
  c : -9223372036854775808 ≤ x.c ∧ x.c ≤ 9223372036854775807
theorem tyG_of {x : Ty} (hr : TyR x) (_hw : tyW x ≤ 1048576) : TyG x := ⟨hr.k, hr.c⟩
def tysR (xs : List Ty) : Prop := xs.length ≤ maxLen ∧ ∀ y ∈ xs, TyR y
def tysW (xs : List Ty) : Nat := xs.length
def tysG (xs : List Ty) : Prop := xs.length ≤ 1048576 ∧ ∀ y ∈ xs, TyG y
theorem tysG_of {xs : List Ty} (hr : tysR xs) (hw : tysW xs ≤ 1048576) : tysG xs := ⟨hw, fun y hy => tyG_of (hr.2 y hy) (Nat.zero_le _)⟩
def tyC (x : Ty) : List Value := [.int .i64 x.k, .int .i64 x.c]
theorem ty_reads {w : World} {B : Nat} (x : Ty) : ReadsL w B (tyD x) (tyC x) := readsL_mk reads_val' (readsL_mk reads_val' readsL_none)
set_option maxRecDepth 100000 in
theorem ty_cells {H : Type} {enc : TypeId × Value → H} {W : World} {fuel : Nat} {cs : List Value} {x : DataW H × List MemPlace}
    (h : DataW.trod enc Try.prog W 0 (fun _ => true) true fuel 76 cs = some x) : ∃ y, cs = tyC y ∧ TyR y := by
  have c0 : Try.prog.cellsOf 76 = 2 := by kernel_rfl
  have cc0 : Try.prog.cellsOf 3 = 1 := by kernel_rfl
  obtain ⟨xs, n, rfl, rfl, hlen, hxl, hf⟩ := DataW.trod_struct Try.underlying76 h
  rw [c0] at hlen
  match xs, hxl, cs, hlen with
  | [y0, y1], _, [v0, v1], _ =>
    have g0 := hf 0 _ rfl
    have g1 := hf 1 _ rfl
    simp [cc0] at g0 g1
    obtain ⟨a0, e0, _, b0⟩ := DataW.trod_int Try.underlying3 g0
    obtain ⟨a1, e1, _, b1⟩ := DataW.trod_int Try.underlying3 g1
    simp at e0 e1
    subst e0 e1
    exact ⟨⟨a0, a1⟩, rfl, ⟨bounds_i64 b0, bounds_i64 b1⟩⟩
def IsTy (_W : World) (v : Value) : Prop := ∃ (x : Ty), v = tyV x ∧ TyR x
set_option maxRecDepth 100000 in
theorem openTy {H : Type} {enc : TypeId × Value → H} {W : World} {r : Reach} {base : Nat} {v : Value} {d : DataW H} {p : List MemPlace}
    (hv : Value.okWide Try.prog W r base 76 v) (h : DataW.Trod enc Try.prog W 0 (fun _ => true) true 76 v d p) : IsTy W v := by
  have c0 : Try.prog.cellsOf 76 = 2 := by kernel_rfl
  have cc0 : Try.prog.cellsOf 3 = 1 := by kernel_rfl
  obtain ⟨cs, rfl, _⟩ := okWide_struct Try.underlying76 hv
  obtain ⟨fuel, h⟩ := h
  obtain ⟨xs, n, rfl, hd, hlen, hxl, hf⟩ := DataW.trod_struct Try.underlying76 h
  rw [c0] at hlen
  have hcs : (Value.agg cs).cells.toList = cs.toList := rfl
  rw [hcs] at hlen hf
  obtain ⟨l⟩ := cs
  match xs, hxl, l, hlen with
  | [y0, y1], _, [v0, v1], _ =>
    have g0 := hf 0 _ rfl
    have g1 := hf 1 _ rfl
    simp [cc0] at g0 g1
    obtain ⟨a0, e0, _, b0⟩ := DataW.trod_int Try.underlying3 g0
    obtain ⟨a1, e1, _, b1⟩ := DataW.trod_int Try.underlying3 g1
    simp at e0 e1
    subst e0 e1
    exact ⟨⟨a0, a1⟩, rfl, ⟨bounds_i64 b0, bounds_i64 b1⟩⟩
structure Fl where
  lo : List Ty
  st : List Ty
  h : Int
instance : Inhabited Fl := ⟨⟨[], [], 0⟩⟩
def flD (x : Fl) : List Dt := [tys x.lo, tys x.st, .val (.int .i64 x.h)]
def flV (x : Fl) (u1 u2 : Value) : Value := .agg #[u1, u2, .int .i64 x.h]
structure FlR (x : Fl) : Prop where
  lo : tysR x.lo
  st : tysR x.st
  h : -9223372036854775808 ≤ x.h ∧ x.h ≤ 9223372036854775807
def flW (x : Fl) : Nat := tysW x.lo + tysW x.st
structure FlG (x : Fl) : Prop where
  lo : tysG x.lo
  st : tysG x.st
  h : -9223372036854775808 ≤ x.h ∧ x.h ≤ 9223372036854775807
theorem flG_of {x : Fl} (hr : FlR x) (hw : flW x ≤ 1048576) : FlG x := by
  unfold flW at hw
  exact ⟨tysG_of hr.lo (by omega), tysG_of hr.st (by omega), hr.h⟩
theorem flD_own {w : World} {b hi : Nat} {x : Fl} {u1 u2 : Value} (h : OwnDL w b hi (flD x) [u1, u2, .int .i64 x.h]) : Reads w w.heap.size (tys x.lo) u1 ∧ Reads w w.heap.size (tys x.st) u2 := by
  have h := h.rd (Nat.le_refl _)
  obtain ⟨_, _, e, h1, h⟩ := readsL_cons h
  cases e
  obtain ⟨_, _, e, h2, h⟩ := readsL_cons h
  cases e
  obtain ⟨_, _, e, _, h⟩ := readsL_cons h
  cases e
  exact ⟨h1, h2⟩
def IsFl (W : World) (v : Value) : Prop := ∃ (x : Fl) (u1 u2 : Value), v = flV x u1 u2 ∧ Reads W W.heap.size (tys x.lo) u1 ∧ Reads W W.heap.size (tys x.st) u2 ∧ FlR x
set_option maxRecDepth 100000 in
theorem openFl {H : Type} {enc : TypeId × Value → H} {W : World} {r : Reach} {base : Nat} {v : Value} {d : DataW H} {p : List MemPlace}
    (hv : Value.okWide Try.prog W r base 27 v) (h : DataW.Trod enc Try.prog W 0 (fun _ => true) true 27 v d p) : IsFl W v := by
  have c0 : Try.prog.cellsOf 27 = 3 := by kernel_rfl
  have cc0 : Try.prog.cellsOf 25 = 1 := by kernel_rfl
  have cc1 : Try.prog.cellsOf 3 = 1 := by kernel_rfl
  obtain ⟨cs, rfl, _⟩ := okWide_struct Try.underlying27 hv
  obtain ⟨fuel, h⟩ := h
  obtain ⟨xs, n, rfl, hd, hlen, hxl, hf⟩ := DataW.trod_struct Try.underlying27 h
  rw [c0] at hlen
  have hcs : (Value.agg cs).cells.toList = cs.toList := rfl
  rw [hcs] at hlen hf
  obtain ⟨l⟩ := cs
  match xs, hxl, l, hlen with
  | [y0, y1, y2], _, [v0, v1, v2], _ =>
    have g0 := hf 0 _ rfl
    have g1 := hf 1 _ rfl
    have g2 := hf 2 _ rfl
    simp [cc0, cc1] at g0 g1 g2
    obtain ⟨a2, e2, _, b2⟩ := DataW.trod_int Try.underlying3 g2
    simp at e2
    subst e2
    obtain ⟨z0, h0a, h0b, h0c⟩ := rd_open (sz := 2) (Q := TyR) (f := tyC) Try.underlying25 (by kernel_rfl) (by decide) (fun _ => rfl) (fun _ _ _ h => ty_cells h) ⟨_, g0⟩
    have r0 : Reads W W.heap.size (tys z0) v0 := by
      have := reads_row (T := 51) (f := tyD) (m := id) z0 h0a (fun y _ => ty_reads y)
      rwa [List.map_id] at this
    obtain ⟨z1, h1a, h1b, h1c⟩ := rd_open (sz := 2) (Q := TyR) (f := tyC) Try.underlying25 (by kernel_rfl) (by decide) (fun _ => rfl) (fun _ _ _ h => ty_cells h) ⟨_, g1⟩
    have r1 : Reads W W.heap.size (tys z1) v1 := by
      have := reads_row (T := 51) (f := tyD) (m := id) z1 h1a (fun y _ => ty_reads y)
      rwa [List.map_id] at this
    exact ⟨⟨z0, z1, a2⟩, v0, v1, rfl, r0, r1, ⟨⟨h0b, all_of_getD h0c⟩, ⟨h1b, all_of_getD h1c⟩, bounds_i64 b2⟩⟩
end Go.Proofs.Ytobomcfiincpoaa
