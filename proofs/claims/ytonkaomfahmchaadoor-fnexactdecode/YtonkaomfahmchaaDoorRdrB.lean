/-
  Readers: their bytes, their place, and what they take.
-/
import Derived.Test.YtonkaomfahmchaaDoorTake
import Derived.Test.YtonkaomfahmchaaDoorBoxW
namespace Go.Proofs.YtonkaomfahmchaaDoor
open Go.RowKit

/-- A reader's bytes, its place, and what it panics with. -/
structure Rdr (w : World) (B : Nat) (a : Option Addr) (len : Nat) (zs : List Int) (p k : Nat) (t : TypeId) (v : Value) : Prop where
  inp : In w B a len zs
  hB : B ≤ p
  hp0 : 0 < p
  err : Err w t v
  pl : w.heap[p]? = some (.cells #[.int .i64 (k : Int)] 3 (0, 0))

theorem Rdr.lt {w : World} {B : Nat} {a : Option Addr} {len : Nat} {zs : List Int} {p k : Nat} {t : TypeId} {v : Value} (h : Rdr w B a len zs p k t v) : p < w.heap.size := (Array.getElem?_eq_some_iff.1 h.pl).1
theorem Rdr.next {w w' : World} {B : Nat} {a : Option Addr} {len : Nat} {zs : List Int} {p k k' : Nat} {t : TypeId} {v : Value} (h : Rdr w B a len zs p k t v) (hg : w.grownBy w' (some p)) (hp : w'.heap[p]? = some (.cells #[.int .i64 (k' : Int)] 3 (0, 0))) : Rdr w' B a len zs p k' t v :=
  ⟨h.inp.out hg h.hB h.lt, h.hB, h.hp0, h.err.out hg h.hp0, hp⟩
theorem Rdr.far {w w' : World} {B : Nat} {a : Option Addr} {len : Nat} {zs : List Int} {p k : Nat} {t : TypeId} {v : Value} {row : Option Nat} (h : Rdr w B a len zs p k t v) (hg : w.grownBy w' row) (hne : ∀ q, row = some q → p < q) : Rdr w' B a len zs p k t v := by
  have hl := h.lt
  have hB := h.hB
  have h0 := h.hp0
  refine ⟨h.inp.kept (fun q hq => hg.block q (by omega) (fun e => by have := hne q e.symm; omega)), hB, h0, ?_, (hg.block p hl (fun e => by have := hne p e.symm; omega)).trans h.pl⟩
  exact hg.cell h.err (fun e => by have := hne 0 e.symm; omega)
theorem Rdr.alloc {w : World} {B : Nat} {a : Option Addr} {len : Nat} {zs : List Int} {p k : Nat} {t : TypeId} {v : Value} (h : Rdr w B a len zs p k t v) (o : Obj) : Rdr (w.alloc o) B a len zs p k t v :=
  h.far (World.grownBy_alloc w o none) (fun q e => by cases e)
theorem Rdr.set {w : World} {B : Nat} {a : Option Addr} {len : Nat} {zs : List Int} {p k : Nat} {t : TypeId} {v : Value} (h : Rdr w B a len zs p k t v) {g : Nat} (hg : p < g) (o : Nat) (u : Value) : Rdr (w.setCell ⟨g, o, none⟩ u) B a len zs p k t v :=
  h.far (grown_set (World.grownBy.refl w _) o u) (fun q e => by cases e; exact hg)

/-- What is taken. -/
def tookG {α : Type} (Val : α → Value) (w : World) (p : Nat) (t : TypeId) (v : Value) (r : Option (α × Nat)) (e : Ending) (w' : World) : Prop :=
  ((∃ x nx, r = some (x, nx) ∧ e = .returned (Val x) ∧ w'.heap[p]? = some (.cells #[.int .i64 ((nx : Nat) : Int)] 3 (0, 0))) ∨
   (r = none ∧ e = .panicked [{ v := .iface t v, recovered := false }])) ∧ w.grownBy w' (some p)

theorem byt_of_in {w : World} {B len : Nat} {a : Option Addr} {zs : List Int} (h : In w B a len zs) : Byt zs := by
  intro z hz
  obtain ⟨j, hj, rfl⟩ := List.getElem_of_mem hz
  have hl := h.1
  have := h.2.2.1 j (by omega)
  simpa [hj] using this

/-- What is taken, in new memory. -/
def tookL {α : Type} (Row : World → Value → α → Prop) (w : World) (p : Nat) (t : TypeId) (v : Value) (r : Option (α × Nat)) (e : Ending) (w' : World) : Prop :=
  ((∃ x nx u, r = some (x, nx) ∧ e = .returned u ∧ Row w' u x ∧ w'.heap[p]? = some (.cells #[.int .i64 ((nx : Nat) : Int)] 3 (0, 0))) ∨
   (r = none ∧ e = .panicked [{ v := .iface t v, recovered := false }])) ∧ w.grownBy w' (some p)

end Go.Proofs.YtonkaomfahmchaaDoor
