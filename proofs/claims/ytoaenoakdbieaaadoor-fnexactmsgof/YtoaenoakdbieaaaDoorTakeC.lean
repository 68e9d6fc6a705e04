/-
  What takeFlag, takeCell and takeNote do: what begins at the place, and the place behind it; or a panic, where there is none.
-/
import Derived.Test.YtoaenoakdbieaaaDoorRMsg
import Derived.Test.YtoaenoakdbieaaaDoorTakeNum
import Derived.Test.YtoaenoakdbieaaaDoorMarks
namespace Go.Proofs.YtoaenoakdbieaaaDoor
open Go.RowKit

/-- A reader's bytes, its place, and what it panics with. -/
structure Rdr (w : World) (B : Nat) (a : Option Addr) (len : Nat) (zs : List Int) (p k : Nat) (t : TypeId) (v : Value) : Prop where
  inp : In w B a len zs
  hB : B ≤ p
  hp0 : 0 < p
  err : Err w t v
  pl : w.heap[p]? = some (.cells #[.int .i64 (k : Int)] 3 (0, 0))

theorem Rdr.lt {w : World} {B : Nat} {a : Option Addr} {len : Nat} {zs : List Int} {p k : Nat} {t : TypeId} {v : Value} (h : Rdr w B a len zs p k t v) : p < w.heap.size := (Array.getElem?_eq_some_iff.1 h.pl).1
theorem Rdr.next {w w' : World} {B : Nat} {a : Option Addr} {len : Nat} {zs : List Int} {p k k' : Nat} {t : TypeId} {v : Value} (h : Rdr w B a len zs p k t v) (hg : w.grownBy w' (some p)) (hp : w'.heap[p]? = some (.cells #[.int .i64 (k' : Int)] 3 (0, 0))) : Rdr w' B a len zs p k' t v :=
  ⟨h.inp.out hg h.hB h.lt, h.hB, h.hp0, h.err.out hg h.hp0, hp⟩
theorem Rdr.far {w w' : World} {B : Nat} {a : Option Addr} {len : Nat} {zs : List Int} {p k : Nat} {t : TypeId} {v : Value} {row : Option Nat} (h : Rdr w B a len zs p k t v) (hg : w.grownBy w' row) (hne : ∀ q, row = some q → p < q) : Rdr w' B a len zs p k t v := by
  have hl := h.lt
  have hB := h.hB
  have h0 := h.hp0
  refine ⟨h.inp.kept (fun q hq => hg.block q (by omega) (fun e => by have := hne q e.symm; omega)), hB, h0, ?_, (hg.block p hl (fun e => by have := hne p e.symm; omega)).trans h.pl⟩
  exact hg.cell h.err (fun e => by have := hne 0 e.symm; omega)
theorem Rdr.alloc {w : World} {B : Nat} {a : Option Addr} {len : Nat} {zs : List Int} {p k : Nat} {t : TypeId} {v : Value} (h : Rdr w B a len zs p k t v) (o : Obj) : Rdr (w.alloc o) B a len zs p k t v :=
  h.far (World.grownBy_alloc w o none) (fun q e => by cases e)
theorem Rdr.set {w : World} {B : Nat} {a : Option Addr} {len : Nat} {zs : List Int} {p k : Nat} {t : TypeId} {v : Value} (h : Rdr w B a len zs p k t v) {g : Nat} (hg : p < g) (o : Nat) (u : Value) : Rdr (w.setCell ⟨g, o, none⟩ u) B a len zs p k t v :=
  h.far (grown_set (World.grownBy.refl w _) o u) (fun q e => by cases e; exact hg)

/-- What is taken. -/
def tookG {α : Type} (Val : α → Value) (w : World) (p : Nat) (t : TypeId) (v : Value) (r : Option (α × Nat)) (e : Ending) (w' : World) : Prop :=
  ((∃ x nx, r = some (x, nx) ∧ e = .returned (Val x) ∧ w'.heap[p]? = some (.cells #[.int .i64 ((nx : Nat) : Int)] 3 (0, 0))) ∨
   (r = none ∧ e = .panicked [{ v := .iface t v, recovered := false }])) ∧ w.grownBy w' (some p)

theorem rdNum {w : World} {B : Nat} {a : Option Addr} {len : Nat} {zs : List Int} {p k : Nat} {t : TypeId} {v : Value} (cap : Nat) (h : Rdr w B a len zs p k t v) :
    Calls Tryd.prog 103 #[.slice a len cap, .pointer (some ⟨p, 0, none⟩)] w (took w p t v (gnF zs 4 k 0 1)) :=
  takeNum w a len cap zs B p k t v h.inp h.hB h.hp0 h.err h.pl
theorem rdWord {w : World} {B : Nat} {a : Option Addr} {len : Nat} {zs : List Int} {p k : Nat} {t : TypeId} {v : Value} (cap : Nat) (h : Rdr w B a len zs p k t v) :
    Calls Tryd.prog 125 #[.slice a len cap, .pointer (some ⟨p, 0, none⟩)] w (took w p t v (gw zs (k : Int))) :=
  takeWord w a len cap zs B p k t v h.inp h.hB h.hp0 h.err h.pl

def rFlag (zs : List Int) (k : Nat) : Option (Bool × Nat) := (gnF zs 4 k 0 1).bind fun f => if 1 < f.1 then none else some (f.1 == 1, f.2)

set_option maxHeartbeats 1000000 in
theorem rdFlag {w : World} {B : Nat} {a : Option Addr} {len : Nat} {zs : List Int} {p k : Nat} {t : TypeId} {v : Value} (cap : Nat) (h : Rdr w B a len zs p k t v) :
    Calls Tryd.prog 124 #[.slice a len cap, .pointer (some ⟨p, 0, none⟩)] w (tookG Value.bool w p t v (rFlag zs k)) := by
  have HR := hide h
  clear h
  go_enter Tryd.func124, Tryd.ntmps124
  go_wp2_with fail
  refine (rdNum cap HR.out).mono ?_
  rintro e w1 ⟨hres, hg⟩
  have HG := hide hg
  clear hg
  rcases hres with ⟨n, nx, hr, rfl, hp1⟩ | ⟨hr, rfl⟩
  · have HP := hide hp1
    have hE : w1.cell? ⟨0, 0, none⟩ = some (.iface t v) := (HR.out.next HG.out hp1).err
    clear hp1
    by_cases hn : 1 < n
    · have HN : Hid (rFlag zs k = none) := hide (by unfold rFlag; rw [hr]; simp [hn])
      clear hr
      go_wp2
      exact ⟨rfl, .inr ⟨HN.out, rfl⟩, HG.out⟩
    · have HN : Hid (rFlag zs k = some (n == 1, nx)) := hide (by unfold rFlag; rw [hr]; simp [hn])
      clear hr hE
      go_wp2
      go_ret
      exact ⟨.inl ⟨_, _, HN.out, rfl, HP.out⟩, HG.out⟩
  · have HN : Hid (rFlag zs k = none) := hide (by unfold rFlag; rw [hr]; rfl)
    clear hr
    go_wp2
    exact ⟨rfl, .inr ⟨HN.out, rfl⟩, HG.out⟩

def cellV (x : Int × Bool × Int) : Value := .agg #[.int .i64 x.1, .bool x.2.1, .int .i64 x.2.2]
def noteV (x : Int × Int) : Value := .agg #[.int .i64 x.1, .int .i64 x.2]

theorem rCell_flag (zs : List Int) (k : Nat) : rCell zs k = (gnF zs 4 k 0 1).bind fun a => (rFlag zs a.2).bind fun f => if f.1 = true then (gnF zs 4 f.2 0 1).bind fun y => some ((a.1, true, y.1), y.2) else (gw zs (f.2 : Int)).bind fun y => some ((a.1, false, y.1), y.2) := by
  unfold rCell
  congr 1
  funext a
  unfold rFlag
  rw [Option.bind_assoc]
  congr 1
  funext f
  by_cases h : 1 < f.1
  · rw [if_pos h, if_pos h]; rfl
  · rw [if_neg h, if_neg h]
    simp only [Option.bind_some, beq_iff_eq]

theorem load3 {w : World} {g : Nat} {x y z : Value} (h : w.heap[g]? = some (.cells #[x, y, z] 74 (0, 0))) : (loadVar 74 ⟨g, 0, none⟩).run Tryd.prog w = .ok (.agg #[x, y, z]) w :=
  run_loadVar_row w g 74 74 #[x, y, z] (0, 0) _ h Tryd.underlying74 rfl (by kernel_rfl)
theorem load2 {w : World} {g : Nat} {x y : Value} (h : w.heap[g]? = some (.cells #[x, y] 77 (0, 0))) : (loadVar 77 ⟨g, 0, none⟩).run Tryd.prog w = .ok (.agg #[x, y]) w :=
  run_loadVar_row w g 77 77 #[x, y] (0, 0) _ h Tryd.underlying77 rfl (by kernel_rfl)
theorem put3 {w : World} {g : Nat} {T : TypeId} {a0 a1 a2 : Value} (h : w.heap[g]? = some (.cells #[a0, a1, a2] T (0, 0))) (b0 b1 b2 : Value) :
    (((w.setCell ⟨g, 0, none⟩ b0).setCell ⟨g, 1, none⟩ b1).setCell ⟨g, 2, none⟩ b2).heap[g]? = some (.cells #[b0, b1, b2] T (0, 0)) := by
  have h0 : (w.setCell ⟨g, 0, none⟩ b0).heap[g]? = some (.cells #[b0, a1, a2] T (0, 0)) := heap_setCell_same w g 0 _ T b0 h
  have h1 : ((w.setCell ⟨g, 0, none⟩ b0).setCell ⟨g, 1, none⟩ b1).heap[g]? = some (.cells #[b0, b1, a2] T (0, 0)) := heap_setCell_same _ g 1 _ T b1 h0
  exact heap_setCell_same _ g 2 _ T b2 h1
theorem put2 {w : World} {g : Nat} {T : TypeId} {a0 a1 : Value} (h : w.heap[g]? = some (.cells #[a0, a1] T (0, 0))) (b0 b1 : Value) :
    ((w.setCell ⟨g, 0, none⟩ b0).setCell ⟨g, 1, none⟩ b1).heap[g]? = some (.cells #[b0, b1] T (0, 0)) := by
  have h0 : (w.setCell ⟨g, 0, none⟩ b0).heap[g]? = some (.cells #[b0, a1] T (0, 0)) := heap_setCell_same w g 0 _ T b0 h
  exact heap_setCell_same _ g 1 _ T b1 h0
theorem grown_new {w wr : World} {p g : Nat} (h : w.grownBy wr (some p)) (hg : w.heap.size ≤ g) (o : Nat) (v : Value) : w.grownBy (wr.setCell ⟨g, o, none⟩ v) (some p) :=
  grown_step h (grown_set (World.grownBy.refl wr _) o v) (fun k e => by cases e; exact .inr hg)
theorem set_place {w : World} {g p : Nat} (h : p < g) (o : Nat) (u : Value) : (w.setCell ⟨g, o, none⟩ u).heap[p]? = w.heap[p]? := heap_setCell_other w ⟨g, o, none⟩ p u (by simp; omega)
end Go.Proofs.YtoaenoakdbieaaaDoor
