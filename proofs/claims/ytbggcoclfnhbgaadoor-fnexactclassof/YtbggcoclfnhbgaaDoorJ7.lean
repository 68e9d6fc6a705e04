/-
  Joined: BoxW, Rdr, TakeText.
-/
import Derived.Test.YtbggcoclfnhbgaaDoorJ1
import Derived.Test.YtbggcoclfnhbgaaDoorJ6
import Derived.Test.YtbggcoclfnhbgaaDoorJ3
import Derived.Test.YtbggcoclfnhbgaaDoorJ4
import Derived.Laws.BytesArg
/-
  Variables as boxes of cells: what is read of them, and what stays of them; results that lie in a variable.
-/
namespace Go.Proofs.YtbggcoclfnhbgaaDoor
open Go.RowKit

/-- The cells of a variable. -/
def Box (w : World) (g : Nat) (vs : List Value) : Prop := ∀ j v, vs[j]? = some v → w.cell? ⟨g, j, none⟩ = some v
theorem Box.below {w w' : World} {g : Nat} {vs : List Value} (h : Box w g vs) (hg : g < w.heap.size) (hb : Below w.heap.size w w') : Box w' g vs :=
  fun j v hv => (hb.cell (p := ⟨g, j, none⟩) hg).trans (h j v hv)
theorem Box.new (w : World) (vs : Array Value) (T : TypeId) : Box (w.alloc (.cells vs T)) w.heap.size vs.toList := fun j v hv => by
  rw [World.cell?_alloc_new]; simpa using hv
/-- The cells of a block. -/
theorem box_of {w : World} {g : Nat} {T : TypeId} {vs : Array Value} (h : w.heap[g]? = some (.cells vs T (0, 0))) : Box w g vs.toList ∧ ∀ j, w.frozen? ⟨g, j, none⟩ = false :=
  ⟨fun j v hv => by rw [cell_of_row w g j _ T (0, 0) h]; simpa using hv, fun j => frozen_of_row w g j _ T h⟩
theorem Box.apart {w w' : World} {g : Nat} {row : Option Nat} {vs : List Value} (h : Box w g vs) (hg : g < w.heap.size) (hgr : w.grownBy w' row) (hne : row ≠ some g) : Box w' g vs :=
  fun j v hv => (World.cell?_of_block (w := w) (hgr.block g hg (fun e => hne e.symm))).trans (h j v hv)
theorem boxDrewN {w : World} {g : Nat} {vs : List Value} (h : Box w g vs) (q : Nat) : Box (w.drewN q) g vs := h
theorem ownKept {w w' : World} {b : Nat} {v : Value} {row : Option Nat} {zs : List Int} (h : Own w b v zs) (hg : w.grownBy w' row) (hne : ∀ q, v.ownBlock = some q → row ≠ some q) : Own w' b v zs := by
  refine World.ownsRow.kept h hg ?_
  cases hv : v.ownBlock with
  | none => exact .inl rfl
  | some q => exact .inr (fun e => hne q hv e.symm)
theorem grown_set {w wr : World} {g : Nat} (h : w.grownBy wr (some g)) (o : Nat) (v : Value) : w.grownBy (wr.setCell ⟨g, o, none⟩ v) (some g) :=
  grownBy_trans h ⟨rfl, rfl, rfl, by simp, fun k _ hk => heap_setCell_other wr ⟨g, o, none⟩ k _ (fun e => hk (by rw [e]))⟩
theorem own_set {w : World} {b e sz n : Nat} {v : Value} {cs : List Value} (h : w.ownsRow b e sz v n cs) {g : Nat} (hg : g < b) (o : Nat) (u : Value) : (w.setCell ⟨g, o, none⟩ u).ownsRow b e sz v n cs := ownsRow_setCell_below h (a := ⟨g, o, none⟩) hg u
theorem results_one {fn : Func} {p : Tmp} {ty : TypeId} {v : Value} {g : Addr} (h : fn.results = #[.cell p ty]) (tmps : Array Value) (P : Program) (w : World) (hg : tmps.getD p undef = .pointer (some g)) (hl : (loadVar ty g).run P w = .ok v w) :
    (results fn tmps).run P w = .ok v w := by
  have h' : ((asAddr (tmps.getD p undef)).run P w).andThen (fun a w₁ => (loadVar ty a).run P w₁) = .ok v w := by rw [hg]; simpa [asAddr, Result.andThen] using hl
  simp only [results, h]
  simpa [Sem.run_bind, Result.andThen] using h'
theorem results_ct {fn : Func} {p u : Tmp} {ty : TypeId} {v : Value} {g : Addr} (h : fn.results = #[.cell p ty, .tmp u]) (tmps : Array Value) (P : Program) (w : World) (hg : tmps.getD p undef = .pointer (some g)) (hl : (loadVar ty g).run P w = .ok v w) :
    (results fn tmps).run P w = .ok (.tuple #[v, tmps.getD u undef]) w := by
  rw [results_cell_tmp h, hg]
  simp [asAddr, Result.andThen, hl]
theorem results_cct {fn : Func} {p0 p1 u : Tmp} {t0 t1 : TypeId} {v0 v1 : Value} {g0 g1 : Addr} (h : fn.results = #[.cell p0 t0, .cell p1 t1, .tmp u]) (tmps : Array Value) (P : Program) (w : World)
    (hg0 : tmps.getD p0 undef = .pointer (some g0)) (hg1 : tmps.getD p1 undef = .pointer (some g1)) (hl0 : (loadVar t0 g0).run P w = .ok v0 w) (hl1 : (loadVar t1 g1).run P w = .ok v1 w) :
    (results fn tmps).run P w = .ok (.tuple #[v0, v1, tmps.getD u undef]) w := by
  have h' : ((asAddr (tmps.getD p0 undef)).run P w).andThen (fun a w₁ => ((loadVar t0 a).run P w₁).andThen fun x w₂ => ((asAddr (tmps.getD p1 undef)).run P w₂).andThen (fun a w₃ => ((loadVar t1 a).run P w₃).andThen fun y w₄ => Result.ok (Value.tuple #[x, y, tmps.getD u undef]) w₄)) = Result.ok (Value.tuple #[v0, v1, tmps.getD u undef]) w := by
    rw [hg0, hg1]
    simp [asAddr, Result.andThen, hl0, hl1]
  simp only [results, h]
  simpa [Sem.run_bind, Result.andThen] using h'
end Go.Proofs.YtbggcoclfnhbgaaDoor
/-
  Readers: their bytes, their place, and what they take.
-/
namespace Go.Proofs.YtbggcoclfnhbgaaDoor
open Go.RowKit

/-- A reader's bytes, its place, and what it panics with. -/
structure Rdr (w : World) (B : Nat) (a : Option Addr) (len : Nat) (zs : List Int) (p k : Nat) (t : TypeId) (v : Value) : Prop where
  inp : In w B a len zs
  hB : B ≤ p
  hp0 : 0 < p
  err : Err w t v
  pl : w.heap[p]? = some (.cells #[.int .i64 (k : Int)] 3 (0, 0))

theorem Rdr.lt {w : World} {B : Nat} {a : Option Addr} {len : Nat} {zs : List Int} {p k : Nat} {t : TypeId} {v : Value} (h : Rdr w B a len zs p k t v) : p < w.heap.size := (Array.getElem?_eq_some_iff.1 h.pl).1
theorem Rdr.next {w w' : World} {B : Nat} {a : Option Addr} {len : Nat} {zs : List Int} {p k k' : Nat} {t : TypeId} {v : Value} (h : Rdr w B a len zs p k t v) (hg : w.grownBy w' (some p)) (hp : w'.heap[p]? = some (.cells #[.int .i64 (k' : Int)] 3 (0, 0))) : Rdr w' B a len zs p k' t v :=
  ⟨h.inp.out hg h.hB h.lt, h.hB, h.hp0, h.err.out hg h.hp0, hp⟩
theorem Rdr.far {w w' : World} {B : Nat} {a : Option Addr} {len : Nat} {zs : List Int} {p k : Nat} {t : TypeId} {v : Value} {row : Option Nat} (h : Rdr w B a len zs p k t v) (hg : w.grownBy w' row) (hne : ∀ q, row = some q → p < q) : Rdr w' B a len zs p k t v := by
  have hl := h.lt
  have hB := h.hB
  have h0 := h.hp0
  refine ⟨h.inp.kept (fun q hq => hg.block q (by omega) (fun e => by have := hne q e.symm; omega)), hB, h0, ?_, (hg.block p hl (fun e => by have := hne p e.symm; omega)).trans h.pl⟩
  exact hg.cell h.err (fun e => by have := hne 0 e.symm; omega)
theorem Rdr.alloc {w : World} {B : Nat} {a : Option Addr} {len : Nat} {zs : List Int} {p k : Nat} {t : TypeId} {v : Value} (h : Rdr w B a len zs p k t v) (o : Obj) : Rdr (w.alloc o) B a len zs p k t v :=
  h.far (World.grownBy_alloc w o none) (fun q e => by cases e)
theorem Rdr.set {w : World} {B : Nat} {a : Option Addr} {len : Nat} {zs : List Int} {p k : Nat} {t : TypeId} {v : Value} (h : Rdr w B a len zs p k t v) {g : Nat} (hg : p < g) (o : Nat) (u : Value) : Rdr (w.setCell ⟨g, o, none⟩ u) B a len zs p k t v :=
  h.far (grown_set (World.grownBy.refl w _) o u) (fun q e => by cases e; exact hg)

/-- What is taken. -/
def tookG {α : Type} (Val : α → Value) (w : World) (p : Nat) (t : TypeId) (v : Value) (r : Option (α × Nat)) (e : Ending) (w' : World) : Prop :=
  ((∃ x nx, r = some (x, nx) ∧ e = .returned (Val x) ∧ w'.heap[p]? = some (.cells #[.int .i64 ((nx : Nat) : Int)] 3 (0, 0))) ∨
   (r = none ∧ e = .panicked [{ v := .iface t v, recovered := false }])) ∧ w.grownBy w' (some p)

theorem rdNum {w : World} {B : Nat} {a : Option Addr} {len : Nat} {zs : List Int} {p k : Nat} {t : TypeId} {v : Value} (cap : Nat) (h : Rdr w B a len zs p k t v) :
    Calls Tryd.prog 84 #[.slice a len cap, .pointer (some ⟨p, 0, none⟩)] w (took w p t v (gnF zs 4 k 0 1)) :=
  takeNum w a len cap zs B p k t v h.inp h.hB h.hp0 h.err h.pl
theorem rdWord {w : World} {B : Nat} {a : Option Addr} {len : Nat} {zs : List Int} {p k : Nat} {t : TypeId} {v : Value} (cap : Nat) (h : Rdr w B a len zs p k t v) :
    Calls Tryd.prog 98 #[.slice a len cap, .pointer (some ⟨p, 0, none⟩)] w (took w p t v (gw zs (k : Int))) :=
  takeWord w a len cap zs B p k t v h.inp h.hB h.hp0 h.err h.pl

theorem byt_of_in {w : World} {B len : Nat} {a : Option Addr} {zs : List Int} (h : In w B a len zs) : Byt zs := by
  intro z hz
  obtain ⟨j, hj, rfl⟩ := List.getElem_of_mem hz
  have hl := h.1
  have := h.2.2.1 j (by omega)
  simpa [hj] using this

/-- What is taken, in new memory. -/
def tookL {α : Type} (Row : World → Value → α → Prop) (w : World) (p : Nat) (t : TypeId) (v : Value) (r : Option (α × Nat)) (e : Ending) (w' : World) : Prop :=
  ((∃ x nx u, r = some (x, nx) ∧ e = .returned u ∧ Row w' u x ∧ w'.heap[p]? = some (.cells #[.int .i64 ((nx : Nat) : Int)] 3 (0, 0))) ∨
   (r = none ∧ e = .panicked [{ v := .iface t v, recovered := false }])) ∧ w.grownBy w' (some p)

end Go.Proofs.YtbggcoclfnhbgaaDoor
/-
  What takeText does: the text that begins at the place, and the place behind it; or a panic, where there is none.
-/
namespace Go.Proofs.YtbggcoclfnhbgaaDoor
open Go.RowKit

theorem gnF_bd (zs : List Int) (hz : ∀ j, 0 ≤ zs.getD j 0) : ∀ (f k : Nat) (m wt n : Int) (nx : Nat), 0 ≤ m → 0 ≤ wt → gnF zs f k m wt = some (n, nx) → 0 ≤ n ∧ n ≤ 16777215 ∧ k < nx ∧ nx ≤ zs.length
  | 0, _, _, _, _, _, _, _, h => by simp [gnF] at h
  | f + 1, k, m, wt, n, nx, hm, hw, h => by
    have hp : 0 ≤ zs.getD k 0 % 128 * wt := Int.mul_nonneg (by omega) hw
    unfold gnF at h
    split at h
    · split at h
      · split at h
        · cases h
        · rename_i h1 _ h2
          simp only [Option.some.injEq, Prod.mk.injEq] at h
          obtain ⟨rfl, rfl⟩ := h
          exact ⟨by omega, by omega, by omega, by omega⟩
      · have := gnF_bd zs hz f (k + 1) _ _ n nx (by omega) (Int.mul_nonneg hw (by decide)) h
        omega
    · cases h

/-- The text that begins at place k, and the place behind it. -/
def gtOf (zs : List Int) : Option (Int × Nat) → Option (ByteArray × Nat)
  | some (n, nx) => if n ≤ 200 ∧ nx + n.toNat ≤ zs.length then some (strOfNums ((zs.drop nx).take n.toNat), nx + n.toNat) else none
  | none => none

theorem gtOf_no (zs : List Int) (n : Int) (nx : Nat) (h : ¬ (n ≤ 200 ∧ nx + n.toNat ≤ zs.length)) : gtOf zs (some (n, nx)) = none := by
  simp only [gtOf]; rw [if_neg h]
theorem gtOf_yes (zs : List Int) (n : Int) (nx : Nat) (h : n ≤ 200 ∧ nx + n.toNat ≤ zs.length) : gtOf zs (some (n, nx)) = some (strOfNums ((zs.drop nx).take n.toNat), nx + n.toNat) := by
  simp only [gtOf]; rw [if_pos h]

def tookT (w : World) (p : Nat) (t : TypeId) (v : Value) (r : Option (ByteArray × Nat)) (e : Ending) (w' : World) : Prop :=
  ((∃ s nx, r = some (s, nx) ∧ e = .returned (.string s) ∧ w'.heap[p]? = some (.cells #[.int .i64 ((nx : Nat) : Int)] 3 (0, 0))) ∨
   (r = none ∧ e = .panicked [{ v := .iface t v, recovered := false }])) ∧ w.grownBy w' (some p)

theorem text_cells {w : World} {b o : Nat} {zs : List Int} {nx N : Nat} (hc : ∀ j, j < zs.length → w.cell? ⟨b, o + j, none⟩ = some (.int .u8 (zs.getD j 0))) (hN : nx + N ≤ zs.length) :
    ∀ i, i < N → w.cell? ⟨b, o + nx + i, none⟩ = some (.int .u8 (((zs.drop nx).take N).getD i 0)) := by
  intro i hi
  rw [Nat.add_assoc, hc (nx + i) (by omega)]
  simp [List.getD, hi]

set_option maxRecDepth 100000 in
set_option maxHeartbeats 1000000 in
theorem takeText (w : World) (a : Option Addr) (len cap : Nat) (zs : List Int) (B p : Nat) (k : Int) (t : TypeId) (v : Value) (r : Option (Int × Nat)) (hin : In w B a len zs) (hcap : len ≤ cap) (hB : B ≤ p) (hp0 : 0 < p) (hE : Err w t v)
    (hp : w.heap[p]? = some (.cells #[.int .i64 k] 3 (0, 0))) (hr : ∀ n nx, r = some (n, nx) → 0 ≤ n ∧ n ≤ 16777215 ∧ 0 < nx ∧ nx ≤ zs.length)
    (hT : Calls Tryd.prog 84 #[.slice a len cap, .pointer (some ⟨p, 0, none⟩)] w (took w p t v r)) :
    Calls Tryd.prog 62 #[.slice a len cap, .pointer (some ⟨p, 0, none⟩)] w (tookT w p t v (gtOf zs r)) := by
  have hlen := hin.1
  have hl := hin.2.1
  have hpw : p < w.heap.size := (Array.getElem?_eq_some_iff.1 hp).1
  have HT := hide hT
  clear hT
  go_enter Tryd.func62, Tryd.ntmps62
  go_wp2_with fail
  refine (unhide HT).mono ?_
  rintro e w1 ⟨h1, hg1⟩
  rcases h1 with ⟨n, nx, rfl, rfl, hp1⟩ | ⟨rfl, rfl⟩
  · obtain ⟨hn0, hn1, hx0, hx1⟩ := hr n nx rfl
    have hE1 := hE.out hg1 hp0
    have hin1 := hin.out hg1 hB hpw
    have HG := hide hg1
    have c0 : w1.cell? ⟨p, 0, none⟩ = some (.int .i64 (nx : Int)) := by rw [cell_of_row _ _ 0 _ 3 (0, 0) hp1]; rfl
    have f0 : w1.frozen? ⟨p, 0, none⟩ = false := frozen_of_row _ _ 0 _ 3 hp1
    obtain ⟨N, rfl⟩ := Int.eq_ofNat_of_zero_le hn0
    obtain ⟨b, o, rfl, hbB, hcell⟩ := hin1.2.2.2 (by omega)
    unfold Err at hE1
    have PP := place_put (y := (nx : Int) + (N : Int)) hg1 hp1
    have HPP := hide PP
    have hin2 := hin.out PP.2 hB hpw
    obtain ⟨b2, o2, e2, _, hcell2⟩ := hin2.2.2.2 (by omega)
    simp only [Option.some.injEq, Addr.mk.injEq, and_true] at e2
    obtain ⟨rfl, rfl⟩ := e2
    rw [← hlen] at hcell2
    clear hin2
    clear hr HT hin hE hp hg1 hp1 PP
    by_cases h2 : (200 : Int) < (N : Int)
    · have HN : Hid (gtOf zs (some ((N : Int), nx)) = none) := gtOf_no _ _ _ (by omega)
      clear hin1 hcell
      go_wp2
      exact ⟨rfl, .inr ⟨HN.out, rfl⟩, HG.out⟩
    · by_cases h3 : nx + N ≤ len
      · have HN : Hid (gtOf zs (some ((N : Int), nx)) = some (strOfNums ((zs.drop nx).take N), nx + N)) := gtOf_yes _ _ _ (by omega)
        have hcv := run_convert_bytes_arg (P := Tryd.prog) (w1.setCell ⟨p, 0, none⟩ (.int .i64 ((nx : Int) + (N : Int)))) 22 5 Tryd.underlying22 Tryd.underlying5 b (o + nx) N (cap - nx) ((zs.drop nx).take N) (by simp; omega) (text_cells hcell2 (by omega)) 9 Tryd.underlying9
        have hcv0 := fun W : World => run_convert_bytes_arg (P := Tryd.prog) W 22 5 Tryd.underlying22 Tryd.underlying5 b o 0 0 [] rfl (fun i hi => by omega) 9 Tryd.underlying9
        clear hin1 hcell hcell2
        by_cases hcn : cap = nx
        · have hN0 : N = 0 := by omega
          subst hN0
          have HP2 : Hid ((w1.setCell ⟨p, 0, none⟩ (.int .i64 (nx : Int))).heap[p]? = some (.cells #[.int .i64 ((nx + 0 : Nat) : Int)] 3 (0, 0)) ∧ w.grownBy (w1.setCell ⟨p, 0, none⟩ (.int .i64 (nx : Int))) (some p)) := by
            have := HPP.out
            show _ ∧ _
            simpa using this
          have HN2 : Hid (gtOf zs (some (((0 : Nat) : Int), nx)) = some (strOfNums [], nx + 0)) := HN.out
          clear HN HPP hcv
          generalize strOfNums [] = S at *
          go_wp2
          go_ret
          exact ⟨.inl ⟨_, _, HN2.out, rfl, HP2.out.1⟩, HP2.out.2⟩
        · generalize strOfNums ((zs.drop nx).take N) = S at *
          clear hcv0
          go_wp2
          go_ret
          exact ⟨.inl ⟨_, _, HN.out, rfl, HPP.out.1⟩, HPP.out.2⟩
      · have HN : Hid (gtOf zs (some ((N : Int), nx)) = none) := gtOf_no _ _ _ (by omega)
        clear hin1 hcell
        go_wp2
        exact ⟨rfl, .inr ⟨HN.out, rfl⟩, HG.out⟩
  · clear hr HT hin hE hp
    have HG := hide hg1
    clear hg1
    go_wp2
    exact ⟨rfl, .inr ⟨rfl, rfl⟩, HG.out⟩
end Go.Proofs.YtbggcoclfnhbgaaDoor
