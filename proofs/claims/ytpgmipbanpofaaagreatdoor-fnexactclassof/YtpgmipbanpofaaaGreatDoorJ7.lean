/-
  Joined: RMath, BoxW, RdrB.
-/
import Derived.Test.YtpgmipbanpofaaaGreatDoorJ3
import Derived.Test.YtpgmipbanpofaaaGreatDoorJ5
import Derived.Test.YtpgmipbanpofaaaGreatDoorJ6
import Derived.Test.YtpgmipbanpofaaaGreatDoorJ1
import Derived.Test.YtpgmipbanpofaaaGreatDoorJ2
/-
  Messages read from bytes: what is put is got; what is got was put.
-/
namespace Go.Proofs.YtpgmipbanpofaaaGreatDoor
open Go.RowKit

/-- From place k on zs begins with bs. -/
def Pre (zs : List Int) (k : Nat) (bs : List Int) : Prop := ∃ r, zs.drop k = bs ++ r

theorem Pre.app {zs : List Int} {k : Nat} {a b : List Int} : Pre zs k (a ++ b) ↔ Pre zs k a ∧ Pre zs (k + a.length) b := by
  constructor
  · rintro ⟨r, h⟩
    refine ⟨⟨b ++ r, by rw [h, List.append_assoc]⟩, ⟨r, ?_⟩⟩
    rw [← List.drop_drop, h, List.append_assoc, List.drop_left]
  · rintro ⟨⟨r, h⟩, ⟨s, h'⟩⟩
    rw [← List.drop_drop, h, List.drop_left] at h'
    exact ⟨s, by rw [h, h', List.append_assoc]⟩
theorem Pre.nil (zs : List Int) (k : Nat) : Pre zs k [] := ⟨zs.drop k, rfl⟩
theorem Pre.len {zs : List Int} {k : Nat} {bs : List Int} (h : Pre zs k bs) (hb : 0 < bs.length) : k + bs.length ≤ zs.length := by
  obtain ⟨r, h⟩ := h
  have := congrArg List.length h
  simp only [List.length_drop, List.length_append] at this
  omega
theorem Pre.get {zs : List Int} {k : Nat} {bs : List Int} (h : Pre zs k bs) (i : Nat) (hi : i < bs.length) : zs.getD (k + i) 0 = bs.getD i 0 := by
  obtain ⟨r, h⟩ := h
  have h1 : (zs.drop k)[i]? = bs[i]? := by rw [h, List.getElem?_append_left hi]
  rw [List.getElem?_drop] at h1
  rw [List.getD_eq_getElem?_getD, List.getD_eq_getElem?_getD, h1]
theorem Pre.of_take {zs : List Int} {k : Nat} {bs : List Int} (h : (zs.drop k).take bs.length = bs) : Pre zs k bs :=
  ⟨(zs.drop k).drop bs.length, by conv => rhs; lhs; rw [← h]
                                  rw [List.take_append_drop]⟩
theorem Pre.all {zs bs : List Int} (h : Pre zs 0 bs) (hl : bs.length = zs.length) : zs = bs := by
  obtain ⟨r, h⟩ := h
  rw [List.drop_zero] at h
  have := congrArg List.length h
  simp only [List.length_append] at this
  have hr : r = [] := List.eq_nil_of_length_eq_zero (by omega)
  rw [h, hr, List.append_nil]

theorem num_put {zs : List Int} {k : Nat} {x : Int} (h0 : 0 ≤ x) (h1 : x ≤ 16777215) (h : Pre zs k (pn x)) : gnF zs 4 k 0 1 = some (x, k + (pn x).length) := by
  have := gn_pn zs k x h0 h1 (h.len (pn_pos x h0 h1)) (fun i hi => h.get i hi)
  unfold gn at this
  rwa [if_pos (by omega), Int.toNat_natCast] at this
theorem num_back {zs : List Int} (hB : Byt zs) {k nx : Nat} {x : Int} (h : gnF zs 4 k 0 1 = some (x, nx)) : 0 ≤ x ∧ x ≤ 16777215 ∧ Pre zs k (pn x) ∧ nx = k + (pn x).length ∧ nx ≤ zs.length := by
  have h' : gn zs (k : Int) = some (x, nx) := by unfold gn; rw [if_pos (by omega), Int.toNat_natCast]; exact h
  obtain ⟨_, h1, h2, h3, h4, h5⟩ := gn_back zs hB k x nx h'
  rw [Int.toNat_natCast] at h3 h4
  refine ⟨h1, h2, Pre.of_take ?_, h4, h5⟩
  rw [show nx - k = (pn x).length from by omega] at h3
  exact h3
theorem word_put {zs : List Int} {k : Nat} {x : Int} (h0 : -2147483648 ≤ x) (h1 : x ≤ 2147483647) (h : Pre zs k (pw x)) : gw zs (k : Int) = some (x, k + (pw x).length) := by
  have e := pw_in x h0 h1
  have hl := h.len (by rw [e]; simp)
  have g := h.get
  rw [e] at hl g ⊢
  have g0 := g 0 (by simp)
  have g1 := g 1 (by simp)
  have g2 := g 2 (by simp)
  have g3 := g 3 (by simp)
  simp at g0 g1 g2 g3 hl
  unfold gw
  rw [if_pos ⟨by omega, by rw [Int.toNat_natCast]; exact hl⟩, Int.toNat_natCast]
  simp [ws]
  rw [g0, g1, g2, g3]
  unfold rnd
  omega
theorem word_back {zs : List Int} (hB : Byt zs) {k nx : Nat} {x : Int} (h : gw zs (k : Int) = some (x, nx)) : -2147483648 ≤ x ∧ x ≤ 2147483647 ∧ Pre zs k (pw x) ∧ nx = k + (pw x).length ∧ nx ≤ zs.length := by
  unfold gw at h
  rw [Int.toNat_natCast] at h
  by_cases hc : 0 ≤ (k : Int) ∧ k + 4 ≤ zs.length
  · rw [if_pos hc] at h
    simp only [Option.some.injEq, Prod.mk.injEq] at h
    obtain ⟨h1, h2⟩ := h
    have hb := rnd_bd (ws zs k 4)
    have z0 := hB.at k (by omega)
    have z1 := hB.at (k + 1) (by omega)
    have z2 := hB.at (k + 2) (by omega)
    have z3 := hB.at (k + 3) (by omega)
    rw [h1] at hb
    have e := pw_in x hb.1 hb.2
    refine ⟨hb.1, hb.2, Pre.of_take ?_, by rw [e]; simp; omega, by omega⟩
    have hd : (zs.drop k).take 4 = [zs.getD k 0, zs.getD (k + 1) 0, zs.getD (k + 2) 0, zs.getD (k + 3) 0] := by
      refine List.ext_getElem (by simp; omega) fun j h1 h2 => ?_
      have hj : j = 0 ∨ j = 1 ∨ j = 2 ∨ j = 3 := by simp at h2; omega
      rcases hj with rfl | rfl | rfl | rfl
      · simp [show k < zs.length from by omega]
      · simp [show k + 1 < zs.length from by omega]
      · simp [show k + 2 < zs.length from by omega]
      · simp [show k + 3 < zs.length from by omega]
    rw [e, show ([x % 256, x / 256 % 256, x / 65536 % 256, x / 16777216 % 256] : List Int).length = 4 from rfl, hd]
    simp only [ws] at h1
    generalize zs.getD k 0 = a at *
    generalize zs.getD (k + 1) 0 = b at *
    generalize zs.getD (k + 2) 0 = c at *
    generalize zs.getD (k + 3) 0 = d at *
    unfold rnd at h1
    simp only [List.cons.injEq, and_true]
    refine ⟨?_, ?_, ?_, ?_⟩ <;> omega
  · rw [if_neg hc] at h; cases h

/-- So many, one behind the other. -/
def rList {α : Type} (f : Nat → Option (α × Nat)) : Nat → Nat → Option (List α × Nat)
  | 0, k => some ([], k)
  | n + 1, k => (f k).bind fun x => (rList f n x.2).bind fun xs => some (x.1 :: xs.1, xs.2)
def rMany {α : Type} (zs : List Int) (f : Nat → Option (α × Nat)) (most : Int) (k : Nat) : Option (List α × Nat) :=
  (gnF zs 4 k 0 1).bind fun n => if most < n.1 then none else rList f n.1.toNat n.2

theorem list_put {α : Type} {zs : List Int} {f : Nat → Option (α × Nat)} {B : α → List Int} : ∀ (xs : List α) (k : Nat), (∀ x ∈ xs, ∀ k, Pre zs k (B x) → f k = some (x, k + (B x).length)) → Pre zs k (xs.flatMap B) → rList f xs.length k = some (xs, k + (xs.flatMap B).length)
  | [], k, _, _ => by simp [rList]
  | x :: xs, k, hf, h => by
    rw [List.flatMap_cons] at h ⊢
    obtain ⟨ha, hb⟩ := Pre.app.1 h
    rw [List.length_cons, rList, hf x (by simp) k ha]
    simp only [Option.bind_some]
    rw [list_put xs _ (fun y hy => hf y (by simp [hy])) hb]
    simp [Nat.add_assoc]
theorem list_back {α : Type} {zs : List Int} {f : Nat → Option (α × Nat)} {B : α → List Int} (hf : ∀ k nx x, f k = some (x, nx) → Pre zs k (B x) ∧ nx = k + (B x).length ∧ nx ≤ zs.length) : ∀ (n k e : Nat) (xs : List α), rList f n k = some (xs, e) → xs.length = n ∧ Pre zs k (xs.flatMap B) ∧ e = k + (xs.flatMap B).length
  | 0, k, e, xs, h => by
    simp only [rList, Option.some.injEq, Prod.mk.injEq] at h
    obtain ⟨rfl, rfl⟩ := h
    exact ⟨rfl, Pre.nil _ _, by simp⟩
  | n + 1, k, e, xs, h => by
    rw [rList] at h
    obtain ⟨⟨x, kx⟩, hx, h⟩ := Option.bind_eq_some_iff.1 h
    obtain ⟨⟨ys, ky⟩, hy, h⟩ := Option.bind_eq_some_iff.1 h
    simp only [Option.some.injEq, Prod.mk.injEq] at h
    obtain ⟨rfl, rfl⟩ := h
    obtain ⟨h1, h2, h3⟩ := hf k kx x hx
    obtain ⟨h4, h5, h6⟩ := list_back hf n kx ky ys hy
    subst h2
    rw [List.flatMap_cons]
    exact ⟨by simp [h4], Pre.app.2 ⟨h1, h5⟩, by rw [h6]; simp [Nat.add_assoc]⟩
end Go.Proofs.YtpgmipbanpofaaaGreatDoor
/-
  Variables as boxes of cells: what is read of them, and what stays of them; results that lie in a variable.
-/
namespace Go.Proofs.YtpgmipbanpofaaaGreatDoor
open Go.RowKit

/-- The cells of a variable. -/
def Box (w : World) (g : Nat) (vs : List Value) : Prop := ∀ j v, vs[j]? = some v → w.cell? ⟨g, j, none⟩ = some v
theorem Box.below {w w' : World} {g : Nat} {vs : List Value} (h : Box w g vs) (hg : g < w.heap.size) (hb : Below w.heap.size w w') : Box w' g vs :=
  fun j v hv => (hb.cell (p := ⟨g, j, none⟩) hg).trans (h j v hv)
theorem Box.new (w : World) (vs : Array Value) (T : TypeId) : Box (w.alloc (.cells vs T)) w.heap.size vs.toList := fun j v hv => by
  rw [World.cell?_alloc_new]; simpa using hv
/-- The cells of a block. -/
theorem box_of {w : World} {g : Nat} {T : TypeId} {vs : Array Value} (h : w.heap[g]? = some (.cells vs T (0, 0))) : Box w g vs.toList ∧ ∀ j, w.frozen? ⟨g, j, none⟩ = false :=
  ⟨fun j v hv => by rw [cell_of_row w g j _ T (0, 0) h]; simpa using hv, fun j => frozen_of_row w g j _ T h⟩
theorem Box.apart {w w' : World} {g : Nat} {row : Option Nat} {vs : List Value} (h : Box w g vs) (hg : g < w.heap.size) (hgr : w.grownBy w' row) (hne : row ≠ some g) : Box w' g vs :=
  fun j v hv => (World.cell?_of_block (w := w) (hgr.block g hg (fun e => hne e.symm))).trans (h j v hv)
theorem boxDrewN {w : World} {g : Nat} {vs : List Value} (h : Box w g vs) (q : Nat) : Box (w.drewN q) g vs := h
theorem ownKept {w w' : World} {b : Nat} {v : Value} {row : Option Nat} {zs : List Int} (h : Own w b v zs) (hg : w.grownBy w' row) (hne : ∀ q, v.ownBlock = some q → row ≠ some q) : Own w' b v zs := by
  refine World.ownsRow.kept h hg ?_
  cases hv : v.ownBlock with
  | none => exact .inl rfl
  | some q => exact .inr (fun e => hne q hv e.symm)
theorem grown_set {w wr : World} {g : Nat} (h : w.grownBy wr (some g)) (o : Nat) (v : Value) : w.grownBy (wr.setCell ⟨g, o, none⟩ v) (some g) :=
  grownBy_trans h ⟨rfl, rfl, rfl, by simp, fun k _ hk => heap_setCell_other wr ⟨g, o, none⟩ k _ (fun e => hk (by rw [e]))⟩
theorem own_set {w : World} {b e sz n : Nat} {v : Value} {cs : List Value} (h : w.ownsRow b e sz v n cs) {g : Nat} (hg : g < b) (o : Nat) (u : Value) : (w.setCell ⟨g, o, none⟩ u).ownsRow b e sz v n cs := ownsRow_setCell_below h (a := ⟨g, o, none⟩) hg u
theorem results_one {fn : Func} {p : Tmp} {ty : TypeId} {v : Value} {g : Addr} (h : fn.results = #[.cell p ty]) (tmps : Array Value) (P : Program) (w : World) (hg : tmps.getD p undef = .pointer (some g)) (hl : (loadVar ty g).run P w = .ok v w) :
    (results fn tmps).run P w = .ok v w := by
  have h' : ((asAddr (tmps.getD p undef)).run P w).andThen (fun a w₁ => (loadVar ty a).run P w₁) = .ok v w := by rw [hg]; simpa [asAddr, Result.andThen] using hl
  simp only [results, h]
  simpa [Sem.run_bind, Result.andThen] using h'
theorem results_ct {fn : Func} {p u : Tmp} {ty : TypeId} {v : Value} {g : Addr} (h : fn.results = #[.cell p ty, .tmp u]) (tmps : Array Value) (P : Program) (w : World) (hg : tmps.getD p undef = .pointer (some g)) (hl : (loadVar ty g).run P w = .ok v w) :
    (results fn tmps).run P w = .ok (.tuple #[v, tmps.getD u undef]) w := by
  rw [results_cell_tmp h, hg]
  simp [asAddr, Result.andThen, hl]
theorem results_cct {fn : Func} {p0 p1 u : Tmp} {t0 t1 : TypeId} {v0 v1 : Value} {g0 g1 : Addr} (h : fn.results = #[.cell p0 t0, .cell p1 t1, .tmp u]) (tmps : Array Value) (P : Program) (w : World)
    (hg0 : tmps.getD p0 undef = .pointer (some g0)) (hg1 : tmps.getD p1 undef = .pointer (some g1)) (hl0 : (loadVar t0 g0).run P w = .ok v0 w) (hl1 : (loadVar t1 g1).run P w = .ok v1 w) :
    (results fn tmps).run P w = .ok (.tuple #[v0, v1, tmps.getD u undef]) w := by
  have h' : ((asAddr (tmps.getD p0 undef)).run P w).andThen (fun a w₁ => ((loadVar t0 a).run P w₁).andThen fun x w₂ => ((asAddr (tmps.getD p1 undef)).run P w₂).andThen (fun a w₃ => ((loadVar t1 a).run P w₃).andThen fun y w₄ => Result.ok (Value.tuple #[x, y, tmps.getD u undef]) w₄)) = Result.ok (Value.tuple #[v0, v1, tmps.getD u undef]) w := by
    rw [hg0, hg1]
    simp [asAddr, Result.andThen, hl0, hl1]
  simp only [results, h]
  simpa [Sem.run_bind, Result.andThen] using h'
end Go.Proofs.YtpgmipbanpofaaaGreatDoor
/-
  Readers: their bytes, their place, and what they take.
-/
namespace Go.Proofs.YtpgmipbanpofaaaGreatDoor
open Go.RowKit

/-- A reader's bytes, its place, and what it panics with. -/
structure Rdr (w : World) (B : Nat) (a : Option Addr) (len : Nat) (zs : List Int) (p k : Nat) (t : TypeId) (v : Value) : Prop where
  inp : In w B a len zs
  hB : B ≤ p
  hp0 : 0 < p
  err : Err w t v
  pl : w.heap[p]? = some (.cells #[.int .i64 (k : Int)] 3 (0, 0))

theorem Rdr.lt {w : World} {B : Nat} {a : Option Addr} {len : Nat} {zs : List Int} {p k : Nat} {t : TypeId} {v : Value} (h : Rdr w B a len zs p k t v) : p < w.heap.size := (Array.getElem?_eq_some_iff.1 h.pl).1
theorem Rdr.next {w w' : World} {B : Nat} {a : Option Addr} {len : Nat} {zs : List Int} {p k k' : Nat} {t : TypeId} {v : Value} (h : Rdr w B a len zs p k t v) (hg : w.grownBy w' (some p)) (hp : w'.heap[p]? = some (.cells #[.int .i64 (k' : Int)] 3 (0, 0))) : Rdr w' B a len zs p k' t v :=
  ⟨h.inp.out hg h.hB h.lt, h.hB, h.hp0, h.err.out hg h.hp0, hp⟩
theorem Rdr.far {w w' : World} {B : Nat} {a : Option Addr} {len : Nat} {zs : List Int} {p k : Nat} {t : TypeId} {v : Value} {row : Option Nat} (h : Rdr w B a len zs p k t v) (hg : w.grownBy w' row) (hne : ∀ q, row = some q → p < q) : Rdr w' B a len zs p k t v := by
  have hl := h.lt
  have hB := h.hB
  have h0 := h.hp0
  refine ⟨h.inp.kept (fun q hq => hg.block q (by omega) (fun e => by have := hne q e.symm; omega)), hB, h0, ?_, (hg.block p hl (fun e => by have := hne p e.symm; omega)).trans h.pl⟩
  exact hg.cell h.err (fun e => by have := hne 0 e.symm; omega)
theorem Rdr.alloc {w : World} {B : Nat} {a : Option Addr} {len : Nat} {zs : List Int} {p k : Nat} {t : TypeId} {v : Value} (h : Rdr w B a len zs p k t v) (o : Obj) : Rdr (w.alloc o) B a len zs p k t v :=
  h.far (World.grownBy_alloc w o none) (fun q e => by cases e)
theorem Rdr.set {w : World} {B : Nat} {a : Option Addr} {len : Nat} {zs : List Int} {p k : Nat} {t : TypeId} {v : Value} (h : Rdr w B a len zs p k t v) {g : Nat} (hg : p < g) (o : Nat) (u : Value) : Rdr (w.setCell ⟨g, o, none⟩ u) B a len zs p k t v :=
  h.far (grown_set (World.grownBy.refl w _) o u) (fun q e => by cases e; exact hg)

/-- What is taken. -/
def tookG {α : Type} (Val : α → Value) (w : World) (p : Nat) (t : TypeId) (v : Value) (r : Option (α × Nat)) (e : Ending) (w' : World) : Prop :=
  ((∃ x nx, r = some (x, nx) ∧ e = .returned (Val x) ∧ w'.heap[p]? = some (.cells #[.int .i64 ((nx : Nat) : Int)] 3 (0, 0))) ∨
   (r = none ∧ e = .panicked [{ v := .iface t v, recovered := false }])) ∧ w.grownBy w' (some p)

theorem byt_of_in {w : World} {B len : Nat} {a : Option Addr} {zs : List Int} (h : In w B a len zs) : Byt zs := by
  intro z hz
  obtain ⟨j, hj, rfl⟩ := List.getElem_of_mem hz
  have hl := h.1
  have := h.2.2.1 j (by omega)
  simpa [hj] using this

/-- What is taken, in new memory. -/
def tookL {α : Type} (Row : World → Value → α → Prop) (w : World) (p : Nat) (t : TypeId) (v : Value) (r : Option (α × Nat)) (e : Ending) (w' : World) : Prop :=
  ((∃ x nx u, r = some (x, nx) ∧ e = .returned u ∧ Row w' u x ∧ w'.heap[p]? = some (.cells #[.int .i64 ((nx : Nat) : Int)] 3 (0, 0))) ∨
   (r = none ∧ e = .panicked [{ v := .iface t v, recovered := false }])) ∧ w.grownBy w' (some p)

end Go.Proofs.YtpgmipbanpofaaaGreatDoor
