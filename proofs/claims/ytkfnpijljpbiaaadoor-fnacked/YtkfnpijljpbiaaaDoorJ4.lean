/-
  Joined: FlatOne, BoxW, NetOpen.
-/
import Derived.Test.YtkfnpijljpbiaaaDoorJ3
import Derived.Laws.MakeOwn
import Derived.Test.YtkfnpijljpbiaaaDoorJ1
/-
  Rows of elements of several cells: what a store into one of them leaves.
-/
namespace Go.Proofs.YtkfnpijljpbiaaaDoor
open Go.RowKit

/-- A store into cell r of element j: the element turned there. -/
theorem flat_set {α : Type} (f : α → List Value) (sz : Nat) (hf : ∀ x, (f x).length = sz) : ∀ (xs : List α) (j r : Nat) (u : Value) (y : α), r < sz → j < xs.length → (∀ x, xs[j]? = some x → (f x).set r u = f y) → (xs.flatMap f).set (j * sz + r) u = (xs.set j y).flatMap f
  | [], j, r, u, y, hr, hj, h => by simp at hj
  | x :: xs, 0, r, u, y, hr, hj, h => by
    rw [List.set_cons_zero, List.flatMap_cons, List.flatMap_cons, ← h x rfl, Nat.zero_mul, Nat.zero_add, List.set_append_left _ _ (by rw [hf]; exact hr)]
  | x :: xs, j + 1, r, u, y, hr, hj, h => by
    rw [List.set_cons_succ, List.flatMap_cons, List.flatMap_cons, List.set_append_right _ _ (by rw [hf, Nat.succ_mul]; omega), hf]
    rw [show (j + 1) * sz + r - sz = j * sz + r from by rw [Nat.succ_mul]; omega]
    rw [flat_set f sz hf xs j r u y hr (by simpa using hj) (fun x hx => h x (by simpa using hx))]

/-- One element more copied. -/
theorem copy_one {α : Type} (xs : List α) (d z : α) (j : Nat) (h : j < xs.length) : (xs.take j ++ List.replicate (xs.length - j) z).set j (xs.getD j d) = xs.take (j + 1) ++ List.replicate (xs.length - (j + 1)) z := by
  have e : xs.length - j = (xs.length - (j + 1)) + 1 := by omega
  rw [e, List.replicate_succ, List.set_append_right _ _ (by simp; omega)]
  have e2 : (List.take j xs).length = j := by simp; omega
  rw [e2, Nat.sub_self, List.set_cons_zero, List.take_succ_eq_append_getElem h, List.append_assoc]
  simp [h]
theorem copy_one_len {α : Type} (xs : List α) (z : α) (j : Nat) (h : j ≤ xs.length) : (xs.take j ++ List.replicate (xs.length - j) z).length = xs.length := by
  simp; omega

/-- What 'make' lays: the zero element, n times. -/
theorem made_flat {α : Type} (f : α → List Value) (sz : Nat) (hf : ∀ x, (f x).length = sz) (hp : 0 < sz) (d : α) (z : Array Value) (hz : z.toList = f d) (n : Nat) : (madeCells z (n * sz)).toList = (List.replicate n d).flatMap f := by
  have hzs : z.size = sz := by rw [← Array.length_toList, hz, hf]
  have hl1 : (madeCells z (n * sz)).toList.length = n * sz := by rw [Array.length_toList, size_madeCells]
  have hl2 : ((List.replicate n d).flatMap f).length = n * sz := by rw [flat_len f sz hf, List.length_replicate]
  refine List.ext_getElem? fun i => ?_
  by_cases hi : i < n * sz
  · have h1 : i / sz < n := Nat.div_lt_of_lt_mul (by rw [Nat.mul_comm]; exact hi)
    have h2 : i % sz < sz := Nat.mod_lt _ hp
    have h3 : i / sz * sz + i % sz = i := by rw [Nat.mul_comm]; exact Nat.div_add_mod i sz
    have h4 := flat_get f sz hf (List.replicate n d) d (i / sz) (i % sz) (by simpa using h1) h2
    rw [h3] at h4
    rw [h4]
    have h5 : (List.replicate n d).getD (i / sz) d = d := by simp [h1]
    rw [h5, ← hz]
    simp [madeCells, hi, hzs, h2]
  · rw [List.getElem?_eq_none (by omega), List.getElem?_eq_none (by omega)]

end Go.Proofs.YtkfnpijljpbiaaaDoor
/-
  Variables as boxes of cells: what is read of them, and what stays of them; results that lie in a variable.
-/
namespace Go.Proofs.YtkfnpijljpbiaaaDoor
open Go.RowKit

/-- The cells of a variable. -/
def Box (w : World) (g : Nat) (vs : List Value) : Prop := ∀ j v, vs[j]? = some v → w.cell? ⟨g, j, none⟩ = some v
theorem Box.below {w w' : World} {g : Nat} {vs : List Value} (h : Box w g vs) (hg : g < w.heap.size) (hb : Below w.heap.size w w') : Box w' g vs :=
  fun j v hv => (hb.cell (p := ⟨g, j, none⟩) hg).trans (h j v hv)
theorem Box.new (w : World) (vs : Array Value) (T : TypeId) : Box (w.alloc (.cells vs T)) w.heap.size vs.toList := fun j v hv => by
  rw [World.cell?_alloc_new]; simpa using hv
/-- The cells of a block. -/
theorem box_of {w : World} {g : Nat} {T : TypeId} {vs : Array Value} (h : w.heap[g]? = some (.cells vs T (0, 0))) : Box w g vs.toList ∧ ∀ j, w.frozen? ⟨g, j, none⟩ = false :=
  ⟨fun j v hv => by rw [cell_of_row w g j _ T (0, 0) h]; simpa using hv, fun j => frozen_of_row w g j _ T h⟩
theorem Box.apart {w w' : World} {g : Nat} {row : Option Nat} {vs : List Value} (h : Box w g vs) (hg : g < w.heap.size) (hgr : w.grownBy w' row) (hne : row ≠ some g) : Box w' g vs :=
  fun j v hv => (World.cell?_of_block (w := w) (hgr.block g hg (fun e => hne e.symm))).trans (h j v hv)
theorem boxDrewN {w : World} {g : Nat} {vs : List Value} (h : Box w g vs) (q : Nat) : Box (w.drewN q) g vs := h
theorem ownKept {w w' : World} {b : Nat} {v : Value} {row : Option Nat} {zs : List Int} (h : Own w b v zs) (hg : w.grownBy w' row) (hne : ∀ q, v.ownBlock = some q → row ≠ some q) : Own w' b v zs := by
  refine World.ownsRow.kept h hg ?_
  cases hv : v.ownBlock with
  | none => exact .inl rfl
  | some q => exact .inr (fun e => hne q hv e.symm)
theorem grown_set {w wr : World} {g : Nat} (h : w.grownBy wr (some g)) (o : Nat) (v : Value) : w.grownBy (wr.setCell ⟨g, o, none⟩ v) (some g) :=
  grownBy_trans h ⟨rfl, rfl, rfl, by simp, fun k _ hk => heap_setCell_other wr ⟨g, o, none⟩ k _ (fun e => hk (by rw [e]))⟩
theorem own_set {w : World} {b e sz n : Nat} {v : Value} {cs : List Value} (h : w.ownsRow b e sz v n cs) {g : Nat} (hg : g < b) (o : Nat) (u : Value) : (w.setCell ⟨g, o, none⟩ u).ownsRow b e sz v n cs := ownsRow_setCell_below h (a := ⟨g, o, none⟩) hg u
theorem results_one {fn : Func} {p : Tmp} {ty : TypeId} {v : Value} {g : Addr} (h : fn.results = #[.cell p ty]) (tmps : Array Value) (P : Program) (w : World) (hg : tmps.getD p undef = .pointer (some g)) (hl : (loadVar ty g).run P w = .ok v w) :
    (results fn tmps).run P w = .ok v w := by
  have h' : ((asAddr (tmps.getD p undef)).run P w).andThen (fun a w₁ => (loadVar ty a).run P w₁) = .ok v w := by rw [hg]; simpa [asAddr, Result.andThen] using hl
  simp only [results, h]
  simpa [Sem.run_bind, Result.andThen] using h'
theorem results_ct {fn : Func} {p u : Tmp} {ty : TypeId} {v : Value} {g : Addr} (h : fn.results = #[.cell p ty, .tmp u]) (tmps : Array Value) (P : Program) (w : World) (hg : tmps.getD p undef = .pointer (some g)) (hl : (loadVar ty g).run P w = .ok v w) :
    (results fn tmps).run P w = .ok (.tuple #[v, tmps.getD u undef]) w := by
  rw [results_cell_tmp h, hg]
  simp [asAddr, Result.andThen, hl]
theorem results_cct {fn : Func} {p0 p1 u : Tmp} {t0 t1 : TypeId} {v0 v1 : Value} {g0 g1 : Addr} (h : fn.results = #[.cell p0 t0, .cell p1 t1, .tmp u]) (tmps : Array Value) (P : Program) (w : World)
    (hg0 : tmps.getD p0 undef = .pointer (some g0)) (hg1 : tmps.getD p1 undef = .pointer (some g1)) (hl0 : (loadVar t0 g0).run P w = .ok v0 w) (hl1 : (loadVar t1 g1).run P w = .ok v1 w) :
    (results fn tmps).run P w = .ok (.tuple #[v0, v1, tmps.getD u undef]) w := by
  have h' : ((asAddr (tmps.getD p0 undef)).run P w).andThen (fun a w₁ => ((loadVar t0 a).run P w₁).andThen fun x w₂ => ((asAddr (tmps.getD p1 undef)).run P w₂).andThen (fun a w₃ => ((loadVar t1 a).run P w₃).andThen fun y w₄ => Result.ok (Value.tuple #[x, y, tmps.getD u undef]) w₄)) = Result.ok (Value.tuple #[v0, v1, tmps.getD u undef]) w := by
    rw [hg0, hg1]
    simp [asAddr, Result.andThen, hl0, hl1]
  simp only [results, h]
  simpa [Sem.run_bind, Result.andThen] using h'
end Go.Proofs.YtkfnpijljpbiaaaDoor
/-
  Packets and nets: what may be read of them, what one's own are, and how they come in.
-/
namespace Go.Proofs.YtkfnpijljpbiaaaDoor
open Go.ChangeShapes Go.WideShapes Go.RowKit

/-- A packet: where from, where to, its bytes, whether it is spoilt. -/
structure Pk where
  f : Int
  t : Int
  b : List Int
  s : Bool
instance : Inhabited Pk := ⟨⟨0, 0, [], false⟩⟩

/-- The cells of a packet whose bytes lie at x.2. -/
def pkC (x : Pk × Value) : List Value := [.int .i64 x.1.f, .int .i64 x.1.t, x.2, .bool x.1.s]
theorem pkC_len (x : Pk × Value) : (pkC x).length = 4 := rfl

/-- v is a slice of just these bytes, below block B. -/
def Bt (w : World) (B : Nat) (v : Value) (zs : List Int) : Prop := ∃ a cap, v = .slice a zs.length cap ∧ (a = none → cap = 0) ∧ In w B a zs.length zs

theorem Bt.kept {w w' : World} {B : Nat} {v : Value} {zs : List Int} (h : Bt w B v zs) (hb : ∀ k, k < B → w'.heap[k]? = w.heap[k]?) : Bt w' B v zs := by
  obtain ⟨a, c, h1, h2, h3⟩ := h
  exact ⟨a, c, h1, h2, h3.kept hb⟩
theorem Bt.up {w : World} {B B' : Nat} {v : Value} {zs : List Int} (h : Bt w B v zs) (hB : B ≤ B') : Bt w B' v zs := by
  obtain ⟨a, c, h1, h2, h3⟩ := h
  exact ⟨a, c, h1, h2, h3.up hB⟩
theorem Bt.low {w w' : World} {B : Nat} {v : Value} {zs : List Int} (h : Bt w B v zs) (hb : Below w.heap.size w w') (hB : B ≤ w.heap.size) : Bt w' B v zs :=
  h.kept (fun k hk => hb.block k (by omega))
theorem Bt.at {w w' : World} {v : Value} {zs : List Int} (h : Bt w w.heap.size v zs) (hb : Below w.heap.size w w') : Bt w' w'.heap.size v zs :=
  (h.kept hb.block).up hb.size
theorem Bt.drewN {w : World} {B : Nat} {v : Value} {zs : List Int} (h : Bt w B v zs) (q : Nat) : Bt (w.drewN q) B v zs := h
theorem bt_own {w : World} {b B : Nat} {v : Value} {zs : List Int} (h : Own w b v zs) (hm : zs.length ≤ 1048576) (hz : Byt zs) (hB : w.heap.size ≤ B) : Bt w B v zs := by
  obtain ⟨a, c, rfl, hi, _⟩ := in_any h hm hz hB
  exact ⟨a, c, rfl, h.cap0, hi⟩
theorem Bt.byt {w : World} {B : Nat} {v : Value} {zs : List Int} (h : Bt w B v zs) : zs.length ≤ 1048576 ∧ Byt zs := by
  obtain ⟨a, c, _, _, hi⟩ := h
  refine ⟨hi.2.1, fun z hz => ?_⟩
  obtain ⟨j, hj, rfl⟩ := List.mem_iff_getElem.1 hz
  have := hi.2.2.1 j hj
  simpa [hj] using this

/-- v is a slice of just these packets, they and their bytes below block B. -/
def RdP (w : World) (B : Nat) (v : Value) (ps : List Pk) : Prop :=
  ∃ xs : List (Pk × Value), xs.map Prod.fst = ps ∧ Rd w B 4 v xs.length (xs.flatMap pkC) ∧ ∀ x ∈ xs, Bt w B x.2 x.1.b

theorem RdP.kept {w w' : World} {B : Nat} {v : Value} {ps : List Pk} (h : RdP w B v ps) (hb : ∀ k, k < B → w'.heap[k]? = w.heap[k]?) : RdP w' B v ps := by
  obtain ⟨xs, h1, h2, h3⟩ := h
  exact ⟨xs, h1, h2.kept hb, fun x hx => (h3 x hx).kept hb⟩
theorem RdP.up {w : World} {B B' : Nat} {v : Value} {ps : List Pk} (h : RdP w B v ps) (hB : B ≤ B') : RdP w B' v ps := by
  obtain ⟨xs, h1, h2, h3⟩ := h
  exact ⟨xs, h1, h2.up hB, fun x hx => (h3 x hx).up hB⟩
theorem RdP.low {w w' : World} {B : Nat} {v : Value} {ps : List Pk} (h : RdP w B v ps) (hb : Below w.heap.size w w') (hB : B ≤ w.heap.size) : RdP w' B v ps :=
  h.kept (fun k hk => hb.block k (by omega))
theorem RdP.at {w w' : World} {v : Value} {ps : List Pk} (h : RdP w w.heap.size v ps) (hb : Below w.heap.size w w') : RdP w' w'.heap.size v ps :=
  (h.kept hb.block).up hb.size
theorem RdP.drewN {w : World} {B : Nat} {v : Value} {ps : List Pk} (h : RdP w B v ps) (q : Nat) : RdP (w.drewN q) B v ps := h

/-- Its cells, packet by packet. -/
theorem pk_at {w : World} {B : Nat} {v : Value} {ps : List Pk} (h : RdP w B v ps) :
    ∃ a cap, v = .slice a ps.length cap ∧ ps.length ≤ cap ∧ (a = none → cap = 0) ∧ (0 < ps.length → ∃ b o, a = some ⟨b, o, none⟩ ∧ b < B ∧ ∀ j, j < ps.length → ∃ a' cap',
      w.cell? ⟨b, o + j * 4, none⟩ = some (.int .i64 (ps.getD j default).f) ∧ w.cell? ⟨b, o + j * 4 + 1, none⟩ = some (.int .i64 (ps.getD j default).t) ∧
      w.cell? ⟨b, o + j * 4 + 2, none⟩ = some (.slice a' (ps.getD j default).b.length cap') ∧ w.cell? ⟨b, o + j * 4 + 3, none⟩ = some (.bool (ps.getD j default).s) ∧
      (a' = none → cap' = 0) ∧ In w B a' (ps.getD j default).b.length (ps.getD j default).b) := by
  obtain ⟨xs, rfl, ⟨_, a, cap, rfl, h2, h3, h4⟩, h5⟩ := h
  rw [List.length_map]
  refine ⟨a, cap, rfl, h2, h3, fun hp => ?_⟩
  obtain ⟨b, o, rfl, hb, hc⟩ := h4 hp
  refine ⟨b, o, rfl, hb, fun j hj => ?_⟩
  have hg : (xs.map Prod.fst).getD j default = (xs.getD j default).1 := by simp [List.getD, hj]
  have hx : xs.getD j default ∈ xs := by
    have : xs.getD j default = xs[j] := by simp [hj]
    rw [this]; exact List.getElem_mem _
  rw [hg]
  obtain ⟨a', cap', e, h6, h7⟩ := h5 _ hx
  refine ⟨a', cap', ?_, ?_, ?_, ?_, h6, h7⟩
  · rw [show o + j * 4 = o + (j * 4 + 0) from rfl, hc _ (by omega), flat_get pkC 4 pkC_len xs default j 0 hj (by omega)]; rfl
  · rw [Nat.add_assoc, hc _ (by omega), flat_get pkC 4 pkC_len xs default j 1 hj (by omega)]; rfl
  · rw [Nat.add_assoc, hc _ (by omega), flat_get pkC 4 pkC_len xs default j 2 hj (by omega), ← e]; rfl
  · rw [Nat.add_assoc, hc _ (by omega), flat_get pkC 4 pkC_len xs default j 3 hj (by omega)]; rfl

/-- Packets whose bytes are bytes, and not too many. -/
def Good (ps : List Pk) : Prop := ∀ p ∈ ps, p.b.length ≤ 1048576 ∧ Byt p.b
theorem RdP.good {w : World} {B : Nat} {v : Value} {ps : List Pk} (h : RdP w B v ps) : Good ps := by
  obtain ⟨xs, rfl, _, h3⟩ := h
  intro p hp
  obtain ⟨x, hx, rfl⟩ := List.mem_map.1 hp
  exact (h3 x hx).byt

/-- No two of these lie in one block, nor in v's. -/
def SepV (v : Value) (us : List Value) : Prop :=
  (∀ u ∈ us, ∀ q, u.ownBlock = some q → v.ownBlock ≠ some q) ∧ us.Pairwise (fun x y => ∀ q, x.ownBlock = some q → y.ownBlock ≠ some q)

/-- A row of packets of one's own, from block b on up to hi, each with bytes of its own there. -/
def OwnX (w : World) (b hi : Nat) (v : Value) (xs : List (Pk × Value)) : Prop :=
  w.ownsRow b 32 4 v xs.length (xs.flatMap pkC) ∧ (∀ x ∈ xs, Own w b x.2 x.1.b) ∧ SepV v (xs.map Prod.snd) ∧ (∀ q, v.ownBlock = some q → q < hi) ∧ ∀ u ∈ xs.map Prod.snd, ∀ q, u.ownBlock = some q → q < hi
def OwnP (w : World) (b hi : Nat) (v : Value) (ps : List Pk) : Prop := ∃ xs : List (Pk × Value), xs.map Prod.fst = ps ∧ OwnX w b hi v xs

/-- All that lies below b, or from hi on, is as it was. -/
structure Out (b hi : Nat) (w w' : World) : Prop where
  os : w'.os = w.os
  tape : w'.tape = w.tape
  output : w'.output = w.output
  size : w.heap.size ≤ w'.heap.size
  block : ∀ q, q < w.heap.size → (q < b ∨ hi ≤ q) → w'.heap[q]? = w.heap[q]?
theorem Out.refl (b hi : Nat) (w : World) : Out b hi w w := ⟨rfl, rfl, rfl, Nat.le_refl _, fun _ _ _ => rfl⟩
theorem Out.trans {b hi : Nat} {u v w : World} (h : Out b hi u v) (k : Out b hi v w) : Out b hi u w :=
  ⟨k.os.trans h.os, k.tape.trans h.tape, k.output.trans h.output, Nat.le_trans h.size k.size, fun q hq hr => (k.block q (Nat.lt_of_lt_of_le hq h.size) hr).trans (h.block q hq hr)⟩
theorem Out.row {b hi : Nat} {w w' : World} {r : Option Nat} (h : w.grownBy w' r) (hr : ∀ q, r = some q → b ≤ q ∧ q < hi) : Out b hi w w' :=
  ⟨h.os, h.tape, h.output, h.size, fun q hq ho => h.block q hq (fun e => by have := hr q e.symm; omega)⟩
theorem Out.of_below {b hi : Nat} {w w' : World} (h : Below w.heap.size w w') : Out b hi w w' := ⟨h.os, h.tape, h.output, h.size, fun q hq _ => h.block q hq⟩
theorem Out.below {b hi B : Nat} {w w' : World} (h : Out b hi w w') (hB : B ≤ b) (hs : B ≤ w.heap.size) : Below B w w' := ⟨h.os, h.tape, h.output, h.size, fun q hq => h.block q (by omega) (.inl (by omega))⟩

theorem owns_mono {w : World} {b b' e sz n : Nat} {v : Value} {cs : List Value} (h : w.ownsRow b e sz v n cs) (hb : b' ≤ b) : w.ownsRow b' e sz v n cs := by
  refine ⟨h.1, ?_⟩
  rcases h.2 with h0 | ⟨g, cap, cur, e, hg, r⟩
  · exact .inl h0
  · exact .inr ⟨g, cap, cur, e, Nat.le_trans hb hg, r⟩
/-- Where its block is as it was, a row is. -/
theorem owns_same {w w' : World} {b e sz n : Nat} {v : Value} {cs : List Value} (h : w.ownsRow b e sz v n cs) (hs : ∀ q, v.ownBlock = some q → w'.heap[q]? = w.heap[q]?) : w'.ownsRow b e sz v n cs := by
  refine ⟨h.1, ?_⟩
  rcases h.2 with hn | ⟨g, cap, cur, rfl, hb, hgg, rest⟩
  · exact .inl hn
  · exact .inr ⟨g, cap, cur, rfl, hb, (hs g rfl).trans hgg, rest⟩
theorem Own.same {w w' : World} {b : Nat} {v : Value} {zs : List Int} (h : Own w b v zs) (hs : ∀ q, v.ownBlock = some q → w'.heap[q]? = w.heap[q]?) : Own w' b v zs := owns_same h hs

theorem OwnX.same {w w' : World} {b hi : Nat} {v : Value} {xs : List (Pk × Value)} (h : OwnX w b hi v xs) (hs : ∀ q, b ≤ q → q < hi → q < w.heap.size → w'.heap[q]? = w.heap[q]?) : OwnX w' b hi v xs :=
  ⟨owns_same h.1 (fun q hq => hs q (World.ownsRow.lt h.1 q hq).1 (h.2.2.2.1 q hq) (World.ownsRow.lt h.1 q hq).2), fun x hx => owns_same (h.2.1 x hx) (fun q hq => hs q ((h.2.1 x hx).lt q hq).1 (h.2.2.2.2 _ (List.mem_map_of_mem hx) q hq) ((h.2.1 x hx).lt q hq).2), h.2.2⟩
theorem OwnX.mono {w : World} {b b' hi : Nat} {v : Value} {xs : List (Pk × Value)} (h : OwnX w b hi v xs) (hb : b' ≤ b) : OwnX w b' hi v xs :=
  ⟨owns_mono h.1 hb, fun x hx => (h.2.1 x hx).mono hb, h.2.2⟩
theorem OwnX.up {w : World} {b hi hi' : Nat} {v : Value} {xs : List (Pk × Value)} (h : OwnX w b hi v xs) (hb : hi ≤ hi') : OwnX w b hi' v xs :=
  ⟨h.1, h.2.1, h.2.2.1, fun q hq => Nat.lt_of_lt_of_le (h.2.2.2.1 q hq) hb, fun u hu q hq => Nat.lt_of_lt_of_le (h.2.2.2.2 u hu q hq) hb⟩
theorem OwnX.below {w w' : World} {b hi : Nat} {v : Value} {xs : List (Pk × Value)} (h : OwnX w b hi v xs) (hb : Below w.heap.size w w') : OwnX w' b hi v xs := h.same (fun q _ _ hq => hb.block q hq)
theorem OwnP.same {w w' : World} {b hi : Nat} {v : Value} {ps : List Pk} (h : OwnP w b hi v ps) (hs : ∀ q, b ≤ q → q < hi → q < w.heap.size → w'.heap[q]? = w.heap[q]?) : OwnP w' b hi v ps := by
  obtain ⟨xs, h1, h2⟩ := h
  exact ⟨xs, h1, h2.same hs⟩
theorem OwnP.below {w w' : World} {b hi : Nat} {v : Value} {ps : List Pk} (h : OwnP w b hi v ps) (hb : Below w.heap.size w w') : OwnP w' b hi v ps := h.same (fun q _ _ hq => hb.block q hq)
theorem OwnP.out {w w' : World} {b hi c d : Nat} {v : Value} {ps : List Pk} (h : OwnP w b hi v ps) (ho : Out c d w w') (hd : hi ≤ c ∨ d ≤ b) : OwnP w' b hi v ps := h.same (fun q _ _ hq => ho.block q hq (by omega))
theorem Own.out {w w' : World} {b c d : Nat} {v : Value} {zs : List Int} (h : Own w b v zs) (ho : Out c d w w') (hd : (∀ q, v.ownBlock = some q → q < c) ∨ d ≤ b) : Own w' b v zs := h.same (fun q hq => ho.block q (h.lt q hq).2 (by
  rcases hd with hd | hd
  · exact .inl (hd q hq)
  · exact .inr (Nat.le_trans hd (h.lt q hq).1)))
theorem OwnP.mono {w : World} {b b' hi : Nat} {v : Value} {ps : List Pk} (h : OwnP w b hi v ps) (hb : b' ≤ b) : OwnP w b' hi v ps := by
  obtain ⟨xs, h1, h2⟩ := h
  exact ⟨xs, h1, h2.mono hb⟩
theorem OwnP.up {w : World} {b hi hi' : Nat} {v : Value} {ps : List Pk} (h : OwnP w b hi v ps) (hb : hi ≤ hi') : OwnP w b hi' v ps := by
  obtain ⟨xs, h1, h2⟩ := h
  exact ⟨xs, h1, h2.up hb⟩
theorem OwnP.drewN {w : World} {b hi : Nat} {v : Value} {ps : List Pk} (h : OwnP w b hi v ps) (q : Nat) : OwnP (w.drewN q) b hi v ps := h
theorem OwnX.rd {w : World} {b hi B : Nat} {v : Value} {xs : List (Pk × Value)} (h : OwnX w b hi v xs) (hg : Good (xs.map Prod.fst)) (hB : w.heap.size ≤ B) : RdP w B v (xs.map Prod.fst) :=
  ⟨xs, rfl, rd_own h.1 hB, fun x hx => bt_own (h.2.1 x hx) (hg _ (List.mem_map_of_mem hx)).1 (hg _ (List.mem_map_of_mem hx)).2 hB⟩
theorem OwnP.rd {w : World} {b hi B : Nat} {v : Value} {ps : List Pk} (h : OwnP w b hi v ps) (hg : Good ps) (hB : w.heap.size ≤ B) : RdP w B v ps := by
  obtain ⟨xs, rfl, h2⟩ := h
  exact h2.rd hg hB
theorem OwnP.shape {w : World} {b hi : Nat} {v : Value} {ps : List Pk} (h : OwnP w b hi v ps) : ∃ a c, v = .slice a ps.length c := by
  obtain ⟨xs, rfl, h2, _⟩ := h
  rw [List.length_map]
  rcases h2.2 with ⟨rfl, h0⟩ | ⟨g, c, _, rfl, _⟩
  · exact ⟨_, _, by rw [h0]⟩
  · exact ⟨_, _, rfl⟩
theorem ownX_nil (w : World) (b hi : Nat) : OwnX w b hi (.slice none 0 0) [] := ⟨World.ownsRow_nil _ _ _ _, fun x hx => by simp at hx, ⟨fun x hx => by simp at hx, List.Pairwise.nil⟩, fun q hq => (by cases hq), fun u hu => by simp at hu⟩
theorem ownP_nil (w : World) (b hi : Nat) : OwnP w b hi (.slice none 0 0) [] := ⟨[], rfl, ownX_nil w b hi⟩

/-- Another row in its place: the packets' bytes stay. -/
theorem OwnX.turn {w w' : World} {b hi : Nat} {v : Value} {xs : List (Pk × Value)} (h : w'.ownsRow b 32 4 v xs.length (xs.flatMap pkC)) (hg : w.grownBy w' v.ownBlock) (ho : ∀ x ∈ xs, Own w b x.2 x.1.b)
    (hs : SepV v (xs.map Prod.snd)) (h1 : ∀ q, v.ownBlock = some q → q < hi) (h2 : ∀ u ∈ xs.map Prod.snd, ∀ q, u.ownBlock = some q → q < hi) : OwnX w' b hi v xs :=
  ⟨h, fun x hx => ownKept (ho x hx) hg (fun q hq => hs.1 x.2 (List.mem_map_of_mem hx) q hq), hs, h1, h2⟩

/-- A packet stored whole. -/
theorem flat_pk (xs : List (Pk × Value)) (j : Nat) (x : Pk × Value) (h : j < xs.length) : ((((xs.flatMap pkC).set (j * 4) (.int .i64 x.1.f)).set (j * 4 + 1) (.int .i64 x.1.t)).set (j * 4 + 2) x.2).set (j * 4 + 3) (.bool x.1.s) = (xs.set j x).flatMap pkC := by
  have h1 := flat_set pkC 4 pkC_len xs j 0 (.int .i64 x.1.f) (⟨x.1.f, (xs.getD j default).1.t, [], (xs.getD j default).1.s⟩, (xs.getD j default).2) (by omega) h (fun y hy => by simp [List.getD, hy]; rfl)
  rw [Nat.add_zero] at h1
  rw [h1, flat_set pkC 4 pkC_len _ j 1 (.int .i64 x.1.t) (⟨x.1.f, x.1.t, [], (xs.getD j default).1.s⟩, (xs.getD j default).2) (by omega) (by simpa using h) (fun y hy => by
    rw [List.getElem?_set_self (by exact h)] at hy
    cases hy; rfl), List.set_set]
  rw [flat_set pkC 4 pkC_len _ j 2 x.2 (⟨x.1.f, x.1.t, [], (xs.getD j default).1.s⟩, x.2) (by omega) (by simpa using h) (fun y hy => by
    rw [List.getElem?_set_self (by exact h)] at hy
    cases hy; rfl), List.set_set]
  rw [flat_set pkC 4 pkC_len _ j 3 (.bool x.1.s) x (by omega) (by simpa using h) (fun y hy => by
    rw [List.getElem?_set_self (by exact h)] at hy
    cases hy; rfl), List.set_set]

theorem SepV.set {v u : Value} {us : List Value} (h : SepV v us) (j : Nat) (hu : ∀ q, u.ownBlock = some q → v.ownBlock ≠ some q ∧ ∀ x ∈ us, x.ownBlock ≠ some q) : SepV v (us.set j u) := by
  refine ⟨fun x hx q hq => ?_, ?_⟩
  · rcases List.mem_or_eq_of_mem_set hx with hx | rfl
    · exact h.1 x hx q hq
    · exact (hu q hq).1
  · rw [List.pairwise_iff_getElem]
    intro i k hi hk hik q hq
    have hp := List.pairwise_iff_getElem.1 h.2
    rw [List.length_set] at hi hk
    rw [List.getElem_set] at hq ⊢
    split at hq
    · rw [if_neg (by omega)]
      exact (hu q hq).2 _ (List.getElem_mem _)
    · split
      · intro e
        exact (hu q e).2 _ (List.getElem_mem (h := hi)) hq
      · exact hp i k hi hk hik q hq

/-- Packet j of a row of one's own stored whole, with bytes of its own. -/
theorem OwnX.put {w : World} {b hi g n c : Nat} {xs : List (Pk × Value)} (h : OwnX w b hi (.slice (some ⟨g, 0, none⟩) n c) xs) (hn : xs.length = n) (j : Nat) (hj : j < n) (p : Pk) (u : Value) (hu : Own w b u p.b)
    (hf : ∀ q, u.ownBlock = some q → g ≠ q ∧ (∀ x ∈ xs.map Prod.snd, x.ownBlock ≠ some q) ∧ q < hi) :
    (∀ r, r < 4 → ∃ y, w.cell? ⟨g, j * 4 + r, none⟩ = some y) ∧ (∀ r, w.frozen? ⟨g, r, none⟩ = false) ∧
    OwnX ((((w.setCell ⟨g, j * 4, none⟩ (.int .i64 p.f)).setCell ⟨g, j * 4 + 1, none⟩ (.int .i64 p.t)).setCell ⟨g, j * 4 + 2, none⟩ u).setCell ⟨g, j * 4 + 3, none⟩ (.bool p.s)) b hi (.slice (some ⟨g, 0, none⟩) n c) (xs.set j (p, u)) := by
  subst hn
  obtain ⟨h0, ho, hs, hv, hx⟩ := h
  have hl : (xs.flatMap pkC).length = xs.length * 4 := flat_len pkC 4 pkC_len xs
  refine ⟨fun r hr => ?_, fun r => World.ownsRow.frozenAt h0 r, ?_⟩
  · rw [World.ownsRow.cellAt h0 _ (by omega)]; exact ⟨_, List.getElem?_eq_getElem (by omega)⟩
  · have h1 := World.ownsRow.stored h0 (j * 4) (.int .i64 p.f)
    have h2 := World.ownsRow.stored h1.1 (j * 4 + 1) (.int .i64 p.t)
    have h3 := World.ownsRow.stored h2.1 (j * 4 + 2) u
    have h4 := World.ownsRow.stored h3.1 (j * 4 + 3) (.bool p.s)
    have hfin := h4.1
    rw [flat_pk xs j (p, u) hj] at hfin
    refine OwnX.turn (w := w) (by rw [List.length_set]; exact hfin) (grownBy_trans (grownBy_trans (grownBy_trans h1.2 h2.2) h3.2) h4.2) (fun x hx => ?_) ?_ hv (fun y hy => ?_)
    · rcases List.mem_or_eq_of_mem_set hx with hx | rfl
      · exact ho x hx
      · exact hu
    · rw [List.map_set]
      exact hs.set j (fun q hq => ⟨fun e => (hf q hq).1 (by simpa [Value.ownBlock] using e), (hf q hq).2.1⟩)
    · rw [List.map_set] at hy
      rcases List.mem_or_eq_of_mem_set hy with hy | rfl
      · exact hx y hy
      · exact fun q hq => (hf q hq).2.2

/-- How many packets and bytes there are. -/
def tot (ps : List Pk) : Nat := ps.foldr (fun p n => p.b.length + n) ps.length
theorem tot_le {ps : List Pk} {p : Pk} (h : p ∈ ps) : p.b.length ≤ ps.foldr (fun p n => p.b.length + n) 0 := by
  induction ps with
  | nil => simp at h
  | cons q qs ih =>
    rcases List.mem_cons.1 h with rfl | h
    · simp
    · have := ih h; simp; omega
theorem fold_add (ps : List Pk) (n : Nat) : ps.foldr (fun p n => p.b.length + n) n = ps.foldr (fun p n => p.b.length + n) 0 + n := by
  induction ps with
  | nil => simp
  | cons q qs ih => simp only [List.foldr_cons]; rw [ih]; omega
theorem tot_len (ps : List Pk) : ps.length ≤ tot ps := by unfold tot; rw [fold_add]; omega
theorem tot_mem {ps : List Pk} {p : Pk} (h : p ∈ ps) : p.b.length ≤ tot ps := by have := tot_le h; unfold tot; rw [fold_add]; omega

end Go.Proofs.YtkfnpijljpbiaaaDoor
