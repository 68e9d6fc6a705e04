/-
  Rows of messages, senders and lines: what may be read of them, what one's own are, and how they come in.
-/
import Derived.Test.YtoaenoakdbieaaaNetOpen
import Derived.Test.YtoaenoakdbieaaaMsgRows
namespace Go.Proofs.Ytoaenoakdbieaaa
open Go.ChangeShapes Go.WideShapes Go.RowKit

/-- A message: its numbers, its cells, its notes. -/
structure Ms where
  k : Int
  i : Int
  u : Int
  c : Int
  n : Int
  cs : List (Int × Bool × Int)
  ns : List (Int × Int)
instance : Inhabited Ms := ⟨⟨0, 0, 0, 0, 0, [], []⟩⟩

/-- A message as it lies: with the slices of its cells and of its notes. -/
abbrev MsX := Ms × Value × Value
/-- The cells of a message. -/
def msC (x : MsX) : List Value := [.int .i64 x.1.k, .int .i64 x.1.i, .int .i64 x.1.u, .int .i64 x.1.c, .int .i64 x.1.n, x.2.1, x.2.2]
theorem msC_len (x : MsX) : (msC x).length = 7 := rfl
/-- A message as a value. -/
def msV (m : Ms) (cv nv : Value) : Value := msgV m.k m.i m.u m.c m.n cv nv

/-- Its cells and notes may be read below block B. -/
def Mt (w : World) (B : Nat) (x : MsX) : Prop := Rd w B 3 x.2.1 x.1.cs.length (x.1.cs.flatMap cellC) ∧ Rd w B 2 x.2.2 x.1.ns.length (x.1.ns.flatMap noteC)
theorem Mt.kept {w w' : World} {B : Nat} {x : MsX} (h : Mt w B x) (hb : ∀ k, k < B → w'.heap[k]? = w.heap[k]?) : Mt w' B x := ⟨h.1.kept hb, h.2.kept hb⟩
theorem Mt.up {w : World} {B B' : Nat} {x : MsX} (h : Mt w B x) (hB : B ≤ B') : Mt w B' x := ⟨h.1.up hB, h.2.up hB⟩
theorem Mt.at {w w' : World} {x : MsX} (h : Mt w w.heap.size x) (hb : Below w.heap.size w w') : Mt w' w'.heap.size x := (h.kept hb.block).up hb.size
theorem Mt.low {w w' : World} {B : Nat} {x : MsX} (h : Mt w B x) (hb : Below w.heap.size w w') (hB : B ≤ w.heap.size) : Mt w' B x := h.kept (fun k hk => hb.block k (by omega))
theorem Mt.drewN {w : World} {B : Nat} {x : MsX} (h : Mt w B x) (q : Nat) : Mt (w.drewN q) B x := h

/-- v is a slice of just these messages, they and their parts below block B. -/
def RdS (w : World) (B : Nat) (v : Value) (ms : List Ms) : Prop :=
  ∃ xs : List MsX, xs.map Prod.fst = ms ∧ Rd w B 7 v xs.length (xs.flatMap msC) ∧ ∀ x ∈ xs, Mt w B x
theorem RdS.kept {w w' : World} {B : Nat} {v : Value} {ms : List Ms} (h : RdS w B v ms) (hb : ∀ k, k < B → w'.heap[k]? = w.heap[k]?) : RdS w' B v ms := by
  obtain ⟨xs, h1, h2, h3⟩ := h
  exact ⟨xs, h1, h2.kept hb, fun x hx => (h3 x hx).kept hb⟩
theorem RdS.up {w : World} {B B' : Nat} {v : Value} {ms : List Ms} (h : RdS w B v ms) (hB : B ≤ B') : RdS w B' v ms := by
  obtain ⟨xs, h1, h2, h3⟩ := h
  exact ⟨xs, h1, h2.up hB, fun x hx => (h3 x hx).up hB⟩
theorem RdS.low {w w' : World} {B : Nat} {v : Value} {ms : List Ms} (h : RdS w B v ms) (hb : Below w.heap.size w w') (hB : B ≤ w.heap.size) : RdS w' B v ms :=
  h.kept (fun k hk => hb.block k (by omega))
theorem RdS.at {w w' : World} {v : Value} {ms : List Ms} (h : RdS w w.heap.size v ms) (hb : Below w.heap.size w w') : RdS w' w'.heap.size v ms :=
  (h.kept hb.block).up hb.size
theorem RdS.drewN {w : World} {B : Nat} {v : Value} {ms : List Ms} (h : RdS w B v ms) (q : Nat) : RdS (w.drewN q) B v ms := h

/-- Its cells, message by message. -/
theorem ms_at {w : World} {B : Nat} {v : Value} {ms : List Ms} (h : RdS w B v ms) :
    ∃ a cap, v = .slice a ms.length cap ∧ ms.length ≤ cap ∧ (a = none → cap = 0) ∧ (0 < ms.length → ∃ b o, a = some ⟨b, o, none⟩ ∧ b < B ∧ ∀ j, j < ms.length → ∃ cv nv,
      w.cell? ⟨b, o + j * 7, none⟩ = some (.int .i64 (ms.getD j default).k) ∧ w.cell? ⟨b, o + j * 7 + 1, none⟩ = some (.int .i64 (ms.getD j default).i) ∧
      w.cell? ⟨b, o + j * 7 + 2, none⟩ = some (.int .i64 (ms.getD j default).u) ∧ w.cell? ⟨b, o + j * 7 + 3, none⟩ = some (.int .i64 (ms.getD j default).c) ∧
      w.cell? ⟨b, o + j * 7 + 4, none⟩ = some (.int .i64 (ms.getD j default).n) ∧ w.cell? ⟨b, o + j * 7 + 5, none⟩ = some cv ∧ w.cell? ⟨b, o + j * 7 + 6, none⟩ = some nv ∧
      Mt w B (ms.getD j default, cv, nv)) := by
  obtain ⟨xs, rfl, ⟨_, a, cap, rfl, h2, h3, h4⟩, h5⟩ := h
  rw [List.length_map]
  refine ⟨a, cap, rfl, h2, h3, fun hp => ?_⟩
  obtain ⟨b, o, rfl, hb, hc⟩ := h4 hp
  refine ⟨b, o, rfl, hb, fun j hj => ?_⟩
  have hg : (xs.map Prod.fst).getD j default = (xs.getD j default).1 := by simp [List.getD, hj]
  have hx : xs.getD j default ∈ xs := by
    have : xs.getD j default = xs[j] := by simp [hj]
    rw [this]; exact List.getElem_mem _
  rw [hg]
  refine ⟨(xs.getD j default).2.1, (xs.getD j default).2.2, ?_, ?_, ?_, ?_, ?_, ?_, ?_, h5 _ hx⟩
  · rw [show o + j * 7 = o + (j * 7 + 0) from rfl, hc _ (by omega), flat_get msC 7 msC_len xs default j 0 hj (by omega)]; rfl
  · rw [Nat.add_assoc, hc _ (by omega), flat_get msC 7 msC_len xs default j 1 hj (by omega)]; rfl
  · rw [Nat.add_assoc, hc _ (by omega), flat_get msC 7 msC_len xs default j 2 hj (by omega)]; rfl
  · rw [Nat.add_assoc, hc _ (by omega), flat_get msC 7 msC_len xs default j 3 hj (by omega)]; rfl
  · rw [Nat.add_assoc, hc _ (by omega), flat_get msC 7 msC_len xs default j 4 hj (by omega)]; rfl
  · rw [Nat.add_assoc, hc _ (by omega), flat_get msC 7 msC_len xs default j 5 hj (by omega)]; rfl
  · rw [Nat.add_assoc, hc _ (by omega), flat_get msC 7 msC_len xs default j 6 hj (by omega)]; rfl

/-- Not too many cells and notes. -/
def GoodM (m : Ms) : Prop := m.cs.length ≤ 1048576 ∧ m.ns.length ≤ 1048576
def GoodS (ms : List Ms) : Prop := ∀ m ∈ ms, GoodM m
theorem GoodS.at {ms : List Ms} (h : GoodS ms) {j : Nat} (hj : j < ms.length) : GoodM (ms.getD j default) := by
  have : ms.getD j default = ms[j] := by simp [hj]
  rw [this]; exact h _ (List.getElem_mem _)

/-- The slices that messages have. -/
def vals (xs : List MsX) : List Value := xs.flatMap (fun x => [x.2.1, x.2.2])
theorem vals_mem {xs : List MsX} {x : MsX} (h : x ∈ xs) : x.2.1 ∈ vals xs ∧ x.2.2 ∈ vals xs :=
  ⟨List.mem_flatMap.2 ⟨x, h, by simp⟩, List.mem_flatMap.2 ⟨x, h, by simp⟩⟩

/-- A row of messages of one's own, from block b on up to hi, each with parts of its own there. -/
def OwnY (w : World) (b hi : Nat) (v : Value) (xs : List MsX) : Prop :=
  w.ownsRow b 65 7 v xs.length (xs.flatMap msC) ∧ (∀ x ∈ xs, OwnC w b x.2.1 x.1.cs ∧ OwnN w b x.2.2 x.1.ns) ∧ SepV v (vals xs) ∧ (∀ q, v.ownBlock = some q → q < hi) ∧ ∀ u ∈ vals xs, ∀ q, u.ownBlock = some q → q < hi
def OwnS (w : World) (b hi : Nat) (v : Value) (ms : List Ms) : Prop := ∃ xs : List MsX, xs.map Prod.fst = ms ∧ OwnY w b hi v xs

theorem OwnY.same {w w' : World} {b hi : Nat} {v : Value} {xs : List MsX} (h : OwnY w b hi v xs) (hs : ∀ q, b ≤ q → q < hi → q < w.heap.size → w'.heap[q]? = w.heap[q]?) : OwnY w' b hi v xs :=
  ⟨owns_same h.1 (fun q hq => hs q (World.ownsRow.lt h.1 q hq).1 (h.2.2.2.1 q hq) (World.ownsRow.lt h.1 q hq).2),
   fun x hx => ⟨owns_same (h.2.1 x hx).1 (fun q hq => hs q (World.ownsRow.lt (h.2.1 x hx).1 q hq).1 (h.2.2.2.2 _ (vals_mem hx).1 q hq) (World.ownsRow.lt (h.2.1 x hx).1 q hq).2),
     owns_same (h.2.1 x hx).2 (fun q hq => hs q (World.ownsRow.lt (h.2.1 x hx).2 q hq).1 (h.2.2.2.2 _ (vals_mem hx).2 q hq) (World.ownsRow.lt (h.2.1 x hx).2 q hq).2)⟩, h.2.2⟩
theorem OwnY.mono {w : World} {b b' hi : Nat} {v : Value} {xs : List MsX} (h : OwnY w b hi v xs) (hb : b' ≤ b) : OwnY w b' hi v xs :=
  ⟨owns_mono h.1 hb, fun x hx => ⟨owns_mono (h.2.1 x hx).1 hb, owns_mono (h.2.1 x hx).2 hb⟩, h.2.2⟩
theorem OwnY.up {w : World} {b hi hi' : Nat} {v : Value} {xs : List MsX} (h : OwnY w b hi v xs) (hb : hi ≤ hi') : OwnY w b hi' v xs :=
  ⟨h.1, h.2.1, h.2.2.1, fun q hq => Nat.lt_of_lt_of_le (h.2.2.2.1 q hq) hb, fun u hu q hq => Nat.lt_of_lt_of_le (h.2.2.2.2 u hu q hq) hb⟩
theorem OwnY.below {w w' : World} {b hi : Nat} {v : Value} {xs : List MsX} (h : OwnY w b hi v xs) (hb : Below w.heap.size w w') : OwnY w' b hi v xs := h.same (fun q _ _ hq => hb.block q hq)
theorem OwnS.same {w w' : World} {b hi : Nat} {v : Value} {ms : List Ms} (h : OwnS w b hi v ms) (hs : ∀ q, b ≤ q → q < hi → q < w.heap.size → w'.heap[q]? = w.heap[q]?) : OwnS w' b hi v ms := by
  obtain ⟨xs, h1, h2⟩ := h
  exact ⟨xs, h1, h2.same hs⟩
theorem OwnS.below {w w' : World} {b hi : Nat} {v : Value} {ms : List Ms} (h : OwnS w b hi v ms) (hb : Below w.heap.size w w') : OwnS w' b hi v ms := h.same (fun q _ _ hq => hb.block q hq)
theorem OwnS.out {w w' : World} {b hi c d : Nat} {v : Value} {ms : List Ms} (h : OwnS w b hi v ms) (ho : Out c d w w') (hd : hi ≤ c ∨ d ≤ b) : OwnS w' b hi v ms := h.same (fun q _ _ hq => ho.block q hq (by omega))
theorem OwnS.mono {w : World} {b b' hi : Nat} {v : Value} {ms : List Ms} (h : OwnS w b hi v ms) (hb : b' ≤ b) : OwnS w b' hi v ms := by
  obtain ⟨xs, h1, h2⟩ := h
  exact ⟨xs, h1, h2.mono hb⟩
theorem OwnS.up {w : World} {b hi hi' : Nat} {v : Value} {ms : List Ms} (h : OwnS w b hi v ms) (hb : hi ≤ hi') : OwnS w b hi' v ms := by
  obtain ⟨xs, h1, h2⟩ := h
  exact ⟨xs, h1, h2.up hb⟩
theorem OwnS.drewN {w : World} {b hi : Nat} {v : Value} {ms : List Ms} (h : OwnS w b hi v ms) (q : Nat) : OwnS (w.drewN q) b hi v ms := h
theorem OwnY.rd {w : World} {b hi B : Nat} {v : Value} {xs : List MsX} (h : OwnY w b hi v xs) (hB : w.heap.size ≤ B) : RdS w B v (xs.map Prod.fst) :=
  ⟨xs, rfl, rd_own h.1 hB, fun x hx => ⟨(h.2.1 x hx).1.rd hB, (h.2.1 x hx).2.rd hB⟩⟩
theorem OwnS.rd {w : World} {b hi B : Nat} {v : Value} {ms : List Ms} (h : OwnS w b hi v ms) (hB : w.heap.size ≤ B) : RdS w B v ms := by
  obtain ⟨xs, rfl, h2⟩ := h
  exact h2.rd hB
theorem OwnS.shape {w : World} {b hi : Nat} {v : Value} {ms : List Ms} (h : OwnS w b hi v ms) : ∃ a c, v = .slice a ms.length c := by
  obtain ⟨xs, rfl, h2, _⟩ := h
  rw [List.length_map]
  rcases h2.2 with ⟨rfl, h0⟩ | ⟨g, c, _, rfl, _⟩
  · exact ⟨_, _, by rw [h0]⟩
  · exact ⟨_, _, rfl⟩
theorem ownY_nil (w : World) (b hi : Nat) : OwnY w b hi (.slice none 0 0) [] := ⟨World.ownsRow_nil _ _ _ _, fun x hx => by simp at hx, ⟨fun x hx => by simp [vals] at hx, List.Pairwise.nil⟩, fun q hq => (by cases hq), fun u hu => by simp [vals] at hu⟩
theorem ownS_nil (w : World) (b hi : Nat) : OwnS w b hi (.slice none 0 0) [] := ⟨[], rfl, ownY_nil w b hi⟩

theorem ownC_kept {w w' : World} {b : Nat} {v : Value} {row : Option Nat} {cs : List (Int × Bool × Int)} (h : OwnC w b v cs) (hg : w.grownBy w' row) (hne : ∀ q, v.ownBlock = some q → row ≠ some q) : OwnC w' b v cs := by
  refine World.ownsRow.kept h hg ?_
  cases hv : v.ownBlock with
  | none => exact .inl rfl
  | some q => exact .inr (fun e => hne q hv e.symm)
theorem ownN_kept {w w' : World} {b : Nat} {v : Value} {row : Option Nat} {cs : List (Int × Int)} (h : OwnN w b v cs) (hg : w.grownBy w' row) (hne : ∀ q, v.ownBlock = some q → row ≠ some q) : OwnN w' b v cs := by
  refine World.ownsRow.kept h hg ?_
  cases hv : v.ownBlock with
  | none => exact .inl rfl
  | some q => exact .inr (fun e => hne q hv e.symm)
theorem ownC_shape {w : World} {b : Nat} {v : Value} {cs : List (Int × Bool × Int)} (h : OwnC w b v cs) : ∃ a c, v = .slice a cs.length c := by
  rcases h.2 with ⟨rfl, h0⟩ | ⟨g, c, _, rfl, _⟩
  · exact ⟨_, _, by rw [h0]⟩
  · exact ⟨_, _, rfl⟩
theorem ownN_shape {w : World} {b : Nat} {v : Value} {ns : List (Int × Int)} (h : OwnN w b v ns) : ∃ a c, v = .slice a ns.length c := by
  rcases h.2 with ⟨rfl, h0⟩ | ⟨g, c, _, rfl, _⟩
  · exact ⟨_, _, by rw [h0]⟩
  · exact ⟨_, _, rfl⟩
/-- Another row in its place: the messages' parts stay. -/
theorem OwnY.turn {w w' : World} {b hi : Nat} {v : Value} {xs : List MsX} (h : w'.ownsRow b 65 7 v xs.length (xs.flatMap msC)) (hg : w.grownBy w' v.ownBlock) (ho : ∀ x ∈ xs, OwnC w b x.2.1 x.1.cs ∧ OwnN w b x.2.2 x.1.ns)
    (hs : SepV v (vals xs)) (h1 : ∀ q, v.ownBlock = some q → q < hi) (h2 : ∀ u ∈ vals xs, ∀ q, u.ownBlock = some q → q < hi) : OwnY w' b hi v xs :=
  ⟨h, fun x hx => ⟨ownC_kept (ho x hx).1 hg (fun q hq => hs.1 _ (vals_mem hx).1 q hq), ownN_kept (ho x hx).2 hg (fun q hq => hs.1 _ (vals_mem hx).2 q hq)⟩, hs, h1, h2⟩

/-- A message stored whole. -/
theorem flat_ms (xs : List MsX) (j : Nat) (x : MsX) (h : j < xs.length) :
    (((((((xs.flatMap msC).set (j * 7) (.int .i64 x.1.k)).set (j * 7 + 1) (.int .i64 x.1.i)).set (j * 7 + 2) (.int .i64 x.1.u)).set (j * 7 + 3) (.int .i64 x.1.c)).set (j * 7 + 4) (.int .i64 x.1.n)).set (j * 7 + 5) x.2.1).set (j * 7 + 6) x.2.2 = (xs.set j x).flatMap msC := by
  have h1 := flat_set msC 7 msC_len xs j 0 (.int .i64 x.1.k) ({ (xs.getD j default).1 with k := x.1.k }, (xs.getD j default).2) (by omega) h (fun y hy => by simp [List.getD, hy]; rfl)
  rw [Nat.add_zero] at h1
  rw [h1, flat_set msC 7 msC_len _ j 1 (.int .i64 x.1.i) ({ (xs.getD j default).1 with k := x.1.k, i := x.1.i }, (xs.getD j default).2) (by omega) (by simpa using h) (fun y hy => by
    rw [List.getElem?_set_self (by exact h)] at hy
    cases hy; rfl), List.set_set]
  rw [flat_set msC 7 msC_len _ j 2 (.int .i64 x.1.u) ({ (xs.getD j default).1 with k := x.1.k, i := x.1.i, u := x.1.u }, (xs.getD j default).2) (by omega) (by simpa using h) (fun y hy => by
    rw [List.getElem?_set_self (by exact h)] at hy
    cases hy; rfl), List.set_set]
  rw [flat_set msC 7 msC_len _ j 3 (.int .i64 x.1.c) ({ (xs.getD j default).1 with k := x.1.k, i := x.1.i, u := x.1.u, c := x.1.c }, (xs.getD j default).2) (by omega) (by simpa using h) (fun y hy => by
    rw [List.getElem?_set_self (by exact h)] at hy
    cases hy; rfl), List.set_set]
  rw [flat_set msC 7 msC_len _ j 4 (.int .i64 x.1.n) (x.1, (xs.getD j default).2) (by omega) (by simpa using h) (fun y hy => by
    rw [List.getElem?_set_self (by exact h)] at hy
    cases hy; rfl), List.set_set]
  rw [flat_set msC 7 msC_len _ j 5 x.2.1 (x.1, x.2.1, (xs.getD j default).2.2) (by omega) (by simpa using h) (fun y hy => by
    rw [List.getElem?_set_self (by exact h)] at hy
    cases hy; rfl), List.set_set]
  rw [flat_set msC 7 msC_len _ j 6 x.2.2 x (by omega) (by simpa using h) (fun y hy => by
    rw [List.getElem?_set_self (by exact h)] at hy
    cases hy; rfl), List.set_set]

theorem vals_app (xs ys : List MsX) : vals (xs ++ ys) = vals xs ++ vals ys := by simp [vals]
theorem vals_one (x : MsX) : vals [x] = [x.2.1, x.2.2] := by simp [vals]
/-- The slices of one message more: apart, if they are. -/
theorem sep_snoc {v : Value} {ys : List MsX} {x : MsX} (h : SepV v (vals ys))
    (h1 : ∀ q, x.2.1.ownBlock = some q → v.ownBlock ≠ some q ∧ ∀ u ∈ vals ys, u.ownBlock ≠ some q)
    (h2 : ∀ q, x.2.2.ownBlock = some q → v.ownBlock ≠ some q ∧ (∀ u ∈ vals ys, u.ownBlock ≠ some q) ∧ x.2.1.ownBlock ≠ some q) :
    SepV v (vals (ys ++ [x])) := by
  rw [vals_app, vals_one]
  obtain ⟨ha, hb⟩ := h
  refine ⟨fun u hu q hq => ?_, ?_⟩
  · rcases List.mem_append.1 hu with hu | hu
    · exact ha u hu q hq
    · simp at hu
      rcases hu with rfl | rfl
      · exact (h1 q hq).1
      · exact (h2 q hq).1
  · rw [List.pairwise_append]
    refine ⟨hb, ?_, fun a haa c hc q hq => ?_⟩
    · rw [List.pairwise_cons]
      refine ⟨fun c hc q hq => ?_, by simp⟩
      simp at hc; subst hc
      exact fun e => (h2 q e).2.2 hq
    · simp at hc
      rcases hc with rfl | rfl
      · exact fun e => (h1 q e).2 a haa hq
      · exact fun e => (h2 q e).2.1 a haa hq

/-- A row of one's own whose first messages have parts of their own; of the others nothing is said. -/
def OwnT (w : World) (b hi : Nat) (v : Value) (ys zs : List MsX) : Prop :=
  w.ownsRow b 65 7 v (ys ++ zs).length ((ys ++ zs).flatMap msC) ∧ (∀ x ∈ ys, OwnC w b x.2.1 x.1.cs ∧ OwnN w b x.2.2 x.1.ns) ∧ SepV v (vals ys) ∧ (∀ q, v.ownBlock = some q → q < hi) ∧ ∀ u ∈ vals ys, ∀ q, u.ownBlock = some q → q < hi
theorem OwnT.done {w : World} {b hi : Nat} {v : Value} {ys : List MsX} (h : OwnT w b hi v ys []) : OwnY w b hi v ys := by
  obtain ⟨h1, h2⟩ := h
  rw [List.append_nil] at h1
  exact ⟨h1, h2⟩
theorem OwnT.same {w w' : World} {b hi : Nat} {v : Value} {ys zs : List MsX} (h : OwnT w b hi v ys zs) (hs : ∀ q, b ≤ q → q < hi → q < w.heap.size → w'.heap[q]? = w.heap[q]?) : OwnT w' b hi v ys zs :=
  ⟨owns_same h.1 (fun q hq => hs q (World.ownsRow.lt h.1 q hq).1 (h.2.2.2.1 q hq) (World.ownsRow.lt h.1 q hq).2),
   fun x hx => ⟨owns_same (h.2.1 x hx).1 (fun q hq => hs q (World.ownsRow.lt (h.2.1 x hx).1 q hq).1 (h.2.2.2.2 _ (vals_mem hx).1 q hq) (World.ownsRow.lt (h.2.1 x hx).1 q hq).2),
     owns_same (h.2.1 x hx).2 (fun q hq => hs q (World.ownsRow.lt (h.2.1 x hx).2 q hq).1 (h.2.2.2.2 _ (vals_mem hx).2 q hq) (World.ownsRow.lt (h.2.1 x hx).2 q hq).2)⟩, h.2.2⟩
theorem OwnT.below {w w' : World} {b hi : Nat} {v : Value} {ys zs : List MsX} (h : OwnT w b hi v ys zs) (hb : Below w.heap.size w w') : OwnT w' b hi v ys zs := h.same (fun q _ _ hq => hb.block q hq)
theorem OwnT.up {w : World} {b hi hi' : Nat} {v : Value} {ys zs : List MsX} (h : OwnT w b hi v ys zs) (hb : hi ≤ hi') : OwnT w b hi' v ys zs :=
  ⟨h.1, h.2.1, h.2.2.1, fun q hq => Nat.lt_of_lt_of_le (h.2.2.2.1 q hq) hb, fun u hu q hq => Nat.lt_of_lt_of_le (h.2.2.2.2 u hu q hq) hb⟩
theorem ownT_start {w : World} {b hi n : Nat} {v : Value} {zs : List MsX} (h : w.ownsRow b 65 7 v n (zs.flatMap msC)) (hn : zs.length = n) (hg : ∀ q, v.ownBlock = some q → q < hi) : OwnT w b hi v [] zs := by
  subst hn
  exact ⟨h, fun x hx => by simp at hx, ⟨fun u hu => by simp [vals] at hu, List.Pairwise.nil⟩, hg, fun u hu => by simp [vals] at hu⟩

/-- The message behind those that have parts of their own stored whole, with parts of its own. -/
theorem OwnT.put {w : World} {b hi g n c : Nat} {ys zs : List MsX} {z : MsX} (h : OwnT w b hi (.slice (some ⟨g, 0, none⟩) n c) ys (z :: zs)) (hn : ys.length + (zs.length + 1) = n) (p : Ms) (cv nv : Value) (hc : OwnC w b cv p.cs) (hv : OwnN w b nv p.ns)
    (h1 : ∀ q, cv.ownBlock = some q → g ≠ q ∧ (∀ x ∈ vals ys, x.ownBlock ≠ some q) ∧ q < hi)
    (h2 : ∀ q, nv.ownBlock = some q → g ≠ q ∧ (∀ x ∈ vals ys, x.ownBlock ≠ some q) ∧ q < hi ∧ cv.ownBlock ≠ some q) :
    (∀ r, r < 7 → ∃ y, w.cell? ⟨g, ys.length * 7 + r, none⟩ = some y) ∧ (∀ r, w.frozen? ⟨g, r, none⟩ = false) ∧
    OwnT (((((((w.setCell ⟨g, ys.length * 7, none⟩ (.int .i64 p.k)).setCell ⟨g, ys.length * 7 + 1, none⟩ (.int .i64 p.i)).setCell ⟨g, ys.length * 7 + 2, none⟩ (.int .i64 p.u)).setCell ⟨g, ys.length * 7 + 3, none⟩ (.int .i64 p.c)).setCell ⟨g, ys.length * 7 + 4, none⟩ (.int .i64 p.n)).setCell ⟨g, ys.length * 7 + 5, none⟩ cv).setCell ⟨g, ys.length * 7 + 6, none⟩ nv) b hi (.slice (some ⟨g, 0, none⟩) n c) (ys ++ [(p, cv, nv)]) zs := by
  generalize hj : ys.length = j at *
  obtain ⟨h0, ho, hs, hvv, hx⟩ := h
  have hlen : (ys ++ z :: zs).length = n := by rw [List.length_append, List.length_cons, hj]; exact hn
  have hl : ((ys ++ z :: zs).flatMap msC).length = n * 7 := by rw [flat_len msC 7 msC_len, hlen]
  rw [hlen] at h0
  have ez : (ys ++ z :: zs).set j (p, cv, nv) = ys ++ [(p, cv, nv)] ++ zs := by
    rw [List.set_append_right _ _ (by omega), hj, Nat.sub_self, List.set_cons_zero, List.append_assoc]; rfl
  refine ⟨fun r hr => ?_, fun r => World.ownsRow.frozenAt h0 r, ?_⟩
  · rw [World.ownsRow.cellAt h0 _ (by omega)]; exact ⟨_, List.getElem?_eq_getElem (by omega)⟩
  · have s0 := World.ownsRow.stored h0 (j * 7) (.int .i64 p.k)
    have s1 := World.ownsRow.stored s0.1 (j * 7 + 1) (.int .i64 p.i)
    have s2 := World.ownsRow.stored s1.1 (j * 7 + 2) (.int .i64 p.u)
    have s3 := World.ownsRow.stored s2.1 (j * 7 + 3) (.int .i64 p.c)
    have s4 := World.ownsRow.stored s3.1 (j * 7 + 4) (.int .i64 p.n)
    have s5 := World.ownsRow.stored s4.1 (j * 7 + 5) cv
    have s6 := World.ownsRow.stored s5.1 (j * 7 + 6) nv
    have hfin := s6.1
    rw [flat_ms _ j (p, cv, nv) (by omega), ez] at hfin
    have hl2 : (ys ++ [(p, cv, nv)] ++ zs).length = n := by simp; omega
    have hg := grownBy_trans (grownBy_trans (grownBy_trans (grownBy_trans (grownBy_trans (grownBy_trans s0.2 s1.2) s2.2) s3.2) s4.2) s5.2) s6.2
    have hs' : SepV (Value.slice (some ⟨g, 0, none⟩) n c) (vals (ys ++ [(p, cv, nv)])) := sep_snoc hs (fun q hq => ⟨fun e => (h1 q hq).1 (by simpa [Value.ownBlock] using e), (h1 q hq).2.1⟩)
        (fun q hq => ⟨fun e => (h2 q hq).1 (by simpa [Value.ownBlock] using e), (h2 q hq).2.1, (h2 q hq).2.2.2⟩)
    refine ⟨by rw [hl2]; exact hfin, fun x hx => ?_, hs', hvv, fun u hu => ?_⟩
    · have ho' : OwnC w b x.2.1 x.1.cs ∧ OwnN w b x.2.2 x.1.ns := by
        rcases List.mem_append.1 hx with hx | hx
        · exact ho x hx
        · simp at hx; subst hx; exact ⟨hc, hv⟩
      exact ⟨ownC_kept ho'.1 hg (fun q hq => hs'.1 _ (vals_mem hx).1 q hq), ownN_kept ho'.2 hg (fun q hq => hs'.1 _ (vals_mem hx).2 q hq)⟩
    · rw [vals_app, vals_one] at hu
      rcases List.mem_append.1 hu with hu | hu
      · exact hx u hu
      · simp at hu
        rcases hu with rfl | rfl
        · exact fun q hq => (h1 q hq).2.2
        · exact fun q hq => (h2 q hq).2.2.1

/-- How many messages, cells and notes there are. -/
def totS (ms : List Ms) : Nat := ms.foldr (fun m n => m.cs.length + m.ns.length + n) ms.length
theorem foldS_add (ms : List Ms) (n : Nat) : ms.foldr (fun m n => m.cs.length + m.ns.length + n) n = ms.foldr (fun m n => m.cs.length + m.ns.length + n) 0 + n := by
  induction ms with
  | nil => simp
  | cons q qs ih => simp only [List.foldr_cons]; rw [ih]; omega
theorem totS_le {ms : List Ms} {m : Ms} (h : m ∈ ms) : m.cs.length + m.ns.length ≤ ms.foldr (fun m n => m.cs.length + m.ns.length + n) 0 := by
  induction ms with
  | nil => simp at h
  | cons q qs ih =>
    rcases List.mem_cons.1 h with rfl | h
    · simp
    · have := ih h; simp; omega
theorem totS_len (ms : List Ms) : ms.length ≤ totS ms := by unfold totS; rw [foldS_add]; omega
theorem totS_mem {ms : List Ms} {m : Ms} (h : m ∈ ms) : m.cs.length + m.ns.length ≤ totS ms := by have := totS_le h; unfold totS; rw [foldS_add]; omega
theorem goodS {ms : List Ms} (h : totS ms ≤ 1048576) : GoodS ms := fun m hm => by have := totS_mem hm; exact ⟨by omega, by omega⟩

/-- A message that came in, with its parts. -/
def RawM (W : World) (x : MsX) : Prop := Mt W W.heap.size x ∧ x.1.cs.length ≤ maxLen ∧ x.1.ns.length ≤ maxLen
theorem RawM.below {w w' : World} {x : MsX} (h : RawM w x) (hb : Below w.heap.size w w') : RawM w' x := ⟨h.1.at hb, h.2⟩

set_option maxRecDepth 100000 in
theorem ms_cells {H : Type} {enc : TypeId × Value → H} {W : World} {fuel : Nat} {cs : List Value} {x : DataW H × List MemPlace}
    (h : DataW.trod enc Try.prog W 0 (fun _ => true) true fuel 58 cs = some x) : ∃ y, cs = msC y ∧ RawM W y := by
  have c0 : Try.prog.cellsOf 58 = 7 := by kernel_rfl
  have c3 : Try.prog.cellsOf 3 = 1 := by kernel_rfl
  have c5 : Try.prog.cellsOf 55 = 1 := by kernel_rfl
  have c6 : Try.prog.cellsOf 56 = 1 := by kernel_rfl
  obtain ⟨xs, n, rfl, rfl, hlen, hxl, hf⟩ := DataW.trod_struct Try.underlying58 h
  rw [c0] at hlen
  match xs, hxl, cs, hlen with
  | [y0, y1, y2, y3, y4, y5, y6], _, [v0, v1, v2, v3, v4, v5, v6], _ =>
    have g0 := hf 0 _ rfl
    have g1 := hf 1 _ rfl
    have g2 := hf 2 _ rfl
    have g3 := hf 3 _ rfl
    have g4 := hf 4 _ rfl
    have g5 := hf 5 _ rfl
    have g6 := hf 6 _ rfl
    simp [c3, c5, c6] at g0 g1 g2 g3 g4 g5 g6
    obtain ⟨k, e0, _⟩ := DataW.trod_int Try.underlying3 g0
    obtain ⟨i, e1, _⟩ := DataW.trod_int Try.underlying3 g1
    obtain ⟨u, e2, _⟩ := DataW.trod_int Try.underlying3 g2
    obtain ⟨c, e3, _⟩ := DataW.trod_int Try.underlying3 g3
    obtain ⟨m, e4, _⟩ := DataW.trod_int Try.underlying3 g4
    simp at e0 e1 e2 e3 e4
    subst e0 e1 e2 e3 e4
    obtain ⟨ys, h1, h2, _⟩ := rd_open (Q := fun _ => True) (f := cellC) Try.underlying55 (by kernel_rfl) (by decide) cellC_len (fun _ _ _ h => cell_cells h) ⟨_, g5⟩
    obtain ⟨zs, h3, h4, _⟩ := rd_open (Q := fun _ => True) (f := noteC) Try.underlying56 (by kernel_rfl) (by decide) noteC_len (fun _ _ _ h => note_cells h) ⟨_, g6⟩
    exact ⟨(⟨k, i, u, c, m, ys, zs⟩, v5, v6), rfl, ⟨h1, h3⟩, h2, h4⟩

/-- A sender's two cells. -/
def IsSndC (W : World) (l : List Value) : Prop := ∃ (base : Int) (lv : Value) (xs : List MsX), l = [.int .i64 base, lv] ∧ (-9223372036854775808 ≤ base ∧ base ≤ 9223372036854775807) ∧ Rd W W.heap.size 7 lv xs.length (xs.flatMap msC) ∧ xs.length ≤ maxLen ∧ ∀ x ∈ xs, RawM W x
set_option maxRecDepth 100000 in
theorem snd_cells {H : Type} {enc : TypeId × Value → H} {W : World} {fuel : Nat} {cs : List Value} {x : DataW H × List MemPlace}
    (h : DataW.trod enc Try.prog W 0 (fun _ => true) true fuel 46 cs = some x) : IsSndC W cs := by
  have c0 : Try.prog.cellsOf 46 = 2 := by kernel_rfl
  have c3 : Try.prog.cellsOf 3 = 1 := by kernel_rfl
  have c5 : Try.prog.cellsOf 44 = 1 := by kernel_rfl
  obtain ⟨xs, n, rfl, hd, hlen, hxl, hf⟩ := DataW.trod_struct Try.underlying46 h
  rw [c0] at hlen
  match xs, hxl, cs, hlen with
  | [y0, y1], _, [v0, v1], _ =>
    have g0 := hf 0 _ rfl
    have g1 := hf 1 _ rfl
    simp [c3, c5] at g0 g1
    obtain ⟨k, e0, hk⟩ := DataW.trod_int Try.underlying3 g0
    simp at e0
    subst e0
    obtain ⟨ys, h1, h2, h3⟩ := rd_open (Q := RawM W) (f := msC) Try.underlying44 (by kernel_rfl) (by decide) msC_len (fun _ _ _ h => ms_cells h) ⟨_, g1⟩
    exact ⟨k, v1, ys, rfl, bounds_i64 (by first | exact hk | exact hk.2 | exact hk.1), h1, h2, fun x hx => by
      obtain ⟨j, hj, rfl⟩ := List.mem_iff_getElem.1 hx
      have := h3 j hj
      simpa [hj] using this⟩

def IsSnd (W : World) (v : Value) : Prop := ∃ (base : Int) (lv : Value) (xs : List MsX), v = .agg #[.int .i64 base, lv] ∧ (-9223372036854775808 ≤ base ∧ base ≤ 9223372036854775807) ∧ Rd W W.heap.size 7 lv xs.length (xs.flatMap msC) ∧ xs.length ≤ maxLen ∧ ∀ x ∈ xs, RawM W x
set_option maxRecDepth 100000 in
theorem openSnd {H : Type} {enc : TypeId × Value → H} {W : World} {r : Reach} {base : Nat} {v : Value} {d : DataW H} {p : List MemPlace}
    (hv : Value.okWide Try.prog W r base 46 v) (h : DataW.Trod enc Try.prog W 0 (fun _ => true) true 46 v d p) : IsSnd W v := by
  obtain ⟨cs, rfl, _⟩ := okWide_struct Try.underlying46 hv
  obtain ⟨fuel, h⟩ := h
  obtain ⟨b, lv, xs, e, hr⟩ := snd_cells h
  simp [Value.cells] at e
  exact ⟨b, lv, xs, by rw [show cs = #[.int .i64 b, lv] from by cases cs; simp_all], hr⟩
end Go.Proofs.Ytoaenoakdbieaaa
