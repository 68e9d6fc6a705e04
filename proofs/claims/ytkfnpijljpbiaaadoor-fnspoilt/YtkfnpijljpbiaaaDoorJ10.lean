/-
  Joined: MsgM, MsgRows, SndOpen.
-/
import Derived.Test.YtkfnpijljpbiaaaDoorKMsgK
import Derived.Test.YtkfnpijljpbiaaaDoorJ8
import Derived.Test.YtkfnpijljpbiaaaDoorJ4
/-
  MsgOk says what its model says.
-/
namespace Go.Proofs.YtkfnpijljpbiaaaDoor
open Go.RowKit

theorem cOk_nil {cs : List (Int × Bool × Int)} (h : ((cs.length : Int) == 0) = true) : cOk cs = true := by
  have : cs = [] := List.eq_nil_of_length_eq_zero (by simpa using h)
  subst this; rfl
theorem nOk_nil {ns : List (Int × Int)} (h : ((ns.length : Int) == 0) = true) : nOk ns = true := by
  have : ns = [] := List.eq_nil_of_length_eq_zero (by simpa using h)
  subst this; rfl
theorem in_zero (c b : Int) (hb : 0 ≤ b) : (inB c 0 b || c == 0) = inB c 0 b := by
  by_cases h : c = 0
  · subst h; rw [inB_mk (by omega) hb]; rfl
  · rw [show (c == 0) = false from by simpa using h, Bool.or_false]

theorem bool1 (a b c d e f g h : Bool) (h1 : g = true → b = true) (h2 : h = true → c = true) : (true && a && b && c && (d && e && f && (false || g) && (false || h))) = (a && true && (d && e && f && g && h)) := by
  revert h1 h2; revert a b c d e f g h; decide
theorem bool2 (a b c d e f g h : Bool) (h2 : h = true → c = true) : (true && a && b && c && (d && e && f && (true || g) && (false || h))) = (a && (e && f && b) && (d && true && true && true && h)) := by
  revert h2; revert a b c d e f g h; decide
theorem bool3 (a b c d e f g h : Bool) (h2 : h = true → c = true) : (true && a && b && c && (d && e && f && (true || g) && (false || h))) = (a && b && (d && e && f && true && h)) := by
  revert h2; revert a b c d e f g h; decide
theorem bool4 (a b c d e f g h : Bool) (h1 : g = true → b = true) (h2 : h = true → c = true) : (true && a && b && c && (d && e && f && (false || g) && (false || h))) = (a && f && (d && e && true && g && h)) := by
  revert h1 h2; revert a b c d e f g h; decide
theorem bool5 (a b c d e f g h : Bool) (h1 : g = true → b = true) (h2 : h = true → c = true) : (true && a && b && c && (d && e && f && (false || g) && (false || h))) = (a && d && (true && e && f && g && h)) := by
  revert h1 h2; revert a b c d e f g h; decide
theorem bool6 (a b c d e f g h : Bool) (h1 : g = true → b = true) : (true && a && b && c && (d && e && f && (false || g) && (true || h))) = (a && (d && c) && (true && e && f && g && true)) := by
  revert h1; revert a b c d e f g h; decide

theorem mOk_spec (k i u c n : Int) (cs : List (Int × Bool × Int)) (ns : List (Int × Int)) : mSpec k i u c n cs ns = mOk k i u c n cs ns := by
  have h1 := @cOk_nil cs
  have h2 := @nOk_nil ns
  have e255 := in_zero c 255 (by omega)
  have eMax := in_zero n 16777215 (by omega)
  have e0 : ∀ x : Int, (x == x) = true := fun x => by simp
  cases hk : inB k 1 10 with
  | false =>
    unfold mSpec mOk
    rw [hk, pOk_none (inB_no hk)]
    simp
  | true =>
    unfold mSpec
    rw [hk]
    rcases kinds hk with rfl | rfl | rfl | rfl | rfl | rfl | rfl | rfl | rfl | rfl
    · exact bool1 _ _ _ _ _ _ _ _ h1 h2
    · show (true && inB i 1 1000000 && cOk cs && nOk ns && ((u == 0) && (inB c 0 255 || c == 0) && (inB n 0 16777215 || n == 0) && (true || _) && (false || _))) = (inB i 1 1000000 && (inB c 0 255 && inB n 0 16777215 && cOk cs) && ((u == 0) && (c == c) && (n == n) && ((cs.length : Int) == (cs.length : Int)) && ((ns.length : Int) == 0)))
      rw [e255, eMax, e0, e0, e0]
      exact bool2 _ _ _ _ _ _ _ _ h2
    · show _ = (inB i 1 1000000 && cOk cs && ((u == 0) && (c == 0) && (n == 0) && ((cs.length : Int) == (cs.length : Int)) && ((ns.length : Int) == 0)))
      rw [e0]
      exact bool3 _ _ _ _ _ _ _ _ h2
    · show (true && inB i 1 1000000 && cOk cs && nOk ns && ((u == 0) && (c == 0) && (inB n 0 16777215 || n == 0) && (false || _) && (false || _))) = (inB i 1 1000000 && inB n 0 16777215 && ((u == 0) && (c == 0) && (n == n) && ((cs.length : Int) == 0) && ((ns.length : Int) == 0)))
      rw [eMax, e0]
      exact bool4 _ _ _ _ _ _ _ _ h1 h2
    · show _ = (inB i 1 1000000 && inB u 1 1000000 && ((u == u) && (c == 0) && (n == 0) && ((cs.length : Int) == 0) && ((ns.length : Int) == 0)))
      rw [e0]
      exact bool5 _ _ _ _ _ _ _ _ h1 h2
    · show _ = (inB i 1 1000000 && (inB u 1 1000000 && nOk ns) && ((u == u) && (c == 0) && (n == 0) && ((cs.length : Int) == 0) && ((ns.length : Int) == (ns.length : Int))))
      rw [e0, e0]
      exact bool6 _ _ _ _ _ _ _ _ h1
    · show _ = (inB i 1 1000000 && (inB u 1 1000000 && nOk ns) && ((u == u) && (c == 0) && (n == 0) && ((cs.length : Int) == 0) && ((ns.length : Int) == (ns.length : Int))))
      rw [e0, e0]
      exact bool6 _ _ _ _ _ _ _ _ h1
    · show _ = (inB i 1 1000000 && (inB u 1 1000000 && nOk ns) && ((u == u) && (c == 0) && (n == 0) && ((cs.length : Int) == 0) && ((ns.length : Int) == (ns.length : Int))))
      rw [e0, e0]
      exact bool6 _ _ _ _ _ _ _ _ h1
    · show _ = (inB i 1 1000000 && inB u 1 1000000 && ((u == u) && (c == 0) && (n == 0) && ((cs.length : Int) == 0) && ((ns.length : Int) == 0)))
      rw [e0]
      exact bool5 _ _ _ _ _ _ _ _ h1 h2
    · show _ = (inB i 1 1000000 && (inB u 1 1000000 && nOk ns) && ((u == u) && (c == 0) && (n == 0) && ((cs.length : Int) == 0) && ((ns.length : Int) == (ns.length : Int))))
      rw [e0, e0]
      exact bool6 _ _ _ _ _ _ _ _ h1
end Go.Proofs.YtkfnpijljpbiaaaDoor
/-
  Messages: copied into new memory, held against each other, how great they are.
-/
namespace Go.Proofs.YtkfnpijljpbiaaaDoor
open Go.RowKit

/-- The seven cells of a variable, stored one behind the other. -/
theorem put7 {w : World} {g : Nat} {T : TypeId} {a0 a1 a2 a3 a4 a5 a6 : Value} (h : w.heap[g]? = some (.cells #[a0, a1, a2, a3, a4, a5, a6] T (0, 0))) (b0 b1 b2 b3 b4 b5 b6 : Value) :
    (((((((w.setCell ⟨g, 0, none⟩ b0).setCell ⟨g, 1, none⟩ b1).setCell ⟨g, 2, none⟩ b2).setCell ⟨g, 3, none⟩ b3).setCell ⟨g, 4, none⟩ b4).setCell ⟨g, 5, none⟩ b5).setCell ⟨g, 6, none⟩ b6).heap[g]? = some (.cells #[b0, b1, b2, b3, b4, b5, b6] T (0, 0)) := by
  have h0 : (w.setCell ⟨g, 0, none⟩ b0).heap[g]? = some (.cells #[b0, a1, a2, a3, a4, a5, a6] T (0, 0)) := heap_setCell_same _ g 0 _ T b0 h
  have h1 : ((w.setCell ⟨g, 0, none⟩ b0).setCell ⟨g, 1, none⟩ b1).heap[g]? = some (.cells #[b0, b1, a2, a3, a4, a5, a6] T (0, 0)) := heap_setCell_same _ g 1 _ T b1 h0
  have h2 : (((w.setCell ⟨g, 0, none⟩ b0).setCell ⟨g, 1, none⟩ b1).setCell ⟨g, 2, none⟩ b2).heap[g]? = some (.cells #[b0, b1, b2, a3, a4, a5, a6] T (0, 0)) := heap_setCell_same _ g 2 _ T b2 h1
  have h3 : ((((w.setCell ⟨g, 0, none⟩ b0).setCell ⟨g, 1, none⟩ b1).setCell ⟨g, 2, none⟩ b2).setCell ⟨g, 3, none⟩ b3).heap[g]? = some (.cells #[b0, b1, b2, b3, a4, a5, a6] T (0, 0)) := heap_setCell_same _ g 3 _ T b3 h2
  have h4 : (((((w.setCell ⟨g, 0, none⟩ b0).setCell ⟨g, 1, none⟩ b1).setCell ⟨g, 2, none⟩ b2).setCell ⟨g, 3, none⟩ b3).setCell ⟨g, 4, none⟩ b4).heap[g]? = some (.cells #[b0, b1, b2, b3, b4, a5, a6] T (0, 0)) := heap_setCell_same _ g 4 _ T b4 h3
  have h5 : ((((((w.setCell ⟨g, 0, none⟩ b0).setCell ⟨g, 1, none⟩ b1).setCell ⟨g, 2, none⟩ b2).setCell ⟨g, 3, none⟩ b3).setCell ⟨g, 4, none⟩ b4).setCell ⟨g, 5, none⟩ b5).heap[g]? = some (.cells #[b0, b1, b2, b3, b4, b5, a6] T (0, 0)) := heap_setCell_same _ g 5 _ T b5 h4
  have h6 : (((((((w.setCell ⟨g, 0, none⟩ b0).setCell ⟨g, 1, none⟩ b1).setCell ⟨g, 2, none⟩ b2).setCell ⟨g, 3, none⟩ b3).setCell ⟨g, 4, none⟩ b4).setCell ⟨g, 5, none⟩ b5).setCell ⟨g, 6, none⟩ b6).heap[g]? = some (.cells #[b0, b1, b2, b3, b4, b5, b6] T (0, 0)) := heap_setCell_same _ g 6 _ T b6 h5
  exact h6
theorem own_put8 {w : World} {base e sz n : Nat} {v : Value} {cs : List Value} (h : w.ownsRow base e sz v n cs) {g1 g2 : Nat} (h1 : g1 < base) (h2 : g2 < base) (x0 x1 x2 x3 x4 x5 x6 x7 : Value) :
    ((((((((w.setCell ⟨g1, 6, none⟩ x0).setCell ⟨g2, 0, none⟩ x1).setCell ⟨g2, 1, none⟩ x2).setCell ⟨g2, 2, none⟩ x3).setCell ⟨g2, 3, none⟩ x4).setCell ⟨g2, 4, none⟩ x5).setCell ⟨g2, 5, none⟩ x6).setCell ⟨g2, 6, none⟩ x7).ownsRow base e sz v n cs := (ownsRow_setCell_below (ownsRow_setCell_below (ownsRow_setCell_below (ownsRow_setCell_below (ownsRow_setCell_below (ownsRow_setCell_below (ownsRow_setCell_below (ownsRow_setCell_below h (a := ⟨g1, 6, none⟩) h1 x0) (a := ⟨g2, 0, none⟩) h2 x1) (a := ⟨g2, 1, none⟩) h2 x2) (a := ⟨g2, 2, none⟩) h2 x3) (a := ⟨g2, 3, none⟩) h2 x4) (a := ⟨g2, 4, none⟩) h2 x5) (a := ⟨g2, 5, none⟩) h2 x6) (a := ⟨g2, 6, none⟩) h2 x7)
theorem below_put8 {B : Nat} {w0 w : World} (h : Below B w0 w) {g1 g2 : Nat} (h1 : B ≤ g1) (h2 : B ≤ g2) (x0 x1 x2 x3 x4 x5 x6 x7 : Value) :
    Below B w0 ((((((((w.setCell ⟨g1, 6, none⟩ x0).setCell ⟨g2, 0, none⟩ x1).setCell ⟨g2, 1, none⟩ x2).setCell ⟨g2, 2, none⟩ x3).setCell ⟨g2, 3, none⟩ x4).setCell ⟨g2, 4, none⟩ x5).setCell ⟨g2, 5, none⟩ x6).setCell ⟨g2, 6, none⟩ x7) := ((((((((h.setCell (p := ⟨g1, 6, none⟩) h1 x0).setCell (p := ⟨g2, 0, none⟩) h2 x1).setCell (p := ⟨g2, 1, none⟩) h2 x2).setCell (p := ⟨g2, 2, none⟩) h2 x3).setCell (p := ⟨g2, 3, none⟩) h2 x4).setCell (p := ⟨g2, 4, none⟩) h2 x5).setCell (p := ⟨g2, 5, none⟩) h2 x6).setCell (p := ⟨g2, 6, none⟩) h2 x7)
theorem load7 {w : World} {g : Nat} {a0 a1 a2 a3 a4 a5 a6 : Value} (h : w.heap[g]? = some (.cells #[a0, a1, a2, a3, a4, a5, a6] 39 (0, 0))) : (loadVar 39 ⟨g, 0, none⟩).run Tryd.prog w = .ok (.agg #[a0, a1, a2, a3, a4, a5, a6]) w :=
  run_loadVar_row w g 39 39 #[a0, a1, a2, a3, a4, a5, a6] (0, 0) _ h Tryd.underlying39 rfl (by kernel_rfl)

end Go.Proofs.YtkfnpijljpbiaaaDoor
/-
  Rows of messages, senders and lines: what may be read of them, what one's own are, and how they come in.
-/
namespace Go.Proofs.YtkfnpijljpbiaaaDoor
open Go.ChangeShapes Go.WideShapes Go.RowKit

/-- A message: its numbers, its cells, its notes. -/
structure Ms where
  k : Int
  i : Int
  u : Int
  c : Int
  n : Int
  cs : List (Int × Bool × Int)
  ns : List (Int × Int)
instance : Inhabited Ms := ⟨⟨0, 0, 0, 0, 0, [], []⟩⟩

/-- A message as it lies: with the slices of its cells and of its notes. -/
abbrev MsX := Ms × Value × Value
/-- The cells of a message. -/
def msC (x : MsX) : List Value := [.int .i64 x.1.k, .int .i64 x.1.i, .int .i64 x.1.u, .int .i64 x.1.c, .int .i64 x.1.n, x.2.1, x.2.2]
theorem msC_len (x : MsX) : (msC x).length = 7 := rfl
/-- A message as a value. -/
def msV (m : Ms) (cv nv : Value) : Value := msgV m.k m.i m.u m.c m.n cv nv

/-- Its cells and notes may be read below block B. -/
def Mt (w : World) (B : Nat) (x : MsX) : Prop := Rd w B 3 x.2.1 x.1.cs.length (x.1.cs.flatMap cellC) ∧ Rd w B 2 x.2.2 x.1.ns.length (x.1.ns.flatMap noteC)
theorem Mt.kept {w w' : World} {B : Nat} {x : MsX} (h : Mt w B x) (hb : ∀ k, k < B → w'.heap[k]? = w.heap[k]?) : Mt w' B x := ⟨h.1.kept hb, h.2.kept hb⟩
theorem Mt.up {w : World} {B B' : Nat} {x : MsX} (h : Mt w B x) (hB : B ≤ B') : Mt w B' x := ⟨h.1.up hB, h.2.up hB⟩
theorem Mt.at {w w' : World} {x : MsX} (h : Mt w w.heap.size x) (hb : Below w.heap.size w w') : Mt w' w'.heap.size x := (h.kept hb.block).up hb.size
theorem Mt.low {w w' : World} {B : Nat} {x : MsX} (h : Mt w B x) (hb : Below w.heap.size w w') (hB : B ≤ w.heap.size) : Mt w' B x := h.kept (fun k hk => hb.block k (by omega))
theorem Mt.drewN {w : World} {B : Nat} {x : MsX} (h : Mt w B x) (q : Nat) : Mt (w.drewN q) B x := h

/-- v is a slice of just these messages, they and their parts below block B. -/
def RdS (w : World) (B : Nat) (v : Value) (ms : List Ms) : Prop :=
  ∃ xs : List MsX, xs.map Prod.fst = ms ∧ Rd w B 7 v xs.length (xs.flatMap msC) ∧ ∀ x ∈ xs, Mt w B x
theorem RdS.kept {w w' : World} {B : Nat} {v : Value} {ms : List Ms} (h : RdS w B v ms) (hb : ∀ k, k < B → w'.heap[k]? = w.heap[k]?) : RdS w' B v ms := by
  obtain ⟨xs, h1, h2, h3⟩ := h
  exact ⟨xs, h1, h2.kept hb, fun x hx => (h3 x hx).kept hb⟩
theorem RdS.up {w : World} {B B' : Nat} {v : Value} {ms : List Ms} (h : RdS w B v ms) (hB : B ≤ B') : RdS w B' v ms := by
  obtain ⟨xs, h1, h2, h3⟩ := h
  exact ⟨xs, h1, h2.up hB, fun x hx => (h3 x hx).up hB⟩
theorem RdS.low {w w' : World} {B : Nat} {v : Value} {ms : List Ms} (h : RdS w B v ms) (hb : Below w.heap.size w w') (hB : B ≤ w.heap.size) : RdS w' B v ms :=
  h.kept (fun k hk => hb.block k (by omega))
theorem RdS.at {w w' : World} {v : Value} {ms : List Ms} (h : RdS w w.heap.size v ms) (hb : Below w.heap.size w w') : RdS w' w'.heap.size v ms :=
  (h.kept hb.block).up hb.size
theorem RdS.drewN {w : World} {B : Nat} {v : Value} {ms : List Ms} (h : RdS w B v ms) (q : Nat) : RdS (w.drewN q) B v ms := h

/-- Its cells, message by message. -/
theorem ms_at {w : World} {B : Nat} {v : Value} {ms : List Ms} (h : RdS w B v ms) :
    ∃ a cap, v = .slice a ms.length cap ∧ ms.length ≤ cap ∧ (a = none → cap = 0) ∧ (0 < ms.length → ∃ b o, a = some ⟨b, o, none⟩ ∧ b < B ∧ ∀ j, j < ms.length → ∃ cv nv,
      w.cell? ⟨b, o + j * 7, none⟩ = some (.int .i64 (ms.getD j default).k) ∧ w.cell? ⟨b, o + j * 7 + 1, none⟩ = some (.int .i64 (ms.getD j default).i) ∧
      w.cell? ⟨b, o + j * 7 + 2, none⟩ = some (.int .i64 (ms.getD j default).u) ∧ w.cell? ⟨b, o + j * 7 + 3, none⟩ = some (.int .i64 (ms.getD j default).c) ∧
      w.cell? ⟨b, o + j * 7 + 4, none⟩ = some (.int .i64 (ms.getD j default).n) ∧ w.cell? ⟨b, o + j * 7 + 5, none⟩ = some cv ∧ w.cell? ⟨b, o + j * 7 + 6, none⟩ = some nv ∧
      Mt w B (ms.getD j default, cv, nv)) := by
  obtain ⟨xs, rfl, ⟨_, a, cap, rfl, h2, h3, h4⟩, h5⟩ := h
  rw [List.length_map]
  refine ⟨a, cap, rfl, h2, h3, fun hp => ?_⟩
  obtain ⟨b, o, rfl, hb, hc⟩ := h4 hp
  refine ⟨b, o, rfl, hb, fun j hj => ?_⟩
  have hg : (xs.map Prod.fst).getD j default = (xs.getD j default).1 := by simp [List.getD, hj]
  have hx : xs.getD j default ∈ xs := by
    have : xs.getD j default = xs[j] := by simp [hj]
    rw [this]; exact List.getElem_mem _
  rw [hg]
  refine ⟨(xs.getD j default).2.1, (xs.getD j default).2.2, ?_, ?_, ?_, ?_, ?_, ?_, ?_, h5 _ hx⟩
  · rw [show o + j * 7 = o + (j * 7 + 0) from rfl, hc _ (by omega), flat_get msC 7 msC_len xs default j 0 hj (by omega)]; rfl
  · rw [Nat.add_assoc, hc _ (by omega), flat_get msC 7 msC_len xs default j 1 hj (by omega)]; rfl
  · rw [Nat.add_assoc, hc _ (by omega), flat_get msC 7 msC_len xs default j 2 hj (by omega)]; rfl
  · rw [Nat.add_assoc, hc _ (by omega), flat_get msC 7 msC_len xs default j 3 hj (by omega)]; rfl
  · rw [Nat.add_assoc, hc _ (by omega), flat_get msC 7 msC_len xs default j 4 hj (by omega)]; rfl
  · rw [Nat.add_assoc, hc _ (by omega), flat_get msC 7 msC_len xs default j 5 hj (by omega)]; rfl
  · rw [Nat.add_assoc, hc _ (by omega), flat_get msC 7 msC_len xs default j 6 hj (by omega)]; rfl

/-- Not too many cells and notes. -/
def GoodM (m : Ms) : Prop := m.cs.length ≤ 1048576 ∧ m.ns.length ≤ 1048576
def GoodS (ms : List Ms) : Prop := ∀ m ∈ ms, GoodM m
theorem GoodS.at {ms : List Ms} (h : GoodS ms) {j : Nat} (hj : j < ms.length) : GoodM (ms.getD j default) := by
  have : ms.getD j default = ms[j] := by simp [hj]
  rw [this]; exact h _ (List.getElem_mem _)

/-- The slices that messages have. -/
def vals (xs : List MsX) : List Value := xs.flatMap (fun x => [x.2.1, x.2.2])
theorem vals_mem {xs : List MsX} {x : MsX} (h : x ∈ xs) : x.2.1 ∈ vals xs ∧ x.2.2 ∈ vals xs :=
  ⟨List.mem_flatMap.2 ⟨x, h, by simp⟩, List.mem_flatMap.2 ⟨x, h, by simp⟩⟩

/-- A row of messages of one's own, from block b on up to hi, each with parts of its own there. -/
def OwnY (w : World) (b hi : Nat) (v : Value) (xs : List MsX) : Prop :=
  w.ownsRow b 39 7 v xs.length (xs.flatMap msC) ∧ (∀ x ∈ xs, OwnC w b x.2.1 x.1.cs ∧ OwnN w b x.2.2 x.1.ns) ∧ SepV v (vals xs) ∧ (∀ q, v.ownBlock = some q → q < hi) ∧ ∀ u ∈ vals xs, ∀ q, u.ownBlock = some q → q < hi
def OwnS (w : World) (b hi : Nat) (v : Value) (ms : List Ms) : Prop := ∃ xs : List MsX, xs.map Prod.fst = ms ∧ OwnY w b hi v xs

theorem OwnY.same {w w' : World} {b hi : Nat} {v : Value} {xs : List MsX} (h : OwnY w b hi v xs) (hs : ∀ q, b ≤ q → q < hi → q < w.heap.size → w'.heap[q]? = w.heap[q]?) : OwnY w' b hi v xs :=
  ⟨owns_same h.1 (fun q hq => hs q (World.ownsRow.lt h.1 q hq).1 (h.2.2.2.1 q hq) (World.ownsRow.lt h.1 q hq).2),
   fun x hx => ⟨owns_same (h.2.1 x hx).1 (fun q hq => hs q (World.ownsRow.lt (h.2.1 x hx).1 q hq).1 (h.2.2.2.2 _ (vals_mem hx).1 q hq) (World.ownsRow.lt (h.2.1 x hx).1 q hq).2),
     owns_same (h.2.1 x hx).2 (fun q hq => hs q (World.ownsRow.lt (h.2.1 x hx).2 q hq).1 (h.2.2.2.2 _ (vals_mem hx).2 q hq) (World.ownsRow.lt (h.2.1 x hx).2 q hq).2)⟩, h.2.2⟩
theorem OwnY.mono {w : World} {b b' hi : Nat} {v : Value} {xs : List MsX} (h : OwnY w b hi v xs) (hb : b' ≤ b) : OwnY w b' hi v xs :=
  ⟨owns_mono h.1 hb, fun x hx => ⟨owns_mono (h.2.1 x hx).1 hb, owns_mono (h.2.1 x hx).2 hb⟩, h.2.2⟩
theorem OwnY.up {w : World} {b hi hi' : Nat} {v : Value} {xs : List MsX} (h : OwnY w b hi v xs) (hb : hi ≤ hi') : OwnY w b hi' v xs :=
  ⟨h.1, h.2.1, h.2.2.1, fun q hq => Nat.lt_of_lt_of_le (h.2.2.2.1 q hq) hb, fun u hu q hq => Nat.lt_of_lt_of_le (h.2.2.2.2 u hu q hq) hb⟩
theorem OwnY.below {w w' : World} {b hi : Nat} {v : Value} {xs : List MsX} (h : OwnY w b hi v xs) (hb : Below w.heap.size w w') : OwnY w' b hi v xs := h.same (fun q _ _ hq => hb.block q hq)
theorem OwnS.same {w w' : World} {b hi : Nat} {v : Value} {ms : List Ms} (h : OwnS w b hi v ms) (hs : ∀ q, b ≤ q → q < hi → q < w.heap.size → w'.heap[q]? = w.heap[q]?) : OwnS w' b hi v ms := by
  obtain ⟨xs, h1, h2⟩ := h
  exact ⟨xs, h1, h2.same hs⟩
theorem OwnS.below {w w' : World} {b hi : Nat} {v : Value} {ms : List Ms} (h : OwnS w b hi v ms) (hb : Below w.heap.size w w') : OwnS w' b hi v ms := h.same (fun q _ _ hq => hb.block q hq)
theorem OwnS.out {w w' : World} {b hi c d : Nat} {v : Value} {ms : List Ms} (h : OwnS w b hi v ms) (ho : Out c d w w') (hd : hi ≤ c ∨ d ≤ b) : OwnS w' b hi v ms := h.same (fun q _ _ hq => ho.block q hq (by omega))
theorem OwnS.mono {w : World} {b b' hi : Nat} {v : Value} {ms : List Ms} (h : OwnS w b hi v ms) (hb : b' ≤ b) : OwnS w b' hi v ms := by
  obtain ⟨xs, h1, h2⟩ := h
  exact ⟨xs, h1, h2.mono hb⟩
theorem OwnS.up {w : World} {b hi hi' : Nat} {v : Value} {ms : List Ms} (h : OwnS w b hi v ms) (hb : hi ≤ hi') : OwnS w b hi' v ms := by
  obtain ⟨xs, h1, h2⟩ := h
  exact ⟨xs, h1, h2.up hb⟩
theorem OwnS.drewN {w : World} {b hi : Nat} {v : Value} {ms : List Ms} (h : OwnS w b hi v ms) (q : Nat) : OwnS (w.drewN q) b hi v ms := h
theorem OwnY.rd {w : World} {b hi B : Nat} {v : Value} {xs : List MsX} (h : OwnY w b hi v xs) (hB : w.heap.size ≤ B) : RdS w B v (xs.map Prod.fst) :=
  ⟨xs, rfl, rd_own h.1 hB, fun x hx => ⟨(h.2.1 x hx).1.rd hB, (h.2.1 x hx).2.rd hB⟩⟩
theorem OwnS.rd {w : World} {b hi B : Nat} {v : Value} {ms : List Ms} (h : OwnS w b hi v ms) (hB : w.heap.size ≤ B) : RdS w B v ms := by
  obtain ⟨xs, rfl, h2⟩ := h
  exact h2.rd hB
theorem OwnS.shape {w : World} {b hi : Nat} {v : Value} {ms : List Ms} (h : OwnS w b hi v ms) : ∃ a c, v = .slice a ms.length c := by
  obtain ⟨xs, rfl, h2, _⟩ := h
  rw [List.length_map]
  rcases h2.2 with ⟨rfl, h0⟩ | ⟨g, c, _, rfl, _⟩
  · exact ⟨_, _, by rw [h0]⟩
  · exact ⟨_, _, rfl⟩
theorem ownY_nil (w : World) (b hi : Nat) : OwnY w b hi (.slice none 0 0) [] := ⟨World.ownsRow_nil _ _ _ _, fun x hx => by simp at hx, ⟨fun x hx => by simp [vals] at hx, List.Pairwise.nil⟩, fun q hq => (by cases hq), fun u hu => by simp [vals] at hu⟩
theorem ownS_nil (w : World) (b hi : Nat) : OwnS w b hi (.slice none 0 0) [] := ⟨[], rfl, ownY_nil w b hi⟩

theorem ownC_kept {w w' : World} {b : Nat} {v : Value} {row : Option Nat} {cs : List (Int × Bool × Int)} (h : OwnC w b v cs) (hg : w.grownBy w' row) (hne : ∀ q, v.ownBlock = some q → row ≠ some q) : OwnC w' b v cs := by
  refine World.ownsRow.kept h hg ?_
  cases hv : v.ownBlock with
  | none => exact .inl rfl
  | some q => exact .inr (fun e => hne q hv e.symm)
theorem ownN_kept {w w' : World} {b : Nat} {v : Value} {row : Option Nat} {cs : List (Int × Int)} (h : OwnN w b v cs) (hg : w.grownBy w' row) (hne : ∀ q, v.ownBlock = some q → row ≠ some q) : OwnN w' b v cs := by
  refine World.ownsRow.kept h hg ?_
  cases hv : v.ownBlock with
  | none => exact .inl rfl
  | some q => exact .inr (fun e => hne q hv e.symm)
theorem ownC_shape {w : World} {b : Nat} {v : Value} {cs : List (Int × Bool × Int)} (h : OwnC w b v cs) : ∃ a c, v = .slice a cs.length c := by
  rcases h.2 with ⟨rfl, h0⟩ | ⟨g, c, _, rfl, _⟩
  · exact ⟨_, _, by rw [h0]⟩
  · exact ⟨_, _, rfl⟩
theorem ownN_shape {w : World} {b : Nat} {v : Value} {ns : List (Int × Int)} (h : OwnN w b v ns) : ∃ a c, v = .slice a ns.length c := by
  rcases h.2 with ⟨rfl, h0⟩ | ⟨g, c, _, rfl, _⟩
  · exact ⟨_, _, by rw [h0]⟩
  · exact ⟨_, _, rfl⟩
/-- Another row in its place: the messages' parts stay. -/
theorem OwnY.turn {w w' : World} {b hi : Nat} {v : Value} {xs : List MsX} (h : w'.ownsRow b 39 7 v xs.length (xs.flatMap msC)) (hg : w.grownBy w' v.ownBlock) (ho : ∀ x ∈ xs, OwnC w b x.2.1 x.1.cs ∧ OwnN w b x.2.2 x.1.ns)
    (hs : SepV v (vals xs)) (h1 : ∀ q, v.ownBlock = some q → q < hi) (h2 : ∀ u ∈ vals xs, ∀ q, u.ownBlock = some q → q < hi) : OwnY w' b hi v xs :=
  ⟨h, fun x hx => ⟨ownC_kept (ho x hx).1 hg (fun q hq => hs.1 _ (vals_mem hx).1 q hq), ownN_kept (ho x hx).2 hg (fun q hq => hs.1 _ (vals_mem hx).2 q hq)⟩, hs, h1, h2⟩

/-- A message stored whole. -/
theorem flat_ms (xs : List MsX) (j : Nat) (x : MsX) (h : j < xs.length) :
    (((((((xs.flatMap msC).set (j * 7) (.int .i64 x.1.k)).set (j * 7 + 1) (.int .i64 x.1.i)).set (j * 7 + 2) (.int .i64 x.1.u)).set (j * 7 + 3) (.int .i64 x.1.c)).set (j * 7 + 4) (.int .i64 x.1.n)).set (j * 7 + 5) x.2.1).set (j * 7 + 6) x.2.2 = (xs.set j x).flatMap msC := by
  have h1 := flat_set msC 7 msC_len xs j 0 (.int .i64 x.1.k) ({ (xs.getD j default).1 with k := x.1.k }, (xs.getD j default).2) (by omega) h (fun y hy => by simp [List.getD, hy]; rfl)
  rw [Nat.add_zero] at h1
  rw [h1, flat_set msC 7 msC_len _ j 1 (.int .i64 x.1.i) ({ (xs.getD j default).1 with k := x.1.k, i := x.1.i }, (xs.getD j default).2) (by omega) (by simpa using h) (fun y hy => by
    rw [List.getElem?_set_self (by exact h)] at hy
    cases hy; rfl), List.set_set]
  rw [flat_set msC 7 msC_len _ j 2 (.int .i64 x.1.u) ({ (xs.getD j default).1 with k := x.1.k, i := x.1.i, u := x.1.u }, (xs.getD j default).2) (by omega) (by simpa using h) (fun y hy => by
    rw [List.getElem?_set_self (by exact h)] at hy
    cases hy; rfl), List.set_set]
  rw [flat_set msC 7 msC_len _ j 3 (.int .i64 x.1.c) ({ (xs.getD j default).1 with k := x.1.k, i := x.1.i, u := x.1.u, c := x.1.c }, (xs.getD j default).2) (by omega) (by simpa using h) (fun y hy => by
    rw [List.getElem?_set_self (by exact h)] at hy
    cases hy; rfl), List.set_set]
  rw [flat_set msC 7 msC_len _ j 4 (.int .i64 x.1.n) (x.1, (xs.getD j default).2) (by omega) (by simpa using h) (fun y hy => by
    rw [List.getElem?_set_self (by exact h)] at hy
    cases hy; rfl), List.set_set]
  rw [flat_set msC 7 msC_len _ j 5 x.2.1 (x.1, x.2.1, (xs.getD j default).2.2) (by omega) (by simpa using h) (fun y hy => by
    rw [List.getElem?_set_self (by exact h)] at hy
    cases hy; rfl), List.set_set]
  rw [flat_set msC 7 msC_len _ j 6 x.2.2 x (by omega) (by simpa using h) (fun y hy => by
    rw [List.getElem?_set_self (by exact h)] at hy
    cases hy; rfl), List.set_set]

theorem vals_app (xs ys : List MsX) : vals (xs ++ ys) = vals xs ++ vals ys := by simp [vals]
theorem vals_one (x : MsX) : vals [x] = [x.2.1, x.2.2] := by simp [vals]
/-- The slices of one message more: apart, if they are. -/
theorem sep_snoc {v : Value} {ys : List MsX} {x : MsX} (h : SepV v (vals ys))
    (h1 : ∀ q, x.2.1.ownBlock = some q → v.ownBlock ≠ some q ∧ ∀ u ∈ vals ys, u.ownBlock ≠ some q)
    (h2 : ∀ q, x.2.2.ownBlock = some q → v.ownBlock ≠ some q ∧ (∀ u ∈ vals ys, u.ownBlock ≠ some q) ∧ x.2.1.ownBlock ≠ some q) :
    SepV v (vals (ys ++ [x])) := by
  rw [vals_app, vals_one]
  obtain ⟨ha, hb⟩ := h
  refine ⟨fun u hu q hq => ?_, ?_⟩
  · rcases List.mem_append.1 hu with hu | hu
    · exact ha u hu q hq
    · simp at hu
      rcases hu with rfl | rfl
      · exact (h1 q hq).1
      · exact (h2 q hq).1
  · rw [List.pairwise_append]
    refine ⟨hb, ?_, fun a haa c hc q hq => ?_⟩
    · rw [List.pairwise_cons]
      refine ⟨fun c hc q hq => ?_, by simp⟩
      simp at hc; subst hc
      exact fun e => (h2 q e).2.2 hq
    · simp at hc
      rcases hc with rfl | rfl
      · exact fun e => (h1 q e).2 a haa hq
      · exact fun e => (h2 q e).2.1 a haa hq

/-- A row of one's own whose first messages have parts of their own; of the others nothing is said. -/
def OwnT (w : World) (b hi : Nat) (v : Value) (ys zs : List MsX) : Prop :=
  w.ownsRow b 39 7 v (ys ++ zs).length ((ys ++ zs).flatMap msC) ∧ (∀ x ∈ ys, OwnC w b x.2.1 x.1.cs ∧ OwnN w b x.2.2 x.1.ns) ∧ SepV v (vals ys) ∧ (∀ q, v.ownBlock = some q → q < hi) ∧ ∀ u ∈ vals ys, ∀ q, u.ownBlock = some q → q < hi
theorem OwnT.done {w : World} {b hi : Nat} {v : Value} {ys : List MsX} (h : OwnT w b hi v ys []) : OwnY w b hi v ys := by
  obtain ⟨h1, h2⟩ := h
  rw [List.append_nil] at h1
  exact ⟨h1, h2⟩
theorem OwnT.same {w w' : World} {b hi : Nat} {v : Value} {ys zs : List MsX} (h : OwnT w b hi v ys zs) (hs : ∀ q, b ≤ q → q < hi → q < w.heap.size → w'.heap[q]? = w.heap[q]?) : OwnT w' b hi v ys zs :=
  ⟨owns_same h.1 (fun q hq => hs q (World.ownsRow.lt h.1 q hq).1 (h.2.2.2.1 q hq) (World.ownsRow.lt h.1 q hq).2),
   fun x hx => ⟨owns_same (h.2.1 x hx).1 (fun q hq => hs q (World.ownsRow.lt (h.2.1 x hx).1 q hq).1 (h.2.2.2.2 _ (vals_mem hx).1 q hq) (World.ownsRow.lt (h.2.1 x hx).1 q hq).2),
     owns_same (h.2.1 x hx).2 (fun q hq => hs q (World.ownsRow.lt (h.2.1 x hx).2 q hq).1 (h.2.2.2.2 _ (vals_mem hx).2 q hq) (World.ownsRow.lt (h.2.1 x hx).2 q hq).2)⟩, h.2.2⟩
theorem OwnT.below {w w' : World} {b hi : Nat} {v : Value} {ys zs : List MsX} (h : OwnT w b hi v ys zs) (hb : Below w.heap.size w w') : OwnT w' b hi v ys zs := h.same (fun q _ _ hq => hb.block q hq)
theorem OwnT.up {w : World} {b hi hi' : Nat} {v : Value} {ys zs : List MsX} (h : OwnT w b hi v ys zs) (hb : hi ≤ hi') : OwnT w b hi' v ys zs :=
  ⟨h.1, h.2.1, h.2.2.1, fun q hq => Nat.lt_of_lt_of_le (h.2.2.2.1 q hq) hb, fun u hu q hq => Nat.lt_of_lt_of_le (h.2.2.2.2 u hu q hq) hb⟩
theorem ownT_start {w : World} {b hi n : Nat} {v : Value} {zs : List MsX} (h : w.ownsRow b 39 7 v n (zs.flatMap msC)) (hn : zs.length = n) (hg : ∀ q, v.ownBlock = some q → q < hi) : OwnT w b hi v [] zs := by
  subst hn
  exact ⟨h, fun x hx => by simp at hx, ⟨fun u hu => by simp [vals] at hu, List.Pairwise.nil⟩, hg, fun u hu => by simp [vals] at hu⟩

/-- The message behind those that have parts of their own stored whole, with parts of its own. -/
theorem OwnT.put {w : World} {b hi g n c : Nat} {ys zs : List MsX} {z : MsX} (h : OwnT w b hi (.slice (some ⟨g, 0, none⟩) n c) ys (z :: zs)) (hn : ys.length + (zs.length + 1) = n) (p : Ms) (cv nv : Value) (hc : OwnC w b cv p.cs) (hv : OwnN w b nv p.ns)
    (h1 : ∀ q, cv.ownBlock = some q → g ≠ q ∧ (∀ x ∈ vals ys, x.ownBlock ≠ some q) ∧ q < hi)
    (h2 : ∀ q, nv.ownBlock = some q → g ≠ q ∧ (∀ x ∈ vals ys, x.ownBlock ≠ some q) ∧ q < hi ∧ cv.ownBlock ≠ some q) :
    (∀ r, r < 7 → ∃ y, w.cell? ⟨g, ys.length * 7 + r, none⟩ = some y) ∧ (∀ r, w.frozen? ⟨g, r, none⟩ = false) ∧
    OwnT (((((((w.setCell ⟨g, ys.length * 7, none⟩ (.int .i64 p.k)).setCell ⟨g, ys.length * 7 + 1, none⟩ (.int .i64 p.i)).setCell ⟨g, ys.length * 7 + 2, none⟩ (.int .i64 p.u)).setCell ⟨g, ys.length * 7 + 3, none⟩ (.int .i64 p.c)).setCell ⟨g, ys.length * 7 + 4, none⟩ (.int .i64 p.n)).setCell ⟨g, ys.length * 7 + 5, none⟩ cv).setCell ⟨g, ys.length * 7 + 6, none⟩ nv) b hi (.slice (some ⟨g, 0, none⟩) n c) (ys ++ [(p, cv, nv)]) zs := by
  generalize hj : ys.length = j at *
  obtain ⟨h0, ho, hs, hvv, hx⟩ := h
  have hlen : (ys ++ z :: zs).length = n := by rw [List.length_append, List.length_cons, hj]; exact hn
  have hl : ((ys ++ z :: zs).flatMap msC).length = n * 7 := by rw [flat_len msC 7 msC_len, hlen]
  rw [hlen] at h0
  have ez : (ys ++ z :: zs).set j (p, cv, nv) = ys ++ [(p, cv, nv)] ++ zs := by
    rw [List.set_append_right _ _ (by omega), hj, Nat.sub_self, List.set_cons_zero, List.append_assoc]; rfl
  refine ⟨fun r hr => ?_, fun r => World.ownsRow.frozenAt h0 r, ?_⟩
  · rw [World.ownsRow.cellAt h0 _ (by omega)]; exact ⟨_, List.getElem?_eq_getElem (by omega)⟩
  · have s0 := World.ownsRow.stored h0 (j * 7) (.int .i64 p.k)
    have s1 := World.ownsRow.stored s0.1 (j * 7 + 1) (.int .i64 p.i)
    have s2 := World.ownsRow.stored s1.1 (j * 7 + 2) (.int .i64 p.u)
    have s3 := World.ownsRow.stored s2.1 (j * 7 + 3) (.int .i64 p.c)
    have s4 := World.ownsRow.stored s3.1 (j * 7 + 4) (.int .i64 p.n)
    have s5 := World.ownsRow.stored s4.1 (j * 7 + 5) cv
    have s6 := World.ownsRow.stored s5.1 (j * 7 + 6) nv
    have hfin := s6.1
    rw [flat_ms _ j (p, cv, nv) (by omega), ez] at hfin
    have hl2 : (ys ++ [(p, cv, nv)] ++ zs).length = n := by simp; omega
    have hg := grownBy_trans (grownBy_trans (grownBy_trans (grownBy_trans (grownBy_trans (grownBy_trans s0.2 s1.2) s2.2) s3.2) s4.2) s5.2) s6.2
    have hs' : SepV (Value.slice (some ⟨g, 0, none⟩) n c) (vals (ys ++ [(p, cv, nv)])) := sep_snoc hs (fun q hq => ⟨fun e => (h1 q hq).1 (by simpa [Value.ownBlock] using e), (h1 q hq).2.1⟩)
        (fun q hq => ⟨fun e => (h2 q hq).1 (by simpa [Value.ownBlock] using e), (h2 q hq).2.1, (h2 q hq).2.2.2⟩)
    refine ⟨by rw [hl2]; exact hfin, fun x hx => ?_, hs', hvv, fun u hu => ?_⟩
    · have ho' : OwnC w b x.2.1 x.1.cs ∧ OwnN w b x.2.2 x.1.ns := by
        rcases List.mem_append.1 hx with hx | hx
        · exact ho x hx
        · simp at hx; subst hx; exact ⟨hc, hv⟩
      exact ⟨ownC_kept ho'.1 hg (fun q hq => hs'.1 _ (vals_mem hx).1 q hq), ownN_kept ho'.2 hg (fun q hq => hs'.1 _ (vals_mem hx).2 q hq)⟩
    · rw [vals_app, vals_one] at hu
      rcases List.mem_append.1 hu with hu | hu
      · exact hx u hu
      · simp at hu
        rcases hu with rfl | rfl
        · exact fun q hq => (h1 q hq).2.2
        · exact fun q hq => (h2 q hq).2.2.1

/-- How many messages, cells and notes there are. -/
def totS (ms : List Ms) : Nat := ms.foldr (fun m n => m.cs.length + m.ns.length + n) ms.length
theorem foldS_add (ms : List Ms) (n : Nat) : ms.foldr (fun m n => m.cs.length + m.ns.length + n) n = ms.foldr (fun m n => m.cs.length + m.ns.length + n) 0 + n := by
  induction ms with
  | nil => simp
  | cons q qs ih => simp only [List.foldr_cons]; rw [ih]; omega
theorem totS_le {ms : List Ms} {m : Ms} (h : m ∈ ms) : m.cs.length + m.ns.length ≤ ms.foldr (fun m n => m.cs.length + m.ns.length + n) 0 := by
  induction ms with
  | nil => simp at h
  | cons q qs ih =>
    rcases List.mem_cons.1 h with rfl | h
    · simp
    · have := ih h; simp; omega
theorem totS_len (ms : List Ms) : ms.length ≤ totS ms := by unfold totS; rw [foldS_add]; omega
theorem totS_mem {ms : List Ms} {m : Ms} (h : m ∈ ms) : m.cs.length + m.ns.length ≤ totS ms := by have := totS_le h; unfold totS; rw [foldS_add]; omega
theorem goodS {ms : List Ms} (h : totS ms ≤ 1048576) : GoodS ms := fun m hm => by have := totS_mem hm; exact ⟨by omega, by omega⟩

end Go.Proofs.YtkfnpijljpbiaaaDoor
