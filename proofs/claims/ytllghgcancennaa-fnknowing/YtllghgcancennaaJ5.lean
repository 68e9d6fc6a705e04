/-
  Joined: DeepTo, Eq.
-/
import Derived.Test.YtllghgcancennaaJ3
import Derived.Test.YtllghgcancennaaJ4
import Derived.Deep.RegionWith
import Derived.Deep.CutRange
import Derived.BigRegion
import Derived.Test.YtllghgcancennaaRows
import Derived.Test.YtllghgcancennaaJ1
import Derived.Deep.QuietTactic
import Derived.BigQuiet
/-
  Rows that are filled one by one.
-/
namespace Go.Proofs.Ytllghgcancennaa
open Go.RowKit

/-- The first j rows are filled, the others zero. -/
def upTo {α : Type} (f : α → List Dt) (zr : List Value) (xs : List α) (j : Nat) : List Dt := (xs.take j).flatMap f ++ ((List.replicate (xs.length - j) ()).flatMap (fun _ => zr)).map Dt.val
theorem upTo_all {α : Type} (f : α → List Dt) (zr : List Value) (xs : List α) : upTo f zr xs xs.length = xs.flatMap f := by simp [upTo]
theorem setRow_below {B : Nat} {w : World} {g : Nat} : ∀ (us : List Value) (wr : World) (at' : Nat), Below B w wr → B ≤ g → Below B w (setRow wr g at' us)
  | [], _, _, h, _ => h
  | _ :: us, _, at', h, hg => setRow_below us _ _ (h.setCell (p := ⟨g, at', none⟩) hg _) hg
theorem OwnD.fill {α : Type} [Inhabited α] {f : α → List Dt} {k : Nat} (hf : ∀ x, (f x).length = k) {zr : List Value} (hz : zr.length = k) {xs : List α} {n : Nat} (hn : xs.length = n) {w : World} {b hi m hi' : Nat} {T : TypeId} {g c j : Nat} (hj : j < n)
    (h : OwnD w b hi (.row T k n (upTo f zr xs j)) (.slice (some ⟨g, 0, none⟩) n c)) {us : List Value} (h' : OwnDL w m hi' (f (xs.getD j default)) us) (hm : hi ≤ m) (hbm : b ≤ m) (hh : hi ≤ hi') :
    (∀ r, r < k → ∃ y, w.cell? ⟨g, j * k + r, none⟩ = some y) ∧ (∀ r, w.frozen? ⟨g, r, none⟩ = false) ∧ OwnD (setRow w g (j * k) us) b hi' (.row T k n (upTo f zr xs (j + 1))) (.slice (some ⟨g, 0, none⟩) n c) := by
  subst hn
  obtain ⟨F, h1, h2, h3⟩ := h
  obtain ⟨F', g1, g2, g3⟩ := h'
  have hlen : ((xs.take j).flatMap f).length = j * k := by rw [flatD_len hf, List.length_take, Nat.min_eq_left (by omega)]
  have e1 : upTo f zr xs j = (xs.take j).flatMap f ++ zr.map Dt.val ++ ((List.replicate (xs.length - (j + 1)) ()).flatMap (fun _ => zr)).map Dt.val := by
    unfold upTo
    rw [show xs.length - j = xs.length - (j + 1) + 1 by omega, List.replicate_succ, List.flatMap_cons, List.map_append, List.append_assoc]
  have e2 : upTo f zr xs (j + 1) = (xs.take j).flatMap f ++ f (xs.getD j default) ++ ((List.replicate (xs.length - (j + 1)) ()).flatMap (fun _ => zr)).map Dt.val := by
    unfold upTo
    have : xs.getD j default = xs[j] := by simp [hj]
    rw [List.take_succ_eq_append_getElem hj, List.flatMap_append, List.flatMap_cons, List.flatMap_nil, List.append_nil, this]
  rw [e1] at h1
  have hul : us.length = zr.length := by rw [g1.len, hf, hz]
  have hrow := h1
  unfold Owns at hrow
  obtain ⟨vs, G, ho, hv, _⟩ := hrow
  have hcl : vs.length = xs.length * k := ho.1
  refine ⟨fun r hr => ?_, fun r => World.ownsRow.frozenAt ho r, ?_⟩
  · have : j * k + r < xs.length * k := by
      have := Nat.mul_le_mul_right k (show j + 1 ≤ xs.length from hj)
      rw [Nat.succ_mul] at this
      omega
    rw [World.ownsRow.cellAt ho _ this]
    exact ⟨_, List.getElem?_eq_getElem (by omega)⟩
  · obtain ⟨F'', p1, p2, p3⟩ := Owns.put h1 h2 (g1.mono hbm) g2 (fun q hq hq' => by
      have a := (OwnsL.lt _ _ _ g1 q hq).1
      have b := h3 q hq'
      omega) hul
    rw [hlen] at p1
    rw [e2]
    refine ⟨F'', p1, p2, fun q hq => ?_⟩
    rcases (p3 q).1 hq with hq | hq
    · exact Nat.lt_of_lt_of_le (h3 q hq) hh
    · exact g3 q hq
theorem ownD_made {α : Type} {f : α → List Dt} {k : Nat} {zr : List Value} {xs : List α} {n : Nat} (hn : xs.length = n) (hz : zr.length = k) (hk : 0 < k) {w : World} {b : Nat} {T : TypeId} {v z : Value} (hzr : z.cells.toList = zr) (h : w.ownsRow b T k v n (madeCells z.cells (n * k)).toList) (hlt : ∀ q, v.ownBlock = some q → q < w.heap.size) :
    OwnD w b w.heap.size (.row T k n (upTo f zr xs 0)) v := by
  subst hn
  rw [made_flat (fun _ : Unit => zr) k (fun _ => hz) hk () z.cells hzr] at h
  refine ⟨v.ownBlock.toList, ?_, ?_, fun q hq => hlt q (by simpa using hq)⟩
  · unfold Owns upTo
    refine ⟨_, [], h, ?_, by simp⟩
    rw [List.take_zero, List.flatMap_nil, List.nil_append, Nat.sub_zero]
    exact ownsL_vals _
  · cases v.ownBlock <;> simp

theorem putN2 {w : World} {g : Nat} {T : TypeId} {a0 a1 : Value} (h : w.heap[g]? = some (.cells #[a0, a1] T (0, 0))) (b0 b1 : Value) :
    ((w.setCell ⟨g, 0, none⟩ b0).setCell ⟨g, 1, none⟩ b1).heap[g]? = some (.cells #[b0, b1] T (0, 0)) := by
  have h0 : (w.setCell ⟨g, 0, none⟩ b0).heap[g]? = some (.cells #[b0, a1] T (0, 0)) := heap_setCell_same _ g 0 _ T b0 h
  exact heap_setCell_same _ g 1 _ T b1 h0
theorem putN4 {w : World} {g : Nat} {T : TypeId} {a0 a1 a2 a3 : Value} (h : w.heap[g]? = some (.cells #[a0, a1, a2, a3] T (0, 0))) (b0 b1 b2 b3 : Value) :
    ((((w.setCell ⟨g, 0, none⟩ b0).setCell ⟨g, 1, none⟩ b1).setCell ⟨g, 2, none⟩ b2).setCell ⟨g, 3, none⟩ b3).heap[g]? = some (.cells #[b0, b1, b2, b3] T (0, 0)) := by
  have h0 : (w.setCell ⟨g, 0, none⟩ b0).heap[g]? = some (.cells #[b0, a1, a2, a3] T (0, 0)) := heap_setCell_same _ g 0 _ T b0 h
  have h1 : ((w.setCell ⟨g, 0, none⟩ b0).setCell ⟨g, 1, none⟩ b1).heap[g]? = some (.cells #[b0, b1, a2, a3] T (0, 0)) := heap_setCell_same _ g 1 _ T b1 h0
  have h2 : (((w.setCell ⟨g, 0, none⟩ b0).setCell ⟨g, 1, none⟩ b1).setCell ⟨g, 2, none⟩ b2).heap[g]? = some (.cells #[b0, b1, b2, a3] T (0, 0)) := heap_setCell_same _ g 2 _ T b2 h1
  exact heap_setCell_same _ g 3 _ T b3 h2
theorem putN5 {w : World} {g : Nat} {T : TypeId} {a0 a1 a2 a3 a4 : Value} (h : w.heap[g]? = some (.cells #[a0, a1, a2, a3, a4] T (0, 0))) (b0 b1 b2 b3 b4 : Value) :
    (((((w.setCell ⟨g, 0, none⟩ b0).setCell ⟨g, 1, none⟩ b1).setCell ⟨g, 2, none⟩ b2).setCell ⟨g, 3, none⟩ b3).setCell ⟨g, 4, none⟩ b4).heap[g]? = some (.cells #[b0, b1, b2, b3, b4] T (0, 0)) := by
  have h0 : (w.setCell ⟨g, 0, none⟩ b0).heap[g]? = some (.cells #[b0, a1, a2, a3, a4] T (0, 0)) := heap_setCell_same _ g 0 _ T b0 h
  have h1 : ((w.setCell ⟨g, 0, none⟩ b0).setCell ⟨g, 1, none⟩ b1).heap[g]? = some (.cells #[b0, b1, a2, a3, a4] T (0, 0)) := heap_setCell_same _ g 1 _ T b1 h0
  have h2 : (((w.setCell ⟨g, 0, none⟩ b0).setCell ⟨g, 1, none⟩ b1).setCell ⟨g, 2, none⟩ b2).heap[g]? = some (.cells #[b0, b1, b2, a3, a4] T (0, 0)) := heap_setCell_same _ g 2 _ T b2 h1
  have h3 : ((((w.setCell ⟨g, 0, none⟩ b0).setCell ⟨g, 1, none⟩ b1).setCell ⟨g, 2, none⟩ b2).setCell ⟨g, 3, none⟩ b3).heap[g]? = some (.cells #[b0, b1, b2, b3, a4] T (0, 0)) := heap_setCell_same _ g 3 _ T b3 h2
  exact heap_setCell_same _ g 4 _ T b4 h3
theorem putN1 {w : World} {g : Nat} {T : TypeId} {a0 : Value} (h : w.heap[g]? = some (.cells #[a0] T (0, 0))) (b0 : Value) :
    (w.setCell ⟨g, 0, none⟩ b0).heap[g]? = some (.cells #[b0] T (0, 0)) := by
  exact heap_setCell_same _ g 0 _ T b0 h
theorem putN3 {w : World} {g : Nat} {T : TypeId} {a0 a1 a2 : Value} (h : w.heap[g]? = some (.cells #[a0, a1, a2] T (0, 0))) (b0 b1 b2 : Value) :
    (((w.setCell ⟨g, 0, none⟩ b0).setCell ⟨g, 1, none⟩ b1).setCell ⟨g, 2, none⟩ b2).heap[g]? = some (.cells #[b0, b1, b2] T (0, 0)) := by
  have h0 : (w.setCell ⟨g, 0, none⟩ b0).heap[g]? = some (.cells #[b0, a1, a2] T (0, 0)) := heap_setCell_same _ g 0 _ T b0 h
  have h1 : ((w.setCell ⟨g, 0, none⟩ b0).setCell ⟨g, 1, none⟩ b1).heap[g]? = some (.cells #[b0, b1, a2] T (0, 0)) := heap_setCell_same _ g 1 _ T b1 h0
  exact heap_setCell_same _ g 2 _ T b2 h1
theorem putN6 {w : World} {g : Nat} {T : TypeId} {a0 a1 a2 a3 a4 a5 : Value} (h : w.heap[g]? = some (.cells #[a0, a1, a2, a3, a4, a5] T (0, 0))) (b0 b1 b2 b3 b4 b5 : Value) :
    ((((((w.setCell ⟨g, 0, none⟩ b0).setCell ⟨g, 1, none⟩ b1).setCell ⟨g, 2, none⟩ b2).setCell ⟨g, 3, none⟩ b3).setCell ⟨g, 4, none⟩ b4).setCell ⟨g, 5, none⟩ b5).heap[g]? = some (.cells #[b0, b1, b2, b3, b4, b5] T (0, 0)) := by
  have h0 : (w.setCell ⟨g, 0, none⟩ b0).heap[g]? = some (.cells #[b0, a1, a2, a3, a4, a5] T (0, 0)) := heap_setCell_same _ g 0 _ T b0 h
  have h1 : ((w.setCell ⟨g, 0, none⟩ b0).setCell ⟨g, 1, none⟩ b1).heap[g]? = some (.cells #[b0, b1, a2, a3, a4, a5] T (0, 0)) := heap_setCell_same _ g 1 _ T b1 h0
  have h2 : (((w.setCell ⟨g, 0, none⟩ b0).setCell ⟨g, 1, none⟩ b1).setCell ⟨g, 2, none⟩ b2).heap[g]? = some (.cells #[b0, b1, b2, a3, a4, a5] T (0, 0)) := heap_setCell_same _ g 2 _ T b2 h1
  have h3 : ((((w.setCell ⟨g, 0, none⟩ b0).setCell ⟨g, 1, none⟩ b1).setCell ⟨g, 2, none⟩ b2).setCell ⟨g, 3, none⟩ b3).heap[g]? = some (.cells #[b0, b1, b2, b3, a4, a5] T (0, 0)) := heap_setCell_same _ g 3 _ T b3 h2
  have h4 : (((((w.setCell ⟨g, 0, none⟩ b0).setCell ⟨g, 1, none⟩ b1).setCell ⟨g, 2, none⟩ b2).setCell ⟨g, 3, none⟩ b3).setCell ⟨g, 4, none⟩ b4).heap[g]? = some (.cells #[b0, b1, b2, b3, b4, a5] T (0, 0)) := heap_setCell_same _ g 4 _ T b4 h3
  exact heap_setCell_same _ g 5 _ T b5 h4
theorem putN7 {w : World} {g : Nat} {T : TypeId} {a0 a1 a2 a3 a4 a5 a6 : Value} (h : w.heap[g]? = some (.cells #[a0, a1, a2, a3, a4, a5, a6] T (0, 0))) (b0 b1 b2 b3 b4 b5 b6 : Value) :
    (((((((w.setCell ⟨g, 0, none⟩ b0).setCell ⟨g, 1, none⟩ b1).setCell ⟨g, 2, none⟩ b2).setCell ⟨g, 3, none⟩ b3).setCell ⟨g, 4, none⟩ b4).setCell ⟨g, 5, none⟩ b5).setCell ⟨g, 6, none⟩ b6).heap[g]? = some (.cells #[b0, b1, b2, b3, b4, b5, b6] T (0, 0)) := by
  have h0 : (w.setCell ⟨g, 0, none⟩ b0).heap[g]? = some (.cells #[b0, a1, a2, a3, a4, a5, a6] T (0, 0)) := heap_setCell_same _ g 0 _ T b0 h
  have h1 : ((w.setCell ⟨g, 0, none⟩ b0).setCell ⟨g, 1, none⟩ b1).heap[g]? = some (.cells #[b0, b1, a2, a3, a4, a5, a6] T (0, 0)) := heap_setCell_same _ g 1 _ T b1 h0
  have h2 : (((w.setCell ⟨g, 0, none⟩ b0).setCell ⟨g, 1, none⟩ b1).setCell ⟨g, 2, none⟩ b2).heap[g]? = some (.cells #[b0, b1, b2, a3, a4, a5, a6] T (0, 0)) := heap_setCell_same _ g 2 _ T b2 h1
  have h3 : ((((w.setCell ⟨g, 0, none⟩ b0).setCell ⟨g, 1, none⟩ b1).setCell ⟨g, 2, none⟩ b2).setCell ⟨g, 3, none⟩ b3).heap[g]? = some (.cells #[b0, b1, b2, b3, a4, a5, a6] T (0, 0)) := heap_setCell_same _ g 3 _ T b3 h2
  have h4 : (((((w.setCell ⟨g, 0, none⟩ b0).setCell ⟨g, 1, none⟩ b1).setCell ⟨g, 2, none⟩ b2).setCell ⟨g, 3, none⟩ b3).setCell ⟨g, 4, none⟩ b4).heap[g]? = some (.cells #[b0, b1, b2, b3, b4, a5, a6] T (0, 0)) := heap_setCell_same _ g 4 _ T b4 h3
  have h5 : ((((((w.setCell ⟨g, 0, none⟩ b0).setCell ⟨g, 1, none⟩ b1).setCell ⟨g, 2, none⟩ b2).setCell ⟨g, 3, none⟩ b3).setCell ⟨g, 4, none⟩ b4).setCell ⟨g, 5, none⟩ b5).heap[g]? = some (.cells #[b0, b1, b2, b3, b4, b5, a6] T (0, 0)) := heap_setCell_same _ g 5 _ T b5 h4
  exact heap_setCell_same _ g 6 _ T b6 h5
theorem putN8 {w : World} {g : Nat} {T : TypeId} {a0 a1 a2 a3 a4 a5 a6 a7 : Value} (h : w.heap[g]? = some (.cells #[a0, a1, a2, a3, a4, a5, a6, a7] T (0, 0))) (b0 b1 b2 b3 b4 b5 b6 b7 : Value) :
    ((((((((w.setCell ⟨g, 0, none⟩ b0).setCell ⟨g, 1, none⟩ b1).setCell ⟨g, 2, none⟩ b2).setCell ⟨g, 3, none⟩ b3).setCell ⟨g, 4, none⟩ b4).setCell ⟨g, 5, none⟩ b5).setCell ⟨g, 6, none⟩ b6).setCell ⟨g, 7, none⟩ b7).heap[g]? = some (.cells #[b0, b1, b2, b3, b4, b5, b6, b7] T (0, 0)) := by
  have h0 : (w.setCell ⟨g, 0, none⟩ b0).heap[g]? = some (.cells #[b0, a1, a2, a3, a4, a5, a6, a7] T (0, 0)) := heap_setCell_same _ g 0 _ T b0 h
  have h1 : ((w.setCell ⟨g, 0, none⟩ b0).setCell ⟨g, 1, none⟩ b1).heap[g]? = some (.cells #[b0, b1, a2, a3, a4, a5, a6, a7] T (0, 0)) := heap_setCell_same _ g 1 _ T b1 h0
  have h2 : (((w.setCell ⟨g, 0, none⟩ b0).setCell ⟨g, 1, none⟩ b1).setCell ⟨g, 2, none⟩ b2).heap[g]? = some (.cells #[b0, b1, b2, a3, a4, a5, a6, a7] T (0, 0)) := heap_setCell_same _ g 2 _ T b2 h1
  have h3 : ((((w.setCell ⟨g, 0, none⟩ b0).setCell ⟨g, 1, none⟩ b1).setCell ⟨g, 2, none⟩ b2).setCell ⟨g, 3, none⟩ b3).heap[g]? = some (.cells #[b0, b1, b2, b3, a4, a5, a6, a7] T (0, 0)) := heap_setCell_same _ g 3 _ T b3 h2
  have h4 : (((((w.setCell ⟨g, 0, none⟩ b0).setCell ⟨g, 1, none⟩ b1).setCell ⟨g, 2, none⟩ b2).setCell ⟨g, 3, none⟩ b3).setCell ⟨g, 4, none⟩ b4).heap[g]? = some (.cells #[b0, b1, b2, b3, b4, a5, a6, a7] T (0, 0)) := heap_setCell_same _ g 4 _ T b4 h3
  have h5 : ((((((w.setCell ⟨g, 0, none⟩ b0).setCell ⟨g, 1, none⟩ b1).setCell ⟨g, 2, none⟩ b2).setCell ⟨g, 3, none⟩ b3).setCell ⟨g, 4, none⟩ b4).setCell ⟨g, 5, none⟩ b5).heap[g]? = some (.cells #[b0, b1, b2, b3, b4, b5, a6, a7] T (0, 0)) := heap_setCell_same _ g 5 _ T b5 h4
  have h6 : (((((((w.setCell ⟨g, 0, none⟩ b0).setCell ⟨g, 1, none⟩ b1).setCell ⟨g, 2, none⟩ b2).setCell ⟨g, 3, none⟩ b3).setCell ⟨g, 4, none⟩ b4).setCell ⟨g, 5, none⟩ b5).setCell ⟨g, 6, none⟩ b6).heap[g]? = some (.cells #[b0, b1, b2, b3, b4, b5, b6, a7] T (0, 0)) := heap_setCell_same _ g 6 _ T b6 h5
  exact heap_setCell_same _ g 7 _ T b7 h6
end Go.Proofs.Ytllghgcancennaa
/-
  What eqByteS, markByteS and heldByteS do.
-/
namespace Go.Proofs.Ytllghgcancennaa
open Go.RowKit

/-- The bytes that markByteS leaves: from k on, one more each. -/
def marks (k n : Nat) : List Int := (List.range n).map fun i => ((k + i : Nat) : Int) % 256

theorem marks_len (k n : Nat) : (marks k n).length = n := by simp [marks]
theorem marks_get (k n j : Nat) (h : j < n) : (marks k n).getD j 0 = ((k + j : Nat) : Int) % 256 := by simp [marks, h]

theorem marks_step (k j : Nat) (zs : List Int) (h : j < zs.length) :
    ((marks k j ++ zs.drop j).map (Value.int .u8)).set j (.int .u8 (((k + j : Nat) : Int) % 256)) = (marks k (j + 1) ++ zs.drop (j + 1)).map (Value.int .u8) := by
  rw [List.drop_eq_getElem_cons h]
  simp only [List.map_append, List.map_cons]
  rw [List.set_append_right _ _ (by simp [marks_len])]
  simp [marks, List.range_succ]

theorem mark_len (k j : Nat) (zs : List Int) (h : j ≤ zs.length) : (marks k j ++ zs.drop j).length = zs.length := by
  simp [marks_len]; omega

theorem below_mark {B : Nat} {w w1 w2 : World} {v : Value} {zs : List Int} {b : Nat} (hb : Below B w w1) (hB : B ≤ b) (hB' : B ≤ w1.heap.size) (h : Own w1 b v zs) (hg : w1.grownBy w2 v.ownBlock) : Below B w w2 :=
  hb.grown hg hB' (fun k hk => Nat.le_trans hB (h.lt k hk).1)

end Go.Proofs.Ytllghgcancennaa
