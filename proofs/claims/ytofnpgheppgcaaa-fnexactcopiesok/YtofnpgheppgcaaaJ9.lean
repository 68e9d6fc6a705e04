/-
  Joined: DeepTo, KfTo.
-/
import Derived.Test.YtofnpgheppgcaaaJ3
import Derived.Test.YtofnpgheppgcaaaJ8
import Derived.Deep.RegionWith
import Derived.Deep.CutRange
import Derived.BigRegion
import Derived.Test.YtofnpgheppgcaaaJ4
/-
  Rows that are filled one by one.
-/
namespace Go.Proofs.Ytofnpgheppgcaaa
open Go.RowKit

/-- The first j rows are filled, the others zero. -/
def upTo {α : Type} (f : α → List Dt) (zr : List Value) (xs : List α) (j : Nat) : List Dt := (xs.take j).flatMap f ++ ((List.replicate (xs.length - j) ()).flatMap (fun _ => zr)).map Dt.val
theorem upTo_all {α : Type} (f : α → List Dt) (zr : List Value) (xs : List α) : upTo f zr xs xs.length = xs.flatMap f := by simp [upTo]
theorem setRow_below {B : Nat} {w : World} {g : Nat} : ∀ (us : List Value) (wr : World) (at' : Nat), Below B w wr → B ≤ g → Below B w (setRow wr g at' us)
  | [], _, _, h, _ => h
  | _ :: us, _, at', h, hg => setRow_below us _ _ (h.setCell (p := ⟨g, at', none⟩) hg _) hg
theorem OwnD.fill {α : Type} [Inhabited α] {f : α → List Dt} {k : Nat} (hf : ∀ x, (f x).length = k) {zr : List Value} (hz : zr.length = k) {xs : List α} {n : Nat} (hn : xs.length = n) {w : World} {b hi m hi' : Nat} {T : TypeId} {g c j : Nat} (hj : j < n)
    (h : OwnD w b hi (.row T k n (upTo f zr xs j)) (.slice (some ⟨g, 0, none⟩) n c)) {us : List Value} (h' : OwnDL w m hi' (f (xs.getD j default)) us) (hm : hi ≤ m) (hbm : b ≤ m) (hh : hi ≤ hi') :
    (∀ r, r < k → ∃ y, w.cell? ⟨g, j * k + r, none⟩ = some y) ∧ (∀ r, w.frozen? ⟨g, r, none⟩ = false) ∧ OwnD (setRow w g (j * k) us) b hi' (.row T k n (upTo f zr xs (j + 1))) (.slice (some ⟨g, 0, none⟩) n c) := by
  subst hn
  obtain ⟨F, h1, h2, h3⟩ := h
  obtain ⟨F', g1, g2, g3⟩ := h'
  have hlen : ((xs.take j).flatMap f).length = j * k := by rw [flatD_len hf, List.length_take, Nat.min_eq_left (by omega)]
  have e1 : upTo f zr xs j = (xs.take j).flatMap f ++ zr.map Dt.val ++ ((List.replicate (xs.length - (j + 1)) ()).flatMap (fun _ => zr)).map Dt.val := by
    unfold upTo
    rw [show xs.length - j = xs.length - (j + 1) + 1 by omega, List.replicate_succ, List.flatMap_cons, List.map_append, List.append_assoc]
  have e2 : upTo f zr xs (j + 1) = (xs.take j).flatMap f ++ f (xs.getD j default) ++ ((List.replicate (xs.length - (j + 1)) ()).flatMap (fun _ => zr)).map Dt.val := by
    unfold upTo
    have : xs.getD j default = xs[j] := by simp [hj]
    rw [List.take_succ_eq_append_getElem hj, List.flatMap_append, List.flatMap_cons, List.flatMap_nil, List.append_nil, this]
  rw [e1] at h1
  have hul : us.length = zr.length := by rw [g1.len, hf, hz]
  have hrow := h1
  unfold Owns at hrow
  obtain ⟨vs, G, ho, hv, _⟩ := hrow
  have hcl : vs.length = xs.length * k := ho.1
  refine ⟨fun r hr => ?_, fun r => World.ownsRow.frozenAt ho r, ?_⟩
  · have : j * k + r < xs.length * k := by
      have := Nat.mul_le_mul_right k (show j + 1 ≤ xs.length from hj)
      rw [Nat.succ_mul] at this
      omega
    rw [World.ownsRow.cellAt ho _ this]
    exact ⟨_, List.getElem?_eq_getElem (by omega)⟩
  · obtain ⟨F'', p1, p2, p3⟩ := Owns.put h1 h2 (g1.mono hbm) g2 (fun q hq hq' => by
      have a := (OwnsL.lt _ _ _ g1 q hq).1
      have b := h3 q hq'
      omega) hul
    rw [hlen] at p1
    rw [e2]
    refine ⟨F'', p1, p2, fun q hq => ?_⟩
    rcases (p3 q).1 hq with hq | hq
    · exact Nat.lt_of_lt_of_le (h3 q hq) hh
    · exact g3 q hq
theorem ownD_made {α : Type} {f : α → List Dt} {k : Nat} {zr : List Value} {xs : List α} {n : Nat} (hn : xs.length = n) (hz : zr.length = k) (hk : 0 < k) {w : World} {b : Nat} {T : TypeId} {v z : Value} (hzr : z.cells.toList = zr) (h : w.ownsRow b T k v n (madeCells z.cells (n * k)).toList) (hlt : ∀ q, v.ownBlock = some q → q < w.heap.size) :
    OwnD w b w.heap.size (.row T k n (upTo f zr xs 0)) v := by
  subst hn
  rw [made_flat (fun _ : Unit => zr) k (fun _ => hz) hk () z.cells hzr] at h
  refine ⟨v.ownBlock.toList, ?_, ?_, fun q hq => hlt q (by simpa using hq)⟩
  · unfold Owns upTo
    refine ⟨_, [], h, ?_, by simp⟩
    rw [List.take_zero, List.flatMap_nil, List.nil_append, Nat.sub_zero]
    exact ownsL_vals _
  · cases v.ownBlock <;> simp

theorem putN2 {w : World} {g : Nat} {T : TypeId} {a0 a1 : Value} (h : w.heap[g]? = some (.cells #[a0, a1] T (0, 0))) (b0 b1 : Value) :
    ((w.setCell ⟨g, 0, none⟩ b0).setCell ⟨g, 1, none⟩ b1).heap[g]? = some (.cells #[b0, b1] T (0, 0)) := by
  have h0 : (w.setCell ⟨g, 0, none⟩ b0).heap[g]? = some (.cells #[b0, a1] T (0, 0)) := heap_setCell_same _ g 0 _ T b0 h
  exact heap_setCell_same _ g 1 _ T b1 h0
theorem putN4 {w : World} {g : Nat} {T : TypeId} {a0 a1 a2 a3 : Value} (h : w.heap[g]? = some (.cells #[a0, a1, a2, a3] T (0, 0))) (b0 b1 b2 b3 : Value) :
    ((((w.setCell ⟨g, 0, none⟩ b0).setCell ⟨g, 1, none⟩ b1).setCell ⟨g, 2, none⟩ b2).setCell ⟨g, 3, none⟩ b3).heap[g]? = some (.cells #[b0, b1, b2, b3] T (0, 0)) := by
  have h0 : (w.setCell ⟨g, 0, none⟩ b0).heap[g]? = some (.cells #[b0, a1, a2, a3] T (0, 0)) := heap_setCell_same _ g 0 _ T b0 h
  have h1 : ((w.setCell ⟨g, 0, none⟩ b0).setCell ⟨g, 1, none⟩ b1).heap[g]? = some (.cells #[b0, b1, a2, a3] T (0, 0)) := heap_setCell_same _ g 1 _ T b1 h0
  have h2 : (((w.setCell ⟨g, 0, none⟩ b0).setCell ⟨g, 1, none⟩ b1).setCell ⟨g, 2, none⟩ b2).heap[g]? = some (.cells #[b0, b1, b2, a3] T (0, 0)) := heap_setCell_same _ g 2 _ T b2 h1
  exact heap_setCell_same _ g 3 _ T b3 h2
theorem putN5 {w : World} {g : Nat} {T : TypeId} {a0 a1 a2 a3 a4 : Value} (h : w.heap[g]? = some (.cells #[a0, a1, a2, a3, a4] T (0, 0))) (b0 b1 b2 b3 b4 : Value) :
    (((((w.setCell ⟨g, 0, none⟩ b0).setCell ⟨g, 1, none⟩ b1).setCell ⟨g, 2, none⟩ b2).setCell ⟨g, 3, none⟩ b3).setCell ⟨g, 4, none⟩ b4).heap[g]? = some (.cells #[b0, b1, b2, b3, b4] T (0, 0)) := by
  have h0 : (w.setCell ⟨g, 0, none⟩ b0).heap[g]? = some (.cells #[b0, a1, a2, a3, a4] T (0, 0)) := heap_setCell_same _ g 0 _ T b0 h
  have h1 : ((w.setCell ⟨g, 0, none⟩ b0).setCell ⟨g, 1, none⟩ b1).heap[g]? = some (.cells #[b0, b1, a2, a3, a4] T (0, 0)) := heap_setCell_same _ g 1 _ T b1 h0
  have h2 : (((w.setCell ⟨g, 0, none⟩ b0).setCell ⟨g, 1, none⟩ b1).setCell ⟨g, 2, none⟩ b2).heap[g]? = some (.cells #[b0, b1, b2, a3, a4] T (0, 0)) := heap_setCell_same _ g 2 _ T b2 h1
  have h3 : ((((w.setCell ⟨g, 0, none⟩ b0).setCell ⟨g, 1, none⟩ b1).setCell ⟨g, 2, none⟩ b2).setCell ⟨g, 3, none⟩ b3).heap[g]? = some (.cells #[b0, b1, b2, b3, a4] T (0, 0)) := heap_setCell_same _ g 3 _ T b3 h2
  exact heap_setCell_same _ g 4 _ T b4 h3
theorem putN1 {w : World} {g : Nat} {T : TypeId} {a0 : Value} (h : w.heap[g]? = some (.cells #[a0] T (0, 0))) (b0 : Value) :
    (w.setCell ⟨g, 0, none⟩ b0).heap[g]? = some (.cells #[b0] T (0, 0)) := by
  exact heap_setCell_same _ g 0 _ T b0 h
theorem putN3 {w : World} {g : Nat} {T : TypeId} {a0 a1 a2 : Value} (h : w.heap[g]? = some (.cells #[a0, a1, a2] T (0, 0))) (b0 b1 b2 : Value) :
    (((w.setCell ⟨g, 0, none⟩ b0).setCell ⟨g, 1, none⟩ b1).setCell ⟨g, 2, none⟩ b2).heap[g]? = some (.cells #[b0, b1, b2] T (0, 0)) := by
  have h0 : (w.setCell ⟨g, 0, none⟩ b0).heap[g]? = some (.cells #[b0, a1, a2] T (0, 0)) := heap_setCell_same _ g 0 _ T b0 h
  have h1 : ((w.setCell ⟨g, 0, none⟩ b0).setCell ⟨g, 1, none⟩ b1).heap[g]? = some (.cells #[b0, b1, a2] T (0, 0)) := heap_setCell_same _ g 1 _ T b1 h0
  exact heap_setCell_same _ g 2 _ T b2 h1
theorem putN6 {w : World} {g : Nat} {T : TypeId} {a0 a1 a2 a3 a4 a5 : Value} (h : w.heap[g]? = some (.cells #[a0, a1, a2, a3, a4, a5] T (0, 0))) (b0 b1 b2 b3 b4 b5 : Value) :
    ((((((w.setCell ⟨g, 0, none⟩ b0).setCell ⟨g, 1, none⟩ b1).setCell ⟨g, 2, none⟩ b2).setCell ⟨g, 3, none⟩ b3).setCell ⟨g, 4, none⟩ b4).setCell ⟨g, 5, none⟩ b5).heap[g]? = some (.cells #[b0, b1, b2, b3, b4, b5] T (0, 0)) := by
  have h0 : (w.setCell ⟨g, 0, none⟩ b0).heap[g]? = some (.cells #[b0, a1, a2, a3, a4, a5] T (0, 0)) := heap_setCell_same _ g 0 _ T b0 h
  have h1 : ((w.setCell ⟨g, 0, none⟩ b0).setCell ⟨g, 1, none⟩ b1).heap[g]? = some (.cells #[b0, b1, a2, a3, a4, a5] T (0, 0)) := heap_setCell_same _ g 1 _ T b1 h0
  have h2 : (((w.setCell ⟨g, 0, none⟩ b0).setCell ⟨g, 1, none⟩ b1).setCell ⟨g, 2, none⟩ b2).heap[g]? = some (.cells #[b0, b1, b2, a3, a4, a5] T (0, 0)) := heap_setCell_same _ g 2 _ T b2 h1
  have h3 : ((((w.setCell ⟨g, 0, none⟩ b0).setCell ⟨g, 1, none⟩ b1).setCell ⟨g, 2, none⟩ b2).setCell ⟨g, 3, none⟩ b3).heap[g]? = some (.cells #[b0, b1, b2, b3, a4, a5] T (0, 0)) := heap_setCell_same _ g 3 _ T b3 h2
  have h4 : (((((w.setCell ⟨g, 0, none⟩ b0).setCell ⟨g, 1, none⟩ b1).setCell ⟨g, 2, none⟩ b2).setCell ⟨g, 3, none⟩ b3).setCell ⟨g, 4, none⟩ b4).heap[g]? = some (.cells #[b0, b1, b2, b3, b4, a5] T (0, 0)) := heap_setCell_same _ g 4 _ T b4 h3
  exact heap_setCell_same _ g 5 _ T b5 h4
theorem putN7 {w : World} {g : Nat} {T : TypeId} {a0 a1 a2 a3 a4 a5 a6 : Value} (h : w.heap[g]? = some (.cells #[a0, a1, a2, a3, a4, a5, a6] T (0, 0))) (b0 b1 b2 b3 b4 b5 b6 : Value) :
    (((((((w.setCell ⟨g, 0, none⟩ b0).setCell ⟨g, 1, none⟩ b1).setCell ⟨g, 2, none⟩ b2).setCell ⟨g, 3, none⟩ b3).setCell ⟨g, 4, none⟩ b4).setCell ⟨g, 5, none⟩ b5).setCell ⟨g, 6, none⟩ b6).heap[g]? = some (.cells #[b0, b1, b2, b3, b4, b5, b6] T (0, 0)) := by
  have h0 : (w.setCell ⟨g, 0, none⟩ b0).heap[g]? = some (.cells #[b0, a1, a2, a3, a4, a5, a6] T (0, 0)) := heap_setCell_same _ g 0 _ T b0 h
  have h1 : ((w.setCell ⟨g, 0, none⟩ b0).setCell ⟨g, 1, none⟩ b1).heap[g]? = some (.cells #[b0, b1, a2, a3, a4, a5, a6] T (0, 0)) := heap_setCell_same _ g 1 _ T b1 h0
  have h2 : (((w.setCell ⟨g, 0, none⟩ b0).setCell ⟨g, 1, none⟩ b1).setCell ⟨g, 2, none⟩ b2).heap[g]? = some (.cells #[b0, b1, b2, a3, a4, a5, a6] T (0, 0)) := heap_setCell_same _ g 2 _ T b2 h1
  have h3 : ((((w.setCell ⟨g, 0, none⟩ b0).setCell ⟨g, 1, none⟩ b1).setCell ⟨g, 2, none⟩ b2).setCell ⟨g, 3, none⟩ b3).heap[g]? = some (.cells #[b0, b1, b2, b3, a4, a5, a6] T (0, 0)) := heap_setCell_same _ g 3 _ T b3 h2
  have h4 : (((((w.setCell ⟨g, 0, none⟩ b0).setCell ⟨g, 1, none⟩ b1).setCell ⟨g, 2, none⟩ b2).setCell ⟨g, 3, none⟩ b3).setCell ⟨g, 4, none⟩ b4).heap[g]? = some (.cells #[b0, b1, b2, b3, b4, a5, a6] T (0, 0)) := heap_setCell_same _ g 4 _ T b4 h3
  have h5 : ((((((w.setCell ⟨g, 0, none⟩ b0).setCell ⟨g, 1, none⟩ b1).setCell ⟨g, 2, none⟩ b2).setCell ⟨g, 3, none⟩ b3).setCell ⟨g, 4, none⟩ b4).setCell ⟨g, 5, none⟩ b5).heap[g]? = some (.cells #[b0, b1, b2, b3, b4, b5, a6] T (0, 0)) := heap_setCell_same _ g 5 _ T b5 h4
  exact heap_setCell_same _ g 6 _ T b6 h5
theorem putN8 {w : World} {g : Nat} {T : TypeId} {a0 a1 a2 a3 a4 a5 a6 a7 : Value} (h : w.heap[g]? = some (.cells #[a0, a1, a2, a3, a4, a5, a6, a7] T (0, 0))) (b0 b1 b2 b3 b4 b5 b6 b7 : Value) :
    ((((((((w.setCell ⟨g, 0, none⟩ b0).setCell ⟨g, 1, none⟩ b1).setCell ⟨g, 2, none⟩ b2).setCell ⟨g, 3, none⟩ b3).setCell ⟨g, 4, none⟩ b4).setCell ⟨g, 5, none⟩ b5).setCell ⟨g, 6, none⟩ b6).setCell ⟨g, 7, none⟩ b7).heap[g]? = some (.cells #[b0, b1, b2, b3, b4, b5, b6, b7] T (0, 0)) := by
  have h0 : (w.setCell ⟨g, 0, none⟩ b0).heap[g]? = some (.cells #[b0, a1, a2, a3, a4, a5, a6, a7] T (0, 0)) := heap_setCell_same _ g 0 _ T b0 h
  have h1 : ((w.setCell ⟨g, 0, none⟩ b0).setCell ⟨g, 1, none⟩ b1).heap[g]? = some (.cells #[b0, b1, a2, a3, a4, a5, a6, a7] T (0, 0)) := heap_setCell_same _ g 1 _ T b1 h0
  have h2 : (((w.setCell ⟨g, 0, none⟩ b0).setCell ⟨g, 1, none⟩ b1).setCell ⟨g, 2, none⟩ b2).heap[g]? = some (.cells #[b0, b1, b2, a3, a4, a5, a6, a7] T (0, 0)) := heap_setCell_same _ g 2 _ T b2 h1
  have h3 : ((((w.setCell ⟨g, 0, none⟩ b0).setCell ⟨g, 1, none⟩ b1).setCell ⟨g, 2, none⟩ b2).setCell ⟨g, 3, none⟩ b3).heap[g]? = some (.cells #[b0, b1, b2, b3, a4, a5, a6, a7] T (0, 0)) := heap_setCell_same _ g 3 _ T b3 h2
  have h4 : (((((w.setCell ⟨g, 0, none⟩ b0).setCell ⟨g, 1, none⟩ b1).setCell ⟨g, 2, none⟩ b2).setCell ⟨g, 3, none⟩ b3).setCell ⟨g, 4, none⟩ b4).heap[g]? = some (.cells #[b0, b1, b2, b3, b4, a5, a6, a7] T (0, 0)) := heap_setCell_same _ g 4 _ T b4 h3
  have h5 : ((((((w.setCell ⟨g, 0, none⟩ b0).setCell ⟨g, 1, none⟩ b1).setCell ⟨g, 2, none⟩ b2).setCell ⟨g, 3, none⟩ b3).setCell ⟨g, 4, none⟩ b4).setCell ⟨g, 5, none⟩ b5).heap[g]? = some (.cells #[b0, b1, b2, b3, b4, b5, a6, a7] T (0, 0)) := heap_setCell_same _ g 5 _ T b5 h4
  have h6 : (((((((w.setCell ⟨g, 0, none⟩ b0).setCell ⟨g, 1, none⟩ b1).setCell ⟨g, 2, none⟩ b2).setCell ⟨g, 3, none⟩ b3).setCell ⟨g, 4, none⟩ b4).setCell ⟨g, 5, none⟩ b5).setCell ⟨g, 6, none⟩ b6).heap[g]? = some (.cells #[b0, b1, b2, b3, b4, b5, b6, a7] T (0, 0)) := heap_setCell_same _ g 6 _ T b6 h5
  exact heap_setCell_same _ g 7 _ T b7 h6
end Go.Proofs.Ytofnpgheppgcaaa
/-
  Texts, consts and fields copied into new memory.
-/
namespace Go.Proofs.Ytofnpgheppgcaaa
open Go.RowKit

theorem Try.infoKc : (Try.prog.info? 130).map (fun i => (i.zero, i.size, i.bytes)) = some (some (.agg #[.int .i64 0, .int .i64 0, .string ByteArray.empty, .string ByteArray.empty]), 4, 48) := by kernel_rfl
theorem Try.infoFd : (Try.prog.info? 101).map (fun i => (i.zero, i.size, i.bytes)) = some (some (.agg #[.string ByteArray.empty, .string ByteArray.empty]), 2, 32) := by kernel_rfl
theorem Try.infoSt : (Try.prog.info? 9).map (fun i => (i.zero, i.size, i.bytes)) = some (some (.string ByteArray.empty), 1, 16) := by kernel_rfl
theorem loadKc {w : World} {g : Nat} {a0 a1 a2 a3 : Value} (h : w.heap[g]? = some (.cells #[a0, a1, a2, a3] 130 (0, 0))) : (loadVar 130 ⟨g, 0, none⟩).run Try.prog w = .ok (.agg #[a0, a1, a2, a3]) w :=
  run_loadVar_row w g 130 130 #[a0, a1, a2, a3] (0, 0) _ h Try.underlying130 rfl (by kernel_rfl)
theorem loadFd {w : World} {g : Nat} {a0 a1 : Value} (h : w.heap[g]? = some (.cells #[a0, a1] 101 (0, 0))) : (loadVar 101 ⟨g, 0, none⟩).run Try.prog w = .ok (.agg #[a0, a1]) w :=
  run_loadVar_row w g 101 101 #[a0, a1] (0, 0) _ h Try.underlying101 rfl (by kernel_rfl)
set_option maxRecDepth 100000 in
set_option maxHeartbeats 1000000 in
theorem toKc (w : World) (x : Kc) : Calls Try.prog 89 #[kcV x] w fun e w' => e = .returned (kcV x) ∧ Below w.heap.size w w' := by
  unfold kcV
  go_enter Try.func89, Try.ntmps89
  go_wp2
  exact bodyPost_ret (v := .agg #[.int .i64 x.k, .int .i64 x.n, .string x.a, .string x.b]) (by simp [results, Try.results89, go_sem]) rfl ⟨rfl, (((Below.refl _ _).alloc (Nat.le_refl _) _).alloc (by simp) _).alloc (by simp; omega) _⟩
set_option maxRecDepth 100000 in
set_option maxHeartbeats 1000000 in
theorem toFd (w : World) (x : Fd) : Calls Try.prog 90 #[fdV x] w fun e w' => e = .returned (fdV x) ∧ Below w.heap.size w w' := by
  unfold fdV
  go_enter Try.func90, Try.ntmps90
  go_wp2
  exact bodyPost_ret (v := .agg #[.string x.n, .string x.t]) (by simp [results, Try.results90, go_sem]) rfl ⟨rfl, (((Below.refl _ _).alloc (Nat.le_refl _) _).alloc (by simp) _).alloc (by simp; omega) _⟩
set_option maxRecDepth 100000 in
set_option maxHeartbeats 4000000 in
theorem toStrs (w : World) (v : Value) (xs : List ByteArray) (h : Reads w w.heap.size (strs xs) v) (hm : xs.length ≤ 1048576) :
    Calls Try.prog 99 #[v] w fun e w' => ∃ v', e = .returned v' ∧ OwnD w' w.heap.size w'.heap.size (strs xs) v' ∧ Below w.heap.size w w' := by
  have HX : Hid (∀ wr, Below w.heap.size w wr → _) := hide (fun wr hb => str_at (h.at hb))
  obtain ⟨a, cap, rfl, _⟩ := str_at h
  have HD : Hid (∀ W hi v, OwnD W w.heap.size hi (.row 9 1 xs.length (upTo txD [.string ByteArray.empty] xs xs.length)) v → OwnD W w.heap.size hi (strs xs) v) := hide (fun W hi v h => by unfold strs; rwa [upTo_all] at h)
  clear h
  obtain ⟨i0, hi, hz0, hz1, hz2⟩ := info_parts Try.infoSt
  generalize hn : xs.length = n at *
  go_enter Try.func99, Try.ntmps99
  go_wp2_with (at_make; refine wpList_make_full _ rfl _ _ 126 rfl w.heap.size 9 i0 (.string ByteArray.empty) 1 Try.underlying126 hi hz0 hz1 _ _ _ _ n rfl rfl rfl rfl (by rw [hz2]; omega) (by unfold maxLen; omega) (Nat.le_refl _) ?_; intro w1 ho1 hg1)
  have o1 : OwnD w1 w.heap.size w1.heap.size (.row 9 1 n (upTo txD [.string ByteArray.empty] xs 0)) (.slice (some ⟨w.heap.size, 0, none⟩) n n) := ownD_made hn rfl (by decide) rfl ho1 (fun q hq => (World.ownsRow.lt ho1 q hq).2)
  have hl1 : w.heap.size < w1.heap.size := (World.ownsRow.lt ho1 _ rfl).2
  have b1 : Below w.heap.size w w1 := (Below.refl _ _).grown hg1 (Nat.le_refl _) (fun k hk => by cases hk)
  clear ho1 hg1 hi hz0 hz1 hz2
  go_loopw [4] (fun i wr => ∃ (j : Nat), j ≤ n ∧ i = .int .i64 (j : Int) ∧ Hid (OwnD wr w.heap.size wr.heap.size (.row 9 1 n (upTo txD [.string ByteArray.empty] xs j)) (.slice (some ⟨w.heap.size, 0, none⟩) n n)) ∧ Hid (Below w.heap.size w wr) ∧ w.heap.size < wr.heap.size) (fun i _ => n - (intOf i).toNat)
  case atStart => exact ⟨0, Nat.zero_le _, rfl, hide o1, hide b1, hl1⟩
  case round =>
    clear o1 b1
    obtain ⟨j, hj, rfl, HO, HB, hlt0⟩ := hrel
    by_cases hlt : j < n
    · obtain ⟨a', cap', ea, _, _, hx⟩ := HX.out wr HB.out
      cases ea
      obtain ⟨b, o, rfl, _, hcell⟩ := hx (by omega)
      obtain e0 := hcell j hlt
      clear hcell hx
      have HL : Hid (xs.getD j default = xs.getD j default) := hide rfl
      generalize hx9 : xs.getD j default = x at *
      have OU : Hid (∀ W : World, OwnDL W W.heap.size W.heap.size (txD (xs.getD j default)) [.string x]) := hide (fun W => by rw [hx9]; exact OwnDL.val (ownDL_nil _ _ _))
      clear hx9 HL
      obtain ⟨hc, hf, ho2⟩ := OwnD.fill (f := txD) (k := 1) (fun _ => rfl) rfl hn hlt HO.out (OU.out wr) (Nat.le_refl _) (Nat.le_of_lt hlt0) (Nat.le_refl _)
      obtain ⟨y0, d0⟩ := hc 0 (by omega)
      simp only [Nat.mul_one, Nat.add_zero] at d0
      have hb2 := setRow_below [.string x] wr (j * 1) HB.out (Nat.le_refl _)
      have hs9 : wr.heap.size = (setRow wr w.heap.size (j * 1) [.string x]).heap.size := by simp [setRow]
      rw [hs9] at ho2
      clear hs9
      simp only [setRow, Nat.mul_one] at ho2 hb2
      replace HO := hide ho2
      have HB2 := hide hb2
      clear ho2 hb2 hc HB OU
      go_wp2
      exact ⟨⟨j + 1, by omega, by go_num, HO, HB2, by simp; omega⟩, by simp [intOf]; omega⟩
    · obtain rfl : j = n := by omega
      have HF := hide (HD.out _ _ _ HO.out)
      go_wp2
      go_ret
      exact ⟨_, rfl, HF.out, HB.out⟩
set_option maxRecDepth 100000 in
set_option maxHeartbeats 4000000 in
theorem toKcs (w : World) (v : Value) (xs : List Kc) (h : Reads w w.heap.size (pool xs) v) (hm : xs.length ≤ 1048576) :
    Calls Try.prog 77 #[v] w fun e w' => ∃ v', e = .returned v' ∧ OwnD w' w.heap.size w'.heap.size (pool xs) v' ∧ Below w.heap.size w w' := by
  have HX : Hid (∀ wr, Below w.heap.size w wr → _) := hide (fun wr hb => const_at (h.at hb))
  obtain ⟨a, cap, rfl, _⟩ := const_at h
  have HD : Hid (∀ W hi v, OwnD W w.heap.size hi (.row 130 4 xs.length (upTo kcD [.int .i64 0, .int .i64 0, .string ByteArray.empty, .string ByteArray.empty] xs xs.length)) v → OwnD W w.heap.size hi (pool xs) v) := hide (fun W hi v h => by unfold pool; rwa [upTo_all] at h)
  clear h
  obtain ⟨i0, hi, hz0, hz1, hz2⟩ := info_parts Try.infoKc
  generalize hn : xs.length = n at *
  go_enter Try.func77, Try.ntmps77
  go_wp2_with (at_make; refine wpList_make_full _ rfl _ _ 94 rfl w.heap.size 130 i0 (.agg #[.int .i64 0, .int .i64 0, .string ByteArray.empty, .string ByteArray.empty]) 4 Try.underlying94 hi hz0 hz1 _ _ _ _ n rfl rfl rfl rfl (by rw [hz2]; omega) (by unfold maxLen; omega) (Nat.le_refl _) ?_; intro w1 ho1 hg1)
  have o1 : OwnD w1 w.heap.size w1.heap.size (.row 130 4 n (upTo kcD [.int .i64 0, .int .i64 0, .string ByteArray.empty, .string ByteArray.empty] xs 0)) (.slice (some ⟨w.heap.size, 0, none⟩) n n) := ownD_made hn rfl (by decide) rfl ho1 (fun q hq => (World.ownsRow.lt ho1 q hq).2)
  have hl1 : w.heap.size < w1.heap.size := (World.ownsRow.lt ho1 _ rfl).2
  have b1 : Below w.heap.size w w1 := (Below.refl _ _).grown hg1 (Nat.le_refl _) (fun k hk => by cases hk)
  clear ho1 hg1 hi hz0 hz1 hz2
  go_loopw [4] (fun i wr => ∃ (j : Nat), j ≤ n ∧ i = .int .i64 (j : Int) ∧ Hid (OwnD wr w.heap.size wr.heap.size (.row 130 4 n (upTo kcD [.int .i64 0, .int .i64 0, .string ByteArray.empty, .string ByteArray.empty] xs j)) (.slice (some ⟨w.heap.size, 0, none⟩) n n)) ∧ Hid (Below w.heap.size w wr) ∧ w.heap.size < wr.heap.size) (fun i _ => n - (intOf i).toNat)
  case atStart => exact ⟨0, Nat.zero_le _, rfl, hide o1, hide b1, hl1⟩
  case round =>
    clear o1 b1
    obtain ⟨j, hj, rfl, HO, HB, hlt0⟩ := hrel
    by_cases hlt : j < n
    · obtain ⟨a', cap', ea, _, _, hx⟩ := HX.out wr HB.out
      cases ea
      obtain ⟨b, o, rfl, _, hcell⟩ := hx (by omega)
      obtain ⟨e0, e1, e2, e3⟩ := hcell j hlt
      clear hcell hx
      have HL : Hid (xs.getD j default = xs.getD j default) := hide rfl
      generalize hx9 : xs.getD j default = x at *
      have OU : Hid (∀ W : World, OwnDL W W.heap.size W.heap.size (kcD (xs.getD j default)) [.int .i64 x.k, .int .i64 x.n, .string x.a, .string x.b]) := hide (fun W => by rw [hx9]; exact OwnDL.val (OwnDL.val (OwnDL.val (OwnDL.val (ownDL_nil _ _ _)))))
      clear hx9 HL
      go_wp2_with fail
      refine (toKc _ x).mono ?_
      rintro e w2 ⟨rfl, b2⟩
      have hs2 := b2.size
      replace HO := hide ((HO.out.below b2).up hs2)
      replace HB := hide (HB.out.trans (b2.mono HB.out.size))
      replace hlt0 : w.heap.size < w2.heap.size := by omega
      clear b2
      unfold kcV
      obtain ⟨hc, hf, ho2⟩ := OwnD.fill (f := kcD) (k := 4) (fun _ => rfl) rfl hn hlt HO.out (OU.out w2) (Nat.le_refl _) (Nat.le_of_lt hlt0) (Nat.le_refl _)
      obtain ⟨y0, d0⟩ := hc 0 (by omega)
      obtain ⟨y1, d1⟩ := hc 1 (by omega)
      obtain ⟨y2, d2⟩ := hc 2 (by omega)
      obtain ⟨y3, d3⟩ := hc 3 (by omega)
      rw [Nat.add_zero]  at d0
      have hb2 := setRow_below [.int .i64 x.k, .int .i64 x.n, .string x.a, .string x.b] w2 (j * 4) HB.out (Nat.le_refl _)
      have hs9 : w2.heap.size = (setRow w2 w.heap.size (j * 4) [.int .i64 x.k, .int .i64 x.n, .string x.a, .string x.b]).heap.size := by simp [setRow]
      rw [hs9] at ho2
      clear hs9
      simp only [setRow, Nat.add_assoc, Nat.reduceAdd] at ho2 hb2
      replace HO := hide ho2
      have HB2 := hide hb2
      clear ho2 hb2 hc HB OU
      go_wp2
      exact ⟨⟨j + 1, by omega, by go_num, HO, HB2, by simp; omega⟩, by simp [intOf]; omega⟩
    · obtain rfl : j = n := by omega
      have HF := hide (HD.out _ _ _ HO.out)
      go_wp2
      go_ret
      exact ⟨_, rfl, HF.out, HB.out⟩
set_option maxRecDepth 100000 in
set_option maxHeartbeats 4000000 in
theorem toFds (w : World) (v : Value) (xs : List Fd) (h : Reads w w.heap.size (flds xs) v) (hm : xs.length ≤ 1048576) :
    Calls Try.prog 78 #[v] w fun e w' => ∃ v', e = .returned v' ∧ OwnD w' w.heap.size w'.heap.size (flds xs) v' ∧ Below w.heap.size w w' := by
  have HX : Hid (∀ wr, Below w.heap.size w wr → _) := hide (fun wr hb => field_at (h.at hb))
  obtain ⟨a, cap, rfl, _⟩ := field_at h
  have HD : Hid (∀ W hi v, OwnD W w.heap.size hi (.row 101 2 xs.length (upTo fdD [.string ByteArray.empty, .string ByteArray.empty] xs xs.length)) v → OwnD W w.heap.size hi (flds xs) v) := hide (fun W hi v h => by unfold flds; rwa [upTo_all] at h)
  clear h
  obtain ⟨i0, hi, hz0, hz1, hz2⟩ := info_parts Try.infoFd
  generalize hn : xs.length = n at *
  go_enter Try.func78, Try.ntmps78
  go_wp2_with (at_make; refine wpList_make_full _ rfl _ _ 95 rfl w.heap.size 101 i0 (.agg #[.string ByteArray.empty, .string ByteArray.empty]) 2 Try.underlying95 hi hz0 hz1 _ _ _ _ n rfl rfl rfl rfl (by rw [hz2]; omega) (by unfold maxLen; omega) (Nat.le_refl _) ?_; intro w1 ho1 hg1)
  have o1 : OwnD w1 w.heap.size w1.heap.size (.row 101 2 n (upTo fdD [.string ByteArray.empty, .string ByteArray.empty] xs 0)) (.slice (some ⟨w.heap.size, 0, none⟩) n n) := ownD_made hn rfl (by decide) rfl ho1 (fun q hq => (World.ownsRow.lt ho1 q hq).2)
  have hl1 : w.heap.size < w1.heap.size := (World.ownsRow.lt ho1 _ rfl).2
  have b1 : Below w.heap.size w w1 := (Below.refl _ _).grown hg1 (Nat.le_refl _) (fun k hk => by cases hk)
  clear ho1 hg1 hi hz0 hz1 hz2
  go_loopw [4] (fun i wr => ∃ (j : Nat), j ≤ n ∧ i = .int .i64 (j : Int) ∧ Hid (OwnD wr w.heap.size wr.heap.size (.row 101 2 n (upTo fdD [.string ByteArray.empty, .string ByteArray.empty] xs j)) (.slice (some ⟨w.heap.size, 0, none⟩) n n)) ∧ Hid (Below w.heap.size w wr) ∧ w.heap.size < wr.heap.size) (fun i _ => n - (intOf i).toNat)
  case atStart => exact ⟨0, Nat.zero_le _, rfl, hide o1, hide b1, hl1⟩
  case round =>
    clear o1 b1
    obtain ⟨j, hj, rfl, HO, HB, hlt0⟩ := hrel
    by_cases hlt : j < n
    · obtain ⟨a', cap', ea, _, _, hx⟩ := HX.out wr HB.out
      cases ea
      obtain ⟨b, o, rfl, _, hcell⟩ := hx (by omega)
      obtain ⟨e0, e1⟩ := hcell j hlt
      clear hcell hx
      have HL : Hid (xs.getD j default = xs.getD j default) := hide rfl
      generalize hx9 : xs.getD j default = x at *
      have OU : Hid (∀ W : World, OwnDL W W.heap.size W.heap.size (fdD (xs.getD j default)) [.string x.n, .string x.t]) := hide (fun W => by rw [hx9]; exact OwnDL.val (OwnDL.val (ownDL_nil _ _ _)))
      clear hx9 HL
      go_wp2_with fail
      refine (toFd _ x).mono ?_
      rintro e w2 ⟨rfl, b2⟩
      have hs2 := b2.size
      replace HO := hide ((HO.out.below b2).up hs2)
      replace HB := hide (HB.out.trans (b2.mono HB.out.size))
      replace hlt0 : w.heap.size < w2.heap.size := by omega
      clear b2
      unfold fdV
      obtain ⟨hc, hf, ho2⟩ := OwnD.fill (f := fdD) (k := 2) (fun _ => rfl) rfl hn hlt HO.out (OU.out w2) (Nat.le_refl _) (Nat.le_of_lt hlt0) (Nat.le_refl _)
      obtain ⟨y0, d0⟩ := hc 0 (by omega)
      obtain ⟨y1, d1⟩ := hc 1 (by omega)
      rw [Nat.add_zero]  at d0
      have hb2 := setRow_below [.string x.n, .string x.t] w2 (j * 2) HB.out (Nat.le_refl _)
      have hs9 : w2.heap.size = (setRow w2 w.heap.size (j * 2) [.string x.n, .string x.t]).heap.size := by simp [setRow]
      rw [hs9] at ho2
      clear hs9
      simp only [setRow] at ho2 hb2
      replace HO := hide ho2
      have HB2 := hide hb2
      clear ho2 hb2 hc HB OU
      go_wp2
      exact ⟨⟨j + 1, by omega, by go_num, HO, HB2, by simp; omega⟩, by simp [intOf]; omega⟩
    · obtain rfl : j = n := by omega
      have HF := hide (HD.out _ _ _ HO.out)
      go_wp2
      go_ret
      exact ⟨_, rfl, HF.out, HB.out⟩
end Go.Proofs.Ytofnpgheppgcaaa
