/-
  Joined: DeepTo, ClsTo, ClsM.
-/
import Derived.Test.YtbggcoclfnhbgaaDoorJ14
import Derived.Test.YtbggcoclfnhbgaaDoorJ2
import Derived.Deep.RegionWith
import Derived.Deep.CutRange
import Derived.BigRegion
import Derived.Test.YtbggcoclfnhbgaaDoorJ11
/-
  Rows that are filled one by one.
-/
namespace Go.Proofs.YtbggcoclfnhbgaaDoor
open Go.RowKit

/-- The first j rows are filled, the others zero. -/
def upTo {α : Type} (f : α → List Dt) (zr : List Value) (xs : List α) (j : Nat) : List Dt := (xs.take j).flatMap f ++ ((List.replicate (xs.length - j) ()).flatMap (fun _ => zr)).map Dt.val
theorem upTo_all {α : Type} (f : α → List Dt) (zr : List Value) (xs : List α) : upTo f zr xs xs.length = xs.flatMap f := by simp [upTo]
theorem setRow_below {B : Nat} {w : World} {g : Nat} : ∀ (us : List Value) (wr : World) (at' : Nat), Below B w wr → B ≤ g → Below B w (setRow wr g at' us)
  | [], _, _, h, _ => h
  | _ :: us, _, at', h, hg => setRow_below us _ _ (h.setCell (p := ⟨g, at', none⟩) hg _) hg
theorem OwnD.fill {α : Type} [Inhabited α] {f : α → List Dt} {k : Nat} (hf : ∀ x, (f x).length = k) {zr : List Value} (hz : zr.length = k) {xs : List α} {n : Nat} (hn : xs.length = n) {w : World} {b hi m hi' : Nat} {T : TypeId} {g c j : Nat} (hj : j < n)
    (h : OwnD w b hi (.row T k n (upTo f zr xs j)) (.slice (some ⟨g, 0, none⟩) n c)) {us : List Value} (h' : OwnDL w m hi' (f (xs.getD j default)) us) (hm : hi ≤ m) (hbm : b ≤ m) (hh : hi ≤ hi') :
    (∀ r, r < k → ∃ y, w.cell? ⟨g, j * k + r, none⟩ = some y) ∧ (∀ r, w.frozen? ⟨g, r, none⟩ = false) ∧ OwnD (setRow w g (j * k) us) b hi' (.row T k n (upTo f zr xs (j + 1))) (.slice (some ⟨g, 0, none⟩) n c) := by
  subst hn
  obtain ⟨F, h1, h2, h3⟩ := h
  obtain ⟨F', g1, g2, g3⟩ := h'
  have hlen : ((xs.take j).flatMap f).length = j * k := by rw [flatD_len hf, List.length_take, Nat.min_eq_left (by omega)]
  have e1 : upTo f zr xs j = (xs.take j).flatMap f ++ zr.map Dt.val ++ ((List.replicate (xs.length - (j + 1)) ()).flatMap (fun _ => zr)).map Dt.val := by
    unfold upTo
    rw [show xs.length - j = xs.length - (j + 1) + 1 by omega, List.replicate_succ, List.flatMap_cons, List.map_append, List.append_assoc]
  have e2 : upTo f zr xs (j + 1) = (xs.take j).flatMap f ++ f (xs.getD j default) ++ ((List.replicate (xs.length - (j + 1)) ()).flatMap (fun _ => zr)).map Dt.val := by
    unfold upTo
    have : xs.getD j default = xs[j] := by simp [hj]
    rw [List.take_succ_eq_append_getElem hj, List.flatMap_append, List.flatMap_cons, List.flatMap_nil, List.append_nil, this]
  rw [e1] at h1
  have hul : us.length = zr.length := by rw [g1.len, hf, hz]
  have hrow := h1
  unfold Owns at hrow
  obtain ⟨vs, G, ho, hv, _⟩ := hrow
  have hcl : vs.length = xs.length * k := ho.1
  refine ⟨fun r hr => ?_, fun r => World.ownsRow.frozenAt ho r, ?_⟩
  · have : j * k + r < xs.length * k := by
      have := Nat.mul_le_mul_right k (show j + 1 ≤ xs.length from hj)
      rw [Nat.succ_mul] at this
      omega
    rw [World.ownsRow.cellAt ho _ this]
    exact ⟨_, List.getElem?_eq_getElem (by omega)⟩
  · obtain ⟨F'', p1, p2, p3⟩ := Owns.put h1 h2 (g1.mono hbm) g2 (fun q hq hq' => by
      have a := (OwnsL.lt _ _ _ g1 q hq).1
      have b := h3 q hq'
      omega) hul
    rw [hlen] at p1
    rw [e2]
    refine ⟨F'', p1, p2, fun q hq => ?_⟩
    rcases (p3 q).1 hq with hq | hq
    · exact Nat.lt_of_lt_of_le (h3 q hq) hh
    · exact g3 q hq
theorem ownD_made {α : Type} {f : α → List Dt} {k : Nat} {zr : List Value} {xs : List α} {n : Nat} (hn : xs.length = n) (hz : zr.length = k) (hk : 0 < k) {w : World} {b : Nat} {T : TypeId} {v z : Value} (hzr : z.cells.toList = zr) (h : w.ownsRow b T k v n (madeCells z.cells (n * k)).toList) (hlt : ∀ q, v.ownBlock = some q → q < w.heap.size) :
    OwnD w b w.heap.size (.row T k n (upTo f zr xs 0)) v := by
  subst hn
  rw [made_flat (fun _ : Unit => zr) k (fun _ => hz) hk () z.cells hzr] at h
  refine ⟨v.ownBlock.toList, ?_, ?_, fun q hq => hlt q (by simpa using hq)⟩
  · unfold Owns upTo
    refine ⟨_, [], h, ?_, by simp⟩
    rw [List.take_zero, List.flatMap_nil, List.nil_append, Nat.sub_zero]
    exact ownsL_vals _
  · cases v.ownBlock <;> simp

theorem putN2 {w : World} {g : Nat} {T : TypeId} {a0 a1 : Value} (h : w.heap[g]? = some (.cells #[a0, a1] T (0, 0))) (b0 b1 : Value) :
    ((w.setCell ⟨g, 0, none⟩ b0).setCell ⟨g, 1, none⟩ b1).heap[g]? = some (.cells #[b0, b1] T (0, 0)) := by
  have h0 : (w.setCell ⟨g, 0, none⟩ b0).heap[g]? = some (.cells #[b0, a1] T (0, 0)) := heap_setCell_same _ g 0 _ T b0 h
  exact heap_setCell_same _ g 1 _ T b1 h0
theorem putN4 {w : World} {g : Nat} {T : TypeId} {a0 a1 a2 a3 : Value} (h : w.heap[g]? = some (.cells #[a0, a1, a2, a3] T (0, 0))) (b0 b1 b2 b3 : Value) :
    ((((w.setCell ⟨g, 0, none⟩ b0).setCell ⟨g, 1, none⟩ b1).setCell ⟨g, 2, none⟩ b2).setCell ⟨g, 3, none⟩ b3).heap[g]? = some (.cells #[b0, b1, b2, b3] T (0, 0)) := by
  have h0 : (w.setCell ⟨g, 0, none⟩ b0).heap[g]? = some (.cells #[b0, a1, a2, a3] T (0, 0)) := heap_setCell_same _ g 0 _ T b0 h
  have h1 : ((w.setCell ⟨g, 0, none⟩ b0).setCell ⟨g, 1, none⟩ b1).heap[g]? = some (.cells #[b0, b1, a2, a3] T (0, 0)) := heap_setCell_same _ g 1 _ T b1 h0
  have h2 : (((w.setCell ⟨g, 0, none⟩ b0).setCell ⟨g, 1, none⟩ b1).setCell ⟨g, 2, none⟩ b2).heap[g]? = some (.cells #[b0, b1, b2, a3] T (0, 0)) := heap_setCell_same _ g 2 _ T b2 h1
  exact heap_setCell_same _ g 3 _ T b3 h2
theorem putN5 {w : World} {g : Nat} {T : TypeId} {a0 a1 a2 a3 a4 : Value} (h : w.heap[g]? = some (.cells #[a0, a1, a2, a3, a4] T (0, 0))) (b0 b1 b2 b3 b4 : Value) :
    (((((w.setCell ⟨g, 0, none⟩ b0).setCell ⟨g, 1, none⟩ b1).setCell ⟨g, 2, none⟩ b2).setCell ⟨g, 3, none⟩ b3).setCell ⟨g, 4, none⟩ b4).heap[g]? = some (.cells #[b0, b1, b2, b3, b4] T (0, 0)) := by
  have h0 : (w.setCell ⟨g, 0, none⟩ b0).heap[g]? = some (.cells #[b0, a1, a2, a3, a4] T (0, 0)) := heap_setCell_same _ g 0 _ T b0 h
  have h1 : ((w.setCell ⟨g, 0, none⟩ b0).setCell ⟨g, 1, none⟩ b1).heap[g]? = some (.cells #[b0, b1, a2, a3, a4] T (0, 0)) := heap_setCell_same _ g 1 _ T b1 h0
  have h2 : (((w.setCell ⟨g, 0, none⟩ b0).setCell ⟨g, 1, none⟩ b1).setCell ⟨g, 2, none⟩ b2).heap[g]? = some (.cells #[b0, b1, b2, a3, a4] T (0, 0)) := heap_setCell_same _ g 2 _ T b2 h1
  have h3 : ((((w.setCell ⟨g, 0, none⟩ b0).setCell ⟨g, 1, none⟩ b1).setCell ⟨g, 2, none⟩ b2).setCell ⟨g, 3, none⟩ b3).heap[g]? = some (.cells #[b0, b1, b2, b3, a4] T (0, 0)) := heap_setCell_same _ g 3 _ T b3 h2
  exact heap_setCell_same _ g 4 _ T b4 h3
end Go.Proofs.YtbggcoclfnhbgaaDoor
/-
  Rows that are filled one by one, and classes copied into new memory.
-/
namespace Go.Proofs.YtbggcoclfnhbgaaDoor
open Go.RowKit

theorem Tryd.infoKc : (Tryd.prog.info? 42).map (fun i => (i.zero, i.size, i.bytes)) = some (some (.agg #[.int .i64 0, .int .i64 0, .string ByteArray.empty, .string ByteArray.empty]), 4, 48) := by kernel_rfl
theorem Tryd.infoFd : (Tryd.prog.info? 45).map (fun i => (i.zero, i.size, i.bytes)) = some (some (.agg #[.string ByteArray.empty, .string ByteArray.empty]), 2, 32) := by kernel_rfl
theorem Tryd.infoSt : (Tryd.prog.info? 9).map (fun i => (i.zero, i.size, i.bytes)) = some (some (.string ByteArray.empty), 1, 16) := by kernel_rfl
theorem Tryd.infoMe : (Tryd.prog.info? 48).map (fun i => (i.zero, i.size, i.bytes)) = some (some (.agg #[.string ByteArray.empty, .slice none 0 0, .string ByteArray.empty, .int .i64 0, .slice none 0 0]), 5, 88) := by kernel_rfl
theorem loadKc {w : World} {g : Nat} {a0 a1 a2 a3 : Value} (h : w.heap[g]? = some (.cells #[a0, a1, a2, a3] 42 (0, 0))) : (loadVar 42 ⟨g, 0, none⟩).run Tryd.prog w = .ok (.agg #[a0, a1, a2, a3]) w :=
  run_loadVar_row w g 42 42 #[a0, a1, a2, a3] (0, 0) _ h Tryd.underlying42 rfl (by kernel_rfl)
theorem loadFd {w : World} {g : Nat} {a0 a1 : Value} (h : w.heap[g]? = some (.cells #[a0, a1] 45 (0, 0))) : (loadVar 45 ⟨g, 0, none⟩).run Tryd.prog w = .ok (.agg #[a0, a1]) w :=
  run_loadVar_row w g 45 45 #[a0, a1] (0, 0) _ h Tryd.underlying45 rfl (by kernel_rfl)
theorem loadMe {w : World} {g : Nat} {a0 a1 a2 a3 a4 : Value} (h : w.heap[g]? = some (.cells #[a0, a1, a2, a3, a4] 48 (0, 0))) : (loadVar 48 ⟨g, 0, none⟩).run Tryd.prog w = .ok (.agg #[a0, a1, a2, a3, a4]) w :=
  run_loadVar_row w g 48 48 #[a0, a1, a2, a3, a4] (0, 0) _ h Tryd.underlying48 rfl (by kernel_rfl)
theorem loadCl {w : World} {g : Nat} {a0 a1 a2 a3 a4 : Value} (h : w.heap[g]? = some (.cells #[a0, a1, a2, a3, a4] 27 (0, 0))) : (loadVar 27 ⟨g, 0, none⟩).run Tryd.prog w = .ok (.agg #[a0, a1, a2, a3, a4]) w :=
  run_loadVar_row w g 27 27 #[a0, a1, a2, a3, a4] (0, 0) _ h Tryd.underlying27 rfl (by kernel_rfl)
/-- A method that is not too great. -/
def MeG (x : Me) : Prop := x.ps.length ≤ 1048576 ∧ x.c.length ≤ 1048576 ∧ Byt x.c
/-- A class that is not too great. -/
structure ClG (x : Cl) : Prop where
  n : x.n.size ≤ 1048576
  s : x.s.size ≤ 1048576
  p : x.p.length ≤ 1048576
  f : x.f.length ≤ 1048576
  m : x.m.length ≤ 1048576
  ps : ∀ y ∈ x.p, y.a.size ≤ 1048576 ∧ y.b.size ≤ 1048576
  fs : ∀ y ∈ x.f, y.n.size ≤ 1048576 ∧ y.t.size ≤ 1048576
  ms : ∀ y ∈ x.m, y.n.size ≤ 1048576 ∧ y.r.size ≤ 1048576 ∧ MeG y ∧ (∀ s ∈ y.ps, s.size ≤ 1048576) ∧ (-9223372036854775808 ≤ y.l ∧ y.l ≤ 9223372036854775807)
end Go.Proofs.YtbggcoclfnhbgaaDoor
/-
  What ClassOk says, as a truth value; and its small parts, by the program and by its model.
-/
namespace Go.Proofs.YtbggcoclfnhbgaaDoor
open Go.RowKit

def eqK (x y : Kc) : Bool := (x.k == y.k) && (x.n == y.n) && (x.a.toList == y.a.toList) && (x.b.toList == y.b.toList)
def noTwo {α : Type} [Inhabited α] (e : α → α → Bool) (xs : List α) : Bool := (List.range xs.length).all fun j => (List.range j).all fun k => !e (xs.getD k default) (xs.getD j default)
def tyI : ByteArray := ⟨#[73]⟩
def clsB (s : ByteArray) : Bool := nameB s && !(s.toList == [73])
def kcB (x : Kc) : Bool := kOk x.k x.n x.a x.b
def fdB (x : Fd) : Bool := nameB x.n && nameB x.t
def meB (x : Me) : Bool := nameB x.n && (decide (x.ps.length ≤ 3) && x.ps.all nameB) && nameB x.r && inB x.l ((x.ps.length : Int) + 1) 6 && inB (x.c.length : Int) 1 90
def sameF (x y : Fd) : Bool := x.n.toList == y.n.toList
def sameN (x y : Me) : Bool := x.n.toList == y.n.toList
def poolB (p : List Kc) : Bool := decide (p.length ≤ 24) && p.all kcB && noTwo eqK p
def fldsB (f : List Fd) : Bool := decide (f.length ≤ 8) && f.all fdB && noTwo sameF f
def metsB (m : List Me) : Bool := decide (m.length ≤ 6) && m.all meB && noTwo sameN m
def namB (x : Cl) : Bool := clsB x.n && (x.s.toList.isEmpty || clsB x.s)
def clB (x : Cl) : Bool := namB x && poolB x.p && fldsB x.f && metsB x.m

/-- The first j are right, no two of them alike. -/
def RightJ {α : Type} [Inhabited α] (f : α → Bool) (e : α → α → Bool) (xs : List α) (j : Nat) : Prop := ∀ i, i < j → f (xs.getD i default) = true ∧ ∀ k, k < i → e (xs.getD k default) (xs.getD i default) = false
theorem RightJ.zero {α : Type} [Inhabited α] (f : α → Bool) (e : α → α → Bool) (xs : List α) : RightJ f e xs 0 := fun i hi => by omega
theorem RightJ.step {α : Type} [Inhabited α] {f : α → Bool} {e : α → α → Bool} {xs : List α} {j : Nat} (h : RightJ f e xs j) (h1 : f (xs.getD j default) = true) (h2 : ∀ k, k < j → e (xs.getD k default) (xs.getD j default) = false) : RightJ f e xs (j + 1) := fun i hi => by
  rcases Nat.lt_succ_iff_lt_or_eq.1 hi with h' | rfl
  · exact h i h'
  · exact ⟨h1, h2⟩
theorem all_no {α : Type} [Inhabited α] {f : α → Bool} {xs : List α} {j : Nat} (hj : j < xs.length) (h : f (xs.getD j default) = false) : xs.all f = false := by
  rw [List.all_eq_false]
  refine ⟨xs.getD j default, ?_, by rw [h]; decide⟩
  have : xs.getD j default = xs[j] := by simp [hj]
  rw [this]; exact List.getElem_mem _
theorem all_yes {α : Type} [Inhabited α] {f : α → Bool} {xs : List α} (h : ∀ j, j < xs.length → f (xs.getD j default) = true) : xs.all f = true := by
  rw [List.all_eq_true]
  intro x hx
  obtain ⟨j, hj, rfl⟩ := List.mem_iff_getElem.1 hx
  have := h j hj
  simpa [hj] using this
theorem noTwo_no {α : Type} [Inhabited α] {e : α → α → Bool} {xs : List α} {j k : Nat} (hj : j < xs.length) (hk : k < j) (h : e (xs.getD k default) (xs.getD j default) = true) : noTwo e xs = false := by
  unfold noTwo
  rw [List.all_eq_false]
  refine ⟨j, by simpa using hj, ?_⟩
  rw [Bool.not_eq_true, List.all_eq_false]
  exact ⟨k, by simpa using hk, by rw [h]; decide⟩
theorem noTwo_yes {α : Type} [Inhabited α] {e : α → α → Bool} {xs : List α} (h : ∀ j, j < xs.length → ∀ k, k < j → e (xs.getD k default) (xs.getD j default) = false) : noTwo e xs = true := by
  unfold noTwo
  rw [List.all_eq_true]
  intro j hj
  rw [List.all_eq_true]
  intro k hk
  rw [h j (by simpa using hj) k (by simpa using hk)]
  rfl
theorem RightJ.all {α : Type} [Inhabited α] {f : α → Bool} {e : α → α → Bool} {xs : List α} (h : RightJ f e xs xs.length) : xs.all f = true ∧ noTwo e xs = true :=
  ⟨all_yes (fun j hj => (h j hj).1), noTwo_yes (fun j hj => (h j hj).2)⟩
theorem tyI_name : nameB tyI = true := by decide +kernel
theorem tyI_list : tyI.toList = [73] := by rw [ByteArray.toList_eq]; rfl
theorem typeB (s : ByteArray) : ((s.toList == [73]) || clsB s) = nameB s := by
  unfold clsB
  cases h : (s.toList == [73]) with
  | true =>
    have h3 : s.toList = tyI.toList := by rw [tyI_list]; simpa using h
    have e : s = tyI := by
      have h2 : s.data = tyI.data := by
        rw [ByteArray.toList_eq, ByteArray.toList_eq] at h3
        exact Array.ext' h3
      cases s; cases h2; rfl
    subst e
    rw [tyI_name]; rfl
  | false => simp

set_option maxRecDepth 100000 in
set_option maxHeartbeats 1000000 in
theorem clsSpec (s : ByteArray) (w : World) (hs : s.size ≤ maxLen) :
    Calls Tryd.prog 57 #[.string s] w fun e w' => e = .returned (.bool (clsB s)) ∧ w' = w := by
  have HF : Hid (clsB s = (nameB s && !(s.toList == [73]))) := hide rfl
  go_enter Tryd.func57, Tryd.ntmps57
  go_wp2_with fail
  refine (nameSpec _ _ hs).mono ?_
  rintro e w1 ⟨rfl, rfl⟩
  cases c : nameB s with
  | false =>
    go_wp2
    go_ret
    exact ⟨by rw [HF.out, c]; rfl, rfl⟩
  | true =>
    go_wp2
    go_ret
    exact ⟨by rw [HF.out, c]; rfl, rfl⟩
set_option maxRecDepth 100000 in
set_option maxHeartbeats 1000000 in
theorem clsImpl (s : ByteArray) (w : World) (hs : s.size ≤ maxLen) :
    Calls Tryd.prog 69 #[.string s] w fun e w' => e = .returned (.bool (clsB s)) ∧ w' = w := by
  have HF : Hid (clsB s = (nameB s && !(s.toList == [73]))) := hide rfl
  go_enter Tryd.func69, Tryd.ntmps69
  go_wp2_with fail
  refine (nameImpl _ _ hs).mono ?_
  rintro e w1 ⟨rfl, rfl⟩
  cases c : nameB s with
  | false =>
    go_wp2
    go_ret
    exact ⟨by rw [HF.out, c]; rfl, rfl⟩
  | true =>
    go_wp2
    go_ret
    exact ⟨by rw [HF.out, c]; rfl, rfl⟩
set_option maxRecDepth 100000 in
set_option maxHeartbeats 1000000 in
theorem typImpl (s : ByteArray) (w : World) (hs : s.size ≤ maxLen) :
    Calls Tryd.prog 94 #[.string s] w fun e w' => e = .returned (.bool (nameB s)) ∧ w' = w := by
  have HF : Hid (nameB s = ((s.toList == [73]) || clsB s)) := hide (typeB s).symm
  by_cases c0 : s.toList = [73]
  · have c : (s.toList == [73]) = true := by rw [c0]; rfl
    have HC := hide c
    go_enter Tryd.func94, Tryd.ntmps94
    go_wp2_with fail
    go_ret
    exact ⟨by rw [HF.out, HC.out]; rfl, rfl⟩
  · have c : (s.toList == [73]) = false := by simpa using c0
    have HC := hide c
    go_enter Tryd.func94, Tryd.ntmps94
    go_wp2_with fail
    refine (clsImpl _ _ hs).mono ?_
    rintro e w1 ⟨rfl, rfl⟩
    go_wp2
    go_ret
    exact ⟨by rw [HF.out, HC.out]; rfl, rfl⟩
end Go.Proofs.YtbggcoclfnhbgaaDoor
