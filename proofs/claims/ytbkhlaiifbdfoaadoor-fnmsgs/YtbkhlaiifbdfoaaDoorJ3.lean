/-
  Joined: PnB, MsgB, Rowv, MsgOpen, FlatOne, FlatSet, ValW, NotesW, NoteRows.
-/
import Derived.Test.YtbkhlaiifbdfoaaDoorJ2
import Derived.Test.YtbkhlaiifbdfoaaDoorJ1
import Derived.OpenShut
import Derived.Deep.Slices
import Derived.Laws.MakeOwn
import Derived.Deep.QuietTactic
import Derived.BigQuiet
import Derived.Deep.RegionWith
import Derived.Deep.CutRange
import Derived.BigRegion
/-
  The bytes of numbers are bytes; rows of bytes of one's own, one put behind another.
-/
namespace Go.Proofs.YtbkhlaiifbdfoaaDoor
open Go.RowKit

theorem pnF_byt : ∀ (k : Nat) (n : Int), 0 ≤ n → n ≤ pnB k → Byt (pnF k n)
  | 0, n, h0, h1 => by
    intro z hz
    simp [pnF] at hz
    simp [pnB] at h1
    omega
  | k + 1, n, h0, h1 => by
    intro z hz
    unfold pnF at hz
    split at hz
    · rcases List.mem_cons.1 hz with rfl | hz
      · omega
      · exact pnF_byt k (n / 128) (by omega) (by simp only [pnB] at h1; omega) z hz
    · simp at hz; omega
theorem pn_byt (n : Int) : Byt (pn n) := by
  unfold pn
  split
  · rename_i h
    exact pnF_byt 3 n h.1 (by simp [pnB]; omega)
  · intro z hz; cases hz
theorem pnF_pos : ∀ (k : Nat) (n : Int), 0 < (pnF k n).length
  | 0, n => by simp [pnF]
  | k + 1, n => by unfold pnF; split <;> simp
theorem pn_pos (n : Int) (h0 : 0 ≤ n) (h1 : n ≤ 16777215) : 0 < (pn n).length := by rw [pn_in n h0 h1]; exact pnF_pos 3 n

/-- 'append(v, u...)', both rows of one's own: u's bytes behind v's. -/
theorem app_own {w : World} {ops : Array Oper} {rest : List Oper} {o : Oper} {act : Act} {Q : Exit → Act → World → Prop} (hgd : o.guard = none) (s x : Operand)
    (ho : o.op = .call { callee := .builtin .append, args := #[s, x], argTypes := #[22, 22] }) (base b2 : Nat) (v u : Value) (xs zs : List Int) (hs : act.eval s = v) (hown : Own w base v xs)
    (hx : act.eval x = u) (hu : Own w b2 u zs) (hz : Byt zs) (hl : zs.length ≤ 1048576) (hsm : xs.length ≤ 2000000) (hbase : base ≤ w.heap.size)
    (h : ∀ v' w', Own w' base v' (xs ++ zs) → w.grownBy w' v.ownBlock → (v' = .slice none 0 0 ↔ v = .slice none 0 0 ∧ zs.length = 0) → wpList Tryd.prog ops Q rest (act.put o.dst v') w') :
    wpList Tryd.prog ops Q (o :: rest) act w := by
  obtain ⟨a, c, rfl, hi, _⟩ := in_any hu hl hz (Nat.le_refl _)
  exact app_in hgd s x ho base w.heap.size v xs hs hown a zs.length c zs hx (fun e => hu.cap0 e) hi hsm hbase h
end Go.Proofs.YtbkhlaiifbdfoaaDoor
/-
  The bytes of a message.
-/
namespace Go.Proofs.YtbkhlaiifbdfoaaDoor
open Go.RowKit

def cellB (x : Int × Bool × Int) : List Int := bif x.2.1 then pn x.1 ++ pn 1 ++ pn x.2.2 else pn x.1 ++ pn 0 ++ pw x.2.2
def noteB (x : Int × Int) : List Int := pn x.1 ++ pn x.2
/-- The numbers that a message's bytes begin with. -/
def headB (k i u c n : Int) : List Int := pn k ++ pn i ++ pn u ++ pn c ++ pn n
def msgB (k i u c n : Int) (cs : List (Int × Bool × Int)) (ns : List (Int × Int)) : List Int :=
  headB k i u c n ++ pn cs.length ++ cs.flatMap cellB ++ pn ns.length ++ ns.flatMap noteB

theorem cellB_len (x : Int × Bool × Int) : (cellB x).length ≤ 12 := by
  have h1 := pn_len x.1
  have h2 := pn_len x.2.2
  have h3 := pw_len x.2.2
  have h4 := pn_len 1
  have h5 := pn_len 0
  unfold cellB
  cases x.2.1 <;> simp <;> omega
theorem noteB_len (x : Int × Int) : (noteB x).length ≤ 8 := by
  have h1 := pn_len x.1
  have h2 := pn_len x.2
  unfold noteB
  simp; omega
theorem headB_len (k i u c n : Int) : (headB k i u c n).length ≤ 20 := by
  have h1 := pn_len k
  have h2 := pn_len i
  have h3 := pn_len u
  have h4 := pn_len c
  have h5 := pn_len n
  unfold headB
  simp; omega
theorem flatB_len {α : Type} (f : α → List Int) (m : Nat) (hf : ∀ x, (f x).length ≤ m) : ∀ (xs : List α), (xs.flatMap f).length ≤ xs.length * m
  | [] => by simp
  | x :: xs => by
    have := flatB_len f m hf xs
    have := hf x
    rw [List.flatMap_cons, List.length_append, List.length_cons, Nat.succ_mul]; omega
theorem flatB_snoc {α : Type} (f : α → List Int) (xs : List α) (d : α) (j : Nat) (h : j < xs.length) : (xs.take (j + 1)).flatMap f = (xs.take j).flatMap f ++ f (xs.getD j d) := by
  rw [List.take_succ_eq_append_getElem h, List.flatMap_append]; simp [h]
theorem cellB_byt (x : Int × Bool × Int) : Byt (cellB x) := by
  unfold cellB
  cases x.2.1
  · exact ((pn_byt _).append (pn_byt _)).append (pw_byt _)
  · exact ((pn_byt _).append (pn_byt _)).append (pn_byt _)
theorem noteB_byt (x : Int × Int) : Byt (noteB x) := (pn_byt _).append (pn_byt _)
theorem flatB_byt {α : Type} (f : α → List Int) (hf : ∀ x, Byt (f x)) (xs : List α) : Byt (xs.flatMap f) := by
  intro z hz
  obtain ⟨x, _, hx⟩ := List.mem_flatMap.1 hz
  exact hf x z hx
theorem msgB_byt (k i u c n : Int) (cs : List (Int × Bool × Int)) (ns : List (Int × Int)) : Byt (msgB k i u c n cs ns) := by
  unfold msgB headB
  exact ((((((((pn_byt _).append (pn_byt _)).append (pn_byt _)).append (pn_byt _)).append (pn_byt _)).append (pn_byt _)).append (flatB_byt _ cellB_byt _)).append (pn_byt _)).append (flatB_byt _ noteB_byt _)
theorem msgB_len (k i u c n : Int) (cs : List (Int × Bool × Int)) (ns : List (Int × Int)) (h1 : cs.length ≤ 8) (h2 : ns.length ≤ 130) : (msgB k i u c n cs ns).length ≤ 1200 := by
  have h3 := headB_len k i u c n
  have h4 := pn_len cs.length
  have h5 := flatB_len cellB 12 cellB_len cs
  have h6 := pn_len ns.length
  have h7 := flatB_len noteB 8 noteB_len ns
  unfold msgB
  simp only [List.length_append]; omega
end Go.Proofs.YtbkhlaiifbdfoaaDoor
/-
  Rows whose elements take several cells each: what may be read of them, and what stays of them while other memory is made or written.
-/
namespace Go.Proofs.YtbkhlaiifbdfoaaDoor
open Go.ChangeShapes Go.WideShapes Go.RowKit

/-- v is a slice of n elements of sz cells each; its cells are cs; they lie below block B. -/
def Rd (w : World) (B sz : Nat) (v : Value) (n : Nat) (cs : List Value) : Prop :=
  cs.length = n * sz ∧ ∃ a cap, v = .slice a n cap ∧ n ≤ cap ∧ (a = none → cap = 0) ∧
    (0 < n → ∃ b o, a = some ⟨b, o, none⟩ ∧ b < B ∧ ∀ i, i < n * sz → w.cell? ⟨b, o + i, none⟩ = cs[i]?)

theorem Rd.kept {w w' : World} {B sz n : Nat} {v : Value} {cs : List Value} (h : Rd w B sz v n cs) (hb : ∀ k, k < B → w'.heap[k]? = w.heap[k]?) : Rd w' B sz v n cs := by
  obtain ⟨h0, a, cap, h1, h2, h3, h4⟩ := h
  refine ⟨h0, a, cap, h1, h2, h3, fun hp => ?_⟩
  obtain ⟨b, o, ha, hbB, hc⟩ := h4 hp
  exact ⟨b, o, ha, hbB, fun i hi => (World.cell?_of_block (w := w) (hb b hbB)).trans (hc i hi)⟩
theorem Rd.up {w : World} {B B' sz n : Nat} {v : Value} {cs : List Value} (h : Rd w B sz v n cs) (hB : B ≤ B') : Rd w B' sz v n cs := by
  obtain ⟨h0, a, cap, h1, h2, h3, h4⟩ := h
  refine ⟨h0, a, cap, h1, h2, h3, fun hp => ?_⟩
  obtain ⟨b, o, ha, hbB, hc⟩ := h4 hp
  exact ⟨b, o, ha, Nat.lt_of_lt_of_le hbB hB, hc⟩
theorem Rd.at {w w' : World} {sz n : Nat} {v : Value} {cs : List Value} (h : Rd w w.heap.size sz v n cs) (hb : Below w.heap.size w w') : Rd w' w'.heap.size sz v n cs :=
  (h.kept hb.block).up hb.size
theorem Rd.low {w w' : World} {B sz n : Nat} {v : Value} {cs : List Value} (h : Rd w B sz v n cs) (hb : Below w.heap.size w w') (hB : B ≤ w.heap.size) : Rd w' B sz v n cs :=
  h.kept (fun k hk => hb.block k (by omega))
theorem Rd.drewN {w : World} {B sz n : Nat} {v : Value} {cs : List Value} (h : Rd w B sz v n cs) (q : Nat) : Rd (w.drewN q) B sz v n cs := h

/-- What one owns may be read. -/
theorem rd_own {w : World} {b e sz n B : Nat} {v : Value} {cs : List Value} (h : w.ownsRow b e sz v n cs) (hB : w.heap.size ≤ B) : Rd w B sz v n cs := by
  refine ⟨h.1, ?_⟩
  rcases h.2 with ⟨rfl, rfl⟩ | ⟨g, cap, cur, rfl, _, hg, hn, _⟩
  · exact ⟨none, 0, rfl, Nat.le_refl _, fun _ => rfl, fun hp => by omega⟩
  · refine ⟨some ⟨g, 0, none⟩, cap, rfl, hn, fun e => (by cases e), fun hp => ⟨g, 0, rfl, ?_, fun i hi => ?_⟩⟩
    · have := (Array.getElem?_eq_some_iff.1 hg).1; omega
    · rw [Nat.zero_add]; exact World.ownsRow.cellAt h i hi

/-- What lay there reads as before. -/
theorem bcell {W w1 : World} (hb : Below W.heap.size W w1) : (∀ b o, b < W.heap.size → w1.cell? ⟨b, o, none⟩ = W.cell? ⟨b, o, none⟩) ∧ (∀ b o, b < W.heap.size → w1.frozen? ⟨b, o, none⟩ = W.frozen? ⟨b, o, none⟩) :=
  ⟨fun b o h => hb.cell (p := ⟨b, o, none⟩) h, fun b o h => hb.frozen (p := ⟨b, o, none⟩) h⟩

theorem flat_len {α : Type} (f : α → List Value) (sz : Nat) (hf : ∀ x, (f x).length = sz) : ∀ (xs : List α), (xs.flatMap f).length = xs.length * sz
  | [] => by simp
  | x :: xs => by rw [List.flatMap_cons, List.length_append, hf, flat_len f sz hf xs, List.length_cons, Nat.succ_mul]; omega

theorem flat_get {α : Type} (f : α → List Value) (sz : Nat) (hf : ∀ x, (f x).length = sz) : ∀ (xs : List α) (d : α) (j r : Nat), j < xs.length → r < sz → (xs.flatMap f)[j * sz + r]? = (f (xs.getD j d))[r]?
  | [], d, j, r, hj, hr => by simp at hj
  | x :: xs, d, 0, r, hj, hr => by
    rw [List.flatMap_cons, List.getElem?_append_left (by rw [hf]; omega)]
    simp
  | x :: xs, d, j + 1, r, hj, hr => by
    rw [List.flatMap_cons, List.getElem?_append_right (by rw [hf, Nat.succ_mul]; omega), hf]
    rw [show (j + 1) * sz + r - sz = j * sz + r from by rw [Nat.succ_mul]; omega]
    rw [flat_get f sz hf xs d j r (by simpa using hj) hr]
    simp

/-- A slice that came in, its elements being what f makes of something. -/
theorem rd_open {H : Type} {enc : TypeId × Value → H} {P : Program} {W : World} {sp : Nat → Bool} {T E : TypeId} {sz : Nat} {α : Type} [Inhabited α] {f : α → List Value} {Q : α → Prop} {v : Value} {d : DataW H} {p : List MemPlace}
    (ht : P.underlying T = some (.slice E)) (hsz : P.cellsOf E = sz) (hpos : 0 < sz) (hf : ∀ x, (f x).length = sz)
    (hel : ∀ fuel cs x, DataW.trod enc P W 0 sp true fuel E cs = some x → ∃ y : α, cs = f y ∧ Q y) (h : ∃ fuel, DataW.trod enc P W 0 sp true fuel T [v] = some (d, p)) :
    ∃ ys : List α, Rd W W.heap.size sz v ys.length (ys.flatMap f) ∧ ys.length ≤ maxLen ∧ ∀ j, j < ys.length → Q (ys.getD j default) := by
  obtain ⟨fuel, h⟩ := h
  rcases Deep.open_slice ht h with ⟨hcs, _⟩ | ⟨a, len, cap, m, n, D, Pl, hcs, _, hl, hm, hmm, _, hx⟩
  · simp only [List.cons.injEq, and_true] at hcs
    exact ⟨[], ⟨by simp, none, 0, hcs, by simp, fun _ => rfl, fun hp => by simp at hp⟩, by simp, fun j hj => by simp at hj⟩
  · simp only [List.cons.injEq, and_true] at hcs
    subst hcs
    have hlm : len ≤ m := by rw [hmm]; split <;> omega
    obtain ⟨g, hg⟩ := Deep.choose_lt (α := α) (n := len) (p := fun i y => W.cells? 0 (a.add (i * sz)) sz = some (f y) ∧ Q y) (fun i hi => by
      obtain ⟨cs', h1, h2⟩ := hx i (by omega)
      obtain ⟨y, rfl, hq⟩ := hel _ _ _ h2
      rw [hsz] at h1
      exact ⟨y, h1, hq⟩)
    have hll : ((List.range len).map g).length = len := by simp
    have hgd : ∀ j, j < len → ((List.range len).map g).getD j default = g j := fun j hj => by simp [hj]
    refine ⟨(List.range len).map g, ⟨by rw [flat_len f sz hf], some a, cap, by rw [hll], by rw [hll]; exact hl, fun e => (by cases e), fun hp => ?_⟩, by rw [hll]; omega, fun j hj => ?_⟩
    · rw [hll] at hp ⊢
      obtain ⟨b, o, spot⟩ := a
      have hcell : ∀ j r, j < len → r < sz → W.cell? ((⟨b, o, spot⟩ : Addr).add (j * sz + r)) = (f (g j))[r]? := by
        intro j r hj hr
        obtain ⟨_, _, hc⟩ := World.cells?_some (hg j hj).1
        have := hc r hr
        rw [Deep.add_add] at this
        exact this
      have hc0 := hcell 0 0 hp hpos
      have hs0 : (f (g 0))[0]? = some ((f (g 0))[0]'(by rw [hf]; exact hpos)) := List.getElem?_eq_getElem _
      rw [hs0] at hc0
      have hspot : spot = none := by simpa [Addr.add] using World.cell?_spot hc0
      subst hspot
      refine ⟨b, o, rfl, ?_, fun i hi => ?_⟩
      · have := World.block_lt_of_cell? W _ hc0
        simpa [Addr.add] using this
      · have h1 : i / sz < len := Nat.div_lt_of_lt_mul (by rw [Nat.mul_comm]; exact hi)
        have h2 : i % sz < sz := Nat.mod_lt _ hpos
        have h3 : i / sz * sz + i % sz = i := by rw [Nat.mul_comm]; exact Nat.div_add_mod i sz
        have := hcell (i / sz) (i % sz) h1 h2
        rw [h3, Addr.add_lit] at this
        rw [this, ← hgd _ h1, ← flat_get f sz hf _ default _ _ (by rw [hll]; exact h1) h2, h3]
    · rw [hll] at hj
      rw [hgd j hj]
      exact (hg j hj).2
end Go.Proofs.YtbkhlaiifbdfoaaDoor
/-
  Values, notes, cells and messages that come in, as the walks take them.
-/
namespace Go.Proofs.YtbkhlaiifbdfoaaDoor
open Go.ChangeShapes Go.WideShapes Go.RowKit

/-- The cells of a note. -/
def noteC (x : Int × Int) : List Value := [.int .i64 x.1, .int .i64 x.2]
/-- The cells of a cell: its place, whether it is a number of an object, the number. -/
def cellC (x : Int × Bool × Int) : List Value := [.int .i64 x.1, .bool x.2.1, .int .i64 x.2.2]
theorem noteC_len (x : Int × Int) : (noteC x).length = 2 := rfl
theorem cellC_len (x : Int × Bool × Int) : (cellC x).length = 3 := rfl

end Go.Proofs.YtbkhlaiifbdfoaaDoor
/-
  Rows of elements of several cells: what a store into one of them leaves.
-/
namespace Go.Proofs.YtbkhlaiifbdfoaaDoor
open Go.RowKit

/-- A store into cell r of element j: the element turned there. -/
theorem flat_set {α : Type} (f : α → List Value) (sz : Nat) (hf : ∀ x, (f x).length = sz) : ∀ (xs : List α) (j r : Nat) (u : Value) (y : α), r < sz → j < xs.length → (∀ x, xs[j]? = some x → (f x).set r u = f y) → (xs.flatMap f).set (j * sz + r) u = (xs.set j y).flatMap f
  | [], j, r, u, y, hr, hj, h => by simp at hj
  | x :: xs, 0, r, u, y, hr, hj, h => by
    rw [List.set_cons_zero, List.flatMap_cons, List.flatMap_cons, ← h x rfl, Nat.zero_mul, Nat.zero_add, List.set_append_left _ _ (by rw [hf]; exact hr)]
  | x :: xs, j + 1, r, u, y, hr, hj, h => by
    rw [List.set_cons_succ, List.flatMap_cons, List.flatMap_cons, List.set_append_right _ _ (by rw [hf, Nat.succ_mul]; omega), hf]
    rw [show (j + 1) * sz + r - sz = j * sz + r from by rw [Nat.succ_mul]; omega]
    rw [flat_set f sz hf xs j r u y hr (by simpa using hj) (fun x hx => h x (by simpa using hx))]

/-- One element more copied. -/
theorem copy_one {α : Type} (xs : List α) (d z : α) (j : Nat) (h : j < xs.length) : (xs.take j ++ List.replicate (xs.length - j) z).set j (xs.getD j d) = xs.take (j + 1) ++ List.replicate (xs.length - (j + 1)) z := by
  have e : xs.length - j = (xs.length - (j + 1)) + 1 := by omega
  rw [e, List.replicate_succ, List.set_append_right _ _ (by simp; omega)]
  have e2 : (List.take j xs).length = j := by simp; omega
  rw [e2, Nat.sub_self, List.set_cons_zero, List.take_succ_eq_append_getElem h, List.append_assoc]
  simp [h]
theorem copy_one_len {α : Type} (xs : List α) (z : α) (j : Nat) (h : j ≤ xs.length) : (xs.take j ++ List.replicate (xs.length - j) z).length = xs.length := by
  simp; omega

/-- What 'make' lays: the zero element, n times. -/
theorem made_flat {α : Type} (f : α → List Value) (sz : Nat) (hf : ∀ x, (f x).length = sz) (hp : 0 < sz) (d : α) (z : Array Value) (hz : z.toList = f d) (n : Nat) : (madeCells z (n * sz)).toList = (List.replicate n d).flatMap f := by
  have hzs : z.size = sz := by rw [← Array.length_toList, hz, hf]
  have hl1 : (madeCells z (n * sz)).toList.length = n * sz := by rw [Array.length_toList, size_madeCells]
  have hl2 : ((List.replicate n d).flatMap f).length = n * sz := by rw [flat_len f sz hf, List.length_replicate]
  refine List.ext_getElem? fun i => ?_
  by_cases hi : i < n * sz
  · have h1 : i / sz < n := Nat.div_lt_of_lt_mul (by rw [Nat.mul_comm]; exact hi)
    have h2 : i % sz < sz := Nat.mod_lt _ hp
    have h3 : i / sz * sz + i % sz = i := by rw [Nat.mul_comm]; exact Nat.div_add_mod i sz
    have h4 := flat_get f sz hf (List.replicate n d) d (i / sz) (i % sz) (by simpa using h1) h2
    rw [h3] at h4
    rw [h4]
    have h5 : (List.replicate n d).getD (i / sz) d = d := by simp [h1]
    rw [h5, ← hz]
    simp [madeCells, hi, hzs, h2]
  · rw [List.getElem?_eq_none (by omega), List.getElem?_eq_none (by omega)]

end Go.Proofs.YtbkhlaiifbdfoaaDoor
/-
  Rows of notes and of cells: what a store of one of them leaves.
-/
namespace Go.Proofs.YtbkhlaiifbdfoaaDoor
open Go.RowKit

/-- A note stored whole. -/
theorem flat_note (xs : List (Int × Int)) (j : Nat) (x : Int × Int) (h : j < xs.length) : ((xs.flatMap noteC).set (j * 2) (.int .i64 x.1)).set (j * 2 + 1) (.int .i64 x.2) = (xs.set j x).flatMap noteC := by
  have h1 := flat_set noteC 2 noteC_len xs j 0 (.int .i64 x.1) (x.1, (xs.getD j (0, 0)).2) (by omega) h (fun y hy => by simp [List.getD, hy]; rfl)
  rw [Nat.add_zero] at h1
  rw [h1, flat_set noteC 2 noteC_len _ j 1 (.int .i64 x.2) x (by omega) (by simpa using h) (fun y hy => by
    rw [List.getElem?_set_self (by exact h)] at hy
    cases hy; rfl)]
  rw [List.set_set]

/-- A cell stored whole. -/
theorem flat_cell (xs : List (Int × Bool × Int)) (j : Nat) (x : Int × Bool × Int) (h : j < xs.length) : (((xs.flatMap cellC).set (j * 3) (.int .i64 x.1)).set (j * 3 + 1) (.bool x.2.1)).set (j * 3 + 2) (.int .i64 x.2.2) = (xs.set j x).flatMap cellC := by
  have h1 := flat_set cellC 3 cellC_len xs j 0 (.int .i64 x.1) (x.1, (xs.getD j (0, false, 0)).2) (by omega) h (fun y hy => by simp [List.getD, hy]; rfl)
  rw [Nat.add_zero] at h1
  rw [h1, flat_set cellC 3 cellC_len _ j 1 (.bool x.2.1) (x.1, x.2.1, (xs.getD j (0, false, 0)).2.2) (by omega) (by simpa using h) (fun y hy => by
    rw [List.getElem?_set_self (by exact h)] at hy
    cases hy; rfl), List.set_set]
  rw [flat_set cellC 3 cellC_len _ j 2 (.int .i64 x.2.2) x (by omega) (by simpa using h) (fun y hy => by
    rw [List.getElem?_set_self (by exact h)] at hy
    cases hy; rfl), List.set_set]
end Go.Proofs.YtbkhlaiifbdfoaaDoor
/-
  What a value of a field is, and what ValOk does with it, in the program and in its model.
-/
namespace Go.Proofs.YtbkhlaiifbdfoaaDoor
open Go.RowKit

/-- What ValOk says of a value. -/
def vOk (r : Bool) (n : Int) : Bool := bif r then inB n 0 1000000 else inB n (-2147483648) 2147483647

theorem wordSpec (n : Int) (w : World) :
    Calls Tryd.prog 56 #[.int .i64 n] w fun e w' => e = .returned (.bool (inB n (-2147483648) 2147483647)) ∧ w' = w := by
  cases h : inB n (-2147483648) 2147483647 with
  | true => have := inB_yes h; exact wordYes n w this.1 this.2
  | false => exact wordNo n w (inB_no h)

theorem rnd_eq (n : Int) : (rnd n == n) = inB n (-2147483648) 2147483647 := by
  cases h : inB n (-2147483648) 2147483647 with
  | true => have := inB_yes h; simp [rnd]; omega
  | false => have := inB_no h; simp [rnd]; omega

set_option maxHeartbeats 400000 in
theorem valSpec (r : Bool) (n : Int) (w : World) :
    Calls Tryd.prog 19 #[.agg #[.bool r, .int .i64 n]] w fun e w' => e = .returned (.bool (vOk r n)) ∧ Below w.heap.size w w' := by
  cases r with
  | true =>
    go_enter Tryd.func19, Tryd.ntmps19
    go_wp2_with (go_at_call 52; refine (inSpec _ _ _ _).mono ?_; rintro e w' ⟨rfl, rfl⟩)
    go_ret
    exact ⟨rfl, (Below.refl _ _).alloc (Nat.le_refl _) _⟩
  | false =>
    go_enter Tryd.func19, Tryd.ntmps19
    go_wp2_with (go_at_call 56; refine (wordSpec _ _).mono ?_; rintro e w' ⟨rfl, rfl⟩)
    go_ret
    exact ⟨rfl, (Below.refl _ _).alloc (Nat.le_refl _) _⟩
set_option maxHeartbeats 400000 in
theorem valImpl (r : Bool) (n : Int) (w : World) :
    Calls Tryd.prog 18 #[.agg #[.bool r, .int .i64 n]] w fun e w' => e = .returned (.bool (vOk r n)) ∧ Below w.heap.size w w' := by
  cases r with
  | true =>
    go_enter Tryd.func18, Tryd.ntmps18
    go_wp2_with (go_at_call 54; refine (inImpl _ _ _ _).mono ?_; rintro e w' ⟨rfl, rfl⟩)
    go_ret
    exact ⟨rfl, (Below.refl _ _).alloc (Nat.le_refl _) _⟩
  | false =>
    have hr := rnd_eq n
    go_enter Tryd.func18, Tryd.ntmps18
    go_wp2
    go_quiet ((go_at_call 55; exact Calls.quiet_of_same (roundImpl _ _)))
    go_wp2
    go_ret
    exact ⟨rfl, below_drewN ((Below.refl _ _).alloc (Nat.le_refl _) _) _⟩
end Go.Proofs.YtbkhlaiifbdfoaaDoor
/-
  What NotesOk does, in the program and in its model.
-/
namespace Go.Proofs.YtbkhlaiifbdfoaaDoor
open Go.RowKit

/-- The cells of a row of notes, one by one. -/
theorem notes_at {w : World} {B : Nat} {v : Value} {ns : List (Int × Int)} (h : Rd w B 2 v ns.length (ns.flatMap noteC)) :
    ∃ a cap, v = .slice a ns.length cap ∧ (0 < ns.length → ∃ b o, a = some ⟨b, o, none⟩ ∧ b < B ∧ ∀ j, j < ns.length →
      w.cell? ⟨b, o + j * 2, none⟩ = some (.int .i64 (ns.getD j (0, 0)).1) ∧ w.cell? ⟨b, o + j * 2 + 1, none⟩ = some (.int .i64 (ns.getD j (0, 0)).2)) := by
  obtain ⟨_, a, cap, rfl, _, _, h4⟩ := h
  refine ⟨a, cap, rfl, fun hp => ?_⟩
  obtain ⟨b, o, rfl, hb, hc⟩ := h4 hp
  refine ⟨b, o, rfl, hb, fun j hj => ⟨?_, ?_⟩⟩
  · rw [show o + j * 2 = o + (j * 2 + 0) from rfl, hc _ (by omega), flat_get noteC 2 noteC_len ns (0, 0) j 0 hj (by omega)]; rfl
  · rw [Nat.add_assoc, hc _ (by omega), flat_get noteC 2 noteC_len ns (0, 0) j 1 hj (by omega)]; rfl

/-- Note j is right, and behind the one before it. -/
def goodN (ns : List (Int × Int)) (j : Nat) : Bool :=
  inB (ns.getD j (0, 0)).1 1 1000000 && inB (ns.getD j (0, 0)).2 1 16777215 && (decide (j = 0) || decide ((ns.getD (j - 1) (0, 0)).1 < (ns.getD j (0, 0)).1))
/-- What NotesOk says. -/
def nOk (ns : List (Int × Int)) : Bool := decide (ns.length ≤ 130) && (List.range ns.length).all (goodN ns)

theorem nOk_yes {ns : List (Int × Int)} (h1 : ns.length ≤ 130) (h2 : ∀ j, j < ns.length → goodN ns j = true) : nOk ns = true := by
  unfold nOk; simp only [Bool.and_eq_true, decide_eq_true_eq, List.all_eq_true, List.mem_range]; exact ⟨h1, h2⟩
theorem nOk_long {ns : List (Int × Int)} (h1 : 130 < ns.length) : nOk ns = false := by
  unfold nOk; rw [decide_eq_false (by omega)]; rfl
theorem nOk_bad {ns : List (Int × Int)} {j : Nat} (h1 : j < ns.length) (h2 : goodN ns j = false) : nOk ns = false := by
  unfold nOk; rw [Bool.and_eq_false_iff]; right
  rw [List.all_eq_false]; exact ⟨j, List.mem_range.2 h1, by rw [h2]; decide⟩

theorem objImpl (n : Int) (w : World) :
    Calls Tryd.prog 36 #[.int .i64 n] w fun e w' => e = .returned (.bool (inB n 1 1000000)) ∧ w' = w := by
  go_enter Tryd.func36, Tryd.ntmps36
  go_wp2_with (go_at_call 54; refine (inImpl _ _ _ _).mono ?_; rintro e w' ⟨rfl, rfl⟩)
  go_ret
  exact ⟨rfl, rfl⟩

set_option maxRecDepth 100000 in
set_option maxHeartbeats 4000000 in
theorem notesSpec (w : World) (v : Value) (ns : List (Int × Int)) (B : Nat) (h : Rd w B 2 v ns.length (ns.flatMap noteC)) (hB : B ≤ w.heap.size) (hm : ns.length ≤ 1048576) :
    Calls Tryd.prog 21 #[v] w fun e w' => e = .returned (.bool (nOk ns)) ∧ Below w.heap.size w w' := by
  have hx : ∀ wr, Below w.heap.size w wr → _ := fun wr hb => notes_at (h.low hb hB)
  have HX := hide hx
  obtain ⟨a, cap, rfl, _⟩ := notes_at h
  clear h hx
  generalize hn : ns.length = n at *
  go_enter Tryd.func21, Tryd.ntmps21
  go_wp2
  go_loopw [3] (fun i wr => ∃ k : Nat, k ≤ n ∧ i = .int .i64 (k : Int) ∧ Hid (∀ j, j < k → goodN ns j = true) ∧ Below w.heap.size w wr) (fun i _ => n - (intOf i).toNat)
  case atStart => exact ⟨0, Nat.zero_le _, rfl, hide (fun j hj => by omega), Below.refl _ _⟩
  case round =>
    obtain ⟨k, hk, rfl, HG, hbel⟩ := hrel
    have HB := hide hbel
    clear hbel
    by_cases hlt : k < n
    · obtain ⟨a', cap', ea, hx⟩ := HX.out wr HB.out
      cases ea
      obtain ⟨b, o, rfl, hb, hc⟩ := hx (by omega)
      have hbw : b < wr.heap.size := by have := HB.out.size; omega
      have e1 := (hc k hlt).1
      have e2 := (hc k hlt).2
      have HN : Hid (goodN ns k = (inB (ns.getD k (0, 0)).1 1 1000000 && inB (ns.getD k (0, 0)).2 1 16777215 && (decide (k = 0) || decide ((ns.getD (k - 1) (0, 0)).1 < (ns.getD k (0, 0)).1)))) := hide rfl
      have e3 : 0 < k → wr.cell? ⟨b, o + (k - 1) * 2, none⟩ = some (.int .i64 (ns.getD (k - 1) (0, 0)).1) := fun h => (hc (k - 1) (by omega)).1
      clear hc hx
      generalize (ns.getD k (0, 0)).1 = x at *
      generalize (ns.getD k (0, 0)).2 = y at *
      generalize (ns.getD (k - 1) (0, 0)).1 = p at *
      cases hx1 : inB x 1 1000000 with
      | false =>
        have HF := hide (nOk_bad (ns := ns) (j := k) (by omega) (by rw [HN.out, hx1]; rfl))
        clear e3 HN
        go_wp2
        go_quiet ((first | (go_at_call 52; exact Calls.quiet_of_same (inSpec _ _ _ _))))
        go_wp2
        go_ret
        exact ⟨by rw [HF.out]; rfl, below_drewN HB.out _⟩
      | true =>
        cases hx2 : inB y 1 16777215 with
        | false =>
          have HF := hide (nOk_bad (ns := ns) (j := k) (by omega) (by rw [HN.out, hx1, hx2]; rfl))
          clear e3 HN
          go_wp2
          go_quiet ((first | (go_at_call 52; exact Calls.quiet_of_same (inSpec _ _ _ _))))
          go_wp2
          go_ret
          exact ⟨by rw [HF.out]; rfl, below_drewN HB.out _⟩
        | true =>
          by_cases hk0 : 0 < k
          · replace e3 := e3 hk0
            have hk0' : (0 : Int) < (k : Int) := by omega
            have hk1 : (((k : Int) - 1)) = ((k - 1 : Nat) : Int) := by omega
            have hkw : IntKind.i64.wrap ((k - 1 : Nat) : Int) = ((k - 1 : Nat) : Int) := by rw [IntKind.wrap_i64]; omega
            by_cases hpx : p < x
            · have HY : Hid (∀ j, j < k + 1 → goodN ns j = true) := hide (fun j hj => by
                rcases Nat.lt_succ_iff_lt_or_eq.1 hj with h | rfl
                · exact HG.out j h
                · rw [HN.out, hx1, hx2]; simp [hpx])
              clear HN
              go_wp2
              go_quiet ((first | (go_at_call 52; exact Calls.quiet_of_same (inSpec _ _ _ _))))
              go_wp2
              exact ⟨⟨k + 1, by omega, by go_num, HY, below_drewN HB.out _⟩, by simp [intOf]; omega⟩
            · have hpx' : x ≤ p := by omega
              have HF := hide (nOk_bad (ns := ns) (j := k) (by omega) (by rw [HN.out, hx1, hx2]; simp [hpx]; omega))
              clear HN
              go_wp2
              go_quiet ((first | (go_at_call 52; exact Calls.quiet_of_same (inSpec _ _ _ _))))
              go_wp2
              go_ret
              exact ⟨by rw [HF.out]; rfl, below_drewN HB.out _⟩
          · have hk0' : ¬ (0 : Int) < (k : Int) := by omega
            have HY : Hid (∀ j, j < k + 1 → goodN ns j = true) := hide (fun j hj => by
              obtain rfl : j = k := by omega
              rw [HN.out, hx1, hx2, decide_eq_true (show j = 0 by omega)]; rfl)
            clear HN e3
            go_wp2
            go_quiet ((first | (go_at_call 52; exact Calls.quiet_of_same (inSpec _ _ _ _))))
            go_wp2
            exact ⟨⟨k + 1, by omega, by go_num, HY, below_drewN HB.out _⟩, by simp [intOf]; omega⟩
    · obtain rfl : k = n := by omega
      by_cases hlong : k ≤ 130
      · have HF := hide (nOk_yes (ns := ns) (by omega) (fun j hj => HG.out j (by omega)))
        go_wp2
        go_ret
        exact ⟨by rw [HF.out]; exact ret_bool (by simp; omega), HB.out⟩
      · have HF := hide (nOk_long (ns := ns) (by omega))
        go_wp2
        go_ret
        exact ⟨by rw [HF.out]; exact ret_bool (by simp; omega), HB.out⟩

set_option maxRecDepth 100000 in
set_option maxHeartbeats 4000000 in
theorem notesImpl (w : World) (v : Value) (ns : List (Int × Int)) (B : Nat) (h : Rd w B 2 v ns.length (ns.flatMap noteC)) (hB : B ≤ w.heap.size) (hm : ns.length ≤ 1048576) :
    Calls Tryd.prog 20 #[v] w fun e w' => e = .returned (.bool (nOk ns)) ∧ Below w.heap.size w w' := by
  by_cases hlong : 130 < ns.length
  · obtain ⟨a, cap, rfl, hx⟩ := notes_at h
    rw [nOk_long hlong]
    clear h hx
    go_enter Tryd.func20, Tryd.ntmps20
    go_wp2
    go_ret
    exact ⟨rfl, Below.refl _ _⟩
  have hx : ∀ wr, Below w.heap.size w wr → _ := fun wr hb => notes_at (h.low hb hB)
  have HX := hide hx
  obtain ⟨a, cap, rfl, _⟩ := notes_at h
  clear h hx
  generalize hn : ns.length = n at *
  go_enter Tryd.func20, Tryd.ntmps20
  go_wp2
  go_loopw [10] (fun i wr => ∃ k : Nat, k ≤ n ∧ i = .int .i64 (k : Int) ∧ Hid (∀ j, j < k → goodN ns j = true) ∧ Below w.heap.size w wr) (fun i _ => n - (intOf i).toNat)
  case atStart => exact ⟨0, Nat.zero_le _, rfl, hide (fun j hj => by omega), Below.refl _ _⟩
  case round =>
    obtain ⟨k, hk, rfl, HG, hbel⟩ := hrel
    have HB := hide hbel
    clear hbel
    by_cases hlt : k < n
    · obtain ⟨a', cap', ea, hx⟩ := HX.out wr HB.out
      cases ea
      obtain ⟨b, o, rfl, hb, hc⟩ := hx (by omega)
      have hbw : b < wr.heap.size := by have := HB.out.size; omega
      have e1 := (hc k hlt).1
      have e2 := (hc k hlt).2
      have HN : Hid (goodN ns k = (inB (ns.getD k (0, 0)).1 1 1000000 && inB (ns.getD k (0, 0)).2 1 16777215 && (decide (k = 0) || decide ((ns.getD (k - 1) (0, 0)).1 < (ns.getD k (0, 0)).1)))) := hide rfl
      have e3 : 0 < k → wr.cell? ⟨b, o + (k - 1) * 2, none⟩ = some (.int .i64 (ns.getD (k - 1) (0, 0)).1) := fun h => (hc (k - 1) (by omega)).1
      clear hc hx
      generalize (ns.getD k (0, 0)).1 = x at *
      generalize (ns.getD k (0, 0)).2 = y at *
      generalize (ns.getD (k - 1) (0, 0)).1 = p at *
      cases hx1 : inB x 1 1000000 with
      | false =>
        have HF := hide (nOk_bad (ns := ns) (j := k) (by omega) (by rw [HN.out, hx1]; rfl))
        clear e3 HN
        go_wp2
        go_quiet ((first | (go_at_call 36; exact Calls.quiet_of_same (objImpl _ _)) | (go_at_call 54; exact Calls.quiet_of_same (inImpl _ _ _ _))))
        go_wp2
        go_ret
        exact ⟨by rw [HF.out]; rfl, below_drewN (HB.out.alloc HB.out.size _) _⟩
      | true =>
        cases hx2 : inB y 1 16777215 with
        | false =>
          have HF := hide (nOk_bad (ns := ns) (j := k) (by omega) (by rw [HN.out, hx1, hx2]; rfl))
          clear e3 HN
          go_wp2
          go_quiet ((first | (go_at_call 36; exact Calls.quiet_of_same (objImpl _ _)) | (go_at_call 54; exact Calls.quiet_of_same (inImpl _ _ _ _))))
          go_wp2
          go_ret
          exact ⟨by rw [HF.out]; rfl, below_drewN (HB.out.alloc HB.out.size _) _⟩
        | true =>
          by_cases hk0 : 0 < k
          · replace e3 := e3 hk0
            have hk0' : (0 : Int) < (k : Int) := by omega
            have hk1 : (((k : Int) - 1)) = ((k - 1 : Nat) : Int) := by omega
            have hkw : IntKind.i64.wrap ((k - 1 : Nat) : Int) = ((k - 1 : Nat) : Int) := by rw [IntKind.wrap_i64]; omega
            by_cases hpx : p < x
            · have HY : Hid (∀ j, j < k + 1 → goodN ns j = true) := hide (fun j hj => by
                rcases Nat.lt_succ_iff_lt_or_eq.1 hj with h | rfl
                · exact HG.out j h
                · rw [HN.out, hx1, hx2]; simp [hpx])
              clear HN
              go_wp2
              go_quiet ((first | (go_at_call 36; exact Calls.quiet_of_same (objImpl _ _)) | (go_at_call 54; exact Calls.quiet_of_same (inImpl _ _ _ _))))
              go_wp2
              exact ⟨⟨k + 1, by omega, by go_num, HY, below_drewN (HB.out.alloc HB.out.size _) _⟩, by simp [intOf]; omega⟩
            · have hpx' : x ≤ p := by omega
              have HF := hide (nOk_bad (ns := ns) (j := k) (by omega) (by rw [HN.out, hx1, hx2]; simp [hpx]; omega))
              clear HN
              go_wp2
              go_quiet ((first | (go_at_call 36; exact Calls.quiet_of_same (objImpl _ _)) | (go_at_call 54; exact Calls.quiet_of_same (inImpl _ _ _ _))))
              go_wp2
              go_ret
              exact ⟨by rw [HF.out]; rfl, below_drewN (HB.out.alloc HB.out.size _) _⟩
          · have hk0' : ¬ (0 : Int) < (k : Int) := by omega
            have HY : Hid (∀ j, j < k + 1 → goodN ns j = true) := hide (fun j hj => by
              obtain rfl : j = k := by omega
              rw [HN.out, hx1, hx2, decide_eq_true (show j = 0 by omega)]; rfl)
            clear HN e3
            go_wp2
            go_quiet ((first | (go_at_call 36; exact Calls.quiet_of_same (objImpl _ _)) | (go_at_call 54; exact Calls.quiet_of_same (inImpl _ _ _ _))))
            go_wp2
            exact ⟨⟨k + 1, by omega, by go_num, HY, below_drewN (HB.out.alloc HB.out.size _) _⟩, by simp [intOf]; omega⟩
    · obtain rfl : k = n := by omega
      have HF := hide (nOk_yes (ns := ns) (by omega) (fun j hj => HG.out j (by omega)))
      go_wp2
      go_ret
      exact ⟨by rw [HF.out]; rfl, HB.out⟩
end Go.Proofs.YtbkhlaiifbdfoaaDoor
/-
  Rows of notes: copied into new memory, held against each other.
-/
namespace Go.Proofs.YtbkhlaiifbdfoaaDoor
open Go.RowKit

/-- A row of notes of one's own, from block b on. -/
def OwnN (w : World) (b : Nat) (v : Value) (ns : List (Int × Int)) : Prop := w.ownsRow b 53 2 v ns.length (ns.flatMap noteC)

theorem Tryd.infoNote : (Tryd.prog.info? 53).map (fun i => (i.zero, i.size, i.bytes)) = some (some (.agg #[.int .i64 0, .int .i64 0]), 2, 16) := by kernel_rfl

theorem OwnN.rd {w : World} {b B : Nat} {v : Value} {ns : List (Int × Int)} (h : OwnN w b v ns) (hB : w.heap.size ≤ B) : Rd w B 2 v ns.length (ns.flatMap noteC) := rd_own h hB
theorem OwnN.below {w w' : World} {b : Nat} {v : Value} {ns : List (Int × Int)} (h : OwnN w b v ns) (hb : Below w.heap.size w w') : OwnN w' b v ns :=
  World.ownsRow.kept h (grown_of_below hb) (by cases v.ownBlock <;> simp)
theorem OwnN.lt {w : World} {b : Nat} {v : Value} {ns : List (Int × Int)} (h : OwnN w b v ns) : ∀ k, v.ownBlock = some k → b ≤ k ∧ k < w.heap.size := World.ownsRow.lt h
theorem OwnN.drewN {w : World} {b : Nat} {v : Value} {ns : List (Int × Int)} (h : OwnN w b v ns) (q : Nat) : OwnN (w.drewN q) b v ns := h
theorem OwnN.mono {w : World} {b b' : Nat} {v : Value} {ns : List (Int × Int)} (h : OwnN w b v ns) (hb : b' ≤ b) : OwnN w b' v ns := by
  refine ⟨h.1, ?_⟩
  rcases h.2 with h0 | ⟨g, cap, cur, e, hg, r⟩
  · exact .inl h0
  · exact .inr ⟨g, cap, cur, e, Nat.le_trans hb hg, r⟩

/-- Note j of a row of one's own stored whole. -/
theorem OwnN.put {w : World} {b g n c : Nat} {ns : List (Int × Int)} (h : OwnN w b (.slice (some ⟨g, 0, none⟩) n c) ns) (hn : ns.length = n) (j : Nat) (hj : j < n) (x y : Int) :
    (∃ u, w.cell? ⟨g, j * 2, none⟩ = some u) ∧ (∃ u, w.cell? ⟨g, j * 2 + 1, none⟩ = some u) ∧ w.frozen? ⟨g, j * 2, none⟩ = false ∧ w.frozen? ⟨g, j * 2 + 1, none⟩ = false ∧
    OwnN ((w.setCell ⟨g, j * 2, none⟩ (.int .i64 x)).setCell ⟨g, j * 2 + 1, none⟩ (.int .i64 y)) b (.slice (some ⟨g, 0, none⟩) n c) (ns.set j (x, y)) := by
  subst hn
  have hl : (ns.flatMap noteC).length = ns.length * 2 := flat_len noteC 2 noteC_len ns
  refine ⟨?_, ?_, World.ownsRow.frozenAt h _, World.ownsRow.frozenAt h _, ?_⟩
  · rw [World.ownsRow.cellAt h _ (by omega)]; exact ⟨_, List.getElem?_eq_getElem (by omega)⟩
  · rw [World.ownsRow.cellAt h _ (by omega)]; exact ⟨_, List.getElem?_eq_getElem (by omega)⟩
  · have h1 := (World.ownsRow.stored h (j * 2) (.int .i64 x)).1
    have h2 := (World.ownsRow.stored h1 (j * 2 + 1) (.int .i64 y)).1
    rw [flat_note ns j (x, y) hj] at h2
    unfold OwnN
    rw [List.length_set]
    exact h2

theorem eqNote (x y : Int) (w : World) :
    Calls Tryd.prog 77 #[.agg #[.int .i64 x, .int .i64 y], .agg #[.int .i64 x, .int .i64 y]] w fun e w' => e = .returned (.bool true) ∧ Below w.heap.size w w' := by
  have h1 : (x != x) = false := by simp
  have h2 : (y != y) = false := by simp
  go_enter Tryd.func77, Tryd.ntmps77
  go_wp2
  go_ret
  exact ⟨rfl, ((Below.refl _ _).alloc (Nat.le_refl _) _).alloc (by simp) _⟩

set_option maxRecDepth 100000 in
set_option maxHeartbeats 2000000 in
theorem eqNotes (w : World) (v1 v2 : Value) (ns : List (Int × Int)) (B1 B2 : Nat) (h1 : Rd w B1 2 v1 ns.length (ns.flatMap noteC)) (h2 : Rd w B2 2 v2 ns.length (ns.flatMap noteC)) (hB1 : B1 ≤ w.heap.size) (hB2 : B2 ≤ w.heap.size) (hm : ns.length ≤ 1048576) :
    Calls Tryd.prog 58 #[v1, v2] w fun e w' => e = .returned (.bool true) ∧ Below w.heap.size w w' := by
  have HX1 : Hid (∀ wr, Below w.heap.size w wr → _) := hide (fun wr hb => notes_at (h1.low hb hB1))
  have HX2 : Hid (∀ wr, Below w.heap.size w wr → _) := hide (fun wr hb => notes_at (h2.low hb hB2))
  obtain ⟨a1, cap1, rfl, _⟩ := notes_at h1
  obtain ⟨a2, cap2, rfl, _⟩ := notes_at h2
  clear h1 h2
  generalize hn : ns.length = n at *
  have hne : ((n : Int) != (n : Int)) = false := by simp
  go_enter Tryd.func58, Tryd.ntmps58
  go_wp2
  go_loopw [5] (fun i wr => ∃ j : Nat, j ≤ n ∧ i = .int .i64 (j : Int) ∧ Below w.heap.size w wr) (fun i _ => n - (intOf i).toNat)
  case atStart => exact ⟨0, Nat.zero_le _, rfl, Below.refl _ _⟩
  case round =>
    obtain ⟨j, hj, rfl, hb⟩ := hrel
    have HB := hide hb
    have hs := hb.size
    clear hb
    by_cases hlt : j < n
    · obtain ⟨a1', cap1', ea1, hx1⟩ := HX1.out wr HB.out
      cases ea1
      obtain ⟨b1, o1, rfl, hb1, hc1⟩ := hx1 (by omega)
      obtain ⟨a2', cap2', ea2, hx2⟩ := HX2.out wr HB.out
      cases ea2
      obtain ⟨b2, o2, rfl, hb2, hc2⟩ := hx2 (by omega)
      have e1 := (hc1 j hlt).1
      have e2 := (hc1 j hlt).2
      have e3 := (hc2 j hlt).1
      have e4 := (hc2 j hlt).2
      clear hx1 hx2 hc1 hc2
      generalize ns.getD j (0, 0) = z at *
      obtain ⟨x, y⟩ := z
      simp only at e1 e2 e3 e4
      go_wp2
      go_cut [26] from 11 to 26 (fun s wq => s = .bool false ∧ Below w.heap.size w wq)
      case first =>
        go_region_with (go_at_call 77; refine (eqNote _ _ _).mono ?_; rintro e w1 ⟨rfl, b1⟩; have HB1 := hide (HB.out.trans (below_of_drew b1 |>.mono hs)); clear b1)
        all_goals (go_wp2_with fail; go_meet; exact ⟨rfl, HB1.out⟩)
      case rest =>
        obtain ⟨rfl, hB⟩ := hcut
        have HB2 := hide hB
        clear hB
        go_wp2
        exact ⟨⟨j + 1, hlt, by go_num, HB2.out⟩, by simp [intOf]; omega⟩
    · go_wp2
      go_ret
      exact ⟨rfl, HB.out⟩
end Go.Proofs.YtbkhlaiifbdfoaaDoor
