/-
  Joined: NameW, Rowv, Low.
-/
import Derived.Test.YtbggcoclfnhbgaaDoorJ8
import Derived.Laws.Strings
import Derived.Test.YtbggcoclfnhbgaaDoorJ1
import Derived.OpenShut
import Derived.Deep.Slices
import Derived.Deep.QuietTactic
import Derived.BigQuiet
/-
  What a name is, asked by the program and by its model.
-/
namespace Go.Proofs.YtbggcoclfnhbgaaDoor
open Go.RowKit

/-- z is a letter. -/
def lett (z : Int) : Bool := (decide (97 ≤ z) && decide (z ≤ 122)) || (decide (65 ≤ z) && decide (z ≤ 90))
/-- s is a name. -/
def nameB (s : ByteArray) : Bool := inB s.size 1 8 && (bts s).all lett

theorem str_idx (s : ByteArray) (k : Nat) (hk : k < s.size) (w : World) : (Instr.index 9 (.string s) (.int .i64 (k : Int))).run Tryd.prog w = .ok (.int .u8 ((bts s).getD k 0)) w := by
  rw [run_index_string w 9 s .i64 k Tryd.underlying9, dif_pos ⟨by omega, by omega⟩]
  obtain ⟨⟨l⟩⟩ := s
  have hl : k < l.length := hk
  have e : (ByteArray.mk ⟨l⟩)[k]'hl = l.getD k 0 := by
    simp only [List.getD, List.getElem?_eq_getElem hl, Option.getD_some]
    rfl
  simp [bts, e, hl]
theorem bts_byte (s : ByteArray) (k : Nat) : 0 ≤ (bts s).getD k 0 ∧ (bts s).getD k 0 ≤ 255 := by
  by_cases hk : k < (bts s).length
  · have : (bts s).getD k 0 ∈ bts s := by
      rw [List.getD_eq_getElem?_getD, List.getElem?_eq_getElem hk]
      exact List.getElem_mem hk
    simp only [bts, List.mem_map] at this
    obtain ⟨b, _, hb⟩ := this
    have := b.toNat_lt
    rw [show (bts s) = s.data.toList.map fun b => (b.toNat : Int) from rfl, ← hb]
    omega
  · rw [List.getD_eq_getElem?_getD, List.getElem?_eq_none (by omega)]
    simp

theorem all_bad {s : ByteArray} {k : Nat} (hk : k < s.size) (h : lett ((bts s).getD k 0) = false) : (bts s).all lett = false := by
  have hl : k < (bts s).length := by rw [bts_len]; exact hk
  rw [List.all_eq_false]
  refine ⟨(bts s)[k], List.getElem_mem hl, ?_⟩
  rw [List.getD_eq_getElem?_getD, List.getElem?_eq_getElem hl] at h
  simpa using h
theorem all_good {s : ByteArray} (h : ∀ j, j < s.size → lett ((bts s).getD j 0) = true) : (bts s).all lett = true := by
  rw [List.all_eq_true]
  intro z hz
  obtain ⟨j, hj, rfl⟩ := List.getElem_of_mem hz
  have := h j (by rw [← bts_len]; exact hj)
  rw [List.getD_eq_getElem?_getD, List.getElem?_eq_getElem hj] at this
  simpa using this

theorem letterImpl (z : Int) (w : World) (h0 : 0 ≤ z) (h1 : z ≤ 255) :
    Calls Tryd.prog 99 #[.int .u8 z] w fun e w' => e = .returned (.bool (lett z)) ∧ w' = w := by
  by_cases a : 97 ≤ z
  · by_cases b : z ≤ 122
    · rw [show lett z = true from by simp [lett]; omega]
      go_enter Tryd.func99, Tryd.ntmps99
      go_wp2
      go_ret
      exact ⟨ret_bool (by simp), rfl⟩
    · rw [show lett z = false from by simp [lett]; omega]
      have c : 65 ≤ z := by omega
      have d : ¬ z ≤ 90 := by omega
      go_enter Tryd.func99, Tryd.ntmps99
      go_wp2
      go_ret
      exact ⟨ret_bool (by simp), rfl⟩
  · by_cases c : 65 ≤ z
    · by_cases d : z ≤ 90
      · rw [show lett z = true from by simp [lett]; omega]
        go_enter Tryd.func99, Tryd.ntmps99
        go_wp2
        go_ret
        exact ⟨ret_bool (by simp), rfl⟩
      · rw [show lett z = false from by simp [lett]; omega]
        go_enter Tryd.func99, Tryd.ntmps99
        go_wp2
        go_ret
        exact ⟨ret_bool (by simp), rfl⟩
    · rw [show lett z = false from by simp [lett]; omega]
      go_enter Tryd.func99, Tryd.ntmps99
      go_wp2
      go_ret
      exact ⟨ret_bool (by simp), rfl⟩

set_option maxRecDepth 100000 in
set_option maxHeartbeats 1000000 in
theorem nameImpl (s : ByteArray) (w : World) (hs : s.size ≤ maxLen) :
    Calls Tryd.prog 91 #[.string s] w fun e w' => e = .returned (.bool (nameB s)) ∧ w' = w := by
  unfold maxLen at hs
  have HN : Hid (nameB s = (inB s.size 1 8 && (bts s).all lett)) := hide rfl
  cases hb : inB s.size 1 8 with
  | false =>
    rw [hb] at HN
    go_enter Tryd.func91, Tryd.ntmps91
    go_wp2_with fail
    refine (inImpl _ _ _ _).mono ?_
    rintro e w1 ⟨rfl, rfl⟩
    rw [hb]
    go_wp2
    go_ret
    exact ⟨by rw [HN.out]; rfl, rfl⟩
  | true =>
    rw [hb] at HN
    go_enter Tryd.func91, Tryd.ntmps91
    go_wp2_with fail
    refine (inImpl _ _ _ _).mono ?_
    rintro e w1 ⟨rfl, rfl⟩
    rw [hb]
    clear hb
    go_wp2
    go_loopw [10] (fun x wr => ∃ j : Nat, j ≤ s.size ∧ x = .int .i64 (j : Int) ∧ Hid (∀ i, i < j → lett ((bts s).getD i 0) = true) ∧ wr = w1) (fun x _ => s.size - (intOf x).toNat)
    case atStart => exact ⟨0, by omega, rfl, hide (fun i hi => by omega), rfl⟩
    case round =>
      obtain ⟨j, hj, rfl, HG, rfl⟩ := hrel
      by_cases hlt : j < s.size
      · have hx := str_idx s j hlt
        have hz := bts_byte s j
        cases hl : lett ((bts s).getD j 0) with
        | false =>
          have HF : Hid (nameB s = false) := hide (by rw [HN.out, all_bad hlt hl]; rfl)
          clear HN HG
          generalize (bts s).getD j 0 = z at *
          go_wp2_with fail
          refine (letterImpl _ _ hz.1 hz.2).mono ?_
          rintro e w2 ⟨rfl, rfl⟩
          rw [hl]
          go_wp2
          go_ret
          exact ⟨by rw [HF.out]; rfl, rfl⟩
        | true =>
          have HY : Hid (∀ i, i < j + 1 → lett ((bts s).getD i 0) = true) := hide (fun i hi => by
            rcases Nat.lt_succ_iff_lt_or_eq.1 hi with h | rfl
            · exact HG.out i h
            · exact hl)
          clear HN HG
          generalize (bts s).getD j 0 = z at *
          go_wp2_with fail
          refine (letterImpl _ _ hz.1 hz.2).mono ?_
          rintro e w2 ⟨rfl, rfl⟩
          rw [hl]
          go_wp2
          exact ⟨⟨j + 1, by omega, by go_num, HY, by first | rfl | trivial⟩, by simp [intOf]; omega⟩
      · obtain rfl : j = s.size := by omega
        have HF : Hid (nameB s = true) := hide (by rw [HN.out, all_good HG.out]; rfl)
        clear HN HG
        go_wp2
        go_ret
        exact ⟨by rw [HF.out]; rfl, rfl⟩
set_option maxRecDepth 100000 in
set_option maxHeartbeats 2000000 in
theorem nameSpec (s : ByteArray) (w : World) (hs : s.size ≤ maxLen) :
    Calls Tryd.prog 55 #[.string s] w fun e w' => e = .returned (.bool (nameB s)) ∧ w' = w := by
  unfold maxLen at hs
  have HN : Hid (nameB s = (inB s.size 1 8 && (bts s).all lett)) := hide rfl
  go_enter Tryd.func55, Tryd.ntmps55
  go_wp2
  go_loopw [3] (fun x wr => ∃ j : Nat, j ≤ s.size ∧ x = .int .i64 (j : Int) ∧ Hid (∀ i, i < j → lett ((bts s).getD i 0) = true) ∧ wr = w) (fun x _ => s.size - (intOf x).toNat)
  case atStart => exact ⟨0, by omega, rfl, hide (fun i hi => by omega), rfl⟩
  case round =>
    obtain ⟨j, hj, rfl, HG, rfl⟩ := hrel
    by_cases hlt : j < s.size
    · have hx := str_idx s j hlt
      have hz := bts_byte s j
      have HF : lett ((bts s).getD j 0) = false → Hid (nameB s = false) := fun hl => hide (by rw [HN.out, all_bad hlt hl]; simp)
      have HY : lett ((bts s).getD j 0) = true → Hid (∀ i, i < j + 1 → lett ((bts s).getD i 0) = true) := fun hl => hide (fun i hi => by
          rcases Nat.lt_succ_iff_lt_or_eq.1 hi with h | rfl
          · exact HG.out i h
          · exact hl)
      clear HN HG
      generalize (bts s).getD j 0 = z at *
      by_cases a : 97 ≤ z
      · by_cases b : z ≤ 122
        · replace HY := HY (by simp [lett]; omega)
          clear HF
          go_wp2
          exact ⟨⟨j + 1, by omega, by go_num, HY, by first | rfl | trivial⟩, by simp [intOf]; omega⟩
        · replace HF := HF (by simp [lett]; omega)
          clear HY
          have c : 65 ≤ z := by omega
          have d : ¬ z ≤ 90 := by omega
          go_wp2
          go_ret
          exact ⟨by rw [HF.out]; rfl, rfl⟩
      · by_cases c : 65 ≤ z
        · by_cases d : z ≤ 90
          · replace HY := HY (by simp [lett]; omega)
            clear HF
            go_wp2
            exact ⟨⟨j + 1, by omega, by go_num, HY, by first | rfl | trivial⟩, by simp [intOf]; omega⟩
          · replace HF := HF (by simp [lett]; omega)
            clear HY
            go_wp2
            go_ret
            exact ⟨by rw [HF.out]; rfl, rfl⟩
        · replace HF := HF (by simp [lett]; omega)
          clear HY
          go_wp2
          go_ret
          exact ⟨by rw [HF.out]; rfl, rfl⟩
    · obtain rfl : j = s.size := by omega
      have HF : Hid (nameB s = inB s.size 1 8) := hide (by rw [HN.out, all_good HG.out]; simp)
      clear HN HG
      go_wp2_with fail
      refine (inSpec _ _ _ _).mono ?_
      rintro e w1 ⟨rfl, rfl⟩
      go_wp2
      go_ret
      exact ⟨by rw [HF.out]; rfl, rfl⟩
end Go.Proofs.YtbggcoclfnhbgaaDoor
/-
  Rows whose elements take several cells each: what may be read of them, and what stays of them while other memory is made or written.
-/
namespace Go.Proofs.YtbggcoclfnhbgaaDoor
open Go.ChangeShapes Go.WideShapes Go.RowKit

/-- v is a slice of n elements of sz cells each; its cells are cs; they lie below block B. -/
def Rd (w : World) (B sz : Nat) (v : Value) (n : Nat) (cs : List Value) : Prop :=
  cs.length = n * sz ∧ ∃ a cap, v = .slice a n cap ∧ n ≤ cap ∧ (a = none → cap = 0) ∧
    (0 < n → ∃ b o, a = some ⟨b, o, none⟩ ∧ b < B ∧ ∀ i, i < n * sz → w.cell? ⟨b, o + i, none⟩ = cs[i]?)

theorem Rd.kept {w w' : World} {B sz n : Nat} {v : Value} {cs : List Value} (h : Rd w B sz v n cs) (hb : ∀ k, k < B → w'.heap[k]? = w.heap[k]?) : Rd w' B sz v n cs := by
  obtain ⟨h0, a, cap, h1, h2, h3, h4⟩ := h
  refine ⟨h0, a, cap, h1, h2, h3, fun hp => ?_⟩
  obtain ⟨b, o, ha, hbB, hc⟩ := h4 hp
  exact ⟨b, o, ha, hbB, fun i hi => (World.cell?_of_block (w := w) (hb b hbB)).trans (hc i hi)⟩
theorem Rd.up {w : World} {B B' sz n : Nat} {v : Value} {cs : List Value} (h : Rd w B sz v n cs) (hB : B ≤ B') : Rd w B' sz v n cs := by
  obtain ⟨h0, a, cap, h1, h2, h3, h4⟩ := h
  refine ⟨h0, a, cap, h1, h2, h3, fun hp => ?_⟩
  obtain ⟨b, o, ha, hbB, hc⟩ := h4 hp
  exact ⟨b, o, ha, Nat.lt_of_lt_of_le hbB hB, hc⟩
theorem Rd.at {w w' : World} {sz n : Nat} {v : Value} {cs : List Value} (h : Rd w w.heap.size sz v n cs) (hb : Below w.heap.size w w') : Rd w' w'.heap.size sz v n cs :=
  (h.kept hb.block).up hb.size
theorem Rd.low {w w' : World} {B sz n : Nat} {v : Value} {cs : List Value} (h : Rd w B sz v n cs) (hb : Below w.heap.size w w') (hB : B ≤ w.heap.size) : Rd w' B sz v n cs :=
  h.kept (fun k hk => hb.block k (by omega))
theorem Rd.drewN {w : World} {B sz n : Nat} {v : Value} {cs : List Value} (h : Rd w B sz v n cs) (q : Nat) : Rd (w.drewN q) B sz v n cs := h

/-- What one owns may be read. -/
theorem rd_own {w : World} {b e sz n B : Nat} {v : Value} {cs : List Value} (h : w.ownsRow b e sz v n cs) (hB : w.heap.size ≤ B) : Rd w B sz v n cs := by
  refine ⟨h.1, ?_⟩
  rcases h.2 with ⟨rfl, rfl⟩ | ⟨g, cap, cur, rfl, _, hg, hn, _⟩
  · exact ⟨none, 0, rfl, Nat.le_refl _, fun _ => rfl, fun hp => by omega⟩
  · refine ⟨some ⟨g, 0, none⟩, cap, rfl, hn, fun e => (by cases e), fun hp => ⟨g, 0, rfl, ?_, fun i hi => ?_⟩⟩
    · have := (Array.getElem?_eq_some_iff.1 hg).1; omega
    · rw [Nat.zero_add]; exact World.ownsRow.cellAt h i hi

/-- What lay there reads as before. -/
theorem bcell {W w1 : World} (hb : Below W.heap.size W w1) : (∀ b o, b < W.heap.size → w1.cell? ⟨b, o, none⟩ = W.cell? ⟨b, o, none⟩) ∧ (∀ b o, b < W.heap.size → w1.frozen? ⟨b, o, none⟩ = W.frozen? ⟨b, o, none⟩) :=
  ⟨fun b o h => hb.cell (p := ⟨b, o, none⟩) h, fun b o h => hb.frozen (p := ⟨b, o, none⟩) h⟩

theorem flat_len {α : Type} (f : α → List Value) (sz : Nat) (hf : ∀ x, (f x).length = sz) : ∀ (xs : List α), (xs.flatMap f).length = xs.length * sz
  | [] => by simp
  | x :: xs => by rw [List.flatMap_cons, List.length_append, hf, flat_len f sz hf xs, List.length_cons, Nat.succ_mul]; omega

theorem flat_get {α : Type} (f : α → List Value) (sz : Nat) (hf : ∀ x, (f x).length = sz) : ∀ (xs : List α) (d : α) (j r : Nat), j < xs.length → r < sz → (xs.flatMap f)[j * sz + r]? = (f (xs.getD j d))[r]?
  | [], d, j, r, hj, hr => by simp at hj
  | x :: xs, d, 0, r, hj, hr => by
    rw [List.flatMap_cons, List.getElem?_append_left (by rw [hf]; omega)]
    simp
  | x :: xs, d, j + 1, r, hj, hr => by
    rw [List.flatMap_cons, List.getElem?_append_right (by rw [hf, Nat.succ_mul]; omega), hf]
    rw [show (j + 1) * sz + r - sz = j * sz + r from by rw [Nat.succ_mul]; omega]
    rw [flat_get f sz hf xs d j r (by simpa using hj) hr]
    simp

/-- A slice that came in, its elements being what f makes of something. -/
theorem rd_open {H : Type} {enc : TypeId × Value → H} {P : Program} {W : World} {sp : Nat → Bool} {T E : TypeId} {sz : Nat} {α : Type} [Inhabited α] {f : α → List Value} {Q : α → Prop} {v : Value} {d : DataW H} {p : List MemPlace}
    (ht : P.underlying T = some (.slice E)) (hsz : P.cellsOf E = sz) (hpos : 0 < sz) (hf : ∀ x, (f x).length = sz)
    (hel : ∀ fuel cs x, DataW.trod enc P W 0 sp true fuel E cs = some x → ∃ y : α, cs = f y ∧ Q y) (h : ∃ fuel, DataW.trod enc P W 0 sp true fuel T [v] = some (d, p)) :
    ∃ ys : List α, Rd W W.heap.size sz v ys.length (ys.flatMap f) ∧ ys.length ≤ maxLen ∧ ∀ j, j < ys.length → Q (ys.getD j default) := by
  obtain ⟨fuel, h⟩ := h
  rcases Deep.open_slice ht h with ⟨hcs, _⟩ | ⟨a, len, cap, m, n, D, Pl, hcs, _, hl, hm, hmm, _, hx⟩
  · simp only [List.cons.injEq, and_true] at hcs
    exact ⟨[], ⟨by simp, none, 0, hcs, by simp, fun _ => rfl, fun hp => by simp at hp⟩, by simp, fun j hj => by simp at hj⟩
  · simp only [List.cons.injEq, and_true] at hcs
    subst hcs
    have hlm : len ≤ m := by rw [hmm]; split <;> omega
    obtain ⟨g, hg⟩ := Deep.choose_lt (α := α) (n := len) (p := fun i y => W.cells? 0 (a.add (i * sz)) sz = some (f y) ∧ Q y) (fun i hi => by
      obtain ⟨cs', h1, h2⟩ := hx i (by omega)
      obtain ⟨y, rfl, hq⟩ := hel _ _ _ h2
      rw [hsz] at h1
      exact ⟨y, h1, hq⟩)
    have hll : ((List.range len).map g).length = len := by simp
    have hgd : ∀ j, j < len → ((List.range len).map g).getD j default = g j := fun j hj => by simp [hj]
    refine ⟨(List.range len).map g, ⟨by rw [flat_len f sz hf], some a, cap, by rw [hll], by rw [hll]; exact hl, fun e => (by cases e), fun hp => ?_⟩, by rw [hll]; omega, fun j hj => ?_⟩
    · rw [hll] at hp ⊢
      obtain ⟨b, o, spot⟩ := a
      have hcell : ∀ j r, j < len → r < sz → W.cell? ((⟨b, o, spot⟩ : Addr).add (j * sz + r)) = (f (g j))[r]? := by
        intro j r hj hr
        obtain ⟨_, _, hc⟩ := World.cells?_some (hg j hj).1
        have := hc r hr
        rw [Deep.add_add] at this
        exact this
      have hc0 := hcell 0 0 hp hpos
      have hs0 : (f (g 0))[0]? = some ((f (g 0))[0]'(by rw [hf]; exact hpos)) := List.getElem?_eq_getElem _
      rw [hs0] at hc0
      have hspot : spot = none := by simpa [Addr.add] using World.cell?_spot hc0
      subst hspot
      refine ⟨b, o, rfl, ?_, fun i hi => ?_⟩
      · have := World.block_lt_of_cell? W _ hc0
        simpa [Addr.add] using this
      · have h1 : i / sz < len := Nat.div_lt_of_lt_mul (by rw [Nat.mul_comm]; exact hi)
        have h2 : i % sz < sz := Nat.mod_lt _ hpos
        have h3 : i / sz * sz + i % sz = i := by rw [Nat.mul_comm]; exact Nat.div_add_mod i sz
        have := hcell (i / sz) (i % sz) h1 h2
        rw [h3, Addr.add_lit] at this
        rw [this, ← hgd _ h1, ← flat_get f sz hf _ default _ _ (by rw [hll]; exact h1) h2, h3]
    · rw [hll] at hj
      rw [hgd j hj]
      exact (hg j hj).2
end Go.Proofs.YtbggcoclfnhbgaaDoor
/-
  A statement whose order is open and that only reads and calls what makes new memory alone: one walk in the order of the text serves every order.
-/
namespace Go.Proofs.YtbggcoclfnhbgaaDoor
open Go.RowKit

/-- A world in which all that lay in w lies as it did. -/
structure Lo (w : World) where
  v : World
  b : Below w.heap.size w v

instance (w : World) : Nonempty (Lo w) := ⟨⟨w, Below.refl _ _⟩⟩

theorem Lo.cell {w : World} {a : Addr} {x : Value} (m : Lo w) (h : w.cell? a = some x) : m.v.cell? a = some x :=
  (m.b.cell (World.block_lt_of_cell? w _ h)).trans h

theorem low_same {P : Program} {f : FuncId} {args : Array Value} {w : World} {v : Value} {m : Lo w}
    (h : Calls P f args m.v fun e w' => e = .returned v ∧ w' = m.v) : Calls P f args m.v fun e w'' => e = .returned v ∧ ∃ m' : Lo w, w'' = m'.v :=
  h.mono fun _ _ ⟨he, hm⟩ => ⟨he, m, hm⟩
theorem low_below {P : Program} {f : FuncId} {args : Array Value} {w : World} {v : Value} {m : Lo w}
    (h : Calls P f args m.v fun e w' => e = .returned v ∧ Below m.v.heap.size m.v w') : Calls P f args m.v fun e w'' => e = .returned v ∧ ∃ m' : Lo w, w'' = m'.v :=
  h.mono fun _ w' ⟨he, hb⟩ => ⟨he, ⟨w', m.b.trans (hb.mono m.b.size)⟩, rfl⟩

theorem wp_region_low {P : Program} {id : Nat} {Q : Exit → Act → World → Prop} {a : Act} {w : World} {l : List Oper} (hm : P.follows .mixedOrders = true) (hB : Region.lexB .any l.toArray = true)
    (h : wpQuiet P l.toArray (fun w' => ∃ m : Lo w, w' = m.v) (fun a' => ∀ w', (∃ m : Lo w, w' = m.v) → Q .normal a' w') l a) : (Code.region id l.toArray true).wp P Q a w :=
  wp_region_quiet (C := fun w' => ∃ m : Lo w, w' = m.v) hm hB ⟨⟨{ w with drawn := w.drawn + 1 }, Below.mk (w := w) rfl rfl rfl (Nat.le_refl _) (fun _ _ => rfl)⟩, rfl⟩ (by simpa using h)
end Go.Proofs.YtbggcoclfnhbgaaDoor
