/-
  Joined: Num, Bytes.
-/
import Derived.WalkKit
import Derived.ProofKit
import Derived.Laws.BitsLemmas
import Derived.Test.YtllghgcancennaaRows
import Derived.WalkSmall
import Derived.Maps.AppendAt
import Derived.Laws.AppendOwnNone
/-
  Plain facts on whole numbers that the proofs of this seat lean on: what a word is when it has gone round, and what masking by 32 ones leaves.
-/
namespace Go.Proofs.Ytllghgcancennaa
open Go.RowKit

def rnd (n : Int) : Int := (n + 2147483648) % 4294967296 - 2147483648

theorem rnd_bd (n : Int) : -2147483648 ≤ rnd n ∧ rnd n ≤ 2147483647 := by unfold rnd; omega

theorem rnd_wrap (n : Int) : wrap64 (wrap32 n) = rnd n := by unfold wrap64 wrap32 rnd; omega

theorem and32 (n : Int) : bits .and .i64 n 4294967295 = n % 4294967296 := by
  have h127 : (BitVec.ofInt 64 4294967295).toNat = 2 ^ 32 - 1 := by decide
  have key : (BitVec.ofInt 64 n &&& BitVec.ofInt 64 4294967295).toNat = (n % ((2 ^ 64 : Nat) : Int)).toNat % 2 ^ 32 := by
    rw [BitVec.toNat_and, BitVec.toNat_ofInt, h127, Nat.and_two_pow_sub_one_eq_mod]
  show IntKind.i64.wrap ((BitVec.ofInt 64 n &&& BitVec.ofInt 64 4294967295).toNat : Nat) = n % 4294967296
  rw [key, IntKind.wrap_i64]
  omega

theorem rnd_hi (n : Int) (h : 2147483647 < n % 4294967296) : n % 4294967296 - 4294967296 = rnd n := by unfold rnd; omega
theorem rnd_lo (n : Int) (h : n % 4294967296 ≤ 2147483647) : n % 4294967296 = rnd n := by unfold rnd; omega

theorem ret_int {k : IntKind} {a b : Int} (h : a = b) : Ending.returned (.int k a) = .returned (.int k b) := by rw [h]
theorem ret_bool {a b : Bool} (h : a = b) : Ending.returned (.bool a) = .returned (.bool b) := by rw [h]

/-- The bytes of a number, seven bits each, the low ones first. -/
def pnF : Nat → Int → List Int
  | 0, n => [n]
  | k + 1, n => if 127 < n then (n % 128 + 128) :: pnF k (n / 128) else [n]
def pnB : Nat → Int
  | 0 => 127
  | k + 1 => 128 * pnB k + 127
def pn (n : Int) : List Int := if 0 ≤ n ∧ n ≤ 16777215 then pnF 3 n else []

theorem pnF_len : ∀ k n, (pnF k n).length ≤ k + 1
  | 0, n => by simp [pnF]
  | k + 1, n => by
    have := pnF_len k (n / 128)
    unfold pnF
    split <;> simp <;> omega
theorem pnF_hi (k : Nat) (n : Int) (h : 127 < n) : pnF (k + 1) n = (n % 128 + 128) :: pnF k (n / 128) := by simp [pnF, h]
theorem pnF_lo : ∀ (k : Nat) (n : Int), n ≤ 127 → pnF k n = [n]
  | 0, n, _ => rfl
  | k + 1, n, h => by simp [pnF, show ¬ 127 < n from by omega]
theorem pn_len (n : Int) : (pn n).length ≤ 4 := by
  unfold pn
  split
  · exact pnF_len 3 n
  · simp
theorem pn_in (n : Int) (h0 : 0 ≤ n) (h1 : n ≤ 16777215) : pn n = pnF 3 n := by simp [pn, h0, h1]
theorem pn_out (n : Int) (h : n < 0 ∨ 16777215 < n) : pn n = [] := by
  unfold pn; rw [if_neg (by omega)]

end Go.Proofs.Ytllghgcancennaa
/-
  Rows of bytes that a call has made for itself: what is known of them, and what stays of them while other memory is made or written.
-/
namespace Go.Proofs.Ytllghgcancennaa
open Go.RowKit

/-- The value v is a row of just these bytes, in memory from block b on. -/
def Own (w : World) (b : Nat) (v : Value) (zs : List Int) : Prop := w.ownsRow b 5 1 v zs.length (zs.map (Value.int .u8))

theorem Own.form {w : World} {b : Nat} {v : Value} {zs : List Int} (h : Own w b v zs) :
    (zs = [] ∧ ∃ ao cap, v = .slice ao 0 cap) ∨
    (0 < zs.length ∧ ∃ g cap, v = .slice (some ⟨g, 0, none⟩) zs.length cap ∧ b ≤ g ∧ g < w.heap.size ∧
      (∀ j, j < zs.length → w.cell? ⟨g, j, none⟩ = some (.int .u8 (zs.getD j 0))) ∧ (∀ j, w.frozen? ⟨g, j, none⟩ = false)) := by
  by_cases hz : zs.length = 0
  · have hnil : zs = [] := List.eq_nil_of_length_eq_zero hz
    refine .inl ⟨hnil, ?_⟩
    subst hnil
    rcases h.2 with ⟨rfl, _⟩ | ⟨g, cap, _, rfl, _⟩
    · exact ⟨_, _, rfl⟩
    · exact ⟨_, _, rfl⟩
  · refine .inr ⟨by omega, ?_⟩
    have hlt := World.ownsRow.lt h
    rcases h.2 with ⟨_, h0⟩ | ⟨g, cap, cur, rfl, _⟩
    · omega
    · refine ⟨g, cap, rfl, (hlt g rfl).1, (hlt g rfl).2, fun j hj => ?_, fun j => World.ownsRow.frozenAt h j⟩
      have := World.ownsRow.cellAt h j (by omega)
      rw [this]
      simp [hj]

theorem Own.mono {w : World} {b b' : Nat} {v : Value} {zs : List Int} (h : Own w b v zs) (hb : b' ≤ b) : Own w b' v zs := by
  refine ⟨h.1, ?_⟩
  rcases h.2 with h0 | ⟨g, cap, cur, e, hg, r⟩
  · exact .inl h0
  · exact .inr ⟨g, cap, cur, e, Nat.le_trans hb hg, r⟩

theorem grown_of_below {w w' : World} (h : Below w.heap.size w w') : w.grownBy w' none := ⟨h.os, h.tape, h.output, h.size, fun k hk _ => h.block k hk⟩

/-- Behind a call that turned nothing old. -/
theorem Own.below {w w' : World} {b : Nat} {v : Value} {zs : List Int} (h : Own w b v zs) (hb : Below w.heap.size w w') : Own w' b v zs :=
  World.ownsRow.kept h (grown_of_below hb) (by cases v.ownBlock <;> simp)

/-- Behind a store into another row. -/
theorem Own.apart {w w' : World} {b b' : Nat} {v u : Value} {zs ys : List Int} (h : Own w b v zs) (hg : w.grownBy w' u.ownBlock) (hu : Own w b' u ys)
    (hlt : ∀ k, v.ownBlock = some k → k < b') : Own w' b v zs := by
  refine World.ownsRow.kept h hg ?_
  cases hv : v.ownBlock with
  | none => exact .inl rfl
  | some k =>
    refine .inr fun e => ?_
    have h1 := hlt k hv
    have h2 := (World.ownsRow.lt hu k e.symm).1
    omega

theorem Own.lt {w : World} {b : Nat} {v : Value} {zs : List Int} (h : Own w b v zs) : ∀ k, v.ownBlock = some k → b ≤ k ∧ k < w.heap.size := World.ownsRow.lt h

theorem Own.drewN {w : World} {b : Nat} {v : Value} {zs : List Int} (h : Own w b v zs) (q : Nat) : Own (w.drewN q) b v zs := h

theorem own_more {w : World} {b : Nat} {v : Value} {xs ys : List Int} (h : w.ownsRow b 5 1 v (xs.length + ys.length) (xs.map (Value.int .u8) ++ ys.map (Value.int .u8))) : Own w b v (xs ++ ys) := by
  unfold Own; rw [List.length_append, List.map_append]; exact h

theorem below_app {B : Nat} {w wr w3 : World} {o : Obj} {v : Value} {xs : List Int} (hb : Below B w wr) (hB : B ≤ wr.heap.size) (hown : Own wr B v xs) (hg : (wr.alloc o).grownBy w3 v.ownBlock) : Below B w w3 :=
  (hb.alloc hB o).grown hg (by simp; omega) (fun q hq => (hown.lt q hq).1)

theorem own_empty (w : World) (B : Nat) (hB : B ≤ w.heap.size) : Own (w.alloc (.cells #[] 5)) B (.slice (some ⟨w.heap.size, 0, none⟩) 0 0) [] :=
  World.ownsRow_lit w #[] 0 hB (by unfold maxLen; omega) rfl

theorem own_four (w : World) (B : Nat) (hB : B ≤ w.heap.size) (a b c d : Int) : Own (w.alloc (.cells #[.int .u8 a, .int .u8 b, .int .u8 c, .int .u8 d] 5)) B (.slice (some ⟨w.heap.size, 0, none⟩) 4 4) [a, b, c, d] :=
  World.ownsRow_lit w #[.int .u8 a, .int .u8 b, .int .u8 c, .int .u8 d] 4 hB (by unfold maxLen; omega) rfl

theorem hide {p : Prop} (h : p) : Hid p := h
theorem unhide {p : Prop} (h : Hid p) : p := h

theorem Try.info5 : (Try.prog.info? 5).map (fun i => (i.zero, i.size, i.bytes)) = some (some (.int .u8 0), 1, 1) := by kernel_rfl

/-- A row of bytes that came in: len of them, from block below B. -/
def In (w : World) (B : Nat) (a : Option Addr) (len : Nat) (zs : List Int) : Prop :=
  zs.length = len ∧ len ≤ 1048576 ∧ (∀ j, j < len → 0 ≤ zs.getD j 0 ∧ zs.getD j 0 ≤ 255) ∧
  (0 < len → ∃ b o, a = some ⟨b, o, none⟩ ∧ b < B ∧ ∀ j, j < len → w.cell? ⟨b, o + j, none⟩ = some (.int .u8 (zs.getD j 0)))

theorem In.kept {w w' : World} {B : Nat} {a : Option Addr} {len : Nat} {zs : List Int} (h : In w B a len zs) (hb : ∀ k, k < B → w'.heap[k]? = w.heap[k]?) : In w' B a len zs := by
  refine ⟨h.1, h.2.1, h.2.2.1, fun hl => ?_⟩
  obtain ⟨b, o, ha, hbB, hc⟩ := h.2.2.2 hl
  exact ⟨b, o, ha, hbB, fun j hj => (World.cell?_of_block (w := w) (hb b hbB)).trans (hc j hj)⟩

theorem In.up {w : World} {B B' : Nat} {a : Option Addr} {len : Nat} {zs : List Int} (h : In w B a len zs) (hB : B ≤ B') : In w B' a len zs := by
  refine ⟨h.1, h.2.1, h.2.2.1, fun hl => ?_⟩
  obtain ⟨b, o, ha, hbB, hc⟩ := h.2.2.2 hl
  exact ⟨b, o, ha, by omega, hc⟩

theorem In.low {w W : World} {B : Nat} {a : Option Addr} {len : Nat} {zs : List Int} (h : In w B a len zs) (hb : Below w.heap.size w W) (hB : B ≤ w.heap.size) : In W B a len zs :=
  h.kept (fun k hk => hb.block k (by omega))
/-- Numbers that are bytes. -/
def Byt (zs : List Int) : Prop := ∀ z ∈ zs, 0 ≤ z ∧ z ≤ 255

theorem Byt.append {xs ys : List Int} (h : Byt xs) (h' : Byt ys) : Byt (xs ++ ys) := by
  intro z hz
  rcases List.mem_append.1 hz with hz | hz
  · exact h z hz
  · exact h' z hz
theorem grownBy_trans {w w1 w2 : World} {row : Option Nat} (h : w.grownBy w1 row) (h' : w1.grownBy w2 row) : w.grownBy w2 row :=
  ⟨h'.os.trans h.os, h'.tape.trans h.tape, h'.output.trans h.output, Nat.le_trans h.size h'.size, fun k hk hne => (h'.block k (Nat.lt_of_lt_of_le hk h.size) hne).trans (h.block k hk hne)⟩

theorem grown_step {w w1 w2 : World} {g : Nat} {row : Option Nat} (h : w.grownBy w1 (some g)) (h' : w1.grownBy w2 row) (hr : ∀ k, row = some k → k = g ∨ w.heap.size ≤ k) : w.grownBy w2 (some g) :=
  ⟨h'.os.trans h.os, h'.tape.trans h.tape, h'.output.trans h.output, Nat.le_trans h.size h'.size, fun k hk hne => (h'.block k (Nat.lt_of_lt_of_le hk h.size) (fun e => by
    rcases hr k e.symm with rfl | h2
    · exact hne rfl
    · omega)).trans (h.block k hk hne)⟩

theorem Own.cur {w w' : World} {b g : Nat} {v : Value} {zs : List Int} (h : Own w b v zs) (hg : w.grownBy w' (some g)) (hb : g < b) : Own w' b v zs := by
  refine World.ownsRow.kept h hg ?_
  cases hv : v.ownBlock with
  | none => exact .inl rfl
  | some k => exact .inr (fun e => by have := (h.lt k hv).1; cases e; omega)

theorem alloc_grown {w w3 : World} {o : Obj} {r : Option Nat} (hg : (w.alloc o).grownBy w3 r) : w.grownBy w3 r := by
  have h1 := World.grownBy_alloc w o r
  exact ⟨hg.os.trans h1.os, hg.tape.trans h1.tape, hg.output.trans h1.output, Nat.le_trans h1.size hg.size, fun k hk hne => (hg.block k (Nat.lt_of_lt_of_le hk h1.size) hne).trans (h1.block k hk hne)⟩

theorem Own.some_of {w : World} {b : Nat} {v : Value} {zs : List Int} (h : Own w b v zs) (hz : 0 < zs.length) : ∃ g c, v = .slice (some ⟨g, 0, none⟩) zs.length c ∧ (∀ j u, (zs.map (Value.int .u8))[j]? = Option.some u → w.cell? ((⟨g, 0, none⟩ : Addr).add j) = Option.some u) := by
  rcases h.form with ⟨h0, _⟩ | ⟨_, g, c, rfl, _⟩
  · rw [h0] at hz; simp at hz
  · exact ⟨g, c, rfl, World.ownsRow.cells h (g := g) rfl⟩

theorem byt_cells (zs : List Int) : ∀ u ∈ zs.map (Value.int .u8), u.oneCell' = true := ints_oneCell .u8 zs

theorem Byt.at {zs : List Int} (h : Byt zs) : ∀ j, j < zs.length → 0 ≤ zs.getD j 0 ∧ zs.getD j 0 ≤ 255 := by
  intro j hj
  have e : zs.getD j 0 = zs[j] := by simp [hj]
  rw [e]
  exact h _ (List.getElem_mem _)

/-- What one owns may be read. -/
theorem in_any {w : World} {b B : Nat} {v : Value} {zs : List Int} (h : Own w b v zs) (hm : zs.length ≤ 1048576) (hz : Byt zs) (hB : w.heap.size ≤ B) : ∃ a c, v = .slice a zs.length c ∧ In w B a zs.length zs ∧ zs.length ≤ c := by
  rcases h.2 with ⟨rfl, h0⟩ | ⟨g, c, cur, rfl, _, hg, hn, _⟩
  · refine ⟨none, 0, by rw [h0], ⟨rfl, hm, hz.at, fun hp => by omega⟩, by omega⟩
  · refine ⟨some ⟨g, 0, none⟩, c, rfl, ⟨rfl, hm, hz.at, fun hp => ⟨g, 0, rfl, ?_, fun j hj => ?_⟩⟩, hn⟩
    · have := (Array.getElem?_eq_some_iff.1 hg).1; omega
    · have := World.ownsRow.cellAt h j (by omega)
      rw [Nat.zero_add, this]
      simp [hj]

theorem own_shape {w : World} {b : Nat} {v : Value} {zs : List Int} (h : Own w b v zs) : ∃ a c, v = .slice a zs.length c := by
  rcases h.2 with ⟨rfl, h0⟩ | ⟨g, c, _, rfl, _⟩
  · exact ⟨_, _, by rw [h0]⟩
  · exact ⟨_, _, rfl⟩

theorem in_slice {w : World} {b B c : Nat} {a : Option Addr} {zs : List Int} (h : Own w b (.slice a zs.length c) zs) (hm : zs.length ≤ 1048576) (hz : Byt zs) (hB : w.heap.size ≤ B) : In w B a zs.length zs ∧ zs.length ≤ c := by
  obtain ⟨a', c', e, hi, hc⟩ := in_any h hm hz hB
  cases e
  exact ⟨hi, hc⟩

theorem in_own {w : World} {b B g len c : Nat} {zs : List Int} (h : Own w b (.slice (some ⟨g, 0, none⟩) len c) zs) (hl : zs.length = len) (hm : len ≤ 1048576) (hz : ∀ j, j < len → 0 ≤ zs.getD j 0 ∧ zs.getD j 0 ≤ 255) (hB : w.heap.size ≤ B) :
    In w B (some ⟨g, 0, none⟩) len zs := by
  refine ⟨hl, hm, hz, fun hp => ⟨g, 0, rfl, ?_, fun j hj => ?_⟩⟩
  · have := (h.lt g rfl).2; omega
  · rcases h.form with ⟨h0, _⟩ | ⟨_, g', c', e, _, _, hc, _⟩
    · rw [h0] at hl; simp at hl; omega
    · simp only [Value.slice.injEq, Option.some.injEq, Addr.mk.injEq, and_true] at e
      obtain ⟨rfl, _, _⟩ := e
      rw [Nat.zero_add]
      exact hc j (by omega)

theorem In.drewN {w : World} {B : Nat} {a : Option Addr} {len : Nat} {zs : List Int} (h : In w B a len zs) (q : Nat) : In (w.drewN q) B a len zs := h
theorem cap_own {w : World} {b g len c : Nat} {zs : List Int} (h : Own w b (.slice (some ⟨g, 0, none⟩) len c) zs) (hl : zs.length = len) : len ≤ c := by
  rcases h.2 with ⟨e, _⟩ | ⟨g', cap, cur, e, _, _, hn, _⟩
  · cases e
  · cases e; exact hn

theorem cells_in {w : World} {B : Nat} {x : Addr} {len : Nat} {zs : List Int} (h : In w B (some x) len zs) : ∀ j u, (zs.map (Value.int .u8))[j]? = some u → w.cell? (x.add j) = some u := by
  intro j u hu
  have hj : j < len := by
    have := (List.getElem?_eq_some_iff.1 hu).1
    rw [List.length_map, h.1] at this; exact this
  obtain ⟨b, o, ha, _, hc⟩ := h.2.2.2 (by omega)
  cases ha
  rw [Addr.add_lit, hc j hj, ← hu]
  have hl := h.1
  simp [hl, hj]

theorem In.none_len {w : World} {B : Nat} {len : Nat} {zs : List Int} (h : In w B none len zs) : len = 0 ∧ zs = [] := by
  have h0 : len = 0 := by
    rcases Nat.eq_zero_or_pos len with h0 | hp
    · exact h0
    · obtain ⟨b, o, ha, _⟩ := h.2.2.2 hp; cases ha
  exact ⟨h0, List.eq_nil_of_length_eq_zero (by rw [h.1, h0])⟩

/-- 'append(v, row...)', v being one's own: the row's bytes behind v's. -/
theorem app_in {w : World} {ops : Array Oper} {rest : List Oper} {o : Oper} {act : Act} {Q : Exit → Act → World → Prop} (hgd : o.guard = none) (s x : Operand)
    (ho : o.op = .call { callee := .builtin .append, args := #[s, x], argTypes := #[36, 36] }) (base B : Nat) (v : Value) (xs : List Int) (hs : act.eval s = v) (hown : Own w base v xs)
    (a : Option Addr) (len cap : Nat) (zs : List Int) (hx : act.eval x = .slice a len cap) (hc : a = none → cap = 0) (hin : In w B a len zs) (hsm : xs.length ≤ 2000000) (hbase : base ≤ w.heap.size)
    (h : ∀ v' w', Own w' base v' (xs ++ zs) → w.grownBy w' v.ownBlock → (v' = .slice none 0 0 ↔ v = .slice none 0 0 ∧ len = 0) → wpList Try.prog ops Q rest (act.put o.dst v') w') :
    wpList Try.prog ops Q (o :: rest) act w := by
  obtain ⟨i0, hi, hz0, hz1, hz2⟩ := info_parts Try.info5
  cases a with
  | none =>
    obtain ⟨rfl, rfl⟩ := hin.none_len
    obtain rfl := hc rfl
    refine wpList_append_own_none hgd s x 36 ho base 5 i0 1 Try.underlying36 hi v _ _ hs hown hx (h v w ?_ (World.grownBy.refl _ _) (by simp))
    rw [List.append_nil]; exact hown
  | some ad =>
    have hl := hin.1
    have hm := hin.2.1
    refine wpList_append_own w hgd s x 36 ho base 5 i0 (.int .u8 0) 1 1 Try.underlying36 hi hz0 hz1 hz2 rfl (by decide) v _ _ hs hown ad len cap (zs.map (Value.int .u8)) hx (by simp [hl]) (cells_in hin) (byt_cells _) (by unfold maxLen; omega) (by omega) hbase ?_
    intro v' w' ho' hg' hn'
    refine h v' w' (own_more ?_) hg' hn'
    rw [hl]; exact ho'

theorem Own.cap0 {w : World} {b len cap : Nat} {a : Option Addr} {zs : List Int} (h : Own w b (.slice a len cap) zs) : a = none → cap = 0 := by
  rintro rfl
  rcases h.2 with ⟨e, _⟩ | ⟨g', cap, cur, e, _⟩
  · cases e; rfl
  · cases e

/-- Behind a store into an older row. -/
theorem Own.later {w w' : World} {b : Nat} {v u : Value} {zs : List Int} (h : Own w b v zs) (hg : w.grownBy w' u.ownBlock) (hlt : ∀ k, u.ownBlock = some k → k < b) : Own w' b v zs := by
  refine World.ownsRow.kept h hg ?_
  cases hv : v.ownBlock with
  | none => exact .inl rfl
  | some k =>
    refine .inr fun e => ?_
    have h1 := (h.lt k hv).1
    have h2 := hlt k e.symm
    omega

theorem In.at {w w' : World} {a : Option Addr} {len : Nat} {zs : List Int} (h : In w w.heap.size a len zs) (hb : Below w.heap.size w w') : In w' w'.heap.size a len zs :=
  (h.kept hb.block).up hb.size

theorem below_of_drew {w w' : World} (h : Below w.drew.heap.size w.drew w') : Below w.heap.size w w' := ⟨h.os, h.tape, h.output, h.size, h.block⟩

end Go.Proofs.Ytllghgcancennaa
