/-
  Joined: Num, Bytes, RowIn, Copy, CurF, Eq, Take, Laid, MarkW.
-/
import Derived.WalkKit
import Derived.ProofKit
import Derived.Laws.BitsLemmas
import Derived.Test.YtbkhlaiifbdfoaaDoorRows
import Derived.WalkSmall
import Derived.Maps.AppendAt
import Derived.Laws.AppendOwnNone
import Derived.OpenShut
import Derived.Deep.QuietTactic
import Derived.BigQuiet
import Derived.Handy
import Derived.ChangeSame
import Derived.ChangeVars
import Derived.JoinedOf
import Derived.RowKit
import Derived.RowKitTokens
import Derived.LaidLaws
import Derived.LaidMore
import Derived.Stop.Joined
/-
  Plain facts on whole numbers that the proofs of this seat lean on: what a word is when it has gone round, and what masking by 32 ones leaves.
-/
namespace Go.Proofs.YtbkhlaiifbdfoaaDoor
open Go.RowKit

def rnd (n : Int) : Int := (n + 2147483648) % 4294967296 - 2147483648

theorem rnd_bd (n : Int) : -2147483648 ≤ rnd n ∧ rnd n ≤ 2147483647 := by unfold rnd; omega

theorem rnd_wrap (n : Int) : wrap64 (wrap32 n) = rnd n := by unfold wrap64 wrap32 rnd; omega

theorem and32 (n : Int) : bits .and .i64 n 4294967295 = n % 4294967296 := by
  have h127 : (BitVec.ofInt 64 4294967295).toNat = 2 ^ 32 - 1 := by decide
  have key : (BitVec.ofInt 64 n &&& BitVec.ofInt 64 4294967295).toNat = (n % ((2 ^ 64 : Nat) : Int)).toNat % 2 ^ 32 := by
    rw [BitVec.toNat_and, BitVec.toNat_ofInt, h127, Nat.and_two_pow_sub_one_eq_mod]
  show IntKind.i64.wrap ((BitVec.ofInt 64 n &&& BitVec.ofInt 64 4294967295).toNat : Nat) = n % 4294967296
  rw [key, IntKind.wrap_i64]
  omega

theorem rnd_hi (n : Int) (h : 2147483647 < n % 4294967296) : n % 4294967296 - 4294967296 = rnd n := by unfold rnd; omega
theorem rnd_lo (n : Int) (h : n % 4294967296 ≤ 2147483647) : n % 4294967296 = rnd n := by unfold rnd; omega

theorem ret_int {k : IntKind} {a b : Int} (h : a = b) : Ending.returned (.int k a) = .returned (.int k b) := by rw [h]
theorem ret_bool {a b : Bool} (h : a = b) : Ending.returned (.bool a) = .returned (.bool b) := by rw [h]

/-- The bytes of a number, seven bits each, the low ones first. -/
def pnF : Nat → Int → List Int
  | 0, n => [n]
  | k + 1, n => if 127 < n then (n % 128 + 128) :: pnF k (n / 128) else [n]
def pnB : Nat → Int
  | 0 => 127
  | k + 1 => 128 * pnB k + 127
def pn (n : Int) : List Int := if 0 ≤ n ∧ n ≤ 16777215 then pnF 3 n else []

theorem pnF_len : ∀ k n, (pnF k n).length ≤ k + 1
  | 0, n => by simp [pnF]
  | k + 1, n => by
    have := pnF_len k (n / 128)
    unfold pnF
    split <;> simp <;> omega
theorem pnF_hi (k : Nat) (n : Int) (h : 127 < n) : pnF (k + 1) n = (n % 128 + 128) :: pnF k (n / 128) := by simp [pnF, h]
theorem pnF_lo : ∀ (k : Nat) (n : Int), n ≤ 127 → pnF k n = [n]
  | 0, n, _ => rfl
  | k + 1, n, h => by simp [pnF, show ¬ 127 < n from by omega]
theorem pn_len (n : Int) : (pn n).length ≤ 4 := by
  unfold pn
  split
  · exact pnF_len 3 n
  · simp
theorem pn_in (n : Int) (h0 : 0 ≤ n) (h1 : n ≤ 16777215) : pn n = pnF 3 n := by simp [pn, h0, h1]
theorem pn_out (n : Int) (h : n < 0 ∨ 16777215 < n) : pn n = [] := by
  unfold pn; rw [if_neg (by omega)]

end Go.Proofs.YtbkhlaiifbdfoaaDoor
/-
  Rows of bytes that a call has made for itself: what is known of them, and what stays of them while other memory is made or written.
-/
namespace Go.Proofs.YtbkhlaiifbdfoaaDoor
open Go.RowKit

/-- The value v is a row of just these bytes, in memory from block b on. -/
def Own (w : World) (b : Nat) (v : Value) (zs : List Int) : Prop := w.ownsRow b 5 1 v zs.length (zs.map (Value.int .u8))

theorem Own.form {w : World} {b : Nat} {v : Value} {zs : List Int} (h : Own w b v zs) :
    (zs = [] ∧ ∃ ao cap, v = .slice ao 0 cap) ∨
    (0 < zs.length ∧ ∃ g cap, v = .slice (some ⟨g, 0, none⟩) zs.length cap ∧ b ≤ g ∧ g < w.heap.size ∧
      (∀ j, j < zs.length → w.cell? ⟨g, j, none⟩ = some (.int .u8 (zs.getD j 0))) ∧ (∀ j, w.frozen? ⟨g, j, none⟩ = false)) := by
  by_cases hz : zs.length = 0
  · have hnil : zs = [] := List.eq_nil_of_length_eq_zero hz
    refine .inl ⟨hnil, ?_⟩
    subst hnil
    rcases h.2 with ⟨rfl, _⟩ | ⟨g, cap, _, rfl, _⟩
    · exact ⟨_, _, rfl⟩
    · exact ⟨_, _, rfl⟩
  · refine .inr ⟨by omega, ?_⟩
    have hlt := World.ownsRow.lt h
    rcases h.2 with ⟨_, h0⟩ | ⟨g, cap, cur, rfl, _⟩
    · omega
    · refine ⟨g, cap, rfl, (hlt g rfl).1, (hlt g rfl).2, fun j hj => ?_, fun j => World.ownsRow.frozenAt h j⟩
      have := World.ownsRow.cellAt h j (by omega)
      rw [this]
      simp [hj]

theorem Own.mono {w : World} {b b' : Nat} {v : Value} {zs : List Int} (h : Own w b v zs) (hb : b' ≤ b) : Own w b' v zs := by
  refine ⟨h.1, ?_⟩
  rcases h.2 with h0 | ⟨g, cap, cur, e, hg, r⟩
  · exact .inl h0
  · exact .inr ⟨g, cap, cur, e, Nat.le_trans hb hg, r⟩

theorem grown_of_below {w w' : World} (h : Below w.heap.size w w') : w.grownBy w' none := ⟨h.os, h.tape, h.output, h.size, fun k hk _ => h.block k hk⟩

/-- Behind a call that turned nothing old. -/
theorem Own.below {w w' : World} {b : Nat} {v : Value} {zs : List Int} (h : Own w b v zs) (hb : Below w.heap.size w w') : Own w' b v zs :=
  World.ownsRow.kept h (grown_of_below hb) (by cases v.ownBlock <;> simp)

/-- Behind a store into another row. -/
theorem Own.apart {w w' : World} {b b' : Nat} {v u : Value} {zs ys : List Int} (h : Own w b v zs) (hg : w.grownBy w' u.ownBlock) (hu : Own w b' u ys)
    (hlt : ∀ k, v.ownBlock = some k → k < b') : Own w' b v zs := by
  refine World.ownsRow.kept h hg ?_
  cases hv : v.ownBlock with
  | none => exact .inl rfl
  | some k =>
    refine .inr fun e => ?_
    have h1 := hlt k hv
    have h2 := (World.ownsRow.lt hu k e.symm).1
    omega

theorem Own.lt {w : World} {b : Nat} {v : Value} {zs : List Int} (h : Own w b v zs) : ∀ k, v.ownBlock = some k → b ≤ k ∧ k < w.heap.size := World.ownsRow.lt h

theorem Own.drewN {w : World} {b : Nat} {v : Value} {zs : List Int} (h : Own w b v zs) (q : Nat) : Own (w.drewN q) b v zs := h

theorem own_more {w : World} {b : Nat} {v : Value} {xs ys : List Int} (h : w.ownsRow b 5 1 v (xs.length + ys.length) (xs.map (Value.int .u8) ++ ys.map (Value.int .u8))) : Own w b v (xs ++ ys) := by
  unfold Own; rw [List.length_append, List.map_append]; exact h

theorem below_app {B : Nat} {w wr w3 : World} {o : Obj} {v : Value} {xs : List Int} (hb : Below B w wr) (hB : B ≤ wr.heap.size) (hown : Own wr B v xs) (hg : (wr.alloc o).grownBy w3 v.ownBlock) : Below B w w3 :=
  (hb.alloc hB o).grown hg (by simp; omega) (fun q hq => (hown.lt q hq).1)

theorem own_empty (w : World) (B : Nat) (hB : B ≤ w.heap.size) : Own (w.alloc (.cells #[] 5)) B (.slice (some ⟨w.heap.size, 0, none⟩) 0 0) [] :=
  World.ownsRow_lit w #[] 0 hB (by unfold maxLen; omega) rfl

theorem own_four (w : World) (B : Nat) (hB : B ≤ w.heap.size) (a b c d : Int) : Own (w.alloc (.cells #[.int .u8 a, .int .u8 b, .int .u8 c, .int .u8 d] 5)) B (.slice (some ⟨w.heap.size, 0, none⟩) 4 4) [a, b, c, d] :=
  World.ownsRow_lit w #[.int .u8 a, .int .u8 b, .int .u8 c, .int .u8 d] 4 hB (by unfold maxLen; omega) rfl

theorem hide {p : Prop} (h : p) : Hid p := h
theorem unhide {p : Prop} (h : Hid p) : p := h

theorem Tryd.info5 : (Tryd.prog.info? 5).map (fun i => (i.zero, i.size, i.bytes)) = some (some (.int .u8 0), 1, 1) := by kernel_rfl

/-- A row of bytes that came in: len of them, from block below B. -/
def In (w : World) (B : Nat) (a : Option Addr) (len : Nat) (zs : List Int) : Prop :=
  zs.length = len ∧ len ≤ 1048576 ∧ (∀ j, j < len → 0 ≤ zs.getD j 0 ∧ zs.getD j 0 ≤ 255) ∧
  (0 < len → ∃ b o, a = some ⟨b, o, none⟩ ∧ b < B ∧ ∀ j, j < len → w.cell? ⟨b, o + j, none⟩ = some (.int .u8 (zs.getD j 0)))

theorem In.kept {w w' : World} {B : Nat} {a : Option Addr} {len : Nat} {zs : List Int} (h : In w B a len zs) (hb : ∀ k, k < B → w'.heap[k]? = w.heap[k]?) : In w' B a len zs := by
  refine ⟨h.1, h.2.1, h.2.2.1, fun hl => ?_⟩
  obtain ⟨b, o, ha, hbB, hc⟩ := h.2.2.2 hl
  exact ⟨b, o, ha, hbB, fun j hj => (World.cell?_of_block (w := w) (hb b hbB)).trans (hc j hj)⟩

theorem In.up {w : World} {B B' : Nat} {a : Option Addr} {len : Nat} {zs : List Int} (h : In w B a len zs) (hB : B ≤ B') : In w B' a len zs := by
  refine ⟨h.1, h.2.1, h.2.2.1, fun hl => ?_⟩
  obtain ⟨b, o, ha, hbB, hc⟩ := h.2.2.2 hl
  exact ⟨b, o, ha, by omega, hc⟩

theorem In.low {w W : World} {B : Nat} {a : Option Addr} {len : Nat} {zs : List Int} (h : In w B a len zs) (hb : Below w.heap.size w W) (hB : B ≤ w.heap.size) : In W B a len zs :=
  h.kept (fun k hk => hb.block k (by omega))
/-- Numbers that are bytes. -/
def Byt (zs : List Int) : Prop := ∀ z ∈ zs, 0 ≤ z ∧ z ≤ 255

theorem Byt.append {xs ys : List Int} (h : Byt xs) (h' : Byt ys) : Byt (xs ++ ys) := by
  intro z hz
  rcases List.mem_append.1 hz with hz | hz
  · exact h z hz
  · exact h' z hz
theorem grownBy_trans {w w1 w2 : World} {row : Option Nat} (h : w.grownBy w1 row) (h' : w1.grownBy w2 row) : w.grownBy w2 row :=
  ⟨h'.os.trans h.os, h'.tape.trans h.tape, h'.output.trans h.output, Nat.le_trans h.size h'.size, fun k hk hne => (h'.block k (Nat.lt_of_lt_of_le hk h.size) hne).trans (h.block k hk hne)⟩

theorem grown_step {w w1 w2 : World} {g : Nat} {row : Option Nat} (h : w.grownBy w1 (some g)) (h' : w1.grownBy w2 row) (hr : ∀ k, row = some k → k = g ∨ w.heap.size ≤ k) : w.grownBy w2 (some g) :=
  ⟨h'.os.trans h.os, h'.tape.trans h.tape, h'.output.trans h.output, Nat.le_trans h.size h'.size, fun k hk hne => (h'.block k (Nat.lt_of_lt_of_le hk h.size) (fun e => by
    rcases hr k e.symm with rfl | h2
    · exact hne rfl
    · omega)).trans (h.block k hk hne)⟩

theorem Own.cur {w w' : World} {b g : Nat} {v : Value} {zs : List Int} (h : Own w b v zs) (hg : w.grownBy w' (some g)) (hb : g < b) : Own w' b v zs := by
  refine World.ownsRow.kept h hg ?_
  cases hv : v.ownBlock with
  | none => exact .inl rfl
  | some k => exact .inr (fun e => by have := (h.lt k hv).1; cases e; omega)

theorem alloc_grown {w w3 : World} {o : Obj} {r : Option Nat} (hg : (w.alloc o).grownBy w3 r) : w.grownBy w3 r := by
  have h1 := World.grownBy_alloc w o r
  exact ⟨hg.os.trans h1.os, hg.tape.trans h1.tape, hg.output.trans h1.output, Nat.le_trans h1.size hg.size, fun k hk hne => (hg.block k (Nat.lt_of_lt_of_le hk h1.size) hne).trans (h1.block k hk hne)⟩

theorem Own.some_of {w : World} {b : Nat} {v : Value} {zs : List Int} (h : Own w b v zs) (hz : 0 < zs.length) : ∃ g c, v = .slice (some ⟨g, 0, none⟩) zs.length c ∧ (∀ j u, (zs.map (Value.int .u8))[j]? = Option.some u → w.cell? ((⟨g, 0, none⟩ : Addr).add j) = Option.some u) := by
  rcases h.form with ⟨h0, _⟩ | ⟨_, g, c, rfl, _⟩
  · rw [h0] at hz; simp at hz
  · exact ⟨g, c, rfl, World.ownsRow.cells h (g := g) rfl⟩

theorem byt_cells (zs : List Int) : ∀ u ∈ zs.map (Value.int .u8), u.oneCell' = true := ints_oneCell .u8 zs

theorem Byt.at {zs : List Int} (h : Byt zs) : ∀ j, j < zs.length → 0 ≤ zs.getD j 0 ∧ zs.getD j 0 ≤ 255 := by
  intro j hj
  have e : zs.getD j 0 = zs[j] := by simp [hj]
  rw [e]
  exact h _ (List.getElem_mem _)

/-- What one owns may be read. -/
theorem in_any {w : World} {b B : Nat} {v : Value} {zs : List Int} (h : Own w b v zs) (hm : zs.length ≤ 1048576) (hz : Byt zs) (hB : w.heap.size ≤ B) : ∃ a c, v = .slice a zs.length c ∧ In w B a zs.length zs ∧ zs.length ≤ c := by
  rcases h.2 with ⟨rfl, h0⟩ | ⟨g, c, cur, rfl, _, hg, hn, _⟩
  · refine ⟨none, 0, by rw [h0], ⟨rfl, hm, hz.at, fun hp => by omega⟩, by omega⟩
  · refine ⟨some ⟨g, 0, none⟩, c, rfl, ⟨rfl, hm, hz.at, fun hp => ⟨g, 0, rfl, ?_, fun j hj => ?_⟩⟩, hn⟩
    · have := (Array.getElem?_eq_some_iff.1 hg).1; omega
    · have := World.ownsRow.cellAt h j (by omega)
      rw [Nat.zero_add, this]
      simp [hj]

theorem own_shape {w : World} {b : Nat} {v : Value} {zs : List Int} (h : Own w b v zs) : ∃ a c, v = .slice a zs.length c := by
  rcases h.2 with ⟨rfl, h0⟩ | ⟨g, c, _, rfl, _⟩
  · exact ⟨_, _, by rw [h0]⟩
  · exact ⟨_, _, rfl⟩

theorem in_slice {w : World} {b B c : Nat} {a : Option Addr} {zs : List Int} (h : Own w b (.slice a zs.length c) zs) (hm : zs.length ≤ 1048576) (hz : Byt zs) (hB : w.heap.size ≤ B) : In w B a zs.length zs ∧ zs.length ≤ c := by
  obtain ⟨a', c', e, hi, hc⟩ := in_any h hm hz hB
  cases e
  exact ⟨hi, hc⟩

theorem in_own {w : World} {b B g len c : Nat} {zs : List Int} (h : Own w b (.slice (some ⟨g, 0, none⟩) len c) zs) (hl : zs.length = len) (hm : len ≤ 1048576) (hz : ∀ j, j < len → 0 ≤ zs.getD j 0 ∧ zs.getD j 0 ≤ 255) (hB : w.heap.size ≤ B) :
    In w B (some ⟨g, 0, none⟩) len zs := by
  refine ⟨hl, hm, hz, fun hp => ⟨g, 0, rfl, ?_, fun j hj => ?_⟩⟩
  · have := (h.lt g rfl).2; omega
  · rcases h.form with ⟨h0, _⟩ | ⟨_, g', c', e, _, _, hc, _⟩
    · rw [h0] at hl; simp at hl; omega
    · simp only [Value.slice.injEq, Option.some.injEq, Addr.mk.injEq, and_true] at e
      obtain ⟨rfl, _, _⟩ := e
      rw [Nat.zero_add]
      exact hc j (by omega)

theorem In.drewN {w : World} {B : Nat} {a : Option Addr} {len : Nat} {zs : List Int} (h : In w B a len zs) (q : Nat) : In (w.drewN q) B a len zs := h
theorem cap_own {w : World} {b g len c : Nat} {zs : List Int} (h : Own w b (.slice (some ⟨g, 0, none⟩) len c) zs) (hl : zs.length = len) : len ≤ c := by
  rcases h.2 with ⟨e, _⟩ | ⟨g', cap, cur, e, _, _, hn, _⟩
  · cases e
  · cases e; exact hn

theorem cells_in {w : World} {B : Nat} {x : Addr} {len : Nat} {zs : List Int} (h : In w B (some x) len zs) : ∀ j u, (zs.map (Value.int .u8))[j]? = some u → w.cell? (x.add j) = some u := by
  intro j u hu
  have hj : j < len := by
    have := (List.getElem?_eq_some_iff.1 hu).1
    rw [List.length_map, h.1] at this; exact this
  obtain ⟨b, o, ha, _, hc⟩ := h.2.2.2 (by omega)
  cases ha
  rw [Addr.add_lit, hc j hj, ← hu]
  have hl := h.1
  simp [hl, hj]

theorem In.none_len {w : World} {B : Nat} {len : Nat} {zs : List Int} (h : In w B none len zs) : len = 0 ∧ zs = [] := by
  have h0 : len = 0 := by
    rcases Nat.eq_zero_or_pos len with h0 | hp
    · exact h0
    · obtain ⟨b, o, ha, _⟩ := h.2.2.2 hp; cases ha
  exact ⟨h0, List.eq_nil_of_length_eq_zero (by rw [h.1, h0])⟩

/-- 'append(v, row...)', v being one's own: the row's bytes behind v's. -/
theorem app_in {w : World} {ops : Array Oper} {rest : List Oper} {o : Oper} {act : Act} {Q : Exit → Act → World → Prop} (hgd : o.guard = none) (s x : Operand)
    (ho : o.op = .call { callee := .builtin .append, args := #[s, x], argTypes := #[22, 22] }) (base B : Nat) (v : Value) (xs : List Int) (hs : act.eval s = v) (hown : Own w base v xs)
    (a : Option Addr) (len cap : Nat) (zs : List Int) (hx : act.eval x = .slice a len cap) (hc : a = none → cap = 0) (hin : In w B a len zs) (hsm : xs.length ≤ 2000000) (hbase : base ≤ w.heap.size)
    (h : ∀ v' w', Own w' base v' (xs ++ zs) → w.grownBy w' v.ownBlock → (v' = .slice none 0 0 ↔ v = .slice none 0 0 ∧ len = 0) → wpList Tryd.prog ops Q rest (act.put o.dst v') w') :
    wpList Tryd.prog ops Q (o :: rest) act w := by
  obtain ⟨i0, hi, hz0, hz1, hz2⟩ := info_parts Tryd.info5
  cases a with
  | none =>
    obtain ⟨rfl, rfl⟩ := hin.none_len
    obtain rfl := hc rfl
    refine wpList_append_own_none hgd s x 22 ho base 5 i0 1 Tryd.underlying22 hi v _ _ hs hown hx (h v w ?_ (World.grownBy.refl _ _) (by simp))
    rw [List.append_nil]; exact hown
  | some ad =>
    have hl := hin.1
    have hm := hin.2.1
    refine wpList_append_own w hgd s x 22 ho base 5 i0 (.int .u8 0) 1 1 Tryd.underlying22 hi hz0 hz1 hz2 rfl (by decide) v _ _ hs hown ad len cap (zs.map (Value.int .u8)) hx (by simp [hl]) (cells_in hin) (byt_cells _) (by unfold maxLen; omega) (by omega) hbase ?_
    intro v' w' ho' hg' hn'
    refine h v' w' (own_more ?_) hg' hn'
    rw [hl]; exact ho'

theorem Own.cap0 {w : World} {b len cap : Nat} {a : Option Addr} {zs : List Int} (h : Own w b (.slice a len cap) zs) : a = none → cap = 0 := by
  rintro rfl
  rcases h.2 with ⟨e, _⟩ | ⟨g', cap, cur, e, _⟩
  · cases e; rfl
  · cases e

/-- Behind a store into an older row. -/
theorem Own.later {w w' : World} {b : Nat} {v u : Value} {zs : List Int} (h : Own w b v zs) (hg : w.grownBy w' u.ownBlock) (hlt : ∀ k, u.ownBlock = some k → k < b) : Own w' b v zs := by
  refine World.ownsRow.kept h hg ?_
  cases hv : v.ownBlock with
  | none => exact .inl rfl
  | some k =>
    refine .inr fun e => ?_
    have h1 := (h.lt k hv).1
    have h2 := hlt k e.symm
    omega

theorem In.at {w w' : World} {a : Option Addr} {len : Nat} {zs : List Int} (h : In w w.heap.size a len zs) (hb : Below w.heap.size w w') : In w' w'.heap.size a len zs :=
  (h.kept hb.block).up hb.size

theorem below_of_drew {w w' : World} (h : Below w.drew.heap.size w.drew w') : Below w.heap.size w w' := ⟨h.os, h.tape, h.output, h.size, h.block⟩

end Go.Proofs.YtbkhlaiifbdfoaaDoor
/-
  A row of bytes that came in, as the walks take it.
-/
namespace Go.Proofs.YtbkhlaiifbdfoaaDoor
open Go.ChangeShapes Go.WideShapes Go.ChangeAt Go.RowKit

def IsRow (k : IntKind) (w : World) (a : Option Addr) (len cap : Nat) (zs : List Int) : Prop :=
  (a = none ∧ len = 0 ∧ cap = 0 ∧ zs = []) ∨
  ∃ x, a = some x ∧ len ≤ cap ∧ cap ≤ maxLen ∧ zs.length = cap ∧ (∀ i, i < zs.length → w.cell? (x.add i) = some (.int k (zs.getD i 0))) ∧ ∀ n ∈ zs, (Lit.int k n).wf = true

theorem in_of {w : World} {a : Option Addr} {len cap : Nat} {zs : List Int} (h : IsRow .u8 w a len cap zs) (hl : len ≤ 1048576) : In w w.heap.size a len (zs.take len) := by
  rcases h with ⟨rfl, rfl, rfl, rfl⟩ | ⟨x, rfl, hlc, hm, hz, hcell, hwz⟩
  · exact ⟨rfl, by omega, fun j hj => by omega, fun h => by omega⟩
  · have hlen : (zs.take len).length = len := by simp; omega
    have hget : ∀ j, j < len → (zs.take len).getD j 0 = zs.getD j 0 := fun j hj => by simp [List.getD, hj]
    refine ⟨hlen, hl, fun j hj => ?_, fun hp => ?_⟩
    · rw [hget j hj]
      have := hwz (zs.getD j 0) (by rw [List.getD_eq_getElem?_getD, List.getElem?_eq_getElem (by omega)]; simp)
      exact bounds_u8 this
    · obtain ⟨b, off, spot⟩ := x
      have hc := hcell 0 (by omega)
      have hspot : spot = none := by simpa [Addr.add] using World.cell?_spot hc
      subst hspot
      refine ⟨b, off, rfl, World.block_lt_of_cell? w _ (by simpa [Addr.add] using hc), fun j hj => ?_⟩
      rw [hget j hj]
      have hcj := hcell j (by omega)
      rw [Addr.add_lit] at hcj
      exact hcj


end Go.Proofs.YtbkhlaiifbdfoaaDoor
/-
  What toByteS does: a copy of the bytes in new memory.
-/
namespace Go.Proofs.YtbkhlaiifbdfoaaDoor
open Go.RowKit

theorem copy_step (zs : List Int) (j : Nat) (h : j < zs.length) :
    ((zs.take j ++ List.replicate (zs.length - j) 0).map (Value.int .u8)).set j (.int .u8 (zs.getD j 0)) = (zs.take (j + 1) ++ List.replicate (zs.length - (j + 1)) 0).map (Value.int .u8) := by
  have e : zs.length - j = (zs.length - (j + 1)) + 1 := by omega
  rw [e, List.replicate_succ]
  simp only [List.map_append, List.map_cons]
  rw [List.set_append_right _ _ (by simp; omega)]
  have e2 : (List.map (Value.int IntKind.u8) (List.take j zs)).length = j := by simp; omega
  rw [e2, Nat.sub_self, List.set_cons_zero]
  have hg : zs.getD j 0 = zs[j] := by simp [h]
  rw [List.take_succ_eq_append_getElem h, hg, List.map_append, List.append_assoc]
  rfl

theorem copy_len (zs : List Int) (j : Nat) (h : j ≤ zs.length) : (zs.take j ++ List.replicate (zs.length - j) 0).length = zs.length := by
  simp; omega

set_option maxHeartbeats 1000000 in
theorem copyB (w : World) (a : Option Addr) (len cap : Nat) (zs : List Int) (hin : In w w.heap.size a len zs) :
    Calls Tryd.prog 22 #[.slice a len cap] w fun e w' => ∃ c, e = .returned (.slice (some ⟨w.heap.size, 0, none⟩) len c) ∧ Own w' w.heap.size (.slice (some ⟨w.heap.size, 0, none⟩) len c) zs ∧ Below w.heap.size w w' := by
  have hl := hin.2.1
  have hlen := hin.1
  obtain ⟨i0, hi, hz0, hz1, hz2⟩ := info_parts Tryd.info5
  go_enter Tryd.func22, Tryd.ntmps22
  go_wp2_with (at_make; refine wpList_make_full _ rfl _ _ 22 rfl w.heap.size 5 i0 (.int .u8 0) 1 Tryd.underlying22 hi hz0 hz1 _ _ _ _ len rfl rfl rfl rfl (by rw [hz2]; omega) (by unfold maxLen; omega) (Nat.le_refl _) ?_; intro w1 ho1 hg1)
  have o1 : Own w1 w.heap.size (.slice (some ⟨w.heap.size, 0, none⟩) len len) (List.replicate len 0) := by
    unfold Own
    have e1 : (madeCells (Value.int IntKind.u8 0).cells (len * 1)).toList = (List.replicate len (0 : Int)).map (Value.int .u8) := by
      rw [Nat.mul_one, List.map_replicate]; exact toList_madeCells_one _ _
    rw [e1] at ho1
    rw [List.length_replicate]
    exact ho1
  have b1 : Below w.heap.size w w1 := (Below.refl _ _).grown hg1 (Nat.le_refl _) (fun k hk => by cases hk)
  have s1 : w.heap.size < w1.heap.size := (o1.lt _ rfl).2
  clear ho1 hg1 hi hz0 hz1 hz2
  go_loopw [4] (fun i wr => ∃ j : Nat, j ≤ len ∧ i = .int .i64 (j : Int) ∧ Own wr w.heap.size (.slice (some ⟨w.heap.size, 0, none⟩) len len) (zs.take j ++ List.replicate (zs.length - j) 0) ∧ Below w.heap.size w wr) (fun i _ => len - (intOf i).toNat)
  case atStart => exact ⟨0, Nat.zero_le _, rfl, by rw [hlen]; simpa using o1, b1⟩
  case round =>
    obtain ⟨j, hj, rfl, ho, hb⟩ := hrel
    have hml := copy_len zs j (by omega)
    clear o1 b1 s1
    by_cases hlt : j < len
    · have ho' : wr.ownsRow w.heap.size 5 1 (.slice (some ⟨w.heap.size, 0, none⟩) len len) len ((zs.take j ++ List.replicate (zs.length - j) 0).map (Value.int .u8)) := by
        have := ho; unfold Own at this; rw [hml] at this; rw [hlen] at this ⊢; exact this
      have hfz := World.ownsRow.frozenAt ho' j
      have hce := World.ownsRow.cellAt ho' j (by omega)
      obtain ⟨u, hu⟩ : ∃ u, wr.cell? ⟨w.heap.size, j, none⟩ = some u := by
        rw [hce]; exact ⟨_, List.getElem?_eq_getElem (by simp only [List.length_map]; omega)⟩
      obtain ⟨b, o, rfl, hbB, hcell⟩ := (hin.low hb (Nat.le_refl _)).2.2.2 (by omega)
      have hz := hcell j hlt
      have HS := World.ownsRow.stored ho' j (.int .u8 (zs.getD j 0))
      rw [copy_step zs j (by omega)] at HS
      have H2 : Hid (Own (wr.setCell ⟨w.heap.size, j, none⟩ (.int .u8 (zs.getD j 0))) w.heap.size (.slice (some ⟨w.heap.size, 0, none⟩) len len) (zs.take (j + 1) ++ List.replicate (zs.length - (j + 1)) 0) ∧ Below w.heap.size w (wr.setCell ⟨w.heap.size, j, none⟩ (.int .u8 (zs.getD j 0)))) := by
        refine ⟨?_, hb.setCell (Nat.le_refl _) _⟩
        unfold Own
        rw [copy_len zs (j + 1) (by omega), hlen]
        rw [hlen] at HS
        exact HS.1
      have hbw : ¬ b = w.heap.size := by omega
      clear HS hce ho' ho hml hin hcell hb
      generalize zs.getD j 0 = z at *
      go_wp2
      exact ⟨⟨j + 1, hlt, by go_num, H2.out.1, H2.out.2⟩, by simp [intOf]; omega⟩
    · have hjn : j = len := by omega
      have HF : Hid (Own wr w.heap.size (.slice (some ⟨w.heap.size, 0, none⟩) len len) zs) := by
        have := ho; rw [hjn, ← hlen, List.take_length, Nat.sub_self, List.replicate_zero, List.append_nil, hlen] at this; exact this
      have HG := hide hb
      clear ho hb hml hin
      subst hjn
      go_wp2
      go_ret
      exact ⟨_, rfl, HF.out, HG.out⟩
end Go.Proofs.YtbkhlaiifbdfoaaDoor
/-
  The cursor over drawn bytes, exactly: what l1New, l1Byte, l1Below, l1Once and l1PickInt answer is told by the bytes and by where the cursor stands.
-/
namespace Go.Proofs.YtbkhlaiifbdfoaaDoor
open Go.RowKit

theorem and255 (n : Int) : bits .and .i64 n 255 = n % 256 := by
  have h127 : (BitVec.ofInt 64 255).toNat = 2 ^ 8 - 1 := by decide
  have key : (BitVec.ofInt 64 n &&& BitVec.ofInt 64 255).toNat = (n % ((2 ^ 64 : Nat) : Int)).toNat % 2 ^ 8 := by
    rw [BitVec.toNat_and, BitVec.toNat_ofInt, h127, Nat.and_two_pow_sub_one_eq_mod]
  show IntKind.i64.wrap ((BitVec.ofInt 64 n &&& BitVec.ofInt 64 255).toNat : Nat) = n % 256
  rw [key, IntKind.wrap_i64]
  omega
theorem and30 (n : Int) : bits .and .i64 n 1073741823 = n % 1073741824 := by
  have h127 : (BitVec.ofInt 64 1073741823).toNat = 2 ^ 30 - 1 := by decide
  have key : (BitVec.ofInt 64 n &&& BitVec.ofInt 64 1073741823).toNat = (n % ((2 ^ 64 : Nat) : Int)).toNat % 2 ^ 30 := by
    rw [BitVec.toNat_and, BitVec.toNat_ofInt, h127, Nat.and_two_pow_sub_one_eq_mod]
  show IntKind.i64.wrap ((BitVec.ofInt 64 n &&& BitVec.ofInt 64 1073741823).toNat : Nat) = n % 1073741824
  rw [key, IntKind.wrap_i64]
  omega

theorem mod_bd (t : Int) : 0 ≤ t % 256 ∧ t % 256 ≤ 255 := by omega

/-- How the cursor's number goes on; the byte that is in it. -/
def nh (h : Int) : Int := wrap64 (wrap64 (h * 6364136223846793005) + 1442695040888963407)
def mx (h : Int) : Int := bits .xor .i64 (h / 8589934592) (h / 35184372088832)
/-- What is drawn of the bytes by a cursor that stands at s, and where it stands then. -/
def byteF (zs : List Int) (s : Nat × Int) : Int × (Nat × Int) :=
  if s.1 < zs.length then ((mx (nh s.2) + zs.getD s.1 0) % 256, (s.1 + 1, nh s.2)) else (mx (nh s.2) % 256, (s.1, nh s.2))
def belowF (zs : List Int) (s : Nat × Int) (n : Int) : Int × (Nat × Int) :=
  if n ≤ 256 then ((byteF zs s).1 % n, (byteF zs s).2)
  else
    let a := byteF zs s
    let b := byteF zs a.2
    let c := byteF zs b.2
    let d := byteF zs c.2
    ((a.1 * 16777216 + b.1 * 65536 + c.1 * 256 + d.1) % n, d.2)
def onceF (zs : List Int) (s : Nat × Int) (n : Int) : Bool × (Nat × Int) := ((belowF zs s n).1 == 0, (belowF zs s n).2)
def pickF (zs : List Int) (s : Nat × Int) (l : List Int) : Int × (Nat × Int) := (l.getD (belowF zs s l.length).1.toNat 0, (belowF zs s l.length).2)
def hashF (zs : List Int) (h : Int) : Int := zs.foldl (fun h z => (h * 131 + z + 7) % 1073741824) h
/-- Where a new cursor stands. -/
def newF (zs : List Int) : Nat × Int := (0, hashF (zs.take 4000) (20478 + zs.length))

theorem byteF_bd (zs : List Int) (s : Nat × Int) : 0 ≤ (byteF zs s).1 ∧ (byteF zs s).1 ≤ 255 := by
  unfold byteF
  split
  · exact mod_bd _
  · exact mod_bd _
theorem belowF_bd (zs : List Int) (s : Nat × Int) (n : Int) (hn : 0 < n) : 0 ≤ (belowF zs s n).1 ∧ (belowF zs s n).1 < n := by
  unfold belowF
  split
  · exact ⟨Int.emod_nonneg _ (by omega), Int.emod_lt_of_pos _ hn⟩
  · exact ⟨Int.emod_nonneg _ (by omega), Int.emod_lt_of_pos _ hn⟩
theorem pickF_mem (zs : List Int) (s : Nat × Int) (l : List Int) (hl : 0 < l.length) : (pickF zs s l).1 ∈ l := by
  have h := belowF_bd zs s l.length (by omega)
  have hk : (belowF zs s l.length).1.toNat < l.length := by omega
  unfold pickF
  simp [hk]

/-- The cursor lies at block g, over these bytes, and stands at s. -/
def Cur (w : World) (g : Nat) (zs : List Int) (s : Nat × Int) : Prop := ∃ (a : Option Addr) (len cap : Nat), In w g a len zs ∧ s.1 ≤ len ∧
  w.heap[g]? = some (.cells #[.slice a len cap, .int .i64 (s.1 : Int), .int .i64 s.2] 82 (0, 0))

theorem Cur.kept {w w' : World} {g : Nat} {zs : List Int} {s : Nat × Int} (h : Cur w g zs s) (hb : ∀ k, k ≤ g → w'.heap[k]? = w.heap[k]?) : Cur w' g zs s := by
  obtain ⟨a, len, cap, h1, h2, h3⟩ := h
  exact ⟨a, len, cap, h1.kept (fun k hk => hb k (by omega)), h2, (hb g (Nat.le_refl _)).trans h3⟩

theorem Cur.lt {w : World} {g : Nat} {zs : List Int} {s : Nat × Int} (h : Cur w g zs s) : g < w.heap.size := by
  obtain ⟨a, len, cap, h1, h2, h3⟩ := h
  exact (Array.getElem?_eq_some_iff.1 h3).1

theorem Cur.alloc {w : World} {g : Nat} {zs : List Int} {s : Nat × Int} (h : Cur w g zs s) (o : Obj) : Cur (w.alloc o) g zs s :=
  h.kept (fun k hk => Below.heap_alloc w o k (by have := h.lt; omega))

theorem Cur.row {w w' : World} {g : Nat} {zs : List Int} {s : Nat × Int} {row : Option Nat} (h : Cur w g zs s) (hg : w.grownBy w' row) (hr : ∀ k, row = some k → g < k) : Cur w' g zs s :=
  h.kept (fun k hk => hg.block k (by have := h.lt; omega) (fun e => by have := hr k e.symm; omega))

theorem put_h {w : World} {g : Nat} {a : Option Addr} {len cap i : Nat} {zs : List Int} {h : Int} (hi : i ≤ len) (HI : In w g a len zs)
    (HG : w.heap[g]? = some (.cells #[.slice a len cap, .int .i64 (i : Int), .int .i64 h] 82 (0, 0))) (h' : Int) (q r : Nat) :
    Cur (((w.setCell ⟨g, 2, none⟩ (.int .i64 h')).drewN q).drewN r) g zs (i, h') ∧ w.grownBy (((w.setCell ⟨g, 2, none⟩ (.int .i64 h')).drewN q).drewN r) (some g) := by
  have e1 : (w.setCell ⟨g, 2, none⟩ (.int .i64 h')).heap[g]? = some (.cells #[.slice a len cap, .int .i64 (i : Int), .int .i64 h'] 82 (0, 0)) := heap_setCell_same w g 2 _ 82 _ HG
  have e2 : ∀ k, k ≠ g → (w.setCell ⟨g, 2, none⟩ (.int .i64 h')).heap[k]? = w.heap[k]? := fun k hk => heap_setCell_other w ⟨g, 2, none⟩ k _ hk
  exact ⟨⟨a, len, cap, HI.kept (fun k hk => e2 k (by omega)), hi, e1⟩, ⟨rfl, rfl, rfl, by simp, fun k _ hk => e2 k (fun e => hk (by rw [e]))⟩⟩

theorem put_hi {w : World} {g : Nat} {a : Option Addr} {len cap i : Nat} {zs : List Int} {h : Int} (hi : i < len) (HI : In w g a len zs)
    (HG : w.heap[g]? = some (.cells #[.slice a len cap, .int .i64 (i : Int), .int .i64 h] 82 (0, 0))) (h' : Int) (q : Nat) :
    Cur (((w.setCell ⟨g, 2, none⟩ (.int .i64 h')).drewN q).setCell ⟨g, 1, none⟩ (.int .i64 ((i : Int) + 1))) g zs (i + 1, h') ∧ w.grownBy (((w.setCell ⟨g, 2, none⟩ (.int .i64 h')).drewN q).setCell ⟨g, 1, none⟩ (.int .i64 ((i : Int) + 1))) (some g) := by
  have e1 : (w.setCell ⟨g, 2, none⟩ (.int .i64 h')).heap[g]? = some (.cells #[.slice a len cap, .int .i64 (i : Int), .int .i64 h'] 82 (0, 0)) := heap_setCell_same w g 2 _ 82 _ HG
  have e2 : ∀ k, k ≠ g → (w.setCell ⟨g, 2, none⟩ (.int .i64 h')).heap[k]? = w.heap[k]? := fun k hk => heap_setCell_other w ⟨g, 2, none⟩ k _ hk
  have e3 : (((w.setCell ⟨g, 2, none⟩ (.int .i64 h')).drewN q).setCell ⟨g, 1, none⟩ (.int .i64 ((i : Int) + 1))).heap[g]? = some (.cells #[.slice a len cap, .int .i64 ((i : Int) + 1), .int .i64 h'] 82 (0, 0)) := heap_setCell_same _ g 1 _ 82 _ e1
  have e4 : ∀ k, k ≠ g → (((w.setCell ⟨g, 2, none⟩ (.int .i64 h')).drewN q).setCell ⟨g, 1, none⟩ (.int .i64 ((i : Int) + 1))).heap[k]? = w.heap[k]? := fun k hk => (heap_setCell_other _ ⟨g, 1, none⟩ k _ hk).trans (e2 k hk)
  exact ⟨⟨a, len, cap, HI.kept (fun k hk => e4 k (by omega)), by simp; omega, e3⟩, ⟨rfl, rfl, rfl, by simp, fun k _ hk => e4 k (fun e => hk (by rw [e]))⟩⟩

set_option maxHeartbeats 1000000 in
theorem byteDraw (w : World) (g : Nat) (zs : List Int) (s : Nat × Int) (hc : Cur w g zs s) :
    Calls Tryd.prog 72 #[.pointer (some ⟨g, 0, none⟩)] w fun e w' => e = .returned (.int .i64 (byteF zs s).1) ∧ Cur w' g zs (byteF zs s).2 ∧ w.grownBy w' (some g) := by
  obtain ⟨i, h⟩ := s
  obtain ⟨a, len, cap, hin, hi, hg⟩ := hc
  simp only at hi hg
  have c0 : w.cell? ⟨g, 0, none⟩ = some (.slice a len cap) := by rw [cell_of_row w g 0 _ 82 (0, 0) hg]; rfl
  have c1 : w.cell? ⟨g, 1, none⟩ = some (.int .i64 (i : Int)) := by rw [cell_of_row w g 1 _ 82 (0, 0) hg]; rfl
  have c2 : w.cell? ⟨g, 2, none⟩ = some (.int .i64 h) := by rw [cell_of_row w g 2 _ 82 (0, 0) hg]; rfl
  have f1 : w.frozen? ⟨g, 1, none⟩ = false := frozen_of_row w g 1 _ 82 hg
  have f2 : w.frozen? ⟨g, 2, none⟩ = false := frozen_of_row w g 2 _ 82 hg
  have hl := hin.2.1
  have hle := hin.1
  have h255 := and255
  by_cases hlt : i < len
  · obtain ⟨b, o, rfl, hbg, hcell⟩ := hin.2.2.2 (by omega)
    have hz := hcell i hlt
    have hzb := hin.2.2.1 i hlt
    have HF : Hid (byteF zs (i, h) = ((mx (nh h) + zs.getD i 0) % 256, (i + 1, nh h))) := by
      show _ = _
      unfold byteF
      rw [if_pos (by simp only; omega)]
    have HI : Hid (In w g (some ⟨b, o, none⟩) len zs) := hin
    have HG : Hid (w.heap[g]? = some (.cells #[.slice (some ⟨b, o, none⟩) len cap, .int .i64 (i : Int), .int .i64 h] 82 (0, 0))) := hg
    clear hin hcell hg
    rw [HF.out]
    generalize hzz : zs.getD i 0 = z at *
    have HZ := hzz
    clear hzz HZ
    go_enter Tryd.func72, Tryd.ntmps72
    go_wp2
    go_quiet (fail)
    go_wp2
    go_quiet (fail)
    go_wp2
    go_quiet (fail)
    go_wp2
    go_ret
    have hend := put_hi hlt HI.out HG.out
    exact ⟨rfl, (hend _ _).1, (hend _ _).2⟩
  · have HF : Hid (byteF zs (i, h) = (mx (nh h) % 256, (i, nh h))) := by
      show _ = _
      unfold byteF
      rw [if_neg (by simp only; omega)]
    have HI : Hid (In w g a len zs) := hin
    have HG : Hid (w.heap[g]? = some (.cells #[.slice a len cap, .int .i64 (i : Int), .int .i64 h] 82 (0, 0))) := hg
    clear hin hg
    rw [HF.out]
    go_enter Tryd.func72, Tryd.ntmps72
    go_wp2
    go_quiet (fail)
    go_wp2
    go_quiet (fail)
    go_wp2
    go_ret
    have hend := put_h hi HI.out HG.out
    exact ⟨rfl, (hend _ _ _).1, (hend _ _ _).2⟩

set_option maxHeartbeats 1000000 in
theorem belowDraw (w : World) (g : Nat) (zs : List Int) (s : Nat × Int) (n : Int) (hn : 0 < n) (hn' : n ≤ 1000000000) (hc : Cur w g zs s) :
    Calls Tryd.prog 44 #[.pointer (some ⟨g, 0, none⟩), .int .i64 n] w fun e w' => e = .returned (.int .i64 (belowF zs s n).1) ∧ Cur w' g zs (belowF zs s n).2 ∧ w.grownBy w' (some g) := by
  by_cases hs : n ≤ 256
  · have HF : Hid (belowF zs s n = ((byteF zs s).1 % n, (byteF zs s).2)) := by show _ = _; unfold belowF; rw [if_pos hs]
    rw [HF.out]
    have hx := byteF_bd zs s
    go_enter Tryd.func44, Tryd.ntmps44
    go_wp2_with fail
    refine (byteDraw _ _ _ _ hc).mono ?_
    rintro e w1 ⟨rfl, hc1, hg1⟩
    have HC := hide hc1
    have HG := hide hg1
    clear hc hc1 hg1
    go_wp2
    go_ret
    exact ⟨rfl, HC.out, HG.out⟩
  · have HF : Hid (belowF zs s n = (((byteF zs s).1 * 16777216 + (byteF zs (byteF zs s).2).1 * 65536 + (byteF zs (byteF zs (byteF zs s).2).2).1 * 256 + (byteF zs (byteF zs (byteF zs (byteF zs s).2).2).2).1) % n, (byteF zs (byteF zs (byteF zs (byteF zs s).2).2).2).2)) := by show _ = _; unfold belowF; rw [if_neg hs]
    rw [HF.out]
    have hx := byteF_bd zs s
    have hy := byteF_bd zs (byteF zs s).2
    have hz := byteF_bd zs (byteF zs (byteF zs s).2).2
    have hu := byteF_bd zs (byteF zs (byteF zs (byteF zs s).2).2).2
    go_enter Tryd.func44, Tryd.ntmps44
    go_wp2_with fail
    refine (byteDraw _ _ _ _ hc).mono ?_
    rintro e w1 ⟨rfl, hc1, hg1⟩
    go_wp2_with fail
    refine (byteDraw _ _ _ _ hc1).mono ?_
    rintro e w2 ⟨rfl, hc2, hg2⟩
    go_wp2_with fail
    refine (byteDraw _ _ _ _ hc2).mono ?_
    rintro e w3 ⟨rfl, hc3, hg3⟩
    go_wp2_with fail
    refine (byteDraw _ _ _ _ hc3).mono ?_
    rintro e w4 ⟨rfl, hc4, hg4⟩
    have HC := hide hc4
    have HG := hide (grownBy_trans (grownBy_trans (grownBy_trans hg1 hg2) hg3) hg4)
    clear hc hc1 hc2 hc3 hc4 hg1 hg2 hg3 hg4
    go_wp2
    go_ret
    exact ⟨rfl, HC.out, HG.out⟩

theorem onceDraw (w : World) (g : Nat) (zs : List Int) (s : Nat × Int) (n : Int) (hn : 0 < n) (hn' : n ≤ 1000000000) (hc : Cur w g zs s) :
    Calls Tryd.prog 49 #[.pointer (some ⟨g, 0, none⟩), .int .i64 n] w fun e w' => e = .returned (.bool (onceF zs s n).1) ∧ Cur w' g zs (onceF zs s n).2 ∧ w.grownBy w' (some g) := by
  go_enter Tryd.func49, Tryd.ntmps49
  go_wp2_with fail
  refine (belowDraw _ _ _ _ _ hn hn' hc).mono ?_
  rintro e w1 ⟨rfl, hc1, hg1⟩
  have HC := hide hc1
  have HG := hide hg1
  clear hc hc1 hg1
  go_wp2
  go_ret
  exact ⟨rfl, HC.out, HG.out⟩

set_option maxHeartbeats 1000000 in
theorem pickDraw (w : World) (g l n : Nat) (zs : List Int) (s : Nat × Int) (ls : List Int) (hz : ls.length = n) (hn : 0 < n) (hn' : n ≤ 256) (hgl : g < l) (hc : Cur w g zs s)
    (hl : w.heap[l]? = some (.cells (ls.map (Value.int .i64)).toArray 3 (0, 0))) :
    Calls Tryd.prog 45 #[.pointer (some ⟨g, 0, none⟩), .slice (some ⟨l, 0, none⟩) n n] w fun e w' => e = .returned (.int .i64 (pickF zs s ls).1) ∧ Cur w' g zs (pickF zs s ls).2 ∧ w.grownBy w' (some g) := by
  subst hz
  have hb := belowF_bd zs s ls.length (by omega)
  unfold pickF
  simp only
  go_enter Tryd.func45, Tryd.ntmps45
  go_wp2_with fail
  refine (belowDraw _ _ _ _ _ (by omega) (by omega) hc).mono ?_
  rintro e w1 ⟨rfl, hc1, hg1⟩
  obtain ⟨k, hk⟩ := Int.eq_ofNat_of_zero_le hb.1
  have HC := hide hc1
  clear hc1
  have HP : Hid (ls.getD (belowF zs s ls.length).1.toNat 0 = ls.getD k 0) := by show _ = _; rw [hk]; rfl
  rw [hk] at hb ⊢
  have hlt : k < ls.length := by omega
  have hl1 : w1.heap[l]? = some (.cells (ls.map (Value.int .i64)).toArray 3 (0, 0)) := (hg1.block l (Array.getElem?_eq_some_iff.1 hl).1 (by simp; omega)).trans hl
  have hcell : w1.cell? ⟨l, k, none⟩ = some (.int .i64 (ls.getD k 0)) := by
    rw [cell_of_row w1 l k _ 3 (0, 0) hl1]; simp [hlt]
  have HG := hide hg1
  clear hc hg1 hl hl1 hk
  generalize ls.getD k 0 = y at *
  go_wp2
  go_ret
  exact ⟨ret_int HP.out.symm, HC.out, HG.out⟩

theorem new_cur {w : World} {a : Option Addr} {len cap : Nat} {zs : List Int} (h : In w w.heap.size a len zs) (x : Int) :
    Cur (w.alloc (.cells #[.slice a len cap, .int .i64 0, .int .i64 x] 82)) w.heap.size zs (0, x) :=
  ⟨a, len, cap, h.kept (fun k hk => Below.heap_alloc w _ k hk), Nat.zero_le _, heap_alloc_new w _⟩

theorem hash_take (zs : List Int) (h : Int) (k : Nat) (hk : k < zs.length) : hashF (zs.take (k + 1)) h = (hashF (zs.take k) h * 131 + zs.getD k 0 + 7) % 1073741824 := by
  unfold hashF
  rw [List.take_succ_eq_append_getElem hk, List.foldl_append]
  simp [hk]

set_option maxRecDepth 100000 in
set_option maxHeartbeats 1000000 in
theorem newDraw (w : World) (a : Option Addr) (len cap : Nat) (zs : List Int) (hin : In w w.heap.size a len zs) :
    Calls Tryd.prog 29 #[.slice a len cap] w fun e w' => e = .returned (.pointer (some ⟨w.heap.size, 0, none⟩)) ∧ Cur w' w.heap.size zs (newF zs) ∧ Below w.heap.size w w' := by
  have hle := hin.1
  have hl := hin.2.1
  have h30 := and30
  have hb := hin.2.2.1
  have hx := hin.2.2.2
  have HI : Hid (In w w.heap.size a len zs) := hin
  clear hin
  go_enter Tryd.func29, Tryd.ntmps29
  go_wp2
  go_loopw [3, 4] (fun h i wr => ∃ (k : Nat) (x : Int), k ≤ len ∧ k ≤ 4000 ∧ 0 ≤ x ∧ x ≤ 1073741823 ∧ Hid (x = hashF (zs.take k) (20478 + (zs.length : Int))) ∧ h = .int .i64 x ∧ i = .int .i64 (k : Int) ∧ wr = w) (fun _ i _ => len - (intOf i).toNat)
  case atStart => exact ⟨0, _, Nat.zero_le _, by omega, by omega, by omega, by show _ = _; simp [hashF, hle], rfl, rfl, rfl⟩
  case round =>
    obtain ⟨k, x, hk, hk4, hx0, hx1, HX, rfl, rfl, rfl⟩ := hrel
    by_cases hlt : k < len
    · by_cases h4 : (k : Int) < 4000
      · obtain ⟨b, o, rfl, hbg, hcell⟩ := hx (by omega)
        have hz := hcell k hlt
        have hzb := hb k hlt
        have HT := hide (hash_take zs (20478 + (zs.length : Int)) k (by omega))
        clear hcell hb
        generalize zs.getD k 0 = z at *
        go_wp2
        refine ⟨⟨k + 1, _, by omega, by omega, by omega, by omega, ?_, rfl, by go_num, trivial⟩, by simp [intOf]; omega⟩
        show _ = _
        rw [HT.out, ← HX.out]
      · clear hb hx
        have HN : Hid (newF zs = (0, x)) := by
          show _ = _
          unfold newF
          have hx' := HX.out
          rw [show k = 4000 from by omega] at hx'
          rw [hx']
        go_wp2
        go_ret
        refine ⟨rfl, ?_, (Below.refl _ _).alloc (Nat.le_refl _) _⟩
        rw [HN.out]
        exact new_cur HI.out _
    · clear hb hx
      have HN : Hid (newF zs = (0, x)) := by
        show _ = _
        unfold newF
        have hx' := HX.out
        rw [List.take_of_length_le (by omega)] at hx'
        rw [hx', List.take_of_length_le (by omega)]
      go_wp2
      go_ret
      refine ⟨rfl, ?_, (Below.refl _ _).alloc (Nat.le_refl _) _⟩
      rw [HN.out]
      exact new_cur HI.out _

/-- One thing that was drawn: nothing old is turned. -/
theorem draw_below {w w1 w3 : World} {o : Obj} (b1 : Below w.heap.size w w1) (hg : (w1.alloc o).grownBy w3 (some w.heap.size)) : Below w.heap.size w w3 :=
  (b1.alloc b1.size o).grown hg (by have := b1.size; simp; omega) (fun k hk => by cases hk; exact Nat.le_refl _)

end Go.Proofs.YtbkhlaiifbdfoaaDoor
/-
  What eqByteS, markByteS and heldByteS do.
-/
namespace Go.Proofs.YtbkhlaiifbdfoaaDoor
open Go.RowKit

set_option maxHeartbeats 400000 in
theorem eqB (w : World) (b1 b2 : Nat) (v1 v2 : Value) (zs : List Int) (h1 : Own w b1 v1 zs) (h2 : Own w b2 v2 zs) (hl : zs.length ≤ 1000000000) :
    Calls Tryd.prog 24 #[v1, v2] w fun e w' => e = .returned (.bool true) ∧ ∃ q, w' = w.drewN q := by
  rcases h1.form with ⟨hz, ao1, c1, rfl⟩ | ⟨hz, g1, c1, rfl, _, _, hc1, _⟩
  · rcases h2.form with ⟨_, ao2, c2, rfl⟩ | ⟨hz', _⟩
    · clear h1 h2 hz hl
      go_enter Tryd.func24, Tryd.ntmps24
      go_wp2
      go_loopw [5] (fun i wr => i = .int .i64 0 ∧ wr = w) (fun _ _ => 0)
      case atStart => exact ⟨rfl, rfl⟩
      case round =>
        obtain ⟨rfl, rfl⟩ := hrel
        go_wp2
        go_ret
        exact ⟨rfl, 0, rfl⟩
    · subst hz; simp at hz'
  · rcases h2.form with ⟨hz', _⟩ | ⟨_, g2, c2, rfl, _, _, hc2, _⟩
    · subst hz'; simp at hz
    · clear h1 h2
      have hne : ((zs.length : Int) != (zs.length : Int)) = false := by simp
      generalize hn : zs.length = n at *
      go_enter Tryd.func24, Tryd.ntmps24
      go_wp2
      go_loopw [5] (fun i wr => ∃ k : Nat, k ≤ n ∧ i = .int .i64 k ∧ ∃ q, wr = w.drewN q) (fun i _ => n - (intOf i).toNat)
      case atStart => exact ⟨0, Nat.zero_le _, rfl, 0, rfl⟩
      case round =>
        obtain ⟨k, hk, rfl, q, rfl⟩ := hrel
        by_cases hlt : k < n
        · have e1 := hc1 k hlt
          have e2 := hc2 k hlt
          clear hc1 hc2
          have hbe : ((zs.getD k 0) != (zs.getD k 0)) = false := by simp
          go_wp2
          go_quiet (fail)
          go_wp2
          go_roundw
          case rel => exact ⟨k + 1, by omega, by go_num, q + nq, rfl⟩
          case measure => simp [intOf]; omega
        · go_wp2
          go_ret
          exact ⟨rfl, q, rfl⟩

/-- The bytes that markByteS leaves: from k on, one more each. -/
def marks (k n : Nat) : List Int := (List.range n).map fun i => ((k + i : Nat) : Int) % 256

theorem marks_len (k n : Nat) : (marks k n).length = n := by simp [marks]
theorem marks_get (k n j : Nat) (h : j < n) : (marks k n).getD j 0 = ((k + j : Nat) : Int) % 256 := by simp [marks, h]

theorem marks_step (k j : Nat) (zs : List Int) (h : j < zs.length) :
    ((marks k j ++ zs.drop j).map (Value.int .u8)).set j (.int .u8 (((k + j : Nat) : Int) % 256)) = (marks k (j + 1) ++ zs.drop (j + 1)).map (Value.int .u8) := by
  rw [List.drop_eq_getElem_cons h]
  simp only [List.map_append, List.map_cons]
  rw [List.set_append_right _ _ (by simp [marks_len])]
  simp [marks, List.range_succ]

theorem mark_len (k j : Nat) (zs : List Int) (h : j ≤ zs.length) : (marks k j ++ zs.drop j).length = zs.length := by
  simp [marks_len]; omega

theorem below_mark {B : Nat} {w w1 w2 : World} {v : Value} {zs : List Int} {b : Nat} (hb : Below B w w1) (hB : B ≤ b) (hB' : B ≤ w1.heap.size) (h : Own w1 b v zs) (hg : w1.grownBy w2 v.ownBlock) : Below B w w2 :=
  hb.grown hg hB' (fun k hk => Nat.le_trans hB (h.lt k hk).1)

end Go.Proofs.YtbkhlaiifbdfoaaDoor
/-
  What takeByte does: the byte at the place, and one place on; or a panic, where there is none.
-/
namespace Go.Proofs.YtbkhlaiifbdfoaaDoor
open Go.RowKit

/-- What the readers panic with lies where the program has laid it. -/
def Err (w : World) (t : TypeId) (v : Value) : Prop := w.cell? ⟨0, 0, none⟩ = some (.iface t v)

set_option maxHeartbeats 400000 in
theorem takeByteYes (w : World) (a : Option Addr) (len cap : Nat) (zs : List Int) (B p k : Nat) (hin : In w B a len zs)
    (hp : w.heap[p]? = some (.cells #[.int .i64 (k : Int)] 3 (0, 0))) (hk : k < len) :
    Calls Tryd.prog 78 #[.slice a len cap, .pointer (some ⟨p, 0, none⟩)] w fun e w' => e = .returned (.int .i64 (zs.getD k 0)) ∧ w' = w.setCell ⟨p, 0, none⟩ (.int .i64 ((k : Int) + 1)) := by
  obtain ⟨b, o, rfl, hb, hc⟩ := hin.2.2.2 (by omega)
  have c0 : w.cell? ⟨p, 0, none⟩ = some (.int .i64 (k : Int)) := by rw [cell_of_row w p 0 _ 3 (0, 0) hp]; rfl
  have f0 : w.frozen? ⟨p, 0, none⟩ = false := frozen_of_row w p 0 _ 3 hp
  have hl := hin.2.1
  have hz := hc k hk
  have hzb := hin.2.2.1 k hk
  clear hin hc hp
  generalize zs.getD k 0 = z at *
  go_enter Tryd.func78, Tryd.ntmps78
  go_wp2
  go_ret
  exact ⟨rfl, rfl⟩

set_option maxHeartbeats 400000 in
theorem takeByteNo (w : World) (a : Option Addr) (len cap : Nat) (p : Nat) (i : Int) (t : TypeId) (v : Value)
    (hp : w.heap[p]? = some (.cells #[.int .i64 i] 3 (0, 0))) (hi : i < 0 ∨ (len : Int) ≤ i) (hE : Err w t v) :
    Calls Tryd.prog 78 #[.slice a len cap, .pointer (some ⟨p, 0, none⟩)] w fun e w' => e = .panicked [{ v := .iface t v, recovered := false }] ∧ w' = w := by
  have c0 : w.cell? ⟨p, 0, none⟩ = some (.int .i64 i) := by rw [cell_of_row w p 0 _ 3 (0, 0) hp]; rfl
  unfold Err at hE
  clear hp
  by_cases h0 : i < 0
  · clear hi
    go_enter Tryd.func78, Tryd.ntmps78
    go_wp2
    exact ⟨rfl, rfl, rfl⟩
  · have h1 : (len : Int) ≤ i := by omega
    clear hi
    go_enter Tryd.func78, Tryd.ntmps78
    go_wp2
    exact ⟨rfl, rfl, rfl⟩

theorem In.out {w w' : World} {B p : Nat} {a : Option Addr} {len : Nat} {zs : List Int} (h : In w B a len zs) (hg : w.grownBy w' (some p)) (hB : B ≤ p) (hp : p < w.heap.size) : In w' B a len zs :=
  h.kept (fun k hk => hg.block k (by omega) (fun e => by cases e; omega))

theorem Err.out {w w' : World} {p : Nat} {t : TypeId} {v : Value} (h : Err w t v) (hg : w.grownBy w' (some p)) (hp : 0 < p) : Err w' t v :=
  hg.cell h (fun e => by simp at e; omega)

theorem place_put {w w' : World} {p : Nat} {x y : Int} (hg : w.grownBy w' (some p)) (hp : w'.heap[p]? = some (.cells #[.int .i64 x] 3 (0, 0))) :
    (w'.setCell ⟨p, 0, none⟩ (.int .i64 y)).heap[p]? = some (.cells #[.int .i64 y] 3 (0, 0)) ∧ w.grownBy (w'.setCell ⟨p, 0, none⟩ (.int .i64 y)) (some p) :=
  ⟨heap_setCell_same w' p 0 _ 3 _ hp, grownBy_trans hg ⟨rfl, rfl, rfl, by simp, fun k _ hk => heap_setCell_other w' ⟨p, 0, none⟩ k _ (fun e => hk (by rw [e]))⟩⟩

/-- The number that begins at place k, as the readers go: f bytes may still come, n is what there was, wt the weight of the next one. -/
def gnF (zs : List Int) : Nat → Nat → Int → Int → Option (Int × Nat)
  | 0, _, _, _ => none
  | f + 1, k, n, wt =>
    if k < zs.length then
      if zs.getD k 0 < 128 then
        if 16777215 < n + zs.getD k 0 % 128 * wt ∨ (zs.getD k 0 = 0 ∧ 1 < wt) then none else some (n + zs.getD k 0 % 128 * wt, k + 1)
      else gnF zs f (k + 1) (n + zs.getD k 0 % 128 * wt) (wt * 128)
    else none
def gn (zs : List Int) (i : Int) : Option (Int × Nat) := if 0 ≤ i then gnF zs 4 i.toNat 0 1 else none

theorem gnF_end (zs : List Int) (f k : Nat) (n wt : Int) (h : zs.length ≤ k) : gnF zs f k n wt = none := by
  cases f with
  | zero => rfl
  | succ f => simp [gnF, show ¬ k < zs.length from by omega]
theorem gnF_on (zs : List Int) (f k : Nat) (n wt : Int) (h : k < zs.length) (hd : 128 ≤ zs.getD k 0) : gnF zs (f + 1) k n wt = gnF zs f (k + 1) (n + zs.getD k 0 % 128 * wt) (wt * 128) := by
  rw [gnF, if_pos h, if_neg (by omega)]
theorem gnF_no (zs : List Int) (f k : Nat) (n wt : Int) (h : k < zs.length) (hd : zs.getD k 0 < 128) (hb : 16777215 < n + zs.getD k 0 % 128 * wt ∨ (zs.getD k 0 = 0 ∧ 1 < wt)) : gnF zs (f + 1) k n wt = none := by
  rw [gnF, if_pos h, if_pos hd, if_pos hb]
theorem gnF_yes (zs : List Int) (f k : Nat) (n wt : Int) (h : k < zs.length) (hd : zs.getD k 0 < 128) (hb : ¬ (16777215 < n + zs.getD k 0 % 128 * wt ∨ (zs.getD k 0 = 0 ∧ 1 < wt))) : gnF zs (f + 1) k n wt = some (n + zs.getD k 0 % 128 * wt, k + 1) := by
  rw [gnF, if_pos h, if_pos hd, if_neg hb]
end Go.Proofs.YtbkhlaiifbdfoaaDoor
/-
  What the listed variable gives: it holds an error that is not nil; a start that fits is there.
-/
namespace Go.Proofs.YtbkhlaiifbdfoaaDoor
open Go.ChangeShapes Go.WideShapes Go.RowKit

theorem Tryd.own : ownKnob Tryd.prog.godebug = none := by kernel_rfl
theorem Tryd.laidOut : laidOutB Tryd.prog = true := by kernel_rfl
theorem gErr : Tryd.prog.globalNamed "loop.example/g00283/impl.errNone" = some 0 := by kernel_rfl
theorem tErr : (Tryd.prog.globals[0]?).map (·.type) = some 113 := by kernel_rfl

def laidL : List (String × DataW Unit) := [("loop.example/g00283/impl.errNone", Rows.laid_loop_example_g00283_impl_errNone)]

theorem door_met (os : Os) (args : Array Value) : laidMetH Tryd.prog laidL ((World.doorLaid Tryd.prog 28 os).forCall (fun _ _ => 0) ⟨#[], args, []⟩).memory :=
  laidMetH_of_parts3 (fuel := 8) (laidMet_of_run' 8 (by kernel_rfl) (by kernel_rfl)) (by kernel_rfl) (by kernel_rfl)

theorem err_of_laid {W : World} (h : laidMetH Tryd.prog laidL W) : ∃ u x, W.var? Tryd.prog "loop.example/g00283/impl.errNone" = some #[.iface u x] := by
  rw [MakeChecks.laidMetH_plain _ _ _ (by kernel_rfl)] at h
  obtain ⟨ps, ⟨g0, t0, cs0, f0, p0, q0, hg0, ht0, hv0, hd0, _, _⟩, _, _⟩ := h
  obtain rfl := Option.some.inj (gErr.symm.trans hg0)
  obtain rfl := Option.some.inj (tErr.symm.trans ht0)
  obtain ⟨f1, u, v, hcs, _, _⟩ := iface_of_trod Tryd.underlying113 hd0
  have hcs' : cs0 = #[.iface u v] := by cases cs0; simp_all
  exact ⟨u, v, by rw [hv0, hcs']⟩

theorem err_cell {W : World} {u : TypeId} {x : Value} (h : W.var? Tryd.prog "loop.example/g00283/impl.errNone" = some #[.iface u x]) : Err W u x ∧ 0 < W.heap.size := by
  have hc : W.cell? ⟨0, 0, none⟩ = some (.iface u x) := by simpa using World.var?_cell gErr h 0
  exact ⟨hc, World.block_lt_of_cell? W _ hc⟩

theorem vars_read {H : Type} (enc : TypeId × Value → H) {W : World} {u : TypeId} {x : Value} (h : W.var? Tryd.prog "loop.example/g00283/impl.errNone" = some #[.iface u x]) (sp : Nat → Bool) :
    DataW.TrodVars enc Tryd.prog W sp ["loop.example/g00283/impl.errNone"] [tok enc (.iface u x)] [.cell 0 0] :=
  have hi : IsIface (.iface u x) := trivial
  ⟨0, 113, #[.iface u x], 1, [], [], gErr, tErr, h, trod_held Tryd.underlying113 hi 0, rfl, rfl⟩
end Go.Proofs.YtbkhlaiifbdfoaaDoor
/-
  What markByteS leaves in bytes of one's own (where a seat has no heldByteS).
-/
namespace Go.Proofs.YtbkhlaiifbdfoaaDoor
open Go.RowKit
set_option maxHeartbeats 400000 in

set_option maxHeartbeats 400000 in
theorem markB (w : World) (b k : Nat) (v : Value) (zs : List Int) (h : Own w b v zs) (hk : k + zs.length ≤ 1000000000) :
    Calls Tryd.prog 25 #[v, .int .i64 (k : Int)] w fun e w' => e = .returned (.int .i64 ((k + zs.length : Nat) : Int)) ∧ Own w' b v (marks k zs.length) ∧ w.grownBy w' v.ownBlock := by
  rcases h.form with ⟨hz, ao, c, rfl⟩ | ⟨hz, g, c, rfl, _, hg, _, _⟩
  · subst hz
    have H : Hid (Own w b (.slice ao 0 c) (marks k 0)) := h
    clear h
    go_enter Tryd.func25, Tryd.ntmps25
    go_wp2
    go_loopw [1, 5] (fun q i wr => q = .int .i64 (k : Int) ∧ i = .int .i64 0 ∧ wr = w) (fun _ _ _ => 0)
    case atStart => exact ⟨rfl, rfl, rfl⟩
    case round =>
      obtain ⟨rfl, rfl, rfl⟩ := hrel
      go_wp2
      go_ret
      exact ⟨rfl, H.out, World.grownBy.refl _ _⟩
  · go_enter Tryd.func25, Tryd.ntmps25
    go_wp2
    go_loopw [1, 5] (fun q i wr => ∃ j : Nat, j ≤ zs.length ∧ q = .int .i64 ((k + j : Nat) : Int) ∧ i = .int .i64 (j : Int) ∧ Own wr b (.slice (some ⟨g, 0, none⟩) zs.length c) (marks k j ++ zs.drop j) ∧ w.grownBy wr (some g)) (fun _ i _ => zs.length - (intOf i).toNat)
    case atStart => exact ⟨0, Nat.zero_le _, rfl, rfl, h, World.grownBy.refl _ _⟩
    case round =>
      obtain ⟨j, hj, rfl, rfl, ho, hgr⟩ := hrel
      have hml := mark_len k j zs hj
      by_cases hlt : j < zs.length
      · have ho' : wr.ownsRow b 5 1 (.slice (some ⟨g, 0, none⟩) zs.length c) zs.length ((marks k j ++ zs.drop j).map (Value.int .u8)) := by have := ho; unfold Own at this; rwa [hml] at this
        have hfz := World.ownsRow.frozenAt ho' j
        have hce := World.ownsRow.cellAt ho' j (by omega)
        obtain ⟨u, hu⟩ : ∃ u, wr.cell? ⟨g, j, none⟩ = some u := by
          rw [hce]; exact ⟨_, List.getElem?_eq_getElem (by simp only [List.length_map]; omega)⟩
        have HS := World.ownsRow.stored ho' j (.int .u8 (((k + j : Nat) : Int) % 256))
        rw [marks_step k j zs hlt, Int.natCast_add] at HS
        have H2 : Hid (Own (wr.setCell ⟨g, j, none⟩ (.int .u8 (((k : Int) + (j : Int)) % 256))) b (.slice (some ⟨g, 0, none⟩) zs.length c) (marks k (j + 1) ++ zs.drop (j + 1)) ∧ wr.grownBy (wr.setCell ⟨g, j, none⟩ (.int .u8 (((k : Int) + (j : Int)) % 256))) (some g)) := by
          refine ⟨?_, HS.2⟩
          unfold Own
          rw [mark_len k (j + 1) zs hlt]
          exact HS.1
        clear HS hce ho' ho hml h
        have HG : Hid (w.grownBy wr (some g)) := hgr
        clear hgr
        go_wp2
        exact ⟨⟨j + 1, hlt, by go_num, by go_num, H2.out.1, grownBy_trans HG.out H2.out.2⟩, by simp [intOf]; omega⟩
      · have hjn : j = zs.length := by omega
        have HF : Hid (Own wr b (.slice (some ⟨g, 0, none⟩) zs.length c) (marks k zs.length)) := by
          have := ho; rw [hjn, List.drop_length, List.append_nil] at this; exact this
        have HG : Hid (w.grownBy wr (some g)) := hgr
        clear ho hgr hml h
        subst hjn
        go_wp2
        go_ret
        exact ⟨rfl, HF.out, HG.out⟩

theorem mark1 (w : World) (b : Nat) (v : Value) (zs : List Int) (h : Own w b v zs) (hk : zs.length ≤ 100000000) :
    Calls Tryd.prog 25 #[v, .int .i64 1] w fun e w' => e = .returned (.int .i64 (1 + (zs.length : Int))) ∧ Own w' b v (marks 1 zs.length) ∧ w.grownBy w' v.ownBlock := by
  have := markB w b 1 v zs h (by omega)
  simpa only [Int.natCast_add, Int.natCast_one] using this
end Go.Proofs.YtbkhlaiifbdfoaaDoor
