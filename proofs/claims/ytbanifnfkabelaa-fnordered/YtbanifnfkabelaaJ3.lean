/-
  Joined: Cur, Rowv.
-/
import Derived.Test.YtbanifnfkabelaaRows
import Derived.Test.YtbanifnfkabelaaJ1
import Derived.Deep.QuietTactic
import Derived.BigQuiet
import Derived.OpenShut
import Derived.Deep.Slices
/-
  The cursor over drawn bytes: what l1New, l1Byte, l1Below, l1Once and l1PickInt do.
-/
namespace Go.Proofs.Ytbanifnfkabelaa
open Go.RowKit

theorem and255 (n : Int) : bits .and .i64 n 255 = n % 256 := by
  have h127 : (BitVec.ofInt 64 255).toNat = 2 ^ 8 - 1 := by decide
  have key : (BitVec.ofInt 64 n &&& BitVec.ofInt 64 255).toNat = (n % ((2 ^ 64 : Nat) : Int)).toNat % 2 ^ 8 := by
    rw [BitVec.toNat_and, BitVec.toNat_ofInt, h127, Nat.and_two_pow_sub_one_eq_mod]
  show IntKind.i64.wrap ((BitVec.ofInt 64 n &&& BitVec.ofInt 64 255).toNat : Nat) = n % 256
  rw [key, IntKind.wrap_i64]
  omega
theorem and30 (n : Int) : bits .and .i64 n 1073741823 = n % 1073741824 := by
  have h127 : (BitVec.ofInt 64 1073741823).toNat = 2 ^ 30 - 1 := by decide
  have key : (BitVec.ofInt 64 n &&& BitVec.ofInt 64 1073741823).toNat = (n % ((2 ^ 64 : Nat) : Int)).toNat % 2 ^ 30 := by
    rw [BitVec.toNat_and, BitVec.toNat_ofInt, h127, Nat.and_two_pow_sub_one_eq_mod]
  show IntKind.i64.wrap ((BitVec.ofInt 64 n &&& BitVec.ofInt 64 1073741823).toNat : Nat) = n % 1073741824
  rw [key, IntKind.wrap_i64]
  omega

/-- The cursor lies at block g. -/
def Cur (w : World) (g : Nat) : Prop := ∃ (a : Option Addr) (len cap : Nat) (zs : List Int) (i : Nat) (h : Int), In w g a len zs ∧ i ≤ len ∧
  w.heap[g]? = some (.cells #[.slice a len cap, .int .i64 (i : Int), .int .i64 h] 59 (0, 0))

theorem Cur.kept {w w' : World} {g : Nat} (h : Cur w g) (hb : ∀ k, k ≤ g → w'.heap[k]? = w.heap[k]?) : Cur w' g := by
  obtain ⟨a, len, cap, zs, i, x, h1, h2, h3⟩ := h
  exact ⟨a, len, cap, zs, i, x, h1.kept (fun k hk => hb k (by omega)), h2, (hb g (Nat.le_refl _)).trans h3⟩

theorem Cur.lt {w : World} {g : Nat} (h : Cur w g) : g < w.heap.size := by
  obtain ⟨a, len, cap, zs, i, x, h1, h2, h3⟩ := h
  exact (Array.getElem?_eq_some_iff.1 h3).1

theorem mod_bd (t : Int) : 0 ≤ t % 256 ∧ t % 256 ≤ 255 := by omega

theorem put_h {w : World} {g : Nat} {a : Option Addr} {len cap i : Nat} {zs : List Int} {h : Int} (hi : i ≤ len) (HI : In w g a len zs)
    (HG : w.heap[g]? = some (.cells #[.slice a len cap, .int .i64 (i : Int), .int .i64 h] 59 (0, 0))) (h' : Int) (q r : Nat) :
    Cur (((w.setCell ⟨g, 2, none⟩ (.int .i64 h')).drewN q).drewN r) g ∧ w.grownBy (((w.setCell ⟨g, 2, none⟩ (.int .i64 h')).drewN q).drewN r) (some g) := by
  have e1 : (w.setCell ⟨g, 2, none⟩ (.int .i64 h')).heap[g]? = some (.cells #[.slice a len cap, .int .i64 (i : Int), .int .i64 h'] 59 (0, 0)) := heap_setCell_same w g 2 _ 59 _ HG
  have e2 : ∀ k, k ≠ g → (w.setCell ⟨g, 2, none⟩ (.int .i64 h')).heap[k]? = w.heap[k]? := fun k hk => heap_setCell_other w ⟨g, 2, none⟩ k _ hk
  exact ⟨⟨a, len, cap, zs, i, h', HI.kept (fun k hk => e2 k (by omega)), hi, e1⟩, ⟨rfl, rfl, rfl, by simp, fun k _ hk => e2 k (fun e => hk (by rw [e]))⟩⟩

theorem put_hi {w : World} {g : Nat} {a : Option Addr} {len cap i : Nat} {zs : List Int} {h : Int} (hi : i < len) (HI : In w g a len zs)
    (HG : w.heap[g]? = some (.cells #[.slice a len cap, .int .i64 (i : Int), .int .i64 h] 59 (0, 0))) (h' : Int) (q : Nat) :
    Cur (((w.setCell ⟨g, 2, none⟩ (.int .i64 h')).drewN q).setCell ⟨g, 1, none⟩ (.int .i64 ((i : Int) + 1))) g ∧ w.grownBy (((w.setCell ⟨g, 2, none⟩ (.int .i64 h')).drewN q).setCell ⟨g, 1, none⟩ (.int .i64 ((i : Int) + 1))) (some g) := by
  have e1 : (w.setCell ⟨g, 2, none⟩ (.int .i64 h')).heap[g]? = some (.cells #[.slice a len cap, .int .i64 (i : Int), .int .i64 h'] 59 (0, 0)) := heap_setCell_same w g 2 _ 59 _ HG
  have e2 : ∀ k, k ≠ g → (w.setCell ⟨g, 2, none⟩ (.int .i64 h')).heap[k]? = w.heap[k]? := fun k hk => heap_setCell_other w ⟨g, 2, none⟩ k _ hk
  have e3 : (((w.setCell ⟨g, 2, none⟩ (.int .i64 h')).drewN q).setCell ⟨g, 1, none⟩ (.int .i64 ((i : Int) + 1))).heap[g]? = some (.cells #[.slice a len cap, .int .i64 ((i : Int) + 1), .int .i64 h'] 59 (0, 0)) := heap_setCell_same _ g 1 _ 59 _ e1
  have e4 : ∀ k, k ≠ g → (((w.setCell ⟨g, 2, none⟩ (.int .i64 h')).drewN q).setCell ⟨g, 1, none⟩ (.int .i64 ((i : Int) + 1))).heap[k]? = w.heap[k]? := fun k hk => (heap_setCell_other _ ⟨g, 1, none⟩ k _ hk).trans (e2 k hk)
  exact ⟨⟨a, len, cap, zs, i + 1, h', HI.kept (fun k hk => e4 k (by omega)), by omega, e3⟩, ⟨rfl, rfl, rfl, by simp, fun k _ hk => e4 k (fun e => hk (by rw [e]))⟩⟩

set_option maxRecDepth 100000 in
set_option maxHeartbeats 1000000 in
theorem byteDraw (w : World) (g : Nat) (hc : Cur w g) :
    Calls Try.prog 32 #[.pointer (some ⟨g, 0, none⟩)] w fun e w' => ∃ x : Int, e = .returned (.int .i64 x) ∧ 0 ≤ x ∧ x ≤ 255 ∧ Cur w' g ∧ w.grownBy w' (some g) := by
  obtain ⟨a, len, cap, zs, i, h, hin, hi, hg⟩ := hc
  have c0 : w.cell? ⟨g, 0, none⟩ = some (.slice a len cap) := by rw [cell_of_row w g 0 _ 59 (0, 0) hg]; rfl
  have c1 : w.cell? ⟨g, 1, none⟩ = some (.int .i64 (i : Int)) := by rw [cell_of_row w g 1 _ 59 (0, 0) hg]; rfl
  have c2 : w.cell? ⟨g, 2, none⟩ = some (.int .i64 h) := by rw [cell_of_row w g 2 _ 59 (0, 0) hg]; rfl
  have f1 : w.frozen? ⟨g, 1, none⟩ = false := frozen_of_row w g 1 _ 59 hg
  have f2 : w.frozen? ⟨g, 2, none⟩ = false := frozen_of_row w g 2 _ 59 hg
  have hl := hin.2.1
  have h255 := and255
  by_cases hlt : i < len
  · obtain ⟨b, o, rfl, hbg, hcell⟩ := hin.2.2.2 (by omega)
    have hz := hcell i hlt
    have hzb := hin.2.2.1 i hlt
    have HI : Hid (In w g (some ⟨b, o, none⟩) len zs) := hin
    have HG : Hid (w.heap[g]? = some (.cells #[.slice (some ⟨b, o, none⟩) len cap, .int .i64 (i : Int), .int .i64 h] 59 (0, 0))) := hg
    clear hin hcell hg
    generalize hzz : zs.getD i 0 = z at *
    have HZ := hzz
    clear hzz HZ
    go_enter Try.func32, Try.ntmps32
    go_wp2
    go_quiet (fail)
    go_wp2
    go_quiet (fail)
    go_wp2
    go_quiet (fail)
    go_wp2
    go_ret
    have hend := put_hi hlt HI.out HG.out
    exact ⟨_, rfl, (mod_bd _).1, (mod_bd _).2, (hend _ _).1, (hend _ _).2⟩
  · have HI : Hid (In w g a len zs) := hin
    have HG : Hid (w.heap[g]? = some (.cells #[.slice a len cap, .int .i64 (i : Int), .int .i64 h] 59 (0, 0))) := hg
    clear hin hg
    go_enter Try.func32, Try.ntmps32
    go_wp2
    go_quiet (fail)
    go_wp2
    go_quiet (fail)
    go_wp2
    go_ret
    have hend := put_h hi HI.out HG.out
    exact ⟨_, rfl, (mod_bd _).1, (mod_bd _).2, (hend _ _ _).1, (hend _ _ _).2⟩

set_option maxRecDepth 100000 in
set_option maxHeartbeats 1000000 in
theorem belowDraw (w : World) (g : Nat) (n : Int) (hn : 0 < n) (hn' : n ≤ 1000000000) (hc : Cur w g) :
    Calls Try.prog 18 #[.pointer (some ⟨g, 0, none⟩), .int .i64 n] w fun e w' => ∃ x : Int, e = .returned (.int .i64 x) ∧ 0 ≤ x ∧ x < n ∧ Cur w' g ∧ w.grownBy w' (some g) := by
  by_cases hs : n ≤ 256
  · go_enter Try.func18, Try.ntmps18
    go_wp2_with fail
    refine (byteDraw _ _ hc).mono ?_
    rintro e w1 ⟨x, rfl, hx0, hx1, hc1, hg1⟩
    have HC : Hid (Cur w1 g) := hc1
    have HG : Hid (w.grownBy w1 (some g)) := hg1
    clear hc hc1 hg1
    go_wp2
    go_ret
    exact ⟨_, rfl, Int.emod_nonneg _ (by omega), Int.emod_lt_of_pos _ hn, HC.out, HG.out⟩
  · go_enter Try.func18, Try.ntmps18
    go_wp2_with fail
    refine (byteDraw _ _ hc).mono ?_
    rintro e w1 ⟨x, rfl, hx0, hx1, hc1, hg1⟩
    go_wp2_with fail
    refine (byteDraw _ _ hc1).mono ?_
    rintro e w2 ⟨y, rfl, hy0, hy1, hc2, hg2⟩
    go_wp2_with fail
    refine (byteDraw _ _ hc2).mono ?_
    rintro e w3 ⟨z, rfl, hz0, hz1, hc3, hg3⟩
    go_wp2_with fail
    refine (byteDraw _ _ hc3).mono ?_
    rintro e w4 ⟨u, rfl, hu0, hu1, hc4, hg4⟩
    have HC : Hid (Cur w4 g) := hc4
    have HG : Hid (w.grownBy w4 (some g)) := grownBy_trans (grownBy_trans (grownBy_trans hg1 hg2) hg3) hg4
    clear hc hc1 hc2 hc3 hc4 hg1 hg2 hg3 hg4
    go_wp2
    go_ret
    exact ⟨_, rfl, Int.emod_nonneg _ (by omega), Int.emod_lt_of_pos _ hn, HC.out, HG.out⟩

theorem onceDraw (w : World) (g : Nat) (n : Int) (hn : 0 < n) (hn' : n ≤ 1000000000) (hc : Cur w g) :
    Calls Try.prog 20 #[.pointer (some ⟨g, 0, none⟩), .int .i64 n] w fun e w' => ∃ x : Bool, e = .returned (.bool x) ∧ Cur w' g ∧ w.grownBy w' (some g) := by
  go_enter Try.func20, Try.ntmps20
  go_wp2_with fail
  refine (belowDraw _ _ _ hn hn' hc).mono ?_
  rintro e w1 ⟨x, rfl, hx0, hx1, hc1, hg1⟩
  have HC : Hid (Cur w1 g) := hc1
  have HG : Hid (w.grownBy w1 (some g)) := hg1
  clear hc hc1 hg1
  go_wp2
  go_ret
  exact ⟨_, rfl, HC.out, HG.out⟩

set_option maxRecDepth 100000 in
set_option maxHeartbeats 1000000 in
theorem pickDraw (w : World) (g l n : Nat) (zs : List Int) (hz : zs.length = n) (hn : 0 < n) (hn' : n ≤ 256) (hgl : g < l) (hc : Cur w g)
    (hl : w.heap[l]? = some (.cells (zs.map (Value.int .i64)).toArray 3 (0, 0))) :
    Calls Try.prog 31 #[.pointer (some ⟨g, 0, none⟩), .slice (some ⟨l, 0, none⟩) n n] w fun e w' => ∃ x : Int, e = .returned (.int .i64 x) ∧ x ∈ zs ∧ Cur w' g ∧ w.grownBy w' (some g) := by
  go_enter Try.func31, Try.ntmps31
  go_wp2_with fail
  refine (belowDraw _ _ _ (by omega) (by omega) hc).mono ?_
  rintro e w1 ⟨x, rfl, hx0, hx1, hc1, hg1⟩
  obtain ⟨k, rfl⟩ := Int.eq_ofNat_of_zero_le hx0
  have hk : k < n := by omega
  have hl1 : w1.heap[l]? = some (.cells (zs.map (Value.int .i64)).toArray 3 (0, 0)) := (hg1.block l (Array.getElem?_eq_some_iff.1 hl).1 (by simp; omega)).trans hl
  have hcell : w1.cell? ⟨l, k, none⟩ = some (.int .i64 (zs[k]'(by omega))) := by
    rw [cell_of_row w1 l k _ 3 (0, 0) hl1]; simp [hz, hk]
  have HC : Hid (Cur w1 g) := hc1
  have HG : Hid (w.grownBy w1 (some g)) := hg1
  have HM : Hid (zs[k]'(by omega) ∈ zs) := List.getElem_mem _
  clear hc hc1 hg1 hl hl1
  generalize zs[k]'(by omega) = y at *
  go_wp2
  go_ret
  exact ⟨_, rfl, HM.out, HC.out, HG.out⟩

theorem new_cur {w : World} {a : Option Addr} {len cap : Nat} {zs : List Int} (h : In w w.heap.size a len zs) (x : Int) :
    Cur (w.alloc (.cells #[.slice a len cap, .int .i64 0, .int .i64 x] 59)) w.heap.size :=
  ⟨a, len, cap, zs, 0, x, h.kept (fun k hk => Below.heap_alloc w _ k hk), Nat.zero_le _, heap_alloc_new w _⟩

set_option maxRecDepth 100000 in
set_option maxHeartbeats 1000000 in
theorem newDraw (w : World) (a : Option Addr) (len cap : Nat) (zs : List Int) (hin : In w w.heap.size a len zs) :
    Calls Try.prog 16 #[.slice a len cap] w fun e w' => e = .returned (.pointer (some ⟨w.heap.size, 0, none⟩)) ∧ Cur w' w.heap.size ∧ Below w.heap.size w w' := by
  have hl := hin.2.1
  have h30 := and30
  have hb := hin.2.2.1
  have hx := hin.2.2.2
  have HI : Hid (In w w.heap.size a len zs) := hin
  clear hin
  go_enter Try.func16, Try.ntmps16
  go_wp2
  go_loopw [3, 4] (fun h i wr => ∃ (k : Nat) (x : Int), k ≤ len ∧ 0 ≤ x ∧ x ≤ 1073741823 ∧ h = .int .i64 x ∧ i = .int .i64 (k : Int) ∧ wr = w) (fun _ i _ => len - (intOf i).toNat)
  case atStart => exact ⟨0, _, Nat.zero_le _, by omega, by omega, rfl, rfl, rfl⟩
  case round =>
    obtain ⟨k, x, hk, hx0, hx1, rfl, rfl, rfl⟩ := hrel
    by_cases hlt : k < len
    · by_cases h4 : (k : Int) < 4000
      · obtain ⟨b, o, rfl, hbg, hcell⟩ := hx (by omega)
        have hz := hcell k hlt
        have hzb := hb k hlt
        generalize zs.getD k 0 = z at *
        clear hcell hb
        go_wp2
        exact ⟨⟨k + 1, _, by omega, by omega, by omega, rfl, by go_num, trivial⟩, by simp [intOf]; omega⟩
      · clear hb hx
        go_wp2
        go_ret
        exact ⟨rfl, new_cur HI.out _, (Below.refl _ _).alloc (Nat.le_refl _) _⟩
    · clear hb hx
      go_wp2
      go_ret
      exact ⟨rfl, new_cur HI.out _, (Below.refl _ _).alloc (Nat.le_refl _) _⟩

/-- One thing that was drawn: some number of the list, and nothing old is turned. -/
theorem draw_below {w w1 w3 : World} {o : Obj} (b1 : Below w.heap.size w w1) (hg : (w1.alloc o).grownBy w3 (some w.heap.size)) : Below w.heap.size w w3 :=
  (b1.alloc b1.size o).grown hg (by have := b1.size; simp; omega) (fun k hk => by cases hk; exact Nat.le_refl _)

theorem Cur.alloc {w : World} {g : Nat} (h : Cur w g) (o : Obj) : Cur (w.alloc o) g :=
  h.kept (fun k hk => Below.heap_alloc w o k (by have := h.lt; omega))

end Go.Proofs.Ytbanifnfkabelaa
/-
  Rows whose elements take several cells each: what may be read of them, and what stays of them while other memory is made or written.
-/
namespace Go.Proofs.Ytbanifnfkabelaa
open Go.ChangeShapes Go.WideShapes Go.RowKit

/-- v is a slice of n elements of sz cells each; its cells are cs; they lie below block B. -/
def Rd (w : World) (B sz : Nat) (v : Value) (n : Nat) (cs : List Value) : Prop :=
  cs.length = n * sz ∧ ∃ a cap, v = .slice a n cap ∧ n ≤ cap ∧ (a = none → cap = 0) ∧
    (0 < n → ∃ b o, a = some ⟨b, o, none⟩ ∧ b < B ∧ ∀ i, i < n * sz → w.cell? ⟨b, o + i, none⟩ = cs[i]?)

theorem Rd.kept {w w' : World} {B sz n : Nat} {v : Value} {cs : List Value} (h : Rd w B sz v n cs) (hb : ∀ k, k < B → w'.heap[k]? = w.heap[k]?) : Rd w' B sz v n cs := by
  obtain ⟨h0, a, cap, h1, h2, h3, h4⟩ := h
  refine ⟨h0, a, cap, h1, h2, h3, fun hp => ?_⟩
  obtain ⟨b, o, ha, hbB, hc⟩ := h4 hp
  exact ⟨b, o, ha, hbB, fun i hi => (World.cell?_of_block (w := w) (hb b hbB)).trans (hc i hi)⟩
theorem Rd.up {w : World} {B B' sz n : Nat} {v : Value} {cs : List Value} (h : Rd w B sz v n cs) (hB : B ≤ B') : Rd w B' sz v n cs := by
  obtain ⟨h0, a, cap, h1, h2, h3, h4⟩ := h
  refine ⟨h0, a, cap, h1, h2, h3, fun hp => ?_⟩
  obtain ⟨b, o, ha, hbB, hc⟩ := h4 hp
  exact ⟨b, o, ha, Nat.lt_of_lt_of_le hbB hB, hc⟩
theorem Rd.at {w w' : World} {sz n : Nat} {v : Value} {cs : List Value} (h : Rd w w.heap.size sz v n cs) (hb : Below w.heap.size w w') : Rd w' w'.heap.size sz v n cs :=
  (h.kept hb.block).up hb.size
theorem Rd.low {w w' : World} {B sz n : Nat} {v : Value} {cs : List Value} (h : Rd w B sz v n cs) (hb : Below w.heap.size w w') (hB : B ≤ w.heap.size) : Rd w' B sz v n cs :=
  h.kept (fun k hk => hb.block k (by omega))
theorem Rd.drewN {w : World} {B sz n : Nat} {v : Value} {cs : List Value} (h : Rd w B sz v n cs) (q : Nat) : Rd (w.drewN q) B sz v n cs := h

/-- What one owns may be read. -/
theorem rd_own {w : World} {b e sz n B : Nat} {v : Value} {cs : List Value} (h : w.ownsRow b e sz v n cs) (hB : w.heap.size ≤ B) : Rd w B sz v n cs := by
  refine ⟨h.1, ?_⟩
  rcases h.2 with ⟨rfl, rfl⟩ | ⟨g, cap, cur, rfl, _, hg, hn, _⟩
  · exact ⟨none, 0, rfl, Nat.le_refl _, fun _ => rfl, fun hp => by omega⟩
  · refine ⟨some ⟨g, 0, none⟩, cap, rfl, hn, fun e => (by cases e), fun hp => ⟨g, 0, rfl, ?_, fun i hi => ?_⟩⟩
    · have := (Array.getElem?_eq_some_iff.1 hg).1; omega
    · rw [Nat.zero_add]; exact World.ownsRow.cellAt h i hi

/-- What lay there reads as before. -/
theorem bcell {W w1 : World} (hb : Below W.heap.size W w1) : (∀ b o, b < W.heap.size → w1.cell? ⟨b, o, none⟩ = W.cell? ⟨b, o, none⟩) ∧ (∀ b o, b < W.heap.size → w1.frozen? ⟨b, o, none⟩ = W.frozen? ⟨b, o, none⟩) :=
  ⟨fun b o h => hb.cell (p := ⟨b, o, none⟩) h, fun b o h => hb.frozen (p := ⟨b, o, none⟩) h⟩

theorem flat_len {α : Type} (f : α → List Value) (sz : Nat) (hf : ∀ x, (f x).length = sz) : ∀ (xs : List α), (xs.flatMap f).length = xs.length * sz
  | [] => by simp
  | x :: xs => by rw [List.flatMap_cons, List.length_append, hf, flat_len f sz hf xs, List.length_cons, Nat.succ_mul]; omega

theorem flat_get {α : Type} (f : α → List Value) (sz : Nat) (hf : ∀ x, (f x).length = sz) : ∀ (xs : List α) (d : α) (j r : Nat), j < xs.length → r < sz → (xs.flatMap f)[j * sz + r]? = (f (xs.getD j d))[r]?
  | [], d, j, r, hj, hr => by simp at hj
  | x :: xs, d, 0, r, hj, hr => by
    rw [List.flatMap_cons, List.getElem?_append_left (by rw [hf]; omega)]
    simp
  | x :: xs, d, j + 1, r, hj, hr => by
    rw [List.flatMap_cons, List.getElem?_append_right (by rw [hf, Nat.succ_mul]; omega), hf]
    rw [show (j + 1) * sz + r - sz = j * sz + r from by rw [Nat.succ_mul]; omega]
    rw [flat_get f sz hf xs d j r (by simpa using hj) hr]
    simp

/-- A slice that came in, its elements being what f makes of something. -/
theorem rd_open {H : Type} {enc : TypeId × Value → H} {P : Program} {W : World} {sp : Nat → Bool} {T E : TypeId} {sz : Nat} {α : Type} [Inhabited α] {f : α → List Value} {Q : α → Prop} {v : Value} {d : DataW H} {p : List MemPlace}
    (ht : P.underlying T = some (.slice E)) (hsz : P.cellsOf E = sz) (hpos : 0 < sz) (hf : ∀ x, (f x).length = sz)
    (hel : ∀ fuel cs x, DataW.trod enc P W 0 sp true fuel E cs = some x → ∃ y : α, cs = f y ∧ Q y) (h : ∃ fuel, DataW.trod enc P W 0 sp true fuel T [v] = some (d, p)) :
    ∃ ys : List α, Rd W W.heap.size sz v ys.length (ys.flatMap f) ∧ ys.length ≤ maxLen ∧ ∀ j, j < ys.length → Q (ys.getD j default) := by
  obtain ⟨fuel, h⟩ := h
  rcases Deep.open_slice ht h with ⟨hcs, _⟩ | ⟨a, len, cap, m, n, D, Pl, hcs, _, hl, hm, hmm, _, hx⟩
  · simp only [List.cons.injEq, and_true] at hcs
    exact ⟨[], ⟨by simp, none, 0, hcs, by simp, fun _ => rfl, fun hp => by simp at hp⟩, by simp, fun j hj => by simp at hj⟩
  · simp only [List.cons.injEq, and_true] at hcs
    subst hcs
    have hlm : len ≤ m := by rw [hmm]; split <;> omega
    obtain ⟨g, hg⟩ := Deep.choose_lt (α := α) (n := len) (p := fun i y => W.cells? 0 (a.add (i * sz)) sz = some (f y) ∧ Q y) (fun i hi => by
      obtain ⟨cs', h1, h2⟩ := hx i (by omega)
      obtain ⟨y, rfl, hq⟩ := hel _ _ _ h2
      rw [hsz] at h1
      exact ⟨y, h1, hq⟩)
    have hll : ((List.range len).map g).length = len := by simp
    have hgd : ∀ j, j < len → ((List.range len).map g).getD j default = g j := fun j hj => by simp [hj]
    refine ⟨(List.range len).map g, ⟨by rw [flat_len f sz hf], some a, cap, by rw [hll], by rw [hll]; exact hl, fun e => (by cases e), fun hp => ?_⟩, by rw [hll]; omega, fun j hj => ?_⟩
    · rw [hll] at hp ⊢
      obtain ⟨b, o, spot⟩ := a
      have hcell : ∀ j r, j < len → r < sz → W.cell? ((⟨b, o, spot⟩ : Addr).add (j * sz + r)) = (f (g j))[r]? := by
        intro j r hj hr
        obtain ⟨_, _, hc⟩ := World.cells?_some (hg j hj).1
        have := hc r hr
        rw [Deep.add_add] at this
        exact this
      have hc0 := hcell 0 0 hp hpos
      have hs0 : (f (g 0))[0]? = some ((f (g 0))[0]'(by rw [hf]; exact hpos)) := List.getElem?_eq_getElem _
      rw [hs0] at hc0
      have hspot : spot = none := by simpa [Addr.add] using World.cell?_spot hc0
      subst hspot
      refine ⟨b, o, rfl, ?_, fun i hi => ?_⟩
      · have := World.block_lt_of_cell? W _ hc0
        simpa [Addr.add] using this
      · have h1 : i / sz < len := Nat.div_lt_of_lt_mul (by rw [Nat.mul_comm]; exact hi)
        have h2 : i % sz < sz := Nat.mod_lt _ hpos
        have h3 : i / sz * sz + i % sz = i := by rw [Nat.mul_comm]; exact Nat.div_add_mod i sz
        have := hcell (i / sz) (i % sz) h1 h2
        rw [h3, Addr.add_lit] at this
        rw [this, ← hgd _ h1, ← flat_get f sz hf _ default _ _ (by rw [hll]; exact h1) h2, h3]
    · rw [hll] at hj
      rw [hgd j hj]
      exact (hg j hj).2
end Go.Proofs.Ytbanifnfkabelaa
