/-
  Joined: AtW, Cur.
-/
import Derived.Test.YtllghgcancennaaJ1
import Derived.Test.YtllghgcancennaaRows
import Derived.Deep.QuietTactic
import Derived.BigQuiet
/-
  What at and big answer.
-/
namespace Go.Proofs.Ytllghgcancennaa
open Go.RowKit

theorem bigNo (w : World) (a : Option Addr) (len cap : Nat) (h : (len : Int) ≤ 1048576) :
    Calls Try.prog 22 #[.slice a len cap] w fun e w' => e = .returned (.bool false) ∧ w' = w := by
  go_enter Try.func22, Try.ntmps22
  go_wp2
  go_ret
  exact ⟨ret_bool (by simp; omega), rfl⟩
theorem bigYes (w : World) (a : Option Addr) (len cap : Nat) (h : 1048576 < (len : Int)) :
    Calls Try.prog 22 #[.slice a len cap] w fun e w' => e = .returned (.bool true) ∧ w' = w := by
  go_enter Try.func22, Try.ntmps22
  go_wp2
  go_ret
  exact ⟨ret_bool (by simp), rfl⟩

/-- What at answers of the bytes. -/
def atF (zs : List Int) (i : Nat) : Int := if i < zs.length then zs.getD i 0 else ((i : Int) * 7 + zs.length) % 256

set_option maxRecDepth 100000 in
set_option maxHeartbeats 400000 in
theorem atB (w : World) (B : Nat) (a : Option Addr) (len cap : Nat) (zs : List Int) (i : Nat) (hi : i ≤ 1000000) (hin : In w B a len zs) :
    Calls Try.prog 23 #[.slice a len cap, .int .i64 (i : Int)] w fun e w' => e = .returned (.int .i64 (atF zs i)) ∧ w' = w := by
  have hl := hin.1
  have hm := hin.2.1
  by_cases hlt : i < len
  · obtain ⟨b, o, rfl, hb, hc⟩ := hin.2.2.2 (by omega)
    have hz := hc i hlt
    have hzb := hin.2.2.1 i hlt
    have HF : Hid (atF zs i = zs.getD i 0) := by show _ = _; unfold atF; rw [if_pos (by omega)]
    clear hin hc
    generalize zs.getD i 0 = z at *
    go_enter Try.func23, Try.ntmps23
    go_wp2
    go_ret
    exact ⟨ret_int HF.out.symm, rfl⟩
  · have HF : Hid (atF zs i = ((i : Int) * 7 + len) % 256) := by show _ = _; unfold atF; rw [if_neg (by omega), hl]
    clear hin
    go_enter Try.func23, Try.ntmps23
    go_wp2
    go_ret
    exact ⟨ret_int HF.out.symm, rfl⟩
theorem atF_bd (zs : List Int) (hz : Byt zs) (i : Nat) : 0 ≤ atF zs i ∧ atF zs i ≤ 255 := by
  unfold atF
  split
  · exact hz.at i (by omega)
  · omega
end Go.Proofs.Ytllghgcancennaa
/-
  The cursor over drawn bytes: what l1New, l1Byte, l1Below, l1Once and l1PickInt do.
-/
namespace Go.Proofs.Ytllghgcancennaa
open Go.RowKit

theorem and255 (n : Int) : bits .and .i64 n 255 = n % 256 := by
  have h127 : (BitVec.ofInt 64 255).toNat = 2 ^ 8 - 1 := by decide
  have key : (BitVec.ofInt 64 n &&& BitVec.ofInt 64 255).toNat = (n % ((2 ^ 64 : Nat) : Int)).toNat % 2 ^ 8 := by
    rw [BitVec.toNat_and, BitVec.toNat_ofInt, h127, Nat.and_two_pow_sub_one_eq_mod]
  show IntKind.i64.wrap ((BitVec.ofInt 64 n &&& BitVec.ofInt 64 255).toNat : Nat) = n % 256
  rw [key, IntKind.wrap_i64]
  omega
theorem and30 (n : Int) : bits .and .i64 n 1073741823 = n % 1073741824 := by
  have h127 : (BitVec.ofInt 64 1073741823).toNat = 2 ^ 30 - 1 := by decide
  have key : (BitVec.ofInt 64 n &&& BitVec.ofInt 64 1073741823).toNat = (n % ((2 ^ 64 : Nat) : Int)).toNat % 2 ^ 30 := by
    rw [BitVec.toNat_and, BitVec.toNat_ofInt, h127, Nat.and_two_pow_sub_one_eq_mod]
  show IntKind.i64.wrap ((BitVec.ofInt 64 n &&& BitVec.ofInt 64 1073741823).toNat : Nat) = n % 1073741824
  rw [key, IntKind.wrap_i64]
  omega

/-- The cursor lies at block g. -/
def Cur (w : World) (g : Nat) : Prop := ∃ (a : Option Addr) (len cap : Nat) (zs : List Int) (i : Nat) (h : Int), In w g a len zs ∧ i ≤ len ∧
  w.heap[g]? = some (.cells #[.slice a len cap, .int .i64 (i : Int), .int .i64 h] 93 (0, 0))

theorem Cur.kept {w w' : World} {g : Nat} (h : Cur w g) (hb : ∀ k, k ≤ g → w'.heap[k]? = w.heap[k]?) : Cur w' g := by
  obtain ⟨a, len, cap, zs, i, x, h1, h2, h3⟩ := h
  exact ⟨a, len, cap, zs, i, x, h1.kept (fun k hk => hb k (by omega)), h2, (hb g (Nat.le_refl _)).trans h3⟩

theorem Cur.lt {w : World} {g : Nat} (h : Cur w g) : g < w.heap.size := by
  obtain ⟨a, len, cap, zs, i, x, h1, h2, h3⟩ := h
  exact (Array.getElem?_eq_some_iff.1 h3).1

theorem mod_bd (t : Int) : 0 ≤ t % 256 ∧ t % 256 ≤ 255 := by omega

theorem put_h {w : World} {g : Nat} {a : Option Addr} {len cap i : Nat} {zs : List Int} {h : Int} (hi : i ≤ len) (HI : In w g a len zs)
    (HG : w.heap[g]? = some (.cells #[.slice a len cap, .int .i64 (i : Int), .int .i64 h] 93 (0, 0))) (h' : Int) (q r : Nat) :
    Cur (((w.setCell ⟨g, 2, none⟩ (.int .i64 h')).drewN q).drewN r) g ∧ w.grownBy (((w.setCell ⟨g, 2, none⟩ (.int .i64 h')).drewN q).drewN r) (some g) := by
  have e1 : (w.setCell ⟨g, 2, none⟩ (.int .i64 h')).heap[g]? = some (.cells #[.slice a len cap, .int .i64 (i : Int), .int .i64 h'] 93 (0, 0)) := heap_setCell_same w g 2 _ 93 _ HG
  have e2 : ∀ k, k ≠ g → (w.setCell ⟨g, 2, none⟩ (.int .i64 h')).heap[k]? = w.heap[k]? := fun k hk => heap_setCell_other w ⟨g, 2, none⟩ k _ hk
  exact ⟨⟨a, len, cap, zs, i, h', HI.kept (fun k hk => e2 k (by omega)), hi, e1⟩, ⟨rfl, rfl, rfl, by simp, fun k _ hk => e2 k (fun e => hk (by rw [e]))⟩⟩

theorem put_hi {w : World} {g : Nat} {a : Option Addr} {len cap i : Nat} {zs : List Int} {h : Int} (hi : i < len) (HI : In w g a len zs)
    (HG : w.heap[g]? = some (.cells #[.slice a len cap, .int .i64 (i : Int), .int .i64 h] 93 (0, 0))) (h' : Int) (q : Nat) :
    Cur (((w.setCell ⟨g, 2, none⟩ (.int .i64 h')).drewN q).setCell ⟨g, 1, none⟩ (.int .i64 ((i : Int) + 1))) g ∧ w.grownBy (((w.setCell ⟨g, 2, none⟩ (.int .i64 h')).drewN q).setCell ⟨g, 1, none⟩ (.int .i64 ((i : Int) + 1))) (some g) := by
  have e1 : (w.setCell ⟨g, 2, none⟩ (.int .i64 h')).heap[g]? = some (.cells #[.slice a len cap, .int .i64 (i : Int), .int .i64 h'] 93 (0, 0)) := heap_setCell_same w g 2 _ 93 _ HG
  have e2 : ∀ k, k ≠ g → (w.setCell ⟨g, 2, none⟩ (.int .i64 h')).heap[k]? = w.heap[k]? := fun k hk => heap_setCell_other w ⟨g, 2, none⟩ k _ hk
  have e3 : (((w.setCell ⟨g, 2, none⟩ (.int .i64 h')).drewN q).setCell ⟨g, 1, none⟩ (.int .i64 ((i : Int) + 1))).heap[g]? = some (.cells #[.slice a len cap, .int .i64 ((i : Int) + 1), .int .i64 h'] 93 (0, 0)) := heap_setCell_same _ g 1 _ 93 _ e1
  have e4 : ∀ k, k ≠ g → (((w.setCell ⟨g, 2, none⟩ (.int .i64 h')).drewN q).setCell ⟨g, 1, none⟩ (.int .i64 ((i : Int) + 1))).heap[k]? = w.heap[k]? := fun k hk => (heap_setCell_other _ ⟨g, 1, none⟩ k _ hk).trans (e2 k hk)
  exact ⟨⟨a, len, cap, zs, i + 1, h', HI.kept (fun k hk => e4 k (by omega)), by omega, e3⟩, ⟨rfl, rfl, rfl, by simp, fun k _ hk => e4 k (fun e => hk (by rw [e]))⟩⟩

set_option maxRecDepth 100000 in
set_option maxHeartbeats 1000000 in
theorem byteDraw (w : World) (g : Nat) (hc : Cur w g) :
    Calls Try.prog 72 #[.pointer (some ⟨g, 0, none⟩)] w fun e w' => ∃ x : Int, e = .returned (.int .i64 x) ∧ 0 ≤ x ∧ x ≤ 255 ∧ Cur w' g ∧ w.grownBy w' (some g) := by
  obtain ⟨a, len, cap, zs, i, h, hin, hi, hg⟩ := hc
  have c0 : w.cell? ⟨g, 0, none⟩ = some (.slice a len cap) := by rw [cell_of_row w g 0 _ 93 (0, 0) hg]; rfl
  have c1 : w.cell? ⟨g, 1, none⟩ = some (.int .i64 (i : Int)) := by rw [cell_of_row w g 1 _ 93 (0, 0) hg]; rfl
  have c2 : w.cell? ⟨g, 2, none⟩ = some (.int .i64 h) := by rw [cell_of_row w g 2 _ 93 (0, 0) hg]; rfl
  have f1 : w.frozen? ⟨g, 1, none⟩ = false := frozen_of_row w g 1 _ 93 hg
  have f2 : w.frozen? ⟨g, 2, none⟩ = false := frozen_of_row w g 2 _ 93 hg
  have hl := hin.2.1
  have h255 := and255
  by_cases hlt : i < len
  · obtain ⟨b, o, rfl, hbg, hcell⟩ := hin.2.2.2 (by omega)
    have hz := hcell i hlt
    have hzb := hin.2.2.1 i hlt
    have HI : Hid (In w g (some ⟨b, o, none⟩) len zs) := hin
    have HG : Hid (w.heap[g]? = some (.cells #[.slice (some ⟨b, o, none⟩) len cap, .int .i64 (i : Int), .int .i64 h] 93 (0, 0))) := hg
    clear hin hcell hg
    generalize hzz : zs.getD i 0 = z at *
    have HZ := hzz
    clear hzz HZ
    go_enter Try.func72, Try.ntmps72
    go_wp2
    go_quiet (fail)
    go_wp2
    go_quiet (fail)
    go_wp2
    go_quiet (fail)
    go_wp2
    go_ret
    have hend := put_hi hlt HI.out HG.out
    exact ⟨_, rfl, (mod_bd _).1, (mod_bd _).2, (hend _ _).1, (hend _ _).2⟩
  · have HI : Hid (In w g a len zs) := hin
    have HG : Hid (w.heap[g]? = some (.cells #[.slice a len cap, .int .i64 (i : Int), .int .i64 h] 93 (0, 0))) := hg
    clear hin hg
    go_enter Try.func72, Try.ntmps72
    go_wp2
    go_quiet (fail)
    go_wp2
    go_quiet (fail)
    go_wp2
    go_ret
    have hend := put_h hi HI.out HG.out
    exact ⟨_, rfl, (mod_bd _).1, (mod_bd _).2, (hend _ _ _).1, (hend _ _ _).2⟩

set_option maxRecDepth 100000 in
set_option maxHeartbeats 1000000 in
theorem belowDraw (w : World) (g : Nat) (n : Int) (hn : 0 < n) (hn' : n ≤ 1000000000) (hc : Cur w g) :
    Calls Try.prog 56 #[.pointer (some ⟨g, 0, none⟩), .int .i64 n] w fun e w' => ∃ x : Int, e = .returned (.int .i64 x) ∧ 0 ≤ x ∧ x < n ∧ Cur w' g ∧ w.grownBy w' (some g) := by
  by_cases hs : n ≤ 256
  · go_enter Try.func56, Try.ntmps56
    go_wp2_with fail
    refine (byteDraw _ _ hc).mono ?_
    rintro e w1 ⟨x, rfl, hx0, hx1, hc1, hg1⟩
    have HC : Hid (Cur w1 g) := hc1
    have HG : Hid (w.grownBy w1 (some g)) := hg1
    clear hc hc1 hg1
    go_wp2
    go_ret
    exact ⟨_, rfl, Int.emod_nonneg _ (by omega), Int.emod_lt_of_pos _ hn, HC.out, HG.out⟩
  · go_enter Try.func56, Try.ntmps56
    go_wp2_with fail
    refine (byteDraw _ _ hc).mono ?_
    rintro e w1 ⟨x, rfl, hx0, hx1, hc1, hg1⟩
    go_wp2_with fail
    refine (byteDraw _ _ hc1).mono ?_
    rintro e w2 ⟨y, rfl, hy0, hy1, hc2, hg2⟩
    go_wp2_with fail
    refine (byteDraw _ _ hc2).mono ?_
    rintro e w3 ⟨z, rfl, hz0, hz1, hc3, hg3⟩
    go_wp2_with fail
    refine (byteDraw _ _ hc3).mono ?_
    rintro e w4 ⟨u, rfl, hu0, hu1, hc4, hg4⟩
    have HC : Hid (Cur w4 g) := hc4
    have HG : Hid (w.grownBy w4 (some g)) := grownBy_trans (grownBy_trans (grownBy_trans hg1 hg2) hg3) hg4
    clear hc hc1 hc2 hc3 hc4 hg1 hg2 hg3 hg4
    go_wp2
    go_ret
    exact ⟨_, rfl, Int.emod_nonneg _ (by omega), Int.emod_lt_of_pos _ hn, HC.out, HG.out⟩

theorem onceDraw (w : World) (g : Nat) (n : Int) (hn : 0 < n) (hn' : n ≤ 1000000000) (hc : Cur w g) :
    Calls Try.prog 57 #[.pointer (some ⟨g, 0, none⟩), .int .i64 n] w fun e w' => ∃ x : Bool, e = .returned (.bool x) ∧ Cur w' g ∧ w.grownBy w' (some g) := by
  go_enter Try.func57, Try.ntmps57
  go_wp2_with fail
  refine (belowDraw _ _ _ hn hn' hc).mono ?_
  rintro e w1 ⟨x, rfl, hx0, hx1, hc1, hg1⟩
  have HC : Hid (Cur w1 g) := hc1
  have HG : Hid (w.grownBy w1 (some g)) := hg1
  clear hc hc1 hg1
  go_wp2
  go_ret
  exact ⟨_, rfl, HC.out, HG.out⟩

set_option maxRecDepth 100000 in
set_option maxHeartbeats 1000000 in
theorem pickDraw (w : World) (g l n : Nat) (zs : List Int) (hz : zs.length = n) (hn : 0 < n) (hn' : n ≤ 256) (hgl : g < l) (hc : Cur w g)
    (hl : w.heap[l]? = some (.cells (zs.map (Value.int .i64)).toArray 3 (0, 0))) :
    Calls Try.prog 68 #[.pointer (some ⟨g, 0, none⟩), .slice (some ⟨l, 0, none⟩) n n] w fun e w' => ∃ x : Int, e = .returned (.int .i64 x) ∧ x ∈ zs ∧ Cur w' g ∧ w.grownBy w' (some g) := by
  go_enter Try.func68, Try.ntmps68
  go_wp2_with fail
  refine (belowDraw _ _ _ (by omega) (by omega) hc).mono ?_
  rintro e w1 ⟨x, rfl, hx0, hx1, hc1, hg1⟩
  obtain ⟨k, rfl⟩ := Int.eq_ofNat_of_zero_le hx0
  have hk : k < n := by omega
  have hl1 : w1.heap[l]? = some (.cells (zs.map (Value.int .i64)).toArray 3 (0, 0)) := (hg1.block l (Array.getElem?_eq_some_iff.1 hl).1 (by simp; omega)).trans hl
  have hcell : w1.cell? ⟨l, k, none⟩ = some (.int .i64 (zs[k]'(by omega))) := by
    rw [cell_of_row w1 l k _ 3 (0, 0) hl1]; simp [hz, hk]
  have HC : Hid (Cur w1 g) := hc1
  have HG : Hid (w.grownBy w1 (some g)) := hg1
  have HM : Hid (zs[k]'(by omega) ∈ zs) := List.getElem_mem _
  clear hc hc1 hg1 hl hl1
  generalize zs[k]'(by omega) = y at *
  go_wp2
  go_ret
  exact ⟨_, rfl, HM.out, HC.out, HG.out⟩

theorem new_cur {w : World} {a : Option Addr} {len cap : Nat} {zs : List Int} (h : In w w.heap.size a len zs) (x : Int) :
    Cur (w.alloc (.cells #[.slice a len cap, .int .i64 0, .int .i64 x] 93)) w.heap.size :=
  ⟨a, len, cap, zs, 0, x, h.kept (fun k hk => Below.heap_alloc w _ k hk), Nat.zero_le _, heap_alloc_new w _⟩

set_option maxRecDepth 100000 in
set_option maxHeartbeats 1000000 in
theorem newDraw (w : World) (a : Option Addr) (len cap : Nat) (zs : List Int) (hin : In w w.heap.size a len zs) :
    Calls Try.prog 49 #[.slice a len cap] w fun e w' => e = .returned (.pointer (some ⟨w.heap.size, 0, none⟩)) ∧ Cur w' w.heap.size ∧ Below w.heap.size w w' := by
  have hl := hin.2.1
  have h30 := and30
  have hb := hin.2.2.1
  have hx := hin.2.2.2
  have HI : Hid (In w w.heap.size a len zs) := hin
  clear hin
  go_enter Try.func49, Try.ntmps49
  go_wp2
  go_loopw [3, 4] (fun h i wr => ∃ (k : Nat) (x : Int), k ≤ len ∧ 0 ≤ x ∧ x ≤ 1073741823 ∧ h = .int .i64 x ∧ i = .int .i64 (k : Int) ∧ wr = w) (fun _ i _ => len - (intOf i).toNat)
  case atStart => exact ⟨0, _, Nat.zero_le _, by omega, by omega, rfl, rfl, rfl⟩
  case round =>
    obtain ⟨k, x, hk, hx0, hx1, rfl, rfl, rfl⟩ := hrel
    by_cases hlt : k < len
    · by_cases h4 : (k : Int) < 4000
      · obtain ⟨b, o, rfl, hbg, hcell⟩ := hx (by omega)
        have hz := hcell k hlt
        have hzb := hb k hlt
        generalize zs.getD k 0 = z at *
        clear hcell hb
        go_wp2
        exact ⟨⟨k + 1, _, by omega, by omega, by omega, rfl, by go_num, trivial⟩, by simp [intOf]; omega⟩
      · clear hb hx
        go_wp2
        go_ret
        exact ⟨rfl, new_cur HI.out _, (Below.refl _ _).alloc (Nat.le_refl _) _⟩
    · clear hb hx
      go_wp2
      go_ret
      exact ⟨rfl, new_cur HI.out _, (Below.refl _ _).alloc (Nat.le_refl _) _⟩

/-- One thing that was drawn: some number of the list, and nothing old is turned. -/
theorem draw_below {w w1 w3 : World} {o : Obj} (b1 : Below w.heap.size w w1) (hg : (w1.alloc o).grownBy w3 (some w.heap.size)) : Below w.heap.size w w3 :=
  (b1.alloc b1.size o).grown hg (by have := b1.size; simp; omega) (fun k hk => by cases hk; exact Nat.le_refl _)

theorem Cur.alloc {w : World} {g : Nat} (h : Cur w g) (o : Obj) : Cur (w.alloc o) g :=
  h.kept (fun k hk => Below.heap_alloc w o k (by have := h.lt; omega))

end Go.Proofs.Ytllghgcancennaa
