/-
  The cursor over drawn bytes, exactly: what l1New, l1Byte, l1Below, l1Once and l1PickInt answer is told by the bytes and by where the cursor stands.
-/
import Derived.Test.YtabeeppfgkeahaaRows
import Derived.Test.YtabeeppfgkeahaaBytes
import Derived.Deep.QuietTactic
import Derived.BigQuiet
namespace Go.Proofs.Ytabeeppfgkeahaa
open Go.RowKit

theorem and255 (n : Int) : bits .and .i64 n 255 = n % 256 := by
  have h127 : (BitVec.ofInt 64 255).toNat = 2 ^ 8 - 1 := by decide
  have key : (BitVec.ofInt 64 n &&& BitVec.ofInt 64 255).toNat = (n % ((2 ^ 64 : Nat) : Int)).toNat % 2 ^ 8 := by
    rw [BitVec.toNat_and, BitVec.toNat_ofInt, h127, Nat.and_two_pow_sub_one_eq_mod]
  show IntKind.i64.wrap ((BitVec.ofInt 64 n &&& BitVec.ofInt 64 255).toNat : Nat) = n % 256
  rw [key, IntKind.wrap_i64]
  omega
theorem and30 (n : Int) : bits .and .i64 n 1073741823 = n % 1073741824 := by
  have h127 : (BitVec.ofInt 64 1073741823).toNat = 2 ^ 30 - 1 := by decide
  have key : (BitVec.ofInt 64 n &&& BitVec.ofInt 64 1073741823).toNat = (n % ((2 ^ 64 : Nat) : Int)).toNat % 2 ^ 30 := by
    rw [BitVec.toNat_and, BitVec.toNat_ofInt, h127, Nat.and_two_pow_sub_one_eq_mod]
  show IntKind.i64.wrap ((BitVec.ofInt 64 n &&& BitVec.ofInt 64 1073741823).toNat : Nat) = n % 1073741824
  rw [key, IntKind.wrap_i64]
  omega

theorem mod_bd (t : Int) : 0 ≤ t % 256 ∧ t % 256 ≤ 255 := by omega

/-- How the cursor's number goes on; the byte that is in it. -/
def nh (h : Int) : Int := wrap64 (wrap64 (h * 6364136223846793005) + 1442695040888963407)
def mx (h : Int) : Int := bits .xor .i64 (h / 8589934592) (h / 35184372088832)
/-- What is drawn of the bytes by a cursor that stands at s, and where it stands then. -/
def byteF (zs : List Int) (s : Nat × Int) : Int × (Nat × Int) :=
  if s.1 < zs.length then ((mx (nh s.2) + zs.getD s.1 0) % 256, (s.1 + 1, nh s.2)) else (mx (nh s.2) % 256, (s.1, nh s.2))
def belowF (zs : List Int) (s : Nat × Int) (n : Int) : Int × (Nat × Int) :=
  if n ≤ 256 then ((byteF zs s).1 % n, (byteF zs s).2)
  else
    let a := byteF zs s
    let b := byteF zs a.2
    let c := byteF zs b.2
    let d := byteF zs c.2
    ((a.1 * 16777216 + b.1 * 65536 + c.1 * 256 + d.1) % n, d.2)
def onceF (zs : List Int) (s : Nat × Int) (n : Int) : Bool × (Nat × Int) := ((belowF zs s n).1 == 0, (belowF zs s n).2)
def pickF (zs : List Int) (s : Nat × Int) (l : List Int) : Int × (Nat × Int) := (l.getD (belowF zs s l.length).1.toNat 0, (belowF zs s l.length).2)
def hashF (zs : List Int) (h : Int) : Int := zs.foldl (fun h z => (h * 131 + z + 7) % 1073741824) h
/-- Where a new cursor stands. -/
def newF (zs : List Int) : Nat × Int := (0, hashF (zs.take 4000) (20478 + zs.length))

theorem byteF_bd (zs : List Int) (s : Nat × Int) : 0 ≤ (byteF zs s).1 ∧ (byteF zs s).1 ≤ 255 := by
  unfold byteF
  split
  · exact mod_bd _
  · exact mod_bd _
theorem belowF_bd (zs : List Int) (s : Nat × Int) (n : Int) (hn : 0 < n) : 0 ≤ (belowF zs s n).1 ∧ (belowF zs s n).1 < n := by
  unfold belowF
  split
  · exact ⟨Int.emod_nonneg _ (by omega), Int.emod_lt_of_pos _ hn⟩
  · exact ⟨Int.emod_nonneg _ (by omega), Int.emod_lt_of_pos _ hn⟩
theorem pickF_mem (zs : List Int) (s : Nat × Int) (l : List Int) (hl : 0 < l.length) : (pickF zs s l).1 ∈ l := by
  have h := belowF_bd zs s l.length (by omega)
  have hk : (belowF zs s l.length).1.toNat < l.length := by omega
  unfold pickF
  simp [hk]

/-- The cursor lies at block g, over these bytes, and stands at s. -/
def Cur (w : World) (g : Nat) (zs : List Int) (s : Nat × Int) : Prop := ∃ (a : Option Addr) (len cap : Nat), In w g a len zs ∧ s.1 ≤ len ∧
  w.heap[g]? = some (.cells #[.slice a len cap, .int .i64 (s.1 : Int), .int .i64 s.2] 74 (0, 0))

theorem Cur.kept {w w' : World} {g : Nat} {zs : List Int} {s : Nat × Int} (h : Cur w g zs s) (hb : ∀ k, k ≤ g → w'.heap[k]? = w.heap[k]?) : Cur w' g zs s := by
  obtain ⟨a, len, cap, h1, h2, h3⟩ := h
  exact ⟨a, len, cap, h1.kept (fun k hk => hb k (by omega)), h2, (hb g (Nat.le_refl _)).trans h3⟩

theorem Cur.lt {w : World} {g : Nat} {zs : List Int} {s : Nat × Int} (h : Cur w g zs s) : g < w.heap.size := by
  obtain ⟨a, len, cap, h1, h2, h3⟩ := h
  exact (Array.getElem?_eq_some_iff.1 h3).1

theorem Cur.alloc {w : World} {g : Nat} {zs : List Int} {s : Nat × Int} (h : Cur w g zs s) (o : Obj) : Cur (w.alloc o) g zs s :=
  h.kept (fun k hk => Below.heap_alloc w o k (by have := h.lt; omega))

theorem Cur.row {w w' : World} {g : Nat} {zs : List Int} {s : Nat × Int} {row : Option Nat} (h : Cur w g zs s) (hg : w.grownBy w' row) (hr : ∀ k, row = some k → g < k) : Cur w' g zs s :=
  h.kept (fun k hk => hg.block k (by have := h.lt; omega) (fun e => by have := hr k e.symm; omega))

theorem put_h {w : World} {g : Nat} {a : Option Addr} {len cap i : Nat} {zs : List Int} {h : Int} (hi : i ≤ len) (HI : In w g a len zs)
    (HG : w.heap[g]? = some (.cells #[.slice a len cap, .int .i64 (i : Int), .int .i64 h] 74 (0, 0))) (h' : Int) (q r : Nat) :
    Cur (((w.setCell ⟨g, 2, none⟩ (.int .i64 h')).drewN q).drewN r) g zs (i, h') ∧ w.grownBy (((w.setCell ⟨g, 2, none⟩ (.int .i64 h')).drewN q).drewN r) (some g) := by
  have e1 : (w.setCell ⟨g, 2, none⟩ (.int .i64 h')).heap[g]? = some (.cells #[.slice a len cap, .int .i64 (i : Int), .int .i64 h'] 74 (0, 0)) := heap_setCell_same w g 2 _ 74 _ HG
  have e2 : ∀ k, k ≠ g → (w.setCell ⟨g, 2, none⟩ (.int .i64 h')).heap[k]? = w.heap[k]? := fun k hk => heap_setCell_other w ⟨g, 2, none⟩ k _ hk
  exact ⟨⟨a, len, cap, HI.kept (fun k hk => e2 k (by omega)), hi, e1⟩, ⟨rfl, rfl, rfl, by simp, fun k _ hk => e2 k (fun e => hk (by rw [e]))⟩⟩

theorem put_hi {w : World} {g : Nat} {a : Option Addr} {len cap i : Nat} {zs : List Int} {h : Int} (hi : i < len) (HI : In w g a len zs)
    (HG : w.heap[g]? = some (.cells #[.slice a len cap, .int .i64 (i : Int), .int .i64 h] 74 (0, 0))) (h' : Int) (q : Nat) :
    Cur (((w.setCell ⟨g, 2, none⟩ (.int .i64 h')).drewN q).setCell ⟨g, 1, none⟩ (.int .i64 ((i : Int) + 1))) g zs (i + 1, h') ∧ w.grownBy (((w.setCell ⟨g, 2, none⟩ (.int .i64 h')).drewN q).setCell ⟨g, 1, none⟩ (.int .i64 ((i : Int) + 1))) (some g) := by
  have e1 : (w.setCell ⟨g, 2, none⟩ (.int .i64 h')).heap[g]? = some (.cells #[.slice a len cap, .int .i64 (i : Int), .int .i64 h'] 74 (0, 0)) := heap_setCell_same w g 2 _ 74 _ HG
  have e2 : ∀ k, k ≠ g → (w.setCell ⟨g, 2, none⟩ (.int .i64 h')).heap[k]? = w.heap[k]? := fun k hk => heap_setCell_other w ⟨g, 2, none⟩ k _ hk
  have e3 : (((w.setCell ⟨g, 2, none⟩ (.int .i64 h')).drewN q).setCell ⟨g, 1, none⟩ (.int .i64 ((i : Int) + 1))).heap[g]? = some (.cells #[.slice a len cap, .int .i64 ((i : Int) + 1), .int .i64 h'] 74 (0, 0)) := heap_setCell_same _ g 1 _ 74 _ e1
  have e4 : ∀ k, k ≠ g → (((w.setCell ⟨g, 2, none⟩ (.int .i64 h')).drewN q).setCell ⟨g, 1, none⟩ (.int .i64 ((i : Int) + 1))).heap[k]? = w.heap[k]? := fun k hk => (heap_setCell_other _ ⟨g, 1, none⟩ k _ hk).trans (e2 k hk)
  exact ⟨⟨a, len, cap, HI.kept (fun k hk => e4 k (by omega)), by simp; omega, e3⟩, ⟨rfl, rfl, rfl, by simp, fun k _ hk => e4 k (fun e => hk (by rw [e]))⟩⟩

set_option maxRecDepth 100000 in
set_option maxHeartbeats 1000000 in
theorem byteDraw (w : World) (g : Nat) (zs : List Int) (s : Nat × Int) (hc : Cur w g zs s) :
    Calls Try.prog 50 #[.pointer (some ⟨g, 0, none⟩)] w fun e w' => e = .returned (.int .i64 (byteF zs s).1) ∧ Cur w' g zs (byteF zs s).2 ∧ w.grownBy w' (some g) := by
  obtain ⟨i, h⟩ := s
  obtain ⟨a, len, cap, hin, hi, hg⟩ := hc
  simp only at hi hg
  have c0 : w.cell? ⟨g, 0, none⟩ = some (.slice a len cap) := by rw [cell_of_row w g 0 _ 74 (0, 0) hg]; rfl
  have c1 : w.cell? ⟨g, 1, none⟩ = some (.int .i64 (i : Int)) := by rw [cell_of_row w g 1 _ 74 (0, 0) hg]; rfl
  have c2 : w.cell? ⟨g, 2, none⟩ = some (.int .i64 h) := by rw [cell_of_row w g 2 _ 74 (0, 0) hg]; rfl
  have f1 : w.frozen? ⟨g, 1, none⟩ = false := frozen_of_row w g 1 _ 74 hg
  have f2 : w.frozen? ⟨g, 2, none⟩ = false := frozen_of_row w g 2 _ 74 hg
  have hl := hin.2.1
  have hle := hin.1
  have h255 := and255
  by_cases hlt : i < len
  · obtain ⟨b, o, rfl, hbg, hcell⟩ := hin.2.2.2 (by omega)
    have hz := hcell i hlt
    have hzb := hin.2.2.1 i hlt
    have HF : Hid (byteF zs (i, h) = ((mx (nh h) + zs.getD i 0) % 256, (i + 1, nh h))) := by
      show _ = _
      unfold byteF
      rw [if_pos (by simp only; omega)]
    have HI : Hid (In w g (some ⟨b, o, none⟩) len zs) := hin
    have HG : Hid (w.heap[g]? = some (.cells #[.slice (some ⟨b, o, none⟩) len cap, .int .i64 (i : Int), .int .i64 h] 74 (0, 0))) := hg
    clear hin hcell hg
    rw [HF.out]
    generalize hzz : zs.getD i 0 = z at *
    have HZ := hzz
    clear hzz HZ
    go_enter Try.func50, Try.ntmps50
    go_wp2
    go_quiet (fail)
    go_wp2
    go_quiet (fail)
    go_wp2
    go_quiet (fail)
    go_wp2
    go_ret
    have hend := put_hi hlt HI.out HG.out
    exact ⟨rfl, (hend _ _).1, (hend _ _).2⟩
  · have HF : Hid (byteF zs (i, h) = (mx (nh h) % 256, (i, nh h))) := by
      show _ = _
      unfold byteF
      rw [if_neg (by simp only; omega)]
    have HI : Hid (In w g a len zs) := hin
    have HG : Hid (w.heap[g]? = some (.cells #[.slice a len cap, .int .i64 (i : Int), .int .i64 h] 74 (0, 0))) := hg
    clear hin hg
    rw [HF.out]
    go_enter Try.func50, Try.ntmps50
    go_wp2
    go_quiet (fail)
    go_wp2
    go_quiet (fail)
    go_wp2
    go_ret
    have hend := put_h hi HI.out HG.out
    exact ⟨rfl, (hend _ _ _).1, (hend _ _ _).2⟩

set_option maxRecDepth 100000 in
set_option maxHeartbeats 1000000 in
theorem belowDraw (w : World) (g : Nat) (zs : List Int) (s : Nat × Int) (n : Int) (hn : 0 < n) (hn' : n ≤ 1000000000) (hc : Cur w g zs s) :
    Calls Try.prog 45 #[.pointer (some ⟨g, 0, none⟩), .int .i64 n] w fun e w' => e = .returned (.int .i64 (belowF zs s n).1) ∧ Cur w' g zs (belowF zs s n).2 ∧ w.grownBy w' (some g) := by
  by_cases hs : n ≤ 256
  · have HF : Hid (belowF zs s n = ((byteF zs s).1 % n, (byteF zs s).2)) := by show _ = _; unfold belowF; rw [if_pos hs]
    rw [HF.out]
    have hx := byteF_bd zs s
    go_enter Try.func45, Try.ntmps45
    go_wp2_with fail
    refine (byteDraw _ _ _ _ hc).mono ?_
    rintro e w1 ⟨rfl, hc1, hg1⟩
    have HC := hide hc1
    have HG := hide hg1
    clear hc hc1 hg1
    go_wp2
    go_ret
    exact ⟨rfl, HC.out, HG.out⟩
  · have HF : Hid (belowF zs s n = (((byteF zs s).1 * 16777216 + (byteF zs (byteF zs s).2).1 * 65536 + (byteF zs (byteF zs (byteF zs s).2).2).1 * 256 + (byteF zs (byteF zs (byteF zs (byteF zs s).2).2).2).1) % n, (byteF zs (byteF zs (byteF zs (byteF zs s).2).2).2).2)) := by show _ = _; unfold belowF; rw [if_neg hs]
    rw [HF.out]
    have hx := byteF_bd zs s
    have hy := byteF_bd zs (byteF zs s).2
    have hz := byteF_bd zs (byteF zs (byteF zs s).2).2
    have hu := byteF_bd zs (byteF zs (byteF zs (byteF zs s).2).2).2
    go_enter Try.func45, Try.ntmps45
    go_wp2_with fail
    refine (byteDraw _ _ _ _ hc).mono ?_
    rintro e w1 ⟨rfl, hc1, hg1⟩
    go_wp2_with fail
    refine (byteDraw _ _ _ _ hc1).mono ?_
    rintro e w2 ⟨rfl, hc2, hg2⟩
    go_wp2_with fail
    refine (byteDraw _ _ _ _ hc2).mono ?_
    rintro e w3 ⟨rfl, hc3, hg3⟩
    go_wp2_with fail
    refine (byteDraw _ _ _ _ hc3).mono ?_
    rintro e w4 ⟨rfl, hc4, hg4⟩
    have HC := hide hc4
    have HG := hide (grownBy_trans (grownBy_trans (grownBy_trans hg1 hg2) hg3) hg4)
    clear hc hc1 hc2 hc3 hc4 hg1 hg2 hg3 hg4
    go_wp2
    go_ret
    exact ⟨rfl, HC.out, HG.out⟩

theorem onceDraw (w : World) (g : Nat) (zs : List Int) (s : Nat × Int) (n : Int) (hn : 0 < n) (hn' : n ≤ 1000000000) (hc : Cur w g zs s) :
    Calls Try.prog 46 #[.pointer (some ⟨g, 0, none⟩), .int .i64 n] w fun e w' => e = .returned (.bool (onceF zs s n).1) ∧ Cur w' g zs (onceF zs s n).2 ∧ w.grownBy w' (some g) := by
  go_enter Try.func46, Try.ntmps46
  go_wp2_with fail
  refine (belowDraw _ _ _ _ _ hn hn' hc).mono ?_
  rintro e w1 ⟨rfl, hc1, hg1⟩
  have HC := hide hc1
  have HG := hide hg1
  clear hc hc1 hg1
  go_wp2
  go_ret
  exact ⟨rfl, HC.out, HG.out⟩

set_option maxRecDepth 100000 in
set_option maxHeartbeats 1000000 in
theorem pickDraw (w : World) (g l n : Nat) (zs : List Int) (s : Nat × Int) (ls : List Int) (hz : ls.length = n) (hn : 0 < n) (hn' : n ≤ 256) (hgl : g < l) (hc : Cur w g zs s)
    (hl : w.heap[l]? = some (.cells (ls.map (Value.int .i64)).toArray 3 (0, 0))) :
    Calls Try.prog 49 #[.pointer (some ⟨g, 0, none⟩), .slice (some ⟨l, 0, none⟩) n n] w fun e w' => e = .returned (.int .i64 (pickF zs s ls).1) ∧ Cur w' g zs (pickF zs s ls).2 ∧ w.grownBy w' (some g) := by
  subst hz
  have hb := belowF_bd zs s ls.length (by omega)
  unfold pickF
  simp only
  go_enter Try.func49, Try.ntmps49
  go_wp2_with fail
  refine (belowDraw _ _ _ _ _ (by omega) (by omega) hc).mono ?_
  rintro e w1 ⟨rfl, hc1, hg1⟩
  obtain ⟨k, hk⟩ := Int.eq_ofNat_of_zero_le hb.1
  have HC := hide hc1
  clear hc1
  have HP : Hid (ls.getD (belowF zs s ls.length).1.toNat 0 = ls.getD k 0) := by show _ = _; rw [hk]; rfl
  rw [hk] at hb ⊢
  have hlt : k < ls.length := by omega
  have hl1 : w1.heap[l]? = some (.cells (ls.map (Value.int .i64)).toArray 3 (0, 0)) := (hg1.block l (Array.getElem?_eq_some_iff.1 hl).1 (by simp; omega)).trans hl
  have hcell : w1.cell? ⟨l, k, none⟩ = some (.int .i64 (ls.getD k 0)) := by
    rw [cell_of_row w1 l k _ 3 (0, 0) hl1]; simp [hlt]
  have HG := hide hg1
  clear hc hg1 hl hl1 hk
  generalize ls.getD k 0 = y at *
  go_wp2
  go_ret
  exact ⟨ret_int HP.out.symm, HC.out, HG.out⟩

theorem new_cur {w : World} {a : Option Addr} {len cap : Nat} {zs : List Int} (h : In w w.heap.size a len zs) (x : Int) :
    Cur (w.alloc (.cells #[.slice a len cap, .int .i64 0, .int .i64 x] 74)) w.heap.size zs (0, x) :=
  ⟨a, len, cap, h.kept (fun k hk => Below.heap_alloc w _ k hk), Nat.zero_le _, heap_alloc_new w _⟩

theorem hash_take (zs : List Int) (h : Int) (k : Nat) (hk : k < zs.length) : hashF (zs.take (k + 1)) h = (hashF (zs.take k) h * 131 + zs.getD k 0 + 7) % 1073741824 := by
  unfold hashF
  rw [List.take_succ_eq_append_getElem hk, List.foldl_append]
  simp [hk]

set_option maxRecDepth 100000 in
set_option maxHeartbeats 1000000 in
theorem newDraw (w : World) (a : Option Addr) (len cap : Nat) (zs : List Int) (hin : In w w.heap.size a len zs) :
    Calls Try.prog 40 #[.slice a len cap] w fun e w' => e = .returned (.pointer (some ⟨w.heap.size, 0, none⟩)) ∧ Cur w' w.heap.size zs (newF zs) ∧ Below w.heap.size w w' := by
  have hle := hin.1
  have hl := hin.2.1
  have h30 := and30
  have hb := hin.2.2.1
  have hx := hin.2.2.2
  have HI : Hid (In w w.heap.size a len zs) := hin
  clear hin
  go_enter Try.func40, Try.ntmps40
  go_wp2
  go_loopw [3, 4] (fun h i wr => ∃ (k : Nat) (x : Int), k ≤ len ∧ k ≤ 4000 ∧ 0 ≤ x ∧ x ≤ 1073741823 ∧ Hid (x = hashF (zs.take k) (20478 + (zs.length : Int))) ∧ h = .int .i64 x ∧ i = .int .i64 (k : Int) ∧ wr = w) (fun _ i _ => len - (intOf i).toNat)
  case atStart => exact ⟨0, _, Nat.zero_le _, by omega, by omega, by omega, by show _ = _; simp [hashF, hle], rfl, rfl, rfl⟩
  case round =>
    obtain ⟨k, x, hk, hk4, hx0, hx1, HX, rfl, rfl, rfl⟩ := hrel
    by_cases hlt : k < len
    · by_cases h4 : (k : Int) < 4000
      · obtain ⟨b, o, rfl, hbg, hcell⟩ := hx (by omega)
        have hz := hcell k hlt
        have hzb := hb k hlt
        have HT := hide (hash_take zs (20478 + (zs.length : Int)) k (by omega))
        clear hcell hb
        generalize zs.getD k 0 = z at *
        go_wp2
        refine ⟨⟨k + 1, _, by omega, by omega, by omega, by omega, ?_, rfl, by go_num, trivial⟩, by simp [intOf]; omega⟩
        show _ = _
        rw [HT.out, ← HX.out]
      · clear hb hx
        have HN : Hid (newF zs = (0, x)) := by
          show _ = _
          unfold newF
          have hx' := HX.out
          rw [show k = 4000 from by omega] at hx'
          rw [hx']
        go_wp2
        go_ret
        refine ⟨rfl, ?_, (Below.refl _ _).alloc (Nat.le_refl _) _⟩
        rw [HN.out]
        exact new_cur HI.out _
    · clear hb hx
      have HN : Hid (newF zs = (0, x)) := by
        show _ = _
        unfold newF
        have hx' := HX.out
        rw [List.take_of_length_le (by omega)] at hx'
        rw [hx', List.take_of_length_le (by omega)]
      go_wp2
      go_ret
      refine ⟨rfl, ?_, (Below.refl _ _).alloc (Nat.le_refl _) _⟩
      rw [HN.out]
      exact new_cur HI.out _

/-- One thing that was drawn: nothing old is turned. -/
theorem draw_below {w w1 w3 : World} {o : Obj} (b1 : Below w.heap.size w w1) (hg : (w1.alloc o).grownBy w3 (some w.heap.size)) : Below w.heap.size w w3 :=
  (b1.alloc b1.size o).grown hg (by have := b1.size; simp; omega) (fun k hk => by cases hk; exact Nat.le_refl _)

end Go.Proofs.Ytabeeppfgkeahaa
