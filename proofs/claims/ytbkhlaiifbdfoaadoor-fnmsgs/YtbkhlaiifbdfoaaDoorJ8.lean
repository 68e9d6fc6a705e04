/-
  Joined: MsgOfS, AtW, SameM, DrawVal, DrawRow, DrawMsg, DrawAny, DrawOks, InCut.
-/
import Derived.Test.YtbkhlaiifbdfoaaDoorKMsgOfX
import Derived.Test.YtbkhlaiifbdfoaaDoorKMsgOfY
import Derived.Test.YtbkhlaiifbdfoaaDoorJ1
import Derived.Test.YtbkhlaiifbdfoaaDoorJ5
import Derived.Laws.StructEq
import Derived.RegionTactic
import Derived.Deep.RegionHeldLaw
import Derived.Test.YtbkhlaiifbdfoaaDoorJ6
import Derived.BigRegion
import Derived.Great.BuildSlice
import Derived.Test.YtbkhlaiifbdfoaaDoorJ4
import Derived.Deep.CutRange
import Derived.Deep.CutBlock
import Derived.Deep.RegionLaw
import Derived.Deep.AppendLies
import Derived.Test.YtbkhlaiifbdfoaaDoorJ7
/-
  What the model's MsgOf does.
-/
namespace Go.Proofs.YtbkhlaiifbdfoaaDoor
open Go.RowKit

theorem msgOfSpec (w : World) (a : Option Addr) (len cap : Nat) (zs : List Int) (hin : In w w.heap.size a len zs) (hc0 : len ≤ cap) :
    Calls Tryd.prog 13 #[.slice a len cap] w fun e w' => ansOf w.heap.size (mOf zs) e w' ∧ Below w.heap.size w w' := by
  by_cases h : mOf zs = none
  · exact msgOfNo w a len cap zs hin hc0 h
  · exact msgOfYes w a len cap zs hin hc0 h
end Go.Proofs.YtbkhlaiifbdfoaaDoor
/-
  What at and big answer.
-/
namespace Go.Proofs.YtbkhlaiifbdfoaaDoor
open Go.RowKit

theorem bigNo (w : World) (a : Option Addr) (len cap : Nat) (h : (len : Int) ≤ 1048576) :
    Calls Tryd.prog 5 #[.slice a len cap] w fun e w' => e = .returned (.bool false) ∧ w' = w := by
  go_enter Tryd.func5, Tryd.ntmps5
  go_wp2
  go_ret
  exact ⟨ret_bool (by simp; omega), rfl⟩
theorem bigYes (w : World) (a : Option Addr) (len cap : Nat) (h : 1048576 < (len : Int)) :
    Calls Tryd.prog 5 #[.slice a len cap] w fun e w' => e = .returned (.bool true) ∧ w' = w := by
  go_enter Tryd.func5, Tryd.ntmps5
  go_wp2
  go_ret
  exact ⟨ret_bool (by simp), rfl⟩

end Go.Proofs.YtbkhlaiifbdfoaaDoor
/-
  What sameCells, sameNotes and sameMsg answer of equal ones.
-/
namespace Go.Proofs.YtbkhlaiifbdfoaaDoor
open Go.RowKit

set_option maxRecDepth 100000 in
set_option maxHeartbeats 2000000 in
theorem sameC (w : World) (v1 v2 : Value) (cs : List (Int × Bool × Int)) (B1 B2 : Nat) (h1 : Rd w B1 3 v1 cs.length (cs.flatMap cellC)) (h2 : Rd w B2 3 v2 cs.length (cs.flatMap cellC)) (hB1 : B1 ≤ w.heap.size) (hB2 : B2 ≤ w.heap.size) (hm : cs.length ≤ 1048576) :
    Calls Tryd.prog 41 #[v1, v2] w fun e w' => e = .returned (.bool true) ∧ Below w.heap.size w w' := by
  have HX1 : Hid (∀ wr, Below w.heap.size w wr → _) := hide (fun wr hb => cells_at (h1.low hb hB1))
  have HX2 : Hid (∀ wr, Below w.heap.size w wr → _) := hide (fun wr hb => cells_at (h2.low hb hB2))
  obtain ⟨a1, cap1, rfl, _⟩ := cells_at h1
  obtain ⟨a2, cap2, rfl, _⟩ := cells_at h2
  clear h1 h2
  generalize hn : cs.length = n at *
  have hne : ((n : Int) != (n : Int)) = false := by simp
  go_enter Tryd.func41, Tryd.ntmps41
  go_wp2
  go_loopw [5] (fun i wr => ∃ j : Nat, j ≤ n ∧ i = .int .i64 (j : Int) ∧ Below w.heap.size w wr) (fun i _ => n - (intOf i).toNat)
  case atStart => exact ⟨0, Nat.zero_le _, rfl, Below.refl _ _⟩
  case round =>
    obtain ⟨j, hj, rfl, hb⟩ := hrel
    have HB := hide hb
    have hs := hb.size
    clear hb
    by_cases hlt : j < n
    · obtain ⟨a1', cap1', ea1, hx1⟩ := HX1.out wr HB.out
      cases ea1
      obtain ⟨b1, o1, rfl, hb1, hc1⟩ := hx1 (by omega)
      obtain ⟨a2', cap2', ea2, hx2⟩ := HX2.out wr HB.out
      cases ea2
      obtain ⟨b2, o2, rfl, hb2, hc2⟩ := hx2 (by omega)
      generalize hz : cs.getD j (0, false, 0) = z at *
      have hq1 := hc1 j hlt
      have hq2 := hc2 j hlt
      rw [hz] at hq1 hq2
      obtain ⟨x, r, y⟩ := z
      have q1 : wr.drew.cell? ⟨b1, o1 + j * 3, none⟩ = some (.int .i64 x) := hq1.1
      have q2 : wr.drew.cell? ⟨b1, o1 + j * 3 + 1, none⟩ = some (.bool r) := hq1.2.1
      have q3 : wr.drew.cell? ⟨b1, o1 + j * 3 + 2, none⟩ = some (.int .i64 y) := hq1.2.2
      have q4 : wr.drew.cell? ⟨b2, o2 + j * 3, none⟩ = some (.int .i64 x) := hq2.1
      have q5 : wr.drew.cell? ⟨b2, o2 + j * 3 + 1, none⟩ = some (.bool r) := hq2.2.1
      have q6 : wr.drew.cell? ⟨b2, o2 + j * 3 + 2, none⟩ = some (.int .i64 y) := hq2.2.2
      clear hx1 hx2 hc1 hc2 hq1 hq2 hz
      have e1 : (x == x) = true := by simp
      have e2 : (r == r) = true := by simp
      have e3 : (y == y) = true := by simp
      go_upto_region 6 with fail
      go_region
      all_goals (go_wp2; exact ⟨⟨j + 1, hlt, by go_num, below_drewN HB.out 1⟩, by simp [intOf]; omega⟩)
    · go_wp2
      go_ret
      exact ⟨rfl, HB.out⟩
set_option maxRecDepth 100000 in
set_option maxHeartbeats 2000000 in
theorem sameN (w : World) (v1 v2 : Value) (cs : List (Int × Int)) (B1 B2 : Nat) (h1 : Rd w B1 2 v1 cs.length (cs.flatMap noteC)) (h2 : Rd w B2 2 v2 cs.length (cs.flatMap noteC)) (hB1 : B1 ≤ w.heap.size) (hB2 : B2 ≤ w.heap.size) (hm : cs.length ≤ 1048576) :
    Calls Tryd.prog 42 #[v1, v2] w fun e w' => e = .returned (.bool true) ∧ Below w.heap.size w w' := by
  have HX1 : Hid (∀ wr, Below w.heap.size w wr → _) := hide (fun wr hb => notes_at (h1.low hb hB1))
  have HX2 : Hid (∀ wr, Below w.heap.size w wr → _) := hide (fun wr hb => notes_at (h2.low hb hB2))
  obtain ⟨a1, cap1, rfl, _⟩ := notes_at h1
  obtain ⟨a2, cap2, rfl, _⟩ := notes_at h2
  clear h1 h2
  generalize hn : cs.length = n at *
  have hne : ((n : Int) != (n : Int)) = false := by simp
  go_enter Tryd.func42, Tryd.ntmps42
  go_wp2
  go_loopw [5] (fun i wr => ∃ j : Nat, j ≤ n ∧ i = .int .i64 (j : Int) ∧ Below w.heap.size w wr) (fun i _ => n - (intOf i).toNat)
  case atStart => exact ⟨0, Nat.zero_le _, rfl, Below.refl _ _⟩
  case round =>
    obtain ⟨j, hj, rfl, hb⟩ := hrel
    have HB := hide hb
    have hs := hb.size
    clear hb
    by_cases hlt : j < n
    · obtain ⟨a1', cap1', ea1, hx1⟩ := HX1.out wr HB.out
      cases ea1
      obtain ⟨b1, o1, rfl, hb1, hc1⟩ := hx1 (by omega)
      obtain ⟨a2', cap2', ea2, hx2⟩ := HX2.out wr HB.out
      cases ea2
      obtain ⟨b2, o2, rfl, hb2, hc2⟩ := hx2 (by omega)
      generalize hz : cs.getD j (0, 0) = z at *
      have hq1 := hc1 j hlt
      have hq2 := hc2 j hlt
      rw [hz] at hq1 hq2
      obtain ⟨x, y⟩ := z
      have q1 : wr.drew.cell? ⟨b1, o1 + j * 2, none⟩ = some (.int .i64 x) := hq1.1
      have q3 : wr.drew.cell? ⟨b1, o1 + j * 2 + 1, none⟩ = some (.int .i64 y) := hq1.2
      have q4 : wr.drew.cell? ⟨b2, o2 + j * 2, none⟩ = some (.int .i64 x) := hq2.1
      have q6 : wr.drew.cell? ⟨b2, o2 + j * 2 + 1, none⟩ = some (.int .i64 y) := hq2.2
      clear hx1 hx2 hc1 hc2 hq1 hq2 hz
      have e1 : (x == x) = true := by simp
      have e3 : (y == y) = true := by simp
      go_upto_region 6 with fail
      go_region
      all_goals (go_wp2; exact ⟨⟨j + 1, hlt, by go_num, below_drewN HB.out 1⟩, by simp [intOf]; omega⟩)
    · go_wp2
      go_ret
      exact ⟨rfl, HB.out⟩

set_option maxRecDepth 100000 in
set_option maxHeartbeats 2000000 in
theorem sameMsg (w : World) (k i u c n : Int) (cv nv cv' nv' : Value) (cs : List (Int × Bool × Int)) (ns : List (Int × Int)) (hc : Rd w w.heap.size 3 cv cs.length (cs.flatMap cellC)) (hn : Rd w w.heap.size 2 nv ns.length (ns.flatMap noteC))
    (hc' : Rd w w.heap.size 3 cv' cs.length (cs.flatMap cellC)) (hn' : Rd w w.heap.size 2 nv' ns.length (ns.flatMap noteC)) (hmc : cs.length ≤ 1048576) (hmn : ns.length ≤ 1048576) :
    Calls Tryd.prog 11 #[msgV k i u c n cv nv, msgV k i u c n cv' nv'] w fun e w' => e = .returned (.bool true) ∧ Below w.heap.size w w' := by
  have HC := hide hc
  have HN := hide hn
  have HC' := hide hc'
  have HN' := hide hn'
  obtain ⟨a5, cap5, rfl, _⟩ := cells_at hc
  obtain ⟨a6, cap6, rfl, _⟩ := notes_at hn
  obtain ⟨a7, cap7, rfl, _⟩ := cells_at hc'
  obtain ⟨a8, cap8, rfl, _⟩ := notes_at hn'
  clear hc hn hc' hn'
  have n0 : (k == k) = true := by simp
  have n1 : (i == i) = true := by simp
  have n2 : (u == u) = true := by simp
  have n3 : (c == c) = true := by simp
  have n4 : (n == n) = true := by simp
  unfold msgV
  go_enter Tryd.func11, Tryd.ntmps11
  go_wp2_with fail
  have G0 := heap_alloc_new w (.cells #[.int .i64 k, .int .i64 i, .int .i64 u, .int .i64 c, .int .i64 n, .slice a5 cs.length cap5, .slice a6 ns.length cap6] 27)
  have G1 := heap_alloc_new (w.alloc (.cells #[.int .i64 k, .int .i64 i, .int .i64 u, .int .i64 c, .int .i64 n, .slice a5 cs.length cap5, .slice a6 ns.length cap6] 27)) (.cells #[.int .i64 k, .int .i64 i, .int .i64 u, .int .i64 c, .int .i64 n, .slice a7 cs.length cap7, .slice a8 ns.length cap8] 27)
  simp only [World.size_alloc] at G1
  have HB := hide (((Below.refl w.heap.size w).alloc (Nat.le_refl _) (.cells #[.int .i64 k, .int .i64 i, .int .i64 u, .int .i64 c, .int .i64 n, .slice a5 cs.length cap5, .slice a6 ns.length cap6] 27)).alloc (by simp) (.cells #[.int .i64 k, .int .i64 i, .int .i64 u, .int .i64 c, .int .i64 n, .slice a7 cs.length cap7, .slice a8 ns.length cap8] 27))
  refine (sameC _ _ _ _ _ _ (HC.out.at HB.out) (HC'.out.at HB.out) (Nat.le_refl _) (Nat.le_refl _) hmc).mono ?_
  rintro e w1 ⟨rfl, b1⟩
  have E0 := (b1.block w.heap.size (by simp; omega)).trans ((Below.heap_alloc _ _ _ (by simp)).trans G0)
  have E1 := (b1.block (w.heap.size + 1) (by simp)).trans G1
  replace HB := hide (HB.out.trans (b1.mono HB.out.size))
  clear b1 G0 G1
  have f6 := (box_of E0).1 6 _ rfl
  have g6 := (box_of E1).1 6 _ rfl
  clear E0 E1
  go_wp2_with fail
  refine (sameN _ _ _ _ _ _ (HN.out.at HB.out) (HN'.out.at HB.out) (Nat.le_refl _) (Nat.le_refl _) hmn).mono ?_
  rintro e w2 ⟨rfl, b2⟩
  replace HB := hide (HB.out.trans (b2.mono HB.out.size))
  clear b2
  go_wp2
  go_ret
  exact ⟨rfl, HB.out⟩
end Go.Proofs.YtbkhlaiifbdfoaaDoor
/-
  What is drawn for messages, as far as it matters (how great it is, and whose memory): numbers, values, cells, notes.
-/
namespace Go.Proofs.YtbkhlaiifbdfoaaDoor
open Go.RowKit

/-- A cursor lies at block g. -/
def CurW (w : World) (g : Nat) : Prop := ∃ zs s, Cur w g zs s
theorem CurW.lt {w : World} {g : Nat} (h : CurW w g) : g < w.heap.size := by obtain ⟨_, _, h⟩ := h; exact h.lt
theorem CurW.alloc {w : World} {g : Nat} (h : CurW w g) (o : Obj) : CurW (w.alloc o) g := by obtain ⟨_, _, h⟩ := h; exact ⟨_, _, h.alloc o⟩
theorem CurW.row {w w' : World} {g : Nat} {row : Option Nat} (h : CurW w g) (hg : w.grownBy w' row) (hr : ∀ k, row = some k → g < k) : CurW w' g := by obtain ⟨_, _, h⟩ := h; exact ⟨_, _, h.row hg hr⟩
theorem belowW (w : World) (g : Nat) (n : Int) (hn : 0 < n) (hn' : n ≤ 1000000000) (hc : CurW w g) :
    Calls Tryd.prog 44 #[.pointer (some ⟨g, 0, none⟩), .int .i64 n] w fun e w' => ∃ k, e = .returned (.int .i64 k) ∧ 0 ≤ k ∧ k < n ∧ CurW w' g ∧ w.grownBy w' (some g) := by
  obtain ⟨zs, s, hc⟩ := hc
  exact (belowDraw w g zs s n hn hn' hc).mono fun e w' ⟨h1, h2, h3⟩ => ⟨_, h1, (belowF_bd zs s n hn).1, (belowF_bd zs s n hn).2, ⟨_, _, h2⟩, h3⟩
theorem onceW (w : World) (g : Nat) (n : Int) (hn : 0 < n) (hn' : n ≤ 1000000000) (hc : CurW w g) :
    Calls Tryd.prog 49 #[.pointer (some ⟨g, 0, none⟩), .int .i64 n] w fun e w' => ∃ b : Bool, e = .returned (.bool b) ∧ CurW w' g ∧ w.grownBy w' (some g) := by
  obtain ⟨zs, s, hc⟩ := hc
  exact (onceDraw w g zs s n hn hn' hc).mono fun e w' ⟨h1, h2, h3⟩ => ⟨_, h1, ⟨_, _, h2⟩, h3⟩
theorem pickW (w : World) (g l n : Nat) (ls : List Int) (hz : ls.length = n) (hn : 0 < n) (hn' : n ≤ 256) (hgl : g < l) (hc : CurW w g) (hl : w.heap[l]? = some (.cells (ls.map (Value.int .i64)).toArray 3 (0, 0))) :
    Calls Tryd.prog 45 #[.pointer (some ⟨g, 0, none⟩), .slice (some ⟨l, 0, none⟩) n n] w fun e w' => ∃ k, e = .returned (.int .i64 k) ∧ k ∈ ls ∧ CurW w' g ∧ w.grownBy w' (some g) := by
  obtain ⟨zs, s, hc⟩ := hc
  exact (pickDraw w g l n zs s ls hz hn hn' hgl hc hl).mono fun e w' ⟨h1, h2, h3⟩ => ⟨_, h1, pickF_mem zs s ls (by omega), ⟨_, _, h2⟩, h3⟩

set_option maxRecDepth 100000 in
set_option maxHeartbeats 2000000 in
theorem wordW (w : World) (g : Nat) (hc : CurW w g) :
    Calls Tryd.prog 75 #[.pointer (some ⟨g, 0, none⟩)] w fun e w' => ∃ k, e = .returned (.int .i64 k) ∧ -2147483648 ≤ k ∧ k ≤ 2147483647 ∧ CurW w' g ∧ w.grownBy w' (some g) := by
  have HC := hide hc
  clear hc
  go_enter Tryd.func75, Tryd.ntmps75
  go_wp2_with fail
  refine (pickW _ _ _ 8 [0, 1, -1, 5, 7, 100, 2147483647, -2147483648] rfl (by omega) (by omega) HC.out.lt (HC.out.alloc _) (heap_alloc_new w _)).mono ?_
  rintro e w1 ⟨k, rfl, hk, hc1, hg1⟩
  have hb : -2147483648 ≤ k ∧ k ≤ 2147483647 := by simp at hk; omega
  have HG := hide (alloc_grown hg1)
  have HC1 := hide hc1
  clear hk hc1 hg1
  go_wp2
  go_ret
  exact ⟨k, rfl, hb.1, hb.2, HC1.out, HG.out⟩

theorem loadV {w : World} {g : Nat} {x y : Value} (h : w.heap[g]? = some (.cells #[x, y] 36 (0, 0))) : (loadVar 36 ⟨g, 0, none⟩).run Tryd.prog w = .ok (.agg #[x, y]) w :=
  run_loadVar_row w g 36 36 #[x, y] (0, 0) _ h Tryd.underlying36 rfl (by kernel_rfl)
/-- A block of one's own is stored into. -/
theorem grown_mine {w w1 : World} {g l : Nat} (h : w.grownBy w1 (some g)) (hl : w.heap.size ≤ l) (o : Nat) (v : Value) : w.grownBy (w1.setCell ⟨l, o, none⟩ v) (some g) :=
  grown_step h (grown_set (g := l) (World.grownBy.refl w1 (some l)) o v) (fun k hk => by cases hk; exact .inr hl)
theorem CurW.mine {w : World} {g l : Nat} (h : CurW w g) (hl : g < l) (o : Nat) (v : Value) : CurW (w.setCell ⟨l, o, none⟩ v) g :=
  h.row (grown_set (g := l) (World.grownBy.refl w (some l)) o v) (fun k hk => by cases hk; exact hl)
theorem same_g {w : World} {g : Nat} : ∀ k, (some g : Option Nat) = some k → k = g ∨ w.heap.size ≤ k := fun k hk => by cases hk; exact .inl rfl

set_option maxRecDepth 100000 in
set_option maxHeartbeats 2000000 in
theorem valW (w : World) (g : Nat) (hc : CurW w g) :
    Calls Tryd.prog 48 #[.pointer (some ⟨g, 0, none⟩)] w fun e w' => ∃ (r : Bool) (k : Int), e = .returned (.agg #[.bool r, .int .i64 k]) ∧ -2147483648 ≤ k ∧ k ≤ 2147483647 ∧ CurW w' g ∧ w.grownBy w' (some g) := by
  have hgl := hc.lt
  have HC := hide (hc.alloc (.cells #[.bool false, .int .i64 0] 36))
  have E := hide (heap_alloc_new w (.cells #[.bool false, .int .i64 0] 36))
  have HG := hide (World.grownBy_alloc w (.cells #[.bool false, .int .i64 0] 36) (some g))
  clear hc
  go_enter Tryd.func48, Tryd.ntmps48
  go_wp2_with fail
  generalize w.alloc (.cells #[.bool false, .int .i64 0] 36) = W at *
  refine (onceW _ _ _ (by omega) (by omega) HC.out).mono ?_
  rintro e w1 ⟨b, rfl, hc1, hg1⟩
  have hs0 := (Array.getElem?_eq_some_iff.1 E.out).1
  replace E := hide ((hg1.block w.heap.size hs0 (fun e => by simp only [Option.some.injEq] at e; omega)).trans E.out)
  replace HG := hide (grown_step HG.out hg1 same_g)
  replace HC := hide hc1
  clear hc1 hg1 hs0
  have hs1 := (Array.getElem?_eq_some_iff.1 E.out).1
  cases b
  · go_wp2_with fail
    refine (wordW _ _ HC.out).mono ?_
    rintro e w2 ⟨k, rfl, k0, k1, hc2, hg2⟩
    replace E := hide ((hg2.block w.heap.size hs1 (fun e => by simp only [Option.some.injEq] at e; omega)).trans E.out)
    replace HG := hide (grown_step HG.out hg2 same_g)
    replace HC := hide hc2
    clear hc2 hg2
    have X := box_of E.out
    have p0 := X.1 0 _ rfl
    have p1 := X.1 1 _ rfl
    have z0 := X.2 0
    have z1 := X.2 1
    clear X
    go_wp2
    exact bodyPost_ret (v := .agg #[.bool false, .int .i64 k]) (results_one Tryd.results48 _ _ _ rfl (loadV (put2 E.out _ _))) rfl ⟨_, _, rfl, k0, k1, (HC.out.mine hgl _ _).mine hgl _ _, grown_mine (grown_mine HG.out (Nat.le_refl _) _ _) (Nat.le_refl _) _ _⟩
  · go_wp2_with fail
    refine (pickW _ _ _ 4 [0, 1, 17, 18] rfl (by omega) (by omega) HC.out.lt (HC.out.alloc _) (heap_alloc_new w1 _)).mono ?_
    rintro e w2 ⟨k, rfl, hk, hc2, hg2⟩
    have hb : -2147483648 ≤ k ∧ k ≤ 2147483647 := by simp at hk; omega
    have hg3 := alloc_grown hg2
    replace E := hide ((hg3.block w.heap.size hs1 (fun e => by simp only [Option.some.injEq] at e; omega)).trans E.out)
    replace HG := hide (grown_step HG.out hg3 same_g)
    replace HC := hide hc2
    clear hc2 hg2 hg3 hk
    have X := box_of E.out
    have p0 := X.1 0 _ rfl
    have p1 := X.1 1 _ rfl
    have z0 := X.2 0
    have z1 := X.2 1
    clear X
    go_wp2
    exact bodyPost_ret (v := .agg #[.bool true, .int .i64 k]) (results_one Tryd.results48 _ _ _ rfl (loadV (put2 E.out _ _))) rfl ⟨_, _, rfl, hb.1, hb.2, (HC.out.mine hgl _ _).mine hgl _ _, grown_mine (grown_mine HG.out (Nat.le_refl _) _ _) (Nat.le_refl _) _ _⟩
end Go.Proofs.YtbkhlaiifbdfoaaDoor
/-
  Drawn cells and notes lie in new memory, and are few.
-/
namespace Go.Proofs.YtbkhlaiifbdfoaaDoor
open Go.RowKit

set_option maxRecDepth 100000 in
set_option maxHeartbeats 2000000 in
theorem notesD (w : World) (g : Nat) (hc : CurW w g) :
    Calls Tryd.prog 50 #[.pointer (some ⟨g, 0, none⟩)] w fun e w' => ∃ a c ys, e = .returned (.slice a (ys : List (Int × Int)).length c) ∧ OwnN w' w.heap.size (.slice a ys.length c) ys ∧ ys.length ≤ 30 ∧ CurW w' g ∧ w.grownBy w' (some g) := by
  have hgl := hc.lt
  have HC := hide hc
  clear hc
  go_enter Tryd.func50, Tryd.ntmps50
  go_wp2
  go_loopw [3, 4] (fun v i wr => ∃ (j : Nat) (ys : List (Int × Int)), i = .int .i64 (j : Int) ∧ 1 ≤ j ∧ ys.length + 1 ≤ j ∧ ys.length ≤ 24 ∧ Hid (OwnN wr w.heap.size v ys) ∧ Hid (CurW wr g) ∧ Hid (w.grownBy wr (some g))) (fun _ i _ => 100 - (intOf i).toNat)
  case atStart => exact ⟨1, [], rfl, by omega, by simp, by simp, World.ownsRow_made w #[] 0 (Nat.le_refl _) (by unfold maxLen; omega) rfl, HC.out.alloc _, World.grownBy_alloc _ _ _⟩
  case round =>
    clear HC
    obtain ⟨j, ys, rfl, hj1, hyl, hy2, HN, HC, HG⟩ := hrel
    obtain ⟨a6, c6, rfl, _⟩ := notes_at (HN.out.rd (Nat.le_refl _))
    by_cases hlt : (j : Int) < 25
    · go_wp2_with fail
      refine (belowW _ _ _ (by omega) (by omega) HC.out).mono ?_
      rintro e w1 ⟨k, rfl, k0, k1, hc1, hg1⟩
      replace HN := hide (HN.out.kept hg1 (fun q hq e => by simp only [Option.some.injEq] at e; have := (HN.out.lt q hq).1; omega))
      replace HG := hide (grown_step HG.out hg1 same_g)
      replace HC := hide hc1
      clear hg1 hc1
      have HBx := hide (Box.new w1 #[.int .i64 (j : Int), .int .i64 (1 + k)] 53)
      have bD := (Below.refl w1.heap.size w1).alloc (Nat.le_refl _) (.cells #[.int .i64 (j : Int), .int .i64 (1 + k)] 53)
      have HLo := hide HN.out.lt
      replace HC := hide (HC.out.alloc (.cells #[.int .i64 (j : Int), .int .i64 (1 + k)] 53))
      replace HN := hide (HN.out.below bD)
      replace HG := hide (grown_step HG.out (World.grownBy_alloc w1 (.cells #[.int .i64 (j : Int), .int .i64 (1 + k)] 53) none) (fun k hk => by cases hk))
      have hsG := HG.out.size
      clear bD
      go_wp2_with (at_builtin; refine app_Note rfl _ _ rfl w.heap.size w1.heap.size 1 _ ys ((j : Int), 1 + k) rfl HN.out rfl HBx.out (by omega) hsG ?_; intro v3 w3 o3 g3; have HN3 := hide o3; have HC3 := hide (HC.out.row g3 (fun q hq => by have := (HLo.out q hq).1; omega)); have HG3 := hide (grown_step HG.out g3 (fun q hq => .inr (HLo.out q hq).1)); clear o3 g3)
      clear HC HN HG HBx hsG
      refine (belowW _ _ _ (by omega) (by omega) HC3.out).mono ?_
      rintro e w4 ⟨k', rfl, k0', k1', hc4, hg4⟩
      have HN4 := hide (HN3.out.kept hg4 (fun q hq e => by simp only [Option.some.injEq] at e; have := (HN3.out.lt q hq).1; omega))
      have HG4 := hide (grown_step HG3.out hg4 same_g)
      have HC4 := hide hc4
      clear hg4 hc4 HN3 HG3 HC3
      go_wp2
      exact ⟨⟨j + 1 + k'.toNat, ys ++ [((j : Int), 1 + k)], by go_num, by omega, by simp; omega, by simp; omega, HN4, HC4, HG4⟩, by simp [intOf]; omega⟩
    · go_wp2
      go_ret
      exact ⟨_, _, _, rfl, HN.out, by omega, HC.out, HG.out⟩

set_option maxRecDepth 100000 in
set_option maxHeartbeats 2000000 in
theorem cellsD (w : World) (g : Nat) (hc : CurW w g) :
    Calls Tryd.prog 71 #[.pointer (some ⟨g, 0, none⟩)] w fun e w' => ∃ a c ys, e = .returned (.slice a (ys : List (Int × Bool × Int)).length c) ∧ OwnC w' w.heap.size (.slice a ys.length c) ys ∧ ys.length ≤ 30 ∧ CurW w' g ∧ w.grownBy w' (some g) := by
  have hgl := hc.lt
  have HC := hide hc
  clear hc
  go_enter Tryd.func71, Tryd.ntmps71
  go_wp2
  go_loopw [3, 4] (fun v i wr => ∃ (j : Nat) (ys : List (Int × Bool × Int)), i = .int .i64 (j : Int) ∧ j ≤ 4 ∧ ys.length ≤ j ∧ Hid (OwnC wr w.heap.size v ys) ∧ Hid (CurW wr g) ∧ Hid (w.grownBy wr (some g))) (fun _ i _ => 100 - (intOf i).toNat)
  case atStart => exact ⟨0, [], rfl, by omega, by simp, World.ownsRow_made w #[] 0 (Nat.le_refl _) (by unfold maxLen; omega) rfl, HC.out.alloc _, World.grownBy_alloc _ _ _⟩
  case round =>
    clear HC
    obtain ⟨j, ys, rfl, hj1, hyl, HN, HC, HG⟩ := hrel
    obtain ⟨a6, c6, rfl, _⟩ := cells_at (HN.out.rd (Nat.le_refl _))
    by_cases hlt : (j : Int) < 4
    · go_wp2_with fail
      refine (onceW _ _ _ (by omega) (by omega) HC.out).mono ?_
      rintro e w1 ⟨b, rfl, hc1, hg1⟩
      replace HN := hide (HN.out.kept hg1 (fun q hq e => by simp only [Option.some.injEq] at e; have := (HN.out.lt q hq).1; omega))
      replace HG := hide (grown_step HG.out hg1 same_g)
      replace HC := hide hc1
      clear hg1 hc1
      cases b
      · go_wp2
        exact ⟨⟨j + 1, ys, by go_num, by omega, by omega, HN, HC, HG⟩, by simp [intOf]; omega⟩
      · go_wp2_with fail
        refine (valW _ _ HC.out).mono ?_
        rintro e w2 ⟨r, k, rfl, k0, k1, hc2, hg2⟩
        replace HN := hide (HN.out.kept hg2 (fun q hq e => by simp only [Option.some.injEq] at e; have := (HN.out.lt q hq).1; omega))
        replace HG := hide (grown_step HG.out hg2 same_g)
        replace HC := hide hc2
        clear hg2 hc2
        have HBx := hide (Box.new w2 #[.int .i64 (j : Int), .bool r, .int .i64 k] 50)
        have bD := (Below.refl w2.heap.size w2).alloc (Nat.le_refl _) (.cells #[.int .i64 (j : Int), .bool r, .int .i64 k] 50)
        have HLo := hide HN.out.lt
        replace HC := hide (HC.out.alloc (.cells #[.int .i64 (j : Int), .bool r, .int .i64 k] 50))
        replace HN := hide (HN.out.below bD)
        replace HG := hide (grown_step HG.out (World.grownBy_alloc w2 (.cells #[.int .i64 (j : Int), .bool r, .int .i64 k] 50) none) (fun k hk => by cases hk))
        have hsG := HG.out.size
        clear bD
        go_wp2_with (at_builtin; refine app_Cell rfl _ _ rfl w.heap.size w2.heap.size 1 _ ys ((j : Int), r, k) rfl HN.out rfl HBx.out (by omega) hsG ?_; intro v3 w3 o3 g3; have HN3 := hide o3; have HC3 := hide (HC.out.row g3 (fun q hq => by have := (HLo.out q hq).1; omega)); have HG3 := hide (grown_step HG.out g3 (fun q hq => .inr (HLo.out q hq).1)); clear o3 g3)
        exact ⟨⟨j + 1, ys ++ [((j : Int), r, k)], by go_num, by omega, by simp; omega, HN3, HC3, HG3⟩, by simp [intOf]; omega⟩
    · go_wp2
      go_ret
      exact ⟨_, _, _, rfl, HN.out, by omega, HC.out, HG.out⟩
end Go.Proofs.YtbkhlaiifbdfoaaDoor
/-
  A drawn message: its rows lie in new memory, apart, and are short.
-/
namespace Go.Proofs.YtbkhlaiifbdfoaaDoor
open Go.RowKit

/-- A message that is being drawn lies at block l; what is answered will lie at the block w.heap.size. -/
structure MIn (w : World) (g l m : Nat) (k i u c n : Int) (v5 v6 : Value) (cs : List (Int × Bool × Int)) (ns : List (Int × Int)) (wq : World) : Prop where
  box : wq.heap[l]? = some (.cells #[.int .i64 k, .int .i64 i, .int .i64 u, .int .i64 c, .int .i64 n, v5, v6] 27 (0, 0))
  res : wq.heap[w.heap.size]? = some (.cells #[.int .i64 0, .int .i64 0, .int .i64 0, .int .i64 0, .int .i64 0, .slice none 0 0, .slice none 0 0] 27 (0, 0))
  own5 : OwnC wq (w.heap.size + 1) v5 cs
  own6 : OwnN wq (w.heap.size + 1) v6 ns
  ne5 : v5.ownBlock ≠ some l
  ne6 : v6.ownBlock ≠ some l
  apart : ∀ q, v5.ownBlock = some q → v6.ownBlock ≠ some q
  len5 : cs.length ≤ m
  len6 : ns.length ≤ m
  cur : CurW wq g
  grown : w.grownBy wq (some g)
  lo : g < w.heap.size
  hi : w.heap.size < l

theorem MIn.call {w : World} {g l m : Nat} {k i u c n : Int} {v5 v6 : Value} {cs : List (Int × Bool × Int)} {ns : List (Int × Int)} {wq w' : World} (h : MIn w g l m k i u c n v5 v6 cs ns wq) (hc : CurW w' g) (hg : wq.grownBy w' (some g)) : MIn w g l m k i u c n v5 v6 cs ns w' :=
  have := h.lo
  have := h.hi
  ⟨(hg.block l (Array.getElem?_eq_some_iff.1 h.box).1 (fun e => by simp only [Option.some.injEq] at e; omega)).trans h.box,
   (hg.block w.heap.size (Array.getElem?_eq_some_iff.1 h.res).1 (fun e => by simp only [Option.some.injEq] at e; omega)).trans h.res,
   h.own5.kept hg (fun q hq e => by simp only [Option.some.injEq] at e; have := (h.own5.lt q hq).1; omega),
   h.own6.kept hg (fun q hq e => by simp only [Option.some.injEq] at e; have := (h.own6.lt q hq).1; omega),
   h.ne5, h.ne6, h.apart, h.len5, h.len6, hc, grown_step h.grown hg same_g, h.lo, h.hi⟩
theorem MIn.below {w : World} {g l m : Nat} {k i u c n : Int} {v5 v6 : Value} {cs : List (Int × Bool × Int)} {ns : List (Int × Int)} {wq w' : World} (h : MIn w g l m k i u c n v5 v6 cs ns wq) (hb : Below wq.heap.size wq w') : MIn w g l m k i u c n v5 v6 cs ns w' :=
  ⟨(hb.block l (Array.getElem?_eq_some_iff.1 h.box).1).trans h.box, (hb.block w.heap.size (Array.getElem?_eq_some_iff.1 h.res).1).trans h.res, h.own5.below hb, h.own6.below hb,
   h.ne5, h.ne6, h.apart, h.len5, h.len6, h.cur.row (grown_of_below hb) (fun k hk => by cases hk), grown_step h.grown (grown_of_below hb) (fun k hk => by cases hk), h.lo, h.hi⟩
/-- As MIn, of some message. -/
def MAny (w : World) (g l m : Nat) (wq : World) : Prop := ∃ k i u c n a5 c5 a6 c6 cs ns, MIn w g l m k i u c n (.slice a5 (cs : List (Int × Bool × Int)).length c5) (.slice a6 (ns : List (Int × Int)).length c6) cs ns wq
theorem MIn.put {w : World} {g l m : Nat} {k i u c n k' i' u' c' n' : Int} {v5 v6 : Value} {cs : List (Int × Bool × Int)} {ns : List (Int × Int)} {wq : World} (h : MIn w g l m k i u c n v5 v6 cs ns wq) (j : Nat) (x : Value)
    (hx : #[Value.int .i64 k', .int .i64 i', .int .i64 u', .int .i64 c', .int .i64 n', v5, v6] = (#[Value.int .i64 k, .int .i64 i, .int .i64 u, .int .i64 c, .int .i64 n, v5, v6]).setIfInBounds j x) : MIn w g l m k' i' u' c' n' v5 v6 cs ns (wq.setCell ⟨l, j, none⟩ x) :=
  have := h.lo
  have := h.hi
  ⟨by rw [hx]; exact heap_setCell_same wq l j _ _ x h.box,
   (heap_setCell_other wq ⟨l, j, none⟩ w.heap.size x (show w.heap.size ≠ l from by omega)).trans h.res,
   h.own5.kept (grown_set (g := l) (World.grownBy.refl wq (some l)) j x) (fun q hq e => h.ne5 (hq.trans e.symm)),
   h.own6.kept (grown_set (g := l) (World.grownBy.refl wq (some l)) j x) (fun q hq e => h.ne6 (hq.trans e.symm)),
   h.ne5, h.ne6, h.apart, h.len5, h.len6, h.cur.mine (by omega) j x, grown_mine h.grown (by omega) j x, h.lo, h.hi⟩

theorem MIn.set5 {w : World} {g l m : Nat} {k i u c n : Int} {v5 v6 v : Value} {cs ys : List (Int × Bool × Int)} {ns : List (Int × Int)} {wq w' : World} (h : MIn w g l m k i u c n v5 v6 cs ns wq) (ho : OwnC w' wq.heap.size v ys) (hl : ys.length ≤ m) (hc : CurW w' g) (hg : wq.grownBy w' (some g)) :
    MIn w g l m k i u c n v v6 ys ns (w'.setCell ⟨l, 5, none⟩ v) :=
  have h' := h.call hc hg
  have := h.lo
  have := h.hi
  have hL := (Array.getElem?_eq_some_iff.1 h.box).1
  have hW : w.heap.size + 1 ≤ wq.heap.size := by omega
  ⟨heap_setCell_same w' l 5 _ _ v h'.box, (heap_setCell_other w' ⟨l, 5, none⟩ w.heap.size v (show w.heap.size ≠ l from by omega)).trans h'.res,
   (ho.mono hW).kept (grown_set (g := l) (World.grownBy.refl w' (some l)) 5 v) (fun q hq e => by simp only [Option.some.injEq] at e; have := (ho.lt q hq).1; omega),
   h'.own6.kept (grown_set (g := l) (World.grownBy.refl w' (some l)) 5 v) (fun q hq e => h.ne6 (hq.trans e.symm)),
   fun e => by have := (ho.lt _ e).1; omega, h.ne6,
   fun q hq e => by have := (ho.lt q hq).1; have := (h.own6.lt q e).2; omega, hl, h.len6, h'.cur.mine (by omega) 5 v, grown_mine h'.grown (by omega) 5 v, h.lo, h.hi⟩
theorem MIn.set6 {w : World} {g l m : Nat} {k i u c n : Int} {v5 v6 v : Value} {cs : List (Int × Bool × Int)} {ns ys : List (Int × Int)} {wq w' : World} (h : MIn w g l m k i u c n v5 v6 cs ns wq) (ho : OwnN w' wq.heap.size v ys) (hl : ys.length ≤ m) (hc : CurW w' g) (hg : wq.grownBy w' (some g)) :
    MIn w g l m k i u c n v5 v cs ys (w'.setCell ⟨l, 6, none⟩ v) :=
  have h' := h.call hc hg
  have := h.lo
  have := h.hi
  have hL := (Array.getElem?_eq_some_iff.1 h.box).1
  have hW : w.heap.size + 1 ≤ wq.heap.size := by omega
  ⟨heap_setCell_same w' l 6 _ _ v h'.box, (heap_setCell_other w' ⟨l, 6, none⟩ w.heap.size v (show w.heap.size ≠ l from by omega)).trans h'.res,
   h'.own5.kept (grown_set (g := l) (World.grownBy.refl w' (some l)) 6 v) (fun q hq e => h.ne5 (hq.trans e.symm)),
   (ho.mono hW).kept (grown_set (g := l) (World.grownBy.refl w' (some l)) 6 v) (fun q hq e => by simp only [Option.some.injEq] at e; have := (ho.lt q hq).1; omega),
   h.ne5, fun e => by have := (ho.lt _ e).1; omega,
   fun q hq e => by have := (h.own5.lt q hq).2; have := (ho.lt q e).1; omega, h.len5, hl, h'.cur.mine (by omega) 6 v, grown_mine h'.grown (by omega) 6 v, h.lo, h.hi⟩
/-- What is answered: the message is loaded, and stored where the answer lies. -/
theorem MIn.ans {w : World} {g l m : Nat} {k i u c n : Int} {v5 v6 : Value} {cs : List (Int × Bool × Int)} {ns : List (Int × Int)} {wq : World} (h : MIn w g l m k i u c n v5 v6 cs ns wq) (x0 x1 x2 x3 x4 x5 x6 : Value) :
    let w' := (((((((wq.setCell ⟨w.heap.size, 0, none⟩ x0).setCell ⟨w.heap.size, 1, none⟩ x1).setCell ⟨w.heap.size, 2, none⟩ x2).setCell ⟨w.heap.size, 3, none⟩ x3).setCell ⟨w.heap.size, 4, none⟩ x4).setCell ⟨w.heap.size, 5, none⟩ x5).setCell ⟨w.heap.size, 6, none⟩ x6)
    OwnC w' w.heap.size v5 cs ∧ OwnN w' w.heap.size v6 ns ∧ CurW w' g ∧ w.grownBy w' (some g) := by
  have := h.lo
  have := h.hi
  refine ⟨OwnC.mono (own_put7 h.own5 (by omega) _ _ _ _ _ _ _) (by omega), OwnN.mono (own_put7 h.own6 (by omega) _ _ _ _ _ _ _) (by omega), ?_, ?_⟩
  · exact ((((((h.cur.mine h.lo _ _).mine h.lo _ _).mine h.lo _ _).mine h.lo _ _).mine h.lo _ _).mine h.lo _ _).mine h.lo _ _
  · exact grown_mine (grown_mine (grown_mine (grown_mine (grown_mine (grown_mine (grown_mine h.grown (Nat.le_refl _) _ _) (Nat.le_refl _) _ _) (Nat.le_refl _) _ _) (Nat.le_refl _) _ _) (Nat.le_refl _) _ _) (Nat.le_refl _) _ _) (Nat.le_refl _) _ _

set_option maxRecDepth 100000 in
set_option maxHeartbeats 4000000 in
theorem rightD (w : World) (g : Nat) (hc : CurW w g) :
    Calls Tryd.prog 43 #[.pointer (some ⟨g, 0, none⟩)] w fun e w' => ∃ k i u c n a5 c5 a6 c6 cs ns, e = .returned (.agg #[.int .i64 k, .int .i64 i, .int .i64 u, .int .i64 c, .int .i64 n, .slice a5 (cs : List (Int × Bool × Int)).length c5, .slice a6 (ns : List (Int × Int)).length c6]) ∧
      OwnC w' w.heap.size (.slice a5 cs.length c5) cs ∧ OwnN w' w.heap.size (.slice a6 ns.length c6) ns ∧ (∀ q, (Value.slice a5 cs.length c5).ownBlock = some q → (Value.slice a6 ns.length c6).ownBlock ≠ some q) ∧ cs.length ≤ 40 ∧ ns.length ≤ 40 ∧ CurW w' g ∧ w.grownBy w' (some g) := by
  have hgl := hc.lt
  have HC := hide (hc.alloc (.cells #[.int .i64 0, .int .i64 0, .int .i64 0, .int .i64 0, .int .i64 0, .slice none 0 0, .slice none 0 0] 27))
  have E := hide (heap_alloc_new w (.cells #[.int .i64 0, .int .i64 0, .int .i64 0, .int .i64 0, .int .i64 0, .slice none 0 0, .slice none 0 0] 27))
  have HG := hide (World.grownBy_alloc w (.cells #[.int .i64 0, .int .i64 0, .int .i64 0, .int .i64 0, .int .i64 0, .slice none 0 0, .slice none 0 0] 27) (some g))
  clear hc
  go_enter Tryd.func43, Tryd.ntmps43
  go_wp2_with fail
  generalize w.alloc (.cells #[.int .i64 0, .int .i64 0, .int .i64 0, .int .i64 0, .int .i64 0, .slice none 0 0, .slice none 0 0] 27) = W at *
  refine (belowW _ _ _ (by omega) (by omega) HC.out).mono ?_
  rintro e w1 ⟨k, rfl, k0, k1, hc1, hg1⟩
  have hs0 := (Array.getElem?_eq_some_iff.1 E.out).1
  replace E := hide ((hg1.block w.heap.size hs0 (fun e => by simp only [Option.some.injEq] at e; omega)).trans E.out)
  replace HG := hide (grown_step HG.out hg1 same_g)
  replace HC := hide hc1
  clear hc1 hg1 hs0
  go_wp2_with fail
  refine (pickW _ _ _ 5 [1, 2, 17, 18, 300] rfl (by omega) (by omega) HC.out.lt (HC.out.alloc _) (heap_alloc_new w1 _)).mono ?_
  rintro e w2 ⟨i, rfl, hi, hc2, hg2⟩
  have hs0 := (Array.getElem?_eq_some_iff.1 E.out).1
  have hg3 := alloc_grown hg2
  replace E := hide ((hg3.block w.heap.size hs0 (fun e => by simp only [Option.some.injEq] at e; omega)).trans E.out)
  replace HG := hide (grown_step HG.out hg3 same_g)
  replace HC := hide hc2
  clear hc2 hg2 hg3 hs0 hi
  have hs2 := (Array.getElem?_eq_some_iff.1 E.out).1
  have HI : Hid (MIn w g w2.heap.size 40 (1 + k) i 0 0 0 (.slice none 0 0) (.slice none 0 0) [] [] (w2.alloc (.cells #[.int .i64 (1 + k), .int .i64 i, .int .i64 0, .int .i64 0, .int .i64 0, .slice none 0 0, .slice none 0 0] 27))) :=
    hide ⟨heap_alloc_new w2 _, (Below.heap_alloc _ _ _ hs2).trans E.out, World.ownsRow_nil _ _ _ _, World.ownsRow_nil _ _ _ _, (fun e => by cases e), (fun e => by cases e), fun q hq => (by cases hq), by simp, by simp, HC.out.alloc _, grown_step HG.out (World.grownBy_alloc w2 _ none) (fun k hk => by cases hk), hgl, hs2⟩
  clear E HG HC
  have f0 := (box_of HI.out.box).1 0 _ rfl
  go_wp2_with fail
  clear f0
  generalize w2.heap.size = l at *
  generalize w2.alloc _ = w3 at *
  refine (hasSpec _ _).mono ?_
  rintro e w4 ⟨rfl, b4⟩
  have HA : Hid (MAny w g l 40 w4) := hide ⟨_, _, _, _, _, none, 0, none, 0, [], [], HI.out.below b4⟩
  clear HI b4
  generalize hasF (1 + k) = h at *
  go_upto_if 17 with fail
  go_cut [18] from 15 to 21 (fun _ wq => MAny w g l 40 wq)
  case first =>
    cases hb : (bits .and .i64 h 1 != 0)
    · go_wp2_with fail
      go_meet
      exact HA.out
    · obtain ⟨k, i, u, c, n, a5, c5, a6, c6, cs, ns, hI⟩ := HA.out
      have HI := hide hI
      clear hI HA
      go_wp2_with fail
      refine (belowW _ _ _ (by omega) (by omega) HI.out.cur).mono ?_
      rintro e w5 ⟨x, rfl, x0, x1, hc5, hg5⟩
      have HJ := hide (HI.out.call hc5 hg5)
      clear HI hc5 hg5
      have X := box_of HJ.out.box
      have f := X.1 2 _ rfl
      have z := X.2 2
      clear X
      go_wp2_with fail
      go_meet
      exact ⟨_, _, _, _, _, _, _, _, _, _, _, HJ.out.put 2 _ rfl⟩
  case rest =>
  clear HA
  have HA := hide hcut
  clear hcut
  go_upto_if 24 with fail
  go_cut [25] from 22 to 27 (fun _ wq => MAny w g l 40 wq)
  case first =>
    cases hb : (bits .and .i64 h 2 != 0)
    · go_wp2_with fail
      go_meet
      exact HA.out
    · obtain ⟨k, i, u, c, n, a5, c5, a6, c6, cs, ns, hI⟩ := HA.out
      have HI := hide hI
      clear hI HA
      go_wp2_with fail
      refine (belowW _ _ _ (by omega) (by omega) HI.out.cur).mono ?_
      rintro e w5 ⟨x, rfl, x0, x1, hc5, hg5⟩
      have HJ := hide (HI.out.call hc5 hg5)
      clear HI hc5 hg5
      have X := box_of HJ.out.box
      have f := X.1 3 _ rfl
      have z := X.2 3
      clear X
      go_wp2_with fail
      go_meet
      exact ⟨_, _, _, _, _, _, _, _, _, _, _, HJ.out.put 3 _ rfl⟩
  case rest =>
  clear HA
  have HA := hide hcut
  clear hcut
  go_upto_if 30 with fail
  go_cut [31] from 28 to 33 (fun _ wq => MAny w g l 40 wq)
  case first =>
    cases hb : (bits .and .i64 h 4 != 0)
    · go_wp2_with fail
      go_meet
      exact HA.out
    · obtain ⟨k, i, u, c, n, a5, c5, a6, c6, cs, ns, hI⟩ := HA.out
      have HI := hide hI
      clear hI HA
      go_wp2_with fail
      refine (belowW _ _ _ (by omega) (by omega) HI.out.cur).mono ?_
      rintro e w5 ⟨x, rfl, x0, x1, hc5, hg5⟩
      have HJ := hide (HI.out.call hc5 hg5)
      clear HI hc5 hg5
      have X := box_of HJ.out.box
      have f := X.1 4 _ rfl
      have z := X.2 4
      clear X
      go_wp2_with fail
      go_meet
      exact ⟨_, _, _, _, _, _, _, _, _, _, _, HJ.out.put 4 _ rfl⟩
  case rest =>
  clear HA
  have HA := hide hcut
  clear hcut
  go_upto_if 36 with fail
  go_cut [37] from 34 to 39 (fun _ wq => MAny w g l 40 wq)
  case first =>
    cases hb : (bits .and .i64 h 8 != 0)
    · go_wp2_with fail
      go_meet
      exact HA.out
    · obtain ⟨k, i, u, c, n, a5, c5, a6, c6, cs, ns, hI⟩ := HA.out
      have HI := hide hI
      clear hI HA
      go_wp2_with fail
      refine (cellsD _ _ HI.out.cur).mono ?_
      rintro e w5 ⟨aN, cN, ys, rfl, ho, hl5, hc5, hg5⟩
      have HJ := hide (HI.out.set5 ho (by omega) hc5 hg5)
      have X := box_of (HI.out.call hc5 hg5).box
      clear HI hc5 hg5 ho
      have f := X.1 5 _ rfl
      have z := X.2 5
      clear X
      go_wp2_with fail
      go_meet
      exact ⟨_, _, _, _, _, _, _, _, _, _, _, HJ.out⟩
  case rest =>
  clear HA
  have HA := hide hcut
  clear hcut
  go_upto_if 42 with fail
  go_cut [43] from 40 to 45 (fun _ wq => MAny w g l 40 wq)
  case first =>
    cases hb : (bits .and .i64 h 16 != 0)
    · go_wp2_with fail
      go_meet
      exact HA.out
    · obtain ⟨k, i, u, c, n, a5, c5, a6, c6, cs, ns, hI⟩ := HA.out
      have HI := hide hI
      clear hI HA
      go_wp2_with fail
      refine (notesD _ _ HI.out.cur).mono ?_
      rintro e w5 ⟨aN, cN, ys, rfl, ho, hl5, hc5, hg5⟩
      have HJ := hide (HI.out.set6 ho (by omega) hc5 hg5)
      have X := box_of (HI.out.call hc5 hg5).box
      clear HI hc5 hg5 ho
      have f := X.1 6 _ rfl
      have z := X.2 6
      clear X
      go_wp2_with fail
      go_meet
      exact ⟨_, _, _, _, _, _, _, _, _, _, _, HJ.out⟩
  case rest =>
  clear HA
  have HA := hide hcut
  clear hcut
  obtain ⟨k, i, u, c, n, a5, c5, a6, c6, cs, ns, hI⟩ := HA.out
  have HI := hide hI
  clear hI HA
  have hgl := HI.out.hi
  have X := box_of HI.out.box
  have f0 := X.1 0 _ rfl
  have f1 := X.1 1 _ rfl
  have f2 := X.1 2 _ rfl
  have f3 := X.1 3 _ rfl
  have f4 := X.1 4 _ rfl
  have f5 := X.1 5 _ rfl
  have f6 := X.1 6 _ rfl
  have Y := box_of HI.out.res
  have r0 := Y.1 0 _ rfl
  have r1 := Y.1 1 _ rfl
  have r2 := Y.1 2 _ rfl
  have r3 := Y.1 3 _ rfl
  have r4 := Y.1 4 _ rfl
  have r5 := Y.1 5 _ rfl
  have r6 := Y.1 6 _ rfl
  have z0 := Y.2 0
  have z1 := Y.2 1
  have z2 := Y.2 2
  have z3 := Y.2 3
  have z4 := Y.2 4
  have z5 := Y.2 5
  have z6 := Y.2 6
  clear X Y
  go_wp2
  have hA := HI.out.ans (.int .i64 k) (.int .i64 i) (.int .i64 u) (.int .i64 c) (.int .i64 n) (.slice a5 cs.length c5) (.slice a6 ns.length c6)
  exact bodyPost_ret (v := .agg #[.int .i64 k, .int .i64 i, .int .i64 u, .int .i64 c, .int .i64 n, .slice a5 cs.length c5, .slice a6 ns.length c6]) (results_one Tryd.results43 _ _ _ rfl (load7 (put7 HI.out.res _ _ _ _ _ _ _))) rfl ⟨k, i, u, c, n, a5, c5, a6, c6, cs, ns, rfl, hA.1, hA.2.1, HI.out.apart, HI.out.len5, HI.out.len6, hA.2.2.1, hA.2.2.2⟩
end Go.Proofs.YtbkhlaiifbdfoaaDoor
/-
  Any drawn message: its rows lie in new memory, and are short.
-/
namespace Go.Proofs.YtbkhlaiifbdfoaaDoor
open Go.RowKit

theorem step_callN {P : Program} {ops : Array Oper} {o : Oper} {a : Act} {w : World} {K : Act → World → Prop} {Q : Exit → Act → World → Prop} {E : Prop} {R : Ending → World → Prop} (hgd : o.guard = none) (f : FuncId) (xs : Array Operand) (ts : Array TypeId) (_ho : o.op = .call { callee := .value (.func f), args := xs, argTypes := ts })
    (args : Array Value) (hrun : (execOp a.eval o).run P w = .ok (.enter f args) w) (hc : Calls P f args w R) (h : ∀ e w', R e w' → ∃ v, e = .returned v ∧ K (a.put o.dst v) w') :
    if Region.wanted o (yielded ops a.tmps) = true then Oper.wp P o a w K Q else E := by
  have hw : Region.wanted o (yielded ops a.tmps) = true := by simp [Region.wanted, hgd]
  rw [if_pos hw]
  unfold Oper.wp
  rw [hrun, Oper.upon_enter]
  refine hc.mono fun e w' hh => ?_
  obtain ⟨v, rfl, hk⟩ := h e w' hh
  exact hk
theorem typ_ne {w : World} {b e e' sz n l : Nat} {v : Value} {cs : List Value} {vs : Array Value} (h : w.ownsRow b e sz v n cs) (hl : w.heap[l]? = some (.cells vs e' (0, 0))) (he : e ≠ e') : v.ownBlock ≠ some l := by
  rcases h.2 with ⟨rfl, _⟩ | ⟨g, c, cur, rfl, _, hg, _⟩
  · intro e; cases e
  · intro e
    cases e
    rw [hg] at hl
    cases hl
    exact he rfl
theorem typ_apart {w : World} {b b' e e' sz sz' n n' : Nat} {v v' : Value} {cs cs' : List Value} (h : w.ownsRow b e sz v n cs) (h' : w.ownsRow b' e' sz' v' n' cs') (he : e ≠ e') (q : Nat) (hq : v.ownBlock = some q) : v'.ownBlock ≠ some q := by
  rcases h.2 with ⟨rfl, _⟩ | ⟨g, c, cur, rfl, _, hg, _⟩
  · cases hq
  · cases hq
    exact typ_ne h' hg (Ne.symm he)
theorem step_app_Note {w : World} {ops : Array Oper} {o : Oper} {act : Act} {K : Act → World → Prop} {Q : Exit → Act → World → Prop} {E : Prop} (hgd : o.guard = none) (s x : Operand)
    (ho : o.op = .call { callee := .builtin .append, args := #[s, x], argTypes := #[25, 25] }) (base g c : Nat) (v : Value) (xs : List (Int × Int)) (y : Int × Int) (hs : act.eval s = v) (hown : OwnN w base v xs)
    (hx : act.eval x = .slice (some ⟨g, 0, none⟩) 1 c) (hb : Box w g (noteC y)) (hsm : xs.length ≤ 2000000) (hbase : base ≤ w.heap.size)
    (h : ∀ g' c' w', OwnN w' base (.slice (some ⟨g', 0, none⟩) (xs.length + 1) c') (xs ++ [y]) → w.grownBy w' v.ownBlock → K (act.put o.dst (.slice (some ⟨g', 0, none⟩) (xs.length + 1) c')) w') :
    if Region.wanted o (yielded ops act.tmps) = true then Oper.wp Tryd.prog o act w K Q else E := by
  obtain ⟨i0, hi, hz0, hz1, hz2⟩ := info_parts Tryd.infoNote
  refine step_append_lies w hgd s x 25 ho base 53 i0 (.agg #[.int .i64 0, .int .i64 0]) 2 16 Tryd.underlying25 hi hz0 hz1 hz2 rfl (by decide) v xs.length (xs.flatMap noteC) hs hown ⟨g, 0, none⟩ 1 c (noteC y) hx rfl (fun j u hu => by rw [Addr.add_lit, Nat.zero_add]; exact hb j u hu) (fun u hu => by obtain ⟨x, y⟩ := y; simp [noteC] at hu; rcases hu with rfl | rfl <;> rfl) (by omega) (by unfold maxLen; omega) (by omega) hbase w.heap.size rfl ?_
  intro g' c' w' ho' hg' _ _
  refine h g' c' w' ?_ hg'
  unfold OwnN
  rw [List.length_append, List.flatMap_append]
  simpa using ho'
theorem step_app_Cell {w : World} {ops : Array Oper} {o : Oper} {act : Act} {K : Act → World → Prop} {Q : Exit → Act → World → Prop} {E : Prop} (hgd : o.guard = none) (s x : Operand)
    (ho : o.op = .call { callee := .builtin .append, args := #[s, x], argTypes := #[24, 24] }) (base g c : Nat) (v : Value) (xs : List (Int × Bool × Int)) (y : Int × Bool × Int) (hs : act.eval s = v) (hown : OwnC w base v xs)
    (hx : act.eval x = .slice (some ⟨g, 0, none⟩) 1 c) (hb : Box w g (cellC y)) (hsm : xs.length ≤ 2000000) (hbase : base ≤ w.heap.size)
    (h : ∀ g' c' w', OwnC w' base (.slice (some ⟨g', 0, none⟩) (xs.length + 1) c') (xs ++ [y]) → w.grownBy w' v.ownBlock → K (act.put o.dst (.slice (some ⟨g', 0, none⟩) (xs.length + 1) c')) w') :
    if Region.wanted o (yielded ops act.tmps) = true then Oper.wp Tryd.prog o act w K Q else E := by
  obtain ⟨i0, hi, hz0, hz1, hz2⟩ := info_parts Tryd.infoCell
  refine step_append_lies w hgd s x 24 ho base 50 i0 (.agg #[.int .i64 0, .bool false, .int .i64 0]) 3 24 Tryd.underlying24 hi hz0 hz1 hz2 rfl (by decide) v xs.length (xs.flatMap cellC) hs hown ⟨g, 0, none⟩ 1 c (cellC y) hx rfl (fun j u hu => by rw [Addr.add_lit, Nat.zero_add]; exact hb j u hu) (fun u hu => by obtain ⟨x, rb, y⟩ := y; simp [cellC] at hu; rcases hu with rfl | rfl | rfl <;> rfl) (by omega) (by unfold maxLen; omega) (by omega) hbase w.heap.size rfl ?_
  intro g' c' w' ho' hg' _ _
  refine h g' c' w' ?_ hg'
  unfold OwnC
  rw [List.length_append, List.flatMap_append]
  simpa using ho'
theorem MIn.app6 {w : World} {g l m : Nat} {k i u c n : Int} {v5 v6 : Value} {cs : List (Int × Bool × Int)} {ns : List (Int × Int)} {wq w' : World} {o : Obj} {g' c' : Nat} {y : Int × Int} (h : MIn w g l m k i u c n v5 v6 cs ns wq) (ho : OwnN w' (w.heap.size + 1) (.slice (some ⟨g', 0, none⟩) (ns.length + 1) c') (ns ++ [y])) (hg : (wq.alloc o).grownBy w' v6.ownBlock) (hl : ns.length + 1 ≤ m) :
    w'.heap[l]? = some (.cells #[.int .i64 k, .int .i64 i, .int .i64 u, .int .i64 c, .int .i64 n, v5, v6] 27 (0, 0)) ∧ MIn w g l m k i u c n v5 (.slice (some ⟨g', 0, none⟩) (ns.length + 1) c') cs (ns ++ [y]) (w'.setCell ⟨l, 6, none⟩ (.slice (some ⟨g', 0, none⟩) (ns.length + 1) c')) :=
  have h1 := h.below ((Below.refl wq.heap.size wq).alloc (Nat.le_refl _) o)
  have := h.lo
  have := h.hi
  have hb := (hg.block l (Array.getElem?_eq_some_iff.1 h1.box).1 (fun e => h.ne6 e.symm)).trans h1.box
  have n3 := typ_ne ho hb (by decide)
  have hc := h1.cur.row hg (fun q hq => by have := (h1.own6.lt q hq).1; omega)
  have hgr := grown_step h1.grown hg (fun q hq => .inr (by have := (h1.own6.lt q hq).1; omega))
  ⟨hb, heap_setCell_same w' l 6 _ _ _ hb,
   (heap_setCell_other w' ⟨l, 6, none⟩ w.heap.size _ (show w.heap.size ≠ l from by omega)).trans ((hg.block w.heap.size (Array.getElem?_eq_some_iff.1 h1.res).1 (fun e => by have := (h1.own6.lt _ e.symm).1; omega)).trans h1.res),
   (h1.own5.kept hg (fun q hq e => h.apart q hq e)).kept (grown_set (g := l) (World.grownBy.refl w' (some l)) 6 _) (fun q hq e => h.ne5 (hq.trans e.symm)), ho.kept (grown_set (g := l) (World.grownBy.refl w' (some l)) 6 _) (fun q hq e => n3 (hq.trans e.symm)), h.ne5, n3, typ_apart (h1.own5.kept hg (fun q hq e => h.apart q hq e)) ho (by decide), h.len5, by simp; omega, hc.mine (by omega) 6 _, grown_mine hgr (by omega) 6 _, h.lo, h.hi⟩
theorem MIn.app5 {w : World} {g l m : Nat} {k i u c n : Int} {v5 v6 : Value} {cs : List (Int × Bool × Int)} {ns : List (Int × Int)} {wq w' : World} {o : Obj} {g' c' : Nat} {y : Int × Bool × Int} (h : MIn w g l m k i u c n v5 v6 cs ns wq) (ho : OwnC w' (w.heap.size + 1) (.slice (some ⟨g', 0, none⟩) (cs.length + 1) c') (cs ++ [y])) (hg : (wq.alloc o).grownBy w' v5.ownBlock) (hl : cs.length + 1 ≤ m) :
    w'.heap[l]? = some (.cells #[.int .i64 k, .int .i64 i, .int .i64 u, .int .i64 c, .int .i64 n, v5, v6] 27 (0, 0)) ∧ MIn w g l m k i u c n (.slice (some ⟨g', 0, none⟩) (cs.length + 1) c') v6 (cs ++ [y]) ns (w'.setCell ⟨l, 5, none⟩ (.slice (some ⟨g', 0, none⟩) (cs.length + 1) c')) :=
  have h1 := h.below ((Below.refl wq.heap.size wq).alloc (Nat.le_refl _) o)
  have := h.lo
  have := h.hi
  have hb := (hg.block l (Array.getElem?_eq_some_iff.1 h1.box).1 (fun e => h.ne5 e.symm)).trans h1.box
  have n3 := typ_ne ho hb (by decide)
  have hc := h1.cur.row hg (fun q hq => by have := (h1.own5.lt q hq).1; omega)
  have hgr := grown_step h1.grown hg (fun q hq => .inr (by have := (h1.own5.lt q hq).1; omega))
  ⟨hb, heap_setCell_same w' l 5 _ _ _ hb,
   (heap_setCell_other w' ⟨l, 5, none⟩ w.heap.size _ (show w.heap.size ≠ l from by omega)).trans ((hg.block w.heap.size (Array.getElem?_eq_some_iff.1 h1.res).1 (fun e => by have := (h1.own5.lt _ e.symm).1; omega)).trans h1.res),
   ho.kept (grown_set (g := l) (World.grownBy.refl w' (some l)) 5 _) (fun q hq e => n3 (hq.trans e.symm)), (h1.own6.kept hg (fun q hq e => h.apart q e hq)).kept (grown_set (g := l) (World.grownBy.refl w' (some l)) 5 _) (fun q hq e => h.ne6 (hq.trans e.symm)), n3, h.ne6, typ_apart ho (h1.own6.kept hg (fun q hq e => h.apart q e hq)) (by decide), by simp; omega, h.len6, hc.mine (by omega) 5 _, grown_mine hgr (by omega) 5 _, h.lo, h.hi⟩

set_option maxRecDepth 100000 in
set_option maxHeartbeats 4000000 in
theorem drawD (w : World) (g : Nat) (hc : CurW w g) :
    Calls Tryd.prog 28 #[.pointer (some ⟨g, 0, none⟩)] w fun e w' => ∃ k i u c n a5 c5 a6 c6 cs ns, e = .returned (.agg #[.int .i64 k, .int .i64 i, .int .i64 u, .int .i64 c, .int .i64 n, .slice a5 (cs : List (Int × Bool × Int)).length c5, .slice a6 (ns : List (Int × Int)).length c6]) ∧
      OwnC w' w.heap.size (.slice a5 cs.length c5) cs ∧ OwnN w' w.heap.size (.slice a6 ns.length c6) ns ∧ cs.length ≤ 50 ∧ ns.length ≤ 50 ∧ CurW w' g ∧ w.grownBy w' (some g) := by
  have hgl := hc.lt
  have HC := hide (hc.alloc (.cells #[.int .i64 0, .int .i64 0, .int .i64 0, .int .i64 0, .int .i64 0, .slice none 0 0, .slice none 0 0] 27))
  have E := hide (heap_alloc_new w (.cells #[.int .i64 0, .int .i64 0, .int .i64 0, .int .i64 0, .int .i64 0, .slice none 0 0, .slice none 0 0] 27))
  have HG := hide (World.grownBy_alloc w (.cells #[.int .i64 0, .int .i64 0, .int .i64 0, .int .i64 0, .int .i64 0, .slice none 0 0, .slice none 0 0] 27) (some g))
  have hs0 := (Array.getElem?_eq_some_iff.1 E.out).1
  clear hc
  go_enter Tryd.func28, Tryd.ntmps28
  go_wp2_with fail
  generalize w.alloc (.cells #[.int .i64 0, .int .i64 0, .int .i64 0, .int .i64 0, .int .i64 0, .slice none 0 0, .slice none 0 0] 27) = W at *
  refine (rightD _ _ HC.out).mono ?_
  rintro e w2 ⟨k, i, u, c, n, a5, c5, a6, c6, cs, ns, rfl, o5, o6, hap, hl5, hl6, hc2, hg2⟩
  replace E := hide ((hg2.block w.heap.size hs0 (fun e => by simp only [Option.some.injEq] at e; omega)).trans E.out)
  replace HG := hide (grown_step HG.out hg2 same_g)
  replace HC := hide hc2
  have O5 := hide o5
  have O6 := hide o6
  have HAP := hide hap
  have hs2 := (Array.getElem?_eq_some_iff.1 E.out).1
  clear hc2 hg2 o5 o6 hap
  have HI : Hid (MIn w g w2.heap.size 50 k i u c n (.slice a5 cs.length c5) (.slice a6 ns.length c6) cs ns (w2.alloc (.cells #[.int .i64 k, .int .i64 i, .int .i64 u, .int .i64 c, .int .i64 n, .slice a5 cs.length c5, .slice a6 ns.length c6] 27))) :=
    hide (have b := (Below.refl w2.heap.size w2).alloc (Nat.le_refl _) (.cells #[.int .i64 k, .int .i64 i, .int .i64 u, .int .i64 c, .int .i64 n, .slice a5 cs.length c5, .slice a6 ns.length c6] 27)
      ⟨heap_alloc_new w2 _, (Below.heap_alloc _ _ _ hs2).trans E.out, (O5.out.mono hs0).below b, (O6.out.mono hs0).below b, (fun e => by have := (O5.out.lt _ e).2; omega), (fun e => by have := (O6.out.lt _ e).2; omega), HAP.out, by omega, by omega, HC.out.alloc _, grown_step HG.out (World.grownBy_alloc w2 _ none) (fun k hk => by cases hk), hgl, hs2⟩)
  clear E HG HC O5 O6 HAP hs0
  go_wp2_with fail
  generalize w2.alloc _ = w3 at *
  generalize w2.heap.size = l at *
  refine (belowW _ _ _ (by omega) (by omega) HI.out.cur).mono ?_
  rintro e w4 ⟨x, rfl, x0, x1, hc4, hg4⟩
  replace HI := hide (HI.out.call hc4 hg4)
  clear hc4 hg4
  go_upto_block 0 with fail
  go_cut [10] from 7 to 54 (fun _ wq => MAny w g l 50 wq)
  case first =>
    by_cases h0 : x = 0
    · subst h0
      go_wp2_with fail
      refine (belowW _ _ _ (by omega) (by omega) HI.out.cur).mono ?_
      rintro e w5 ⟨y, rfl, y0, y1, hc5, hg5⟩
      have HJ := hide (HI.out.call hc5 hg5)
      clear HI hc5 hg5
      have X := box_of HJ.out.box
      have f := X.1 0 _ rfl
      have z := X.2 0
      clear X
      go_wp2_with fail
      go_meet
      exact ⟨_, _, _, _, _, _, _, _, _, _, _, HJ.out.put 0 _ rfl⟩
    by_cases h1 : x = 1
    · subst h1
      go_wp2_with fail
      refine (pickW _ _ _ 4 [0, -1, 1000000, 1000001] rfl (by omega) (by omega) HI.out.cur.lt (HI.out.cur.alloc _) (heap_alloc_new w4 _)).mono ?_
      rintro e w5 ⟨y, rfl, _, hc5, hg5⟩
      have HJ := hide (HI.out.call hc5 (alloc_grown hg5))
      clear HI hc5 hg5
      have X := box_of HJ.out.box
      have f := X.1 1 _ rfl
      have z := X.2 1
      clear X
      go_wp2_with fail
      go_meet
      exact ⟨_, _, _, _, _, _, _, _, _, _, _, HJ.out.put 1 _ rfl⟩
    by_cases h2 : x = 2
    · subst h2
      go_wp2_with fail
      refine (pickW _ _ _ 3 [-1, 3, 16777216] rfl (by omega) (by omega) HI.out.cur.lt (HI.out.cur.alloc _) (heap_alloc_new w4 _)).mono ?_
      rintro e w5 ⟨y, rfl, _, hc5, hg5⟩
      have HJ := hide (HI.out.call hc5 (alloc_grown hg5))
      clear HI hc5 hg5
      have X := box_of HJ.out.box
      have f := X.1 4 _ rfl
      have z := X.2 4
      clear X
      go_wp2_with fail
      go_meet
      exact ⟨_, _, _, _, _, _, _, _, _, _, _, HJ.out.put 4 _ rfl⟩
    by_cases h3 : x = 3
    · subst h3
      have HId := hide (HI.out.below (Below.refl w4.heap.size w4).drew)
      have X := box_of HId.out.box
      have f6 := X.1 6 _ rfl
      clear X
      go_upto_region 10 with fail
      go_region_law
        (first
          | (refine step_callN rfl 44 _ _ rfl #[.pointer (some ⟨g, 0, none⟩), .int .i64 40] (by kernel_rfl) (belowW _ g 40 (by omega) (by omega) HId.out.cur) ?_; rintro e w5 ⟨y, rfl, y0, y1, hc5, hg5⟩; refine ⟨_, rfl, ?_⟩; have HJ := hide (HId.out.call hc5 hg5); clear hc5 hg5; have f7 := (box_of HJ.out.box).1 6 _ rfl; have HJ1 := hide (HJ.out.below ((Below.refl w5.heap.size w5).alloc (Nat.le_refl _) (.cells #[.int .i64 y, .int .i64 0] 53))); have f8 := (box_of HJ1.out.box).1 6 _ rfl; have HBx := hide (Box.new w5 #[.int .i64 y, .int .i64 0] 53); have hsJ : w.heap.size + 1 ≤ (w5.alloc (.cells #[.int .i64 y, .int .i64 0] 53)).heap.size := by have := HJ1.out.hi; have := (Array.getElem?_eq_some_iff.1 HJ1.out.box).1; omega)
          | (refine step_app_Note rfl _ _ rfl (w.heap.size + 1) w5.heap.size 1 _ ns (y, 0) (by rfl) HJ1.out.own6 (by rfl) HBx.out (by omega) hsJ ?_; intro g9 c9 w6 o6 g6; have HK := hide (HJ.out.app6 o6 g6 (by omega)); have f9 := (box_of HK.out.1).1 6 _ rfl; have z9 := (box_of HK.out.1).2; clear o6 g6)
          | fail)
      all_goals (
        go_wp2_with fail
        go_meet
        exact ⟨k, i, u, c, n, a5, c5, some ⟨g9, 0, none⟩, c9, cs, ns ++ [(y, 0)], by rw [show (ns ++ [(y, (0 : Int))]).length = ns.length + 1 from by simp]; exact HK.out.2⟩)
    by_cases h4 : x = 4
    · subst h4
      have HId := hide (HI.out.below (Below.refl w4.heap.size w4).drew)
      have HIe := hide ((HI.out.below ((Below.refl w4.heap.size w4).alloc (Nat.le_refl _) (.cells #[.int .i64 0, .int .i64 2147483648] 3))).below (Below.refl (w4.alloc (.cells #[.int .i64 0, .int .i64 2147483648] 3)).heap.size (w4.alloc (.cells #[.int .i64 0, .int .i64 2147483648] 3))).drew)
      have HL0 : Hid ((w4.alloc (.cells #[.int .i64 0, .int .i64 2147483648] 3)).drew.heap[w4.heap.size]? = some (.cells #[.int .i64 0, .int .i64 2147483648] 3 (0, 0))) := hide (heap_alloc_new w4 (.cells #[.int .i64 0, .int .i64 2147483648] 3))
      have f6 := (box_of HId.out.box).1 5 _ rfl
      have f7 := (box_of HIe.out.box).1 5 _ rfl
      have hgL : g < w4.heap.size := HI.out.cur.lt
      go_upto_region 12 with fail
      go_region_law
        (first
          | (refine step_callN rfl 44 _ _ rfl #[.pointer (some ⟨g, 0, none⟩), .int .i64 10] (by kernel_rfl) (belowW w4.drew g 10 (by omega) (by omega) HId.out.cur) ?_; rintro e w5 ⟨y, rfl, y0, y1, hc5, hg5⟩; refine ⟨_, rfl, ?_⟩; have HJ := hide (HId.out.call hc5 hg5); clear hc5 hg5; have f8 := (box_of HJ.out.box).1 5 _ rfl; have HJ1 := hide (HJ.out.below ((Below.refl w5.heap.size w5).alloc (Nat.le_refl _) (.cells #[.int .i64 0, .int .i64 2147483648] 3))); have f9 := (box_of HJ1.out.box).1 5 _ rfl; have HL5 := hide (heap_alloc_new w5 (.cells #[.int .i64 0, .int .i64 2147483648] 3)))
          | (refine step_callN rfl 44 _ _ rfl #[.pointer (some ⟨g, 0, none⟩), .int .i64 10] (by kernel_rfl) (belowW (w4.alloc (.cells #[.int .i64 0, .int .i64 2147483648] 3)).drew g 10 (by omega) (by omega) HIe.out.cur) ?_; rintro e w5 ⟨y, rfl, y0, y1, hc5, hg5⟩; refine ⟨_, rfl, ?_⟩; have HJ := hide (HIe.out.call hc5 hg5); have HL1 := hide ((hg5.block w4.heap.size (by simp) (fun e => by simp only [Option.some.injEq] at e; omega)).trans HL0.out); clear hc5 hg5; have f8 := (box_of HJ.out.box).1 5 _ rfl)
          | (refine step_callN rfl 45 _ _ rfl #[.pointer (some ⟨g, 0, none⟩), .slice (some ⟨w5.heap.size, 0, none⟩) 2 2] (by kernel_rfl) (pickW _ g w5.heap.size 2 [0, 2147483648] rfl (by omega) (by omega) HJ.out.cur.lt HJ1.out.cur HL5.out) ?_; rintro e w6 ⟨x2, rfl, _, hc6, hg6⟩; refine ⟨_, rfl, ?_⟩; have HM := hide (HJ1.out.call hc6 hg6); clear hc6 hg6; have t8 := (box_of HM.out.box).1 5 _ rfl; have HM1 := hide (HM.out.below ((Below.refl w6.heap.size w6).alloc (Nat.le_refl _) (.cells #[.int .i64 y, .bool false, .int .i64 x2] 50))); have t9 := (box_of HM1.out.box).1 5 _ rfl; have HBx := hide (Box.new w6 #[.int .i64 y, .bool false, .int .i64 x2] 50); have hsJ : w.heap.size + 1 ≤ (w6.alloc (.cells #[.int .i64 y, .bool false, .int .i64 x2] 50)).heap.size := by have := HM1.out.hi; have := (Array.getElem?_eq_some_iff.1 HM1.out.box).1; omega)
          | (refine step_callN rfl 45 _ _ rfl #[.pointer (some ⟨g, 0, none⟩), .slice (some ⟨w4.heap.size, 0, none⟩) 2 2] (by kernel_rfl) (pickW _ g w4.heap.size 2 [0, 2147483648] rfl (by omega) (by omega) hgL HJ.out.cur HL1.out) ?_; rintro e w6 ⟨x2, rfl, _, hc6, hg6⟩; refine ⟨_, rfl, ?_⟩; have HM := hide (HJ.out.call hc6 hg6); clear hc6 hg6; have t8 := (box_of HM.out.box).1 5 _ rfl; have HM1 := hide (HM.out.below ((Below.refl w6.heap.size w6).alloc (Nat.le_refl _) (.cells #[.int .i64 y, .bool false, .int .i64 x2] 50))); have t9 := (box_of HM1.out.box).1 5 _ rfl; have HBx := hide (Box.new w6 #[.int .i64 y, .bool false, .int .i64 x2] 50); have hsJ : w.heap.size + 1 ≤ (w6.alloc (.cells #[.int .i64 y, .bool false, .int .i64 x2] 50)).heap.size := by have := HM1.out.hi; have := (Array.getElem?_eq_some_iff.1 HM1.out.box).1; omega)
          | (refine step_app_Cell rfl _ _ rfl (w.heap.size + 1) w6.heap.size 1 _ cs (y, false, x2) (by rfl) HM1.out.own5 (by rfl) HBx.out (by omega) hsJ ?_; intro g9 c9 w7 o7 g7; have HK := hide (HM.out.app5 o7 g7 (by omega)); have k9 := (box_of HK.out.1).1 5 _ rfl; have z9 := (box_of HK.out.1).2; clear o7 g7)
          | fail)
      all_goals (
        go_wp2_with fail
        go_meet
        exact ⟨k, i, u, c, n, some ⟨g9, 0, none⟩, c9, a6, c6, cs ++ [(y, false, x2)], ns, by rw [show (cs ++ [(y, false, x2)]).length = cs.length + 1 from by simp]; exact HK.out.2⟩)
    by_cases h5 : x = 5
    · subst h5
      go_wp2_with fail
      refine (belowW _ _ _ (by omega) (by omega) HI.out.cur).mono ?_
      rintro e w5 ⟨y, rfl, y0, y1, hc5, hg5⟩
      have HJ := hide (HI.out.call hc5 hg5)
      clear HI hc5 hg5
      have X := box_of HJ.out.box
      have f := X.1 2 _ rfl
      have z := X.2 2
      clear X
      go_wp2_with fail
      go_meet
      exact ⟨_, _, _, _, _, _, _, _, _, _, _, HJ.out.put 2 _ rfl⟩
    go_wp2_with fail
    go_meet
    exact ⟨_, _, _, _, _, _, _, _, _, _, _, HI.out⟩
  case rest =>
  clear HI
  have HA := hide hcut
  clear hcut
  obtain ⟨k, i, u, c, n, a5, c5, a6, c6, cs, ns, hI⟩ := HA.out
  have HI := hide hI
  clear hI HA
  have hgl := HI.out.hi
  have X := box_of HI.out.box
  have f0 := X.1 0 _ rfl
  have f1 := X.1 1 _ rfl
  have f2 := X.1 2 _ rfl
  have f3 := X.1 3 _ rfl
  have f4 := X.1 4 _ rfl
  have f5 := X.1 5 _ rfl
  have f6 := X.1 6 _ rfl
  have Y := box_of HI.out.res
  have r0 := Y.1 0 _ rfl
  have r1 := Y.1 1 _ rfl
  have r2 := Y.1 2 _ rfl
  have r3 := Y.1 3 _ rfl
  have r4 := Y.1 4 _ rfl
  have r5 := Y.1 5 _ rfl
  have r6 := Y.1 6 _ rfl
  have z0 := Y.2 0
  have z1 := Y.2 1
  have z2 := Y.2 2
  have z3 := Y.2 3
  have z4 := Y.2 4
  have z5 := Y.2 5
  have z6 := Y.2 6
  clear X Y
  go_wp2
  have hA := HI.out.ans (.int .i64 k) (.int .i64 i) (.int .i64 u) (.int .i64 c) (.int .i64 n) (.slice a5 cs.length c5) (.slice a6 ns.length c6)
  exact bodyPost_ret (v := .agg #[.int .i64 k, .int .i64 i, .int .i64 u, .int .i64 c, .int .i64 n, .slice a5 cs.length c5, .slice a6 ns.length c6]) (results_one Tryd.results28 _ _ _ rfl (load7 (put7 HI.out.res _ _ _ _ _ _ _))) rfl ⟨k, i, u, c, n, a5, c5, a6, c6, cs, ns, rfl, hA.1, hA.2.1, HI.out.len5, HI.out.len6, hA.2.2.1, hA.2.2.2⟩
end Go.Proofs.YtbkhlaiifbdfoaaDoor
/-
  What DrawMsgBytes, DrawMsgOk, DrawValOk and DrawNotesOk do: something is drawn, in new memory; nothing that was there is turned.
-/
namespace Go.Proofs.YtbkhlaiifbdfoaaDoor
open Go.RowKit

theorem below_new {w w1 w2 : World} (h : Below w.heap.size w w1) (hg : w1.grownBy w2 (some w.heap.size)) : Below w.heap.size w w2 := h.grown hg h.size (fun k hk => by cases hk; exact Nat.le_refl _)
theorem below_at {w w1 w2 : World} {g : Nat} (h : Below w.heap.size w w1) (hg : w1.grownBy w2 (some g)) (hl : w.heap.size ≤ g) : Below w.heap.size w w2 := h.grown hg h.size (fun k hk => by cases hk; exact hl)

/-- A drawn message. -/
def AMsg (w : World) (e : Ending) (w' : World) : Prop := ∃ k i u c n a5 c5 a6 c6 cs ns, e = .returned (.agg #[.int .i64 k, .int .i64 i, .int .i64 u, .int .i64 c, .int .i64 n, .slice a5 (cs : List (Int × Bool × Int)).length c5, .slice a6 (ns : List (Int × Int)).length c6]) ∧
  OwnC w' w.heap.size (.slice a5 cs.length c5) cs ∧ OwnN w' w.heap.size (.slice a6 ns.length c6) ns ∧ cs.length ≤ 50 ∧ ns.length ≤ 50 ∧ Below w.heap.size w w'

set_option maxRecDepth 100000 in
set_option maxHeartbeats 2000000 in
theorem drawMsgBytes (w : World) (a : Option Addr) (len cap : Nat) (zs : List Int) (hin : In w w.heap.size a len zs) :
    Calls Tryd.prog 6 #[.slice a len cap] w (AMsg w) := by
  have bA := (Below.refl w.heap.size w).alloc (Nat.le_refl _) (.cells #[.int .i64 0, .int .i64 0, .int .i64 0, .int .i64 0, .int .i64 0, .slice none 0 0, .slice none 0 0] 27)
  have HI := hide ((hin.kept bA.block).up bA.size)
  have E := hide (heap_alloc_new w (.cells #[.int .i64 0, .int .i64 0, .int .i64 0, .int .i64 0, .int .i64 0, .slice none 0 0, .slice none 0 0] 27))
  have HB := hide bA
  have hs0 := (Array.getElem?_eq_some_iff.1 E.out).1
  clear bA hin
  go_enter Tryd.func6, Tryd.ntmps6
  go_wp2_with fail
  generalize w.alloc (.cells #[.int .i64 0, .int .i64 0, .int .i64 0, .int .i64 0, .int .i64 0, .slice none 0 0, .slice none 0 0] 27) = W at *
  refine (newDraw _ _ _ _ _ HI.out).mono ?_
  rintro e w1 ⟨rfl, hc1, b1⟩
  have HC : Hid (CurW w1 W.heap.size) := hide ⟨_, _, hc1⟩
  have hs1 := hc1.lt
  replace E := hide ((b1.block w.heap.size hs0).trans E.out)
  replace HB := hide (HB.out.trans (b1.mono HB.out.size))
  clear b1 hc1 HI
  go_wp2_with fail
  refine (drawD _ _ HC.out).mono ?_
  rintro e w2 ⟨k, i, u, c, n, a5, c5, a6, c6, cs, ns, rfl, o5, o6, hl5, hl6, hc2, hg2⟩
  have O5 := hide o5
  have O6 := hide o6
  replace E := hide ((hg2.block w.heap.size (by omega) (fun e => by simp only [Option.some.injEq] at e; omega)).trans E.out)
  replace HB := hide (below_at HB.out hg2 (Nat.le_of_lt hs0))
  clear o5 o6 hc2 hg2 HC
  have Y := box_of E.out
  have r0 := Y.1 0 _ rfl
  have r1 := Y.1 1 _ rfl
  have r2 := Y.1 2 _ rfl
  have r3 := Y.1 3 _ rfl
  have r4 := Y.1 4 _ rfl
  have r5 := Y.1 5 _ rfl
  have r6 := Y.1 6 _ rfl
  have z0 := Y.2 0
  have z1 := Y.2 1
  have z2 := Y.2 2
  have z3 := Y.2 3
  have z4 := Y.2 4
  have z5 := Y.2 5
  have z6 := Y.2 6
  clear Y
  go_wp2
  exact bodyPost_ret (v := .agg #[.int .i64 k, .int .i64 i, .int .i64 u, .int .i64 c, .int .i64 n, .slice a5 cs.length c5, .slice a6 ns.length c6]) (results_one Tryd.results6 _ _ _ rfl (load7 (put7 E.out _ _ _ _ _ _ _))) rfl
    ⟨k, i, u, c, n, a5, c5, a6, c6, cs, ns, rfl, OwnC.mono (own_put7 O5.out (by omega) _ _ _ _ _ _ _) (by omega), OwnN.mono (own_put7 O6.out (by omega) _ _ _ _ _ _ _) (by omega), hl5, hl6, ((((((HB.out.setCell (Nat.le_refl _) _).setCell (Nat.le_refl _) _).setCell (Nat.le_refl _) _).setCell (Nat.le_refl _) _).setCell (Nat.le_refl _) _).setCell (Nat.le_refl _) _).setCell (Nat.le_refl _) _⟩

set_option maxRecDepth 100000 in
set_option maxHeartbeats 2000000 in
theorem drawMsgOk (w : World) (a : Option Addr) (len cap : Nat) (zs : List Int) (hin : In w w.heap.size a len zs) :
    Calls Tryd.prog 14 #[.slice a len cap] w (AMsg w) := by
  have bA := (Below.refl w.heap.size w).alloc (Nat.le_refl _) (.cells #[.int .i64 0, .int .i64 0, .int .i64 0, .int .i64 0, .int .i64 0, .slice none 0 0, .slice none 0 0] 27)
  have HI := hide ((hin.kept bA.block).up bA.size)
  have E := hide (heap_alloc_new w (.cells #[.int .i64 0, .int .i64 0, .int .i64 0, .int .i64 0, .int .i64 0, .slice none 0 0, .slice none 0 0] 27))
  have HB := hide bA
  have hs0 := (Array.getElem?_eq_some_iff.1 E.out).1
  clear bA hin
  go_enter Tryd.func14, Tryd.ntmps14
  go_wp2_with fail
  generalize w.alloc (.cells #[.int .i64 0, .int .i64 0, .int .i64 0, .int .i64 0, .int .i64 0, .slice none 0 0, .slice none 0 0] 27) = W at *
  refine (newDraw _ _ _ _ _ HI.out).mono ?_
  rintro e w1 ⟨rfl, hc1, b1⟩
  have HC : Hid (CurW w1 W.heap.size) := hide ⟨_, _, hc1⟩
  have hs1 := hc1.lt
  replace E := hide ((b1.block w.heap.size hs0).trans E.out)
  replace HB := hide (HB.out.trans (b1.mono HB.out.size))
  clear b1 hc1 HI
  go_wp2_with fail
  refine (drawD _ _ HC.out).mono ?_
  rintro e w2 ⟨k, i, u, c, n, a5, c5, a6, c6, cs, ns, rfl, o5, o6, hl5, hl6, hc2, hg2⟩
  have O5 := hide o5
  have O6 := hide o6
  replace E := hide ((hg2.block w.heap.size (by omega) (fun e => by simp only [Option.some.injEq] at e; omega)).trans E.out)
  replace HB := hide (below_at HB.out hg2 (Nat.le_of_lt hs0))
  clear o5 o6 hc2 hg2 HC
  have Y := box_of E.out
  have r0 := Y.1 0 _ rfl
  have r1 := Y.1 1 _ rfl
  have r2 := Y.1 2 _ rfl
  have r3 := Y.1 3 _ rfl
  have r4 := Y.1 4 _ rfl
  have r5 := Y.1 5 _ rfl
  have r6 := Y.1 6 _ rfl
  have z0 := Y.2 0
  have z1 := Y.2 1
  have z2 := Y.2 2
  have z3 := Y.2 3
  have z4 := Y.2 4
  have z5 := Y.2 5
  have z6 := Y.2 6
  clear Y
  go_wp2
  exact bodyPost_ret (v := .agg #[.int .i64 k, .int .i64 i, .int .i64 u, .int .i64 c, .int .i64 n, .slice a5 cs.length c5, .slice a6 ns.length c6]) (results_one Tryd.results14 _ _ _ rfl (load7 (put7 E.out _ _ _ _ _ _ _))) rfl
    ⟨k, i, u, c, n, a5, c5, a6, c6, cs, ns, rfl, OwnC.mono (own_put7 O5.out (by omega) _ _ _ _ _ _ _) (by omega), OwnN.mono (own_put7 O6.out (by omega) _ _ _ _ _ _ _) (by omega), hl5, hl6, ((((((HB.out.setCell (Nat.le_refl _) _).setCell (Nat.le_refl _) _).setCell (Nat.le_refl _) _).setCell (Nat.le_refl _) _).setCell (Nat.le_refl _) _).setCell (Nat.le_refl _) _).setCell (Nat.le_refl _) _⟩

set_option maxRecDepth 100000 in
set_option maxHeartbeats 2000000 in
theorem drawNotesOk (w : World) (a : Option Addr) (len cap : Nat) (zs : List Int) (hin : In w w.heap.size a len zs) :
    Calls Tryd.prog 16 #[.slice a len cap] w fun e w' => ∃ a c ys, e = .returned (.slice a (ys : List (Int × Int)).length c) ∧ OwnN w' w.heap.size (.slice a ys.length c) ys ∧ ys.length ≤ 200 ∧ Below w.heap.size w w' := by
  go_enter Tryd.func16, Tryd.ntmps16
  go_wp2_with fail
  refine (newDraw _ _ _ _ _ hin).mono ?_
  rintro e w1 ⟨rfl, hc, b1⟩
  have HB := hide b1
  have HC : Hid (CurW w1 w.heap.size) := hide ⟨_, _, hc⟩
  have hs1 := hc.lt
  clear hc hin b1
  go_wp2_with fail
  refine (notesD _ _ HC.out).mono ?_
  rintro e w2 ⟨a2, c2, ys, rfl, o2, hl2, hc2, hg2⟩
  have HN := hide (o2.mono (show w.heap.size + 1 ≤ w1.heap.size from hs1))
  replace HC := hide hc2
  replace HB := hide (below_new HB.out hg2)
  clear o2 hc2 hg2
  go_wp2_with fail
  refine (belowW _ _ _ (by omega) (by omega) HC.out).mono ?_
  rintro e w3 ⟨x, rfl, x0, x1, hc3, hg3⟩
  replace HN := hide (HN.out.kept hg3 (fun q hq e => by simp only [Option.some.injEq] at e; have := (HN.out.lt q hq).1; omega))
  replace HC := hide hc3
  replace HB := hide (below_new HB.out hg3)
  clear hc3 hg3
  by_cases h0 : x = 0
  · subst h0
    go_wp2_with fail
    refine (belowW _ _ _ (by omega) (by omega) HC.out).mono ?_
    rintro e w4 ⟨y, rfl, y0, y1, hc4, hg4⟩
    replace HN := hide (HN.out.kept hg4 (fun q hq e => by simp only [Option.some.injEq] at e; have := (HN.out.lt q hq).1; omega))
    replace HC := hide hc4
    replace HB := hide (below_new HB.out hg4)
    clear hc4 hg4
    go_wp2_with fail
    refine (belowW _ _ _ (by omega) (by omega) HC.out).mono ?_
    rintro e w5 ⟨z, rfl, z0, z1, hc5, hg5⟩
    replace HN := hide (HN.out.kept hg5 (fun q hq e => by simp only [Option.some.injEq] at e; have := (HN.out.lt q hq).1; omega))
    replace HC := hide hc5
    replace HB := hide (below_new HB.out hg5)
    clear hc5 hg5
    have HBx := hide (Box.new w5 #[.int .i64 y, .int .i64 z] 53)
    have bD := (Below.refl w5.heap.size w5).alloc (Nat.le_refl _) (.cells #[.int .i64 y, .int .i64 z] 53)
    have HLo := hide HN.out.lt
    replace HN := hide (HN.out.below bD)
    replace HB := hide (HB.out.trans (bD.mono HB.out.size))
    have hsB : w.heap.size + 1 ≤ (w5.alloc (.cells #[.int .i64 y, .int .i64 z] 53)).heap.size := by have := HC.out.lt; simp; omega
    clear bD
    go_wp2_with (at_builtin; refine app_Note rfl _ _ rfl (w.heap.size + 1) w5.heap.size 1 _ ys (y, z) rfl HN.out rfl HBx.out (by omega) hsB ?_; intro v6 w6 o6 g6; have HN6 := hide o6; have HB6 := hide (HB.out.grown g6 (by omega) (fun q hq => by have := (HLo.out q hq).1; omega)); clear o6 g6)
    obtain ⟨a7, c7, rfl, _⟩ := notes_at (HN6.out.rd (Nat.le_refl _))
    go_wp2
    go_ret
    exact ⟨_, _, _, rfl, HN6.out.mono (Nat.le_succ _), by simp; omega, HB6.out⟩
  by_cases h1 : x = 1
  · subst h1
    go_wp2
    go_loopw [4, 5] (fun v i wr => ∃ (j : Nat) (ys : List (Int × Int)) (a : Option Addr) (c : Nat), i = .int .i64 (j : Int) ∧ v = .slice a ys.length c ∧ ys.length ≤ j ∧ j ≤ 140 ∧ Hid (OwnN wr (w.heap.size + 1) v ys) ∧ Hid (CurW wr w.heap.size) ∧ Hid (Below w.heap.size w wr)) (fun _ i _ => 200 - (intOf i).toNat)
    case atStart => exact ⟨ys.length, ys, _, _, rfl, rfl, Nat.le_refl _, by omega, HN, HC, HB⟩
    case round =>
      clear HN HC HB hl2
      obtain ⟨j, ys, a3, c3, rfl, rfl, hyl, hj, HN, HC, HB⟩ := hrel
      go_wp2_with fail
      refine (belowW _ _ _ (by omega) (by omega) HC.out).mono ?_
      rintro e w4 ⟨y, rfl, y0, y1, hc4, hg4⟩
      replace HN := hide (HN.out.kept hg4 (fun q hq e => by simp only [Option.some.injEq] at e; have := (HN.out.lt q hq).1; omega))
      replace HC := hide hc4
      replace HB := hide (below_new HB.out hg4)
      clear hc4 hg4
      by_cases hlt : (j : Int) < 130 + y
      · have HBx := hide (Box.new w4 #[.int .i64 (100 + (j : Int)), .int .i64 1] 53)
        have bD := (Below.refl w4.heap.size w4).alloc (Nat.le_refl _) (.cells #[.int .i64 (100 + (j : Int)), .int .i64 1] 53)
        have HLo := hide HN.out.lt
        replace HN := hide (HN.out.below bD)
        replace HB := hide (HB.out.trans (bD.mono HB.out.size))
        have hsB : w.heap.size + 1 ≤ (w4.alloc (.cells #[.int .i64 (100 + (j : Int)), .int .i64 1] 53)).heap.size := by have := HC.out.lt; simp; omega
        replace HC := hide (HC.out.alloc (.cells #[.int .i64 (100 + (j : Int)), .int .i64 1] 53))
        clear bD
        go_wp2_with (at_builtin; refine app_Note rfl _ _ rfl (w.heap.size + 1) w4.heap.size 1 _ ys (100 + (j : Int), 1) rfl HN.out rfl HBx.out (by omega) hsB ?_; intro v6 w6 o6 g6; have HN6 := hide o6; have HC6 := hide (HC.out.row g6 (fun q hq => by have := (HLo.out q hq).1; omega)); have HB6 := hide (HB.out.grown g6 (by omega) (fun q hq => by have := (HLo.out q hq).1; omega)); clear o6 g6)
        obtain ⟨a7, c7, rfl, _⟩ := notes_at (HN6.out.rd (Nat.le_refl _))
        exact ⟨⟨j + 1, ys ++ [(100 + (j : Int), 1)], _, _, by go_num, rfl, by simp; omega, by omega, HN6, HC6, HB6⟩, by simp [intOf]; omega⟩
      · go_wp2
        go_ret
        exact ⟨_, _, _, rfl, HN.out.mono (Nat.le_succ _), by omega, HB.out⟩
  go_wp2
  go_ret
  exact ⟨_, _, _, rfl, HN.out.mono (Nat.le_succ _), by omega, HB.out⟩
end Go.Proofs.YtbkhlaiifbdfoaaDoor
/-
  A part of a row that may be read may be read.
-/
namespace Go.Proofs.YtbkhlaiifbdfoaaDoor
open Go.RowKit

theorem In.take {w : World} {B len : Nat} {a : Option Addr} {zs : List Int} (h : In w B a len zs) (n : Nat) (hn : n ≤ len) : In w B a n (zs.take n) := by
  have hl := h.1
  refine ⟨by simp; omega, by have := h.2.1; omega, fun j hj => ?_, fun hp => ?_⟩
  · have := h.2.2.1 j (by omega)
    simpa [List.getD, hj] using this
  · obtain ⟨b, o, ha, hb, hc⟩ := h.2.2.2 (by omega)
    refine ⟨b, o, ha, hb, fun j hj => ?_⟩
    have := hc j (by omega)
    rw [this]
    simp [List.getD, hj]
theorem In.drop {w : World} {B len : Nat} {b o : Nat} {zs : List Int} (h : In w B (some ⟨b, o, none⟩) len zs) (n : Nat) (hn : n ≤ len) : In w B (some ⟨b, o + n, none⟩) (len - n) (zs.drop n) := by
  have hl := h.1
  refine ⟨by simp; omega, by have := h.2.1; omega, fun j hj => ?_, fun hp => ?_⟩
  · have := h.2.2.1 (n + j) (by omega)
    simpa [List.getD] using this
  · obtain ⟨b', o', ha, hb, hc⟩ := h.2.2.2 (by omega)
    cases ha
    refine ⟨_, _, rfl, hb, fun j hj => ?_⟩
    have := hc (n + j) (by omega)
    rw [Nat.add_assoc, this]
    simp [List.getD]

end Go.Proofs.YtbkhlaiifbdfoaaDoor
