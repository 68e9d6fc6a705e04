/-
  What is drawn for messages, as far as it matters (how great it is, and whose memory): numbers, values, cells, notes.
-/
import Derived.Test.YtabeeppfgkeahaaCurF
import Derived.Test.YtabeeppfgkeahaaBoxW
import Derived.Test.YtabeeppfgkeahaaDeepTo
import Derived.RegionTactic
import Derived.BigRegion
import Derived.Great.BuildSlice
namespace Go.Proofs.Ytabeeppfgkeahaa
open Go.RowKit

/-- A cursor lies at block g. -/
def CurW (w : World) (g : Nat) : Prop := ∃ zs s, Cur w g zs s
theorem CurW.lt {w : World} {g : Nat} (h : CurW w g) : g < w.heap.size := by obtain ⟨_, _, h⟩ := h; exact h.lt
theorem CurW.alloc {w : World} {g : Nat} (h : CurW w g) (o : Obj) : CurW (w.alloc o) g := by obtain ⟨_, _, h⟩ := h; exact ⟨_, _, h.alloc o⟩
theorem CurW.row {w w' : World} {g : Nat} {row : Option Nat} (h : CurW w g) (hg : w.grownBy w' row) (hr : ∀ k, row = some k → g < k) : CurW w' g := by obtain ⟨_, _, h⟩ := h; exact ⟨_, _, h.row hg hr⟩
theorem belowW (w : World) (g : Nat) (n : Int) (hn : 0 < n) (hn' : n ≤ 1000000000) (hc : CurW w g) :
    Calls Try.prog 45 #[.pointer (some ⟨g, 0, none⟩), .int .i64 n] w fun e w' => ∃ k, e = .returned (.int .i64 k) ∧ 0 ≤ k ∧ k < n ∧ CurW w' g ∧ w.grownBy w' (some g) := by
  obtain ⟨zs, s, hc⟩ := hc
  exact (belowDraw w g zs s n hn hn' hc).mono fun e w' ⟨h1, h2, h3⟩ => ⟨_, h1, (belowF_bd zs s n hn).1, (belowF_bd zs s n hn).2, ⟨_, _, h2⟩, h3⟩
theorem onceW (w : World) (g : Nat) (n : Int) (hn : 0 < n) (hn' : n ≤ 1000000000) (hc : CurW w g) :
    Calls Try.prog 46 #[.pointer (some ⟨g, 0, none⟩), .int .i64 n] w fun e w' => ∃ b : Bool, e = .returned (.bool b) ∧ CurW w' g ∧ w.grownBy w' (some g) := by
  obtain ⟨zs, s, hc⟩ := hc
  exact (onceDraw w g zs s n hn hn' hc).mono fun e w' ⟨h1, h2, h3⟩ => ⟨_, h1, ⟨_, _, h2⟩, h3⟩
theorem pickW (w : World) (g l n : Nat) (ls : List Int) (hz : ls.length = n) (hn : 0 < n) (hn' : n ≤ 256) (hgl : g < l) (hc : CurW w g) (hl : w.heap[l]? = some (.cells (ls.map (Value.int .i64)).toArray 3 (0, 0))) :
    Calls Try.prog 49 #[.pointer (some ⟨g, 0, none⟩), .slice (some ⟨l, 0, none⟩) n n] w fun e w' => ∃ k, e = .returned (.int .i64 k) ∧ k ∈ ls ∧ CurW w' g ∧ w.grownBy w' (some g) := by
  obtain ⟨zs, s, hc⟩ := hc
  exact (pickDraw w g l n zs s ls hz hn hn' hgl hc hl).mono fun e w' ⟨h1, h2, h3⟩ => ⟨_, h1, pickF_mem zs s ls (by omega), ⟨_, _, h2⟩, h3⟩

set_option maxRecDepth 100000 in
set_option maxHeartbeats 2000000 in
theorem wordW (w : World) (g : Nat) (hc : CurW w g) :
    Calls Try.prog 51 #[.pointer (some ⟨g, 0, none⟩)] w fun e w' => ∃ k, e = .returned (.int .i64 k) ∧ -2147483648 ≤ k ∧ k ≤ 2147483647 ∧ CurW w' g ∧ w.grownBy w' (some g) := by
  have HC := hide hc
  clear hc
  go_enter Try.func51, Try.ntmps51
  go_wp2_with fail
  refine (pickW _ _ _ 8 [0, 1, -1, 5, 7, 100, 2147483647, -2147483648] rfl (by omega) (by omega) HC.out.lt (HC.out.alloc _) (heap_alloc_new w _)).mono ?_
  rintro e w1 ⟨k, rfl, hk, hc1, hg1⟩
  have hb : -2147483648 ≤ k ∧ k ≤ 2147483647 := by simp at hk; omega
  have HG := hide (alloc_grown hg1)
  have HC1 := hide hc1
  clear hk hc1 hg1
  go_wp2
  go_ret
  exact ⟨k, rfl, hb.1, hb.2, HC1.out, HG.out⟩

theorem loadV {w : World} {g : Nat} {x y : Value} (h : w.heap[g]? = some (.cells #[x, y] 48 (0, 0))) : (loadVar 48 ⟨g, 0, none⟩).run Try.prog w = .ok (.agg #[x, y]) w :=
  run_loadVar_row w g 48 48 #[x, y] (0, 0) _ h Try.underlying48 rfl (by kernel_rfl)
/-- A block of one's own is stored into. -/
theorem grown_mine {w w1 : World} {g l : Nat} (h : w.grownBy w1 (some g)) (hl : w.heap.size ≤ l) (o : Nat) (v : Value) : w.grownBy (w1.setCell ⟨l, o, none⟩ v) (some g) :=
  grown_step h (grown_set (g := l) (World.grownBy.refl w1 (some l)) o v) (fun k hk => by cases hk; exact .inr hl)
theorem CurW.mine {w : World} {g l : Nat} (h : CurW w g) (hl : g < l) (o : Nat) (v : Value) : CurW (w.setCell ⟨l, o, none⟩ v) g :=
  h.row (grown_set (g := l) (World.grownBy.refl w (some l)) o v) (fun k hk => by cases hk; exact hl)
theorem same_g {w : World} {g : Nat} : ∀ k, (some g : Option Nat) = some k → k = g ∨ w.heap.size ≤ k := fun k hk => by cases hk; exact .inl rfl

set_option maxRecDepth 100000 in
set_option maxHeartbeats 2000000 in
theorem valW (w : World) (g : Nat) (hc : CurW w g) :
    Calls Try.prog 47 #[.pointer (some ⟨g, 0, none⟩)] w fun e w' => ∃ (r : Bool) (k : Int), e = .returned (.agg #[.bool r, .int .i64 k]) ∧ -2147483648 ≤ k ∧ k ≤ 2147483647 ∧ CurW w' g ∧ w.grownBy w' (some g) := by
  have hgl := hc.lt
  have HC := hide (hc.alloc (.cells #[.bool false, .int .i64 0] 48))
  have E := hide (heap_alloc_new w (.cells #[.bool false, .int .i64 0] 48))
  have HG := hide (World.grownBy_alloc w (.cells #[.bool false, .int .i64 0] 48) (some g))
  clear hc
  go_enter Try.func47, Try.ntmps47
  go_wp2_with fail
  generalize w.alloc (.cells #[.bool false, .int .i64 0] 48) = W at *
  refine (onceW _ _ _ (by omega) (by omega) HC.out).mono ?_
  rintro e w1 ⟨b, rfl, hc1, hg1⟩
  have hs0 := (Array.getElem?_eq_some_iff.1 E.out).1
  replace E := hide ((hg1.block w.heap.size hs0 (fun e => by simp only [Option.some.injEq] at e; omega)).trans E.out)
  replace HG := hide (grown_step HG.out hg1 same_g)
  replace HC := hide hc1
  clear hc1 hg1 hs0
  have hs1 := (Array.getElem?_eq_some_iff.1 E.out).1
  cases b
  · go_wp2_with fail
    refine (wordW _ _ HC.out).mono ?_
    rintro e w2 ⟨k, rfl, k0, k1, hc2, hg2⟩
    replace E := hide ((hg2.block w.heap.size hs1 (fun e => by simp only [Option.some.injEq] at e; omega)).trans E.out)
    replace HG := hide (grown_step HG.out hg2 same_g)
    replace HC := hide hc2
    clear hc2 hg2
    have X := box_of E.out
    have p0 := X.1 0 _ rfl
    have p1 := X.1 1 _ rfl
    have z0 := X.2 0
    have z1 := X.2 1
    clear X
    go_wp2
    exact bodyPost_ret (v := .agg #[.bool false, .int .i64 k]) (results_one Try.results47 _ _ _ rfl (loadV (putN2 E.out _ _))) rfl ⟨_, _, rfl, k0, k1, (HC.out.mine hgl _ _).mine hgl _ _, grown_mine (grown_mine HG.out (Nat.le_refl _) _ _) (Nat.le_refl _) _ _⟩
  · go_wp2_with fail
    refine (pickW _ _ _ 4 [0, 1, 17, 18] rfl (by omega) (by omega) HC.out.lt (HC.out.alloc _) (heap_alloc_new w1 _)).mono ?_
    rintro e w2 ⟨k, rfl, hk, hc2, hg2⟩
    have hb : -2147483648 ≤ k ∧ k ≤ 2147483647 := by simp at hk; omega
    have hg3 := alloc_grown hg2
    replace E := hide ((hg3.block w.heap.size hs1 (fun e => by simp only [Option.some.injEq] at e; omega)).trans E.out)
    replace HG := hide (grown_step HG.out hg3 same_g)
    replace HC := hide hc2
    clear hc2 hg2 hg3 hk
    have X := box_of E.out
    have p0 := X.1 0 _ rfl
    have p1 := X.1 1 _ rfl
    have z0 := X.2 0
    have z1 := X.2 1
    clear X
    go_wp2
    exact bodyPost_ret (v := .agg #[.bool true, .int .i64 k]) (results_one Try.results47 _ _ _ rfl (loadV (putN2 E.out _ _))) rfl ⟨_, _, rfl, hb.1, hb.2, (HC.out.mine hgl _ _).mine hgl _ _, grown_mine (grown_mine HG.out (Nat.le_refl _) _ _) (Nat.le_refl _) _ _⟩
end Go.Proofs.Ytabeeppfgkeahaa
