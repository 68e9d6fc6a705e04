/-
  What is drawn by a cursor, as far as it matters: which numbers, words and texts may come; nothing is turned but the cursor.
-/
import Derived.Test.YtgegmocgbjklkaaDoorCurF
import Derived.Test.YtgegmocgbjklkaaDoorBoxW
import Derived.Test.YtgegmocgbjklkaaDoorDrawTextF
import Derived.RegionTactic
import Derived.BigRegion
import Derived.Great.BuildSlice
namespace Go.Proofs.YtgegmocgbjklkaaDoor
open Go.RowKit

/-- A cursor lies at block g. -/
def CurW (w : World) (g : Nat) : Prop := ∃ zs s, Cur w g zs s
theorem CurW.lt {w : World} {g : Nat} (h : CurW w g) : g < w.heap.size := by obtain ⟨_, _, h⟩ := h; exact h.lt
theorem CurW.alloc {w : World} {g : Nat} (h : CurW w g) (o : Obj) : CurW (w.alloc o) g := by obtain ⟨_, _, h⟩ := h; exact ⟨_, _, h.alloc o⟩
theorem CurW.row {w w' : World} {g : Nat} {row : Option Nat} (h : CurW w g) (hg : w.grownBy w' row) (hr : ∀ k, row = some k → g < k) : CurW w' g := by obtain ⟨_, _, h⟩ := h; exact ⟨_, _, h.row hg hr⟩
theorem CurW.mine {w : World} {g l : Nat} (h : CurW w g) (hl : g < l) (o : Nat) (v : Value) : CurW (w.setCell ⟨l, o, none⟩ v) g :=
  h.row (grown_set (g := l) (World.grownBy.refl w (some l)) o v) (fun k hk => by cases hk; exact hl)
theorem CurW.below {w w' : World} {g : Nat} (h : CurW w g) (hb : Below w.heap.size w w') : CurW w' g := h.row (grown_of_below hb) (fun k hk => by cases hk)
/-- A block of one's own is stored into. -/
theorem grown_mine {w w1 : World} {g l : Nat} (h : w.grownBy w1 (some g)) (hl : w.heap.size ≤ l) (o : Nat) (v : Value) : w.grownBy (w1.setCell ⟨l, o, none⟩ v) (some g) :=
  grown_step h (grown_set (g := l) (World.grownBy.refl w1 (some l)) o v) (fun k hk => by cases hk; exact .inr hl)
theorem same_g {w : World} {g : Nat} : ∀ k, (some g : Option Nat) = some k → k = g ∨ w.heap.size ≤ k := fun k hk => by cases hk; exact .inl rfl
theorem belowW (w : World) (g : Nat) (n : Int) (hn : 0 < n) (hn' : n ≤ 1000000000) (hc : CurW w g) :
    Calls Tryd.prog 33 #[.pointer (some ⟨g, 0, none⟩), .int .i64 n] w fun e w' => ∃ k, e = .returned (.int .i64 k) ∧ 0 ≤ k ∧ k < n ∧ CurW w' g ∧ w.grownBy w' (some g) := by
  obtain ⟨zs, s, hc⟩ := hc
  exact (belowDraw w g zs s n hn hn' hc).mono fun e w' ⟨h1, h2, h3⟩ => ⟨_, h1, (belowF_bd zs s n hn).1, (belowF_bd zs s n hn).2, ⟨_, _, h2⟩, h3⟩
theorem onceW (w : World) (g : Nat) (n : Int) (hn : 0 < n) (hn' : n ≤ 1000000000) (hc : CurW w g) :
    Calls Tryd.prog 32 #[.pointer (some ⟨g, 0, none⟩), .int .i64 n] w fun e w' => ∃ b : Bool, e = .returned (.bool b) ∧ CurW w' g ∧ w.grownBy w' (some g) := by
  obtain ⟨zs, s, hc⟩ := hc
  exact (onceDraw w g zs s n hn hn' hc).mono fun e w' ⟨h1, h2, h3⟩ => ⟨_, h1, ⟨_, _, h2⟩, h3⟩
theorem pickW (w : World) (g l n : Nat) (ls : List Int) (hz : ls.length = n) (hn : 0 < n) (hn' : n ≤ 256) (hgl : g < l) (hc : CurW w g) (hl : w.heap[l]? = some (.cells (ls.map (Value.int .i64)).toArray 3 (0, 0))) :
    Calls Tryd.prog 34 #[.pointer (some ⟨g, 0, none⟩), .slice (some ⟨l, 0, none⟩) n n] w fun e w' => ∃ k, e = .returned (.int .i64 k) ∧ k ∈ ls ∧ CurW w' g ∧ w.grownBy w' (some g) := by
  obtain ⟨zs, s, hc⟩ := hc
  exact (pickDraw w g l n zs s ls hz hn hn' hgl hc hl).mono fun e w' ⟨h1, h2, h3⟩ => ⟨_, h1, pickF_mem zs s ls (by omega), ⟨_, _, h2⟩, h3⟩
theorem pickTextW (w : World) (g l n : Nat) (ls : List ByteArray) (hz : ls.length = n) (hn : 0 < n) (hn' : n ≤ 256) (hgl : g < l) (hc : CurW w g) (hl : w.heap[l]? = some (.cells (ls.map Value.string).toArray 9 (0, 0))) :
    Calls Tryd.prog 38 #[.pointer (some ⟨g, 0, none⟩), .slice (some ⟨l, 0, none⟩) n n] w fun e w' => ∃ s, e = .returned (.string s) ∧ s ∈ ls ∧ CurW w' g ∧ w.grownBy w' (some g) := by
  obtain ⟨zs, s, hc⟩ := hc
  exact (pickText w g l n zs s ls hz hn hn' hgl hc hl).mono fun e w' ⟨h1, h2, h3⟩ => ⟨_, h1, pickS_mem zs s ls (by omega), ⟨_, _, h2⟩, h3⟩
set_option maxRecDepth 100000 in
set_option maxHeartbeats 2000000 in
theorem wordW (w : World) (g : Nat) (hc : CurW w g) :
    Calls Tryd.prog 47 #[.pointer (some ⟨g, 0, none⟩)] w fun e w' => ∃ k, e = .returned (.int .i64 k) ∧ -2147483648 ≤ k ∧ k ≤ 2147483647 ∧ CurW w' g ∧ w.grownBy w' (some g) := by
  have HC := hide hc
  clear hc
  go_enter Tryd.func47, Tryd.ntmps47
  go_wp2_with fail
  refine (pickW _ _ _ 8 [0, 1, -1, 5, 7, 100, 2147483647, -2147483648] rfl (by omega) (by omega) HC.out.lt (HC.out.alloc _) (heap_alloc_new w _)).mono ?_
  rintro e w1 ⟨k, rfl, hk, hc1, hg1⟩
  have hb : -2147483648 ≤ k ∧ k ≤ 2147483647 := by simp at hk; omega
  have HG := hide (alloc_grown hg1)
  have HC1 := hide hc1
  clear hk hc1 hg1
  go_wp2
  go_ret
  exact ⟨k, rfl, hb.1, hb.2, HC1.out, HG.out⟩
end Go.Proofs.YtgegmocgbjklkaaDoor
