/-
  What is drawn by a cursor, as far as it matters: which numbers, words and texts may come; nothing is turned but the cursor.
-/
import Derived.Test.YtmlbemcblgnbjaaCurF
import Derived.Test.YtmlbemcblgnbjaaBoxW
import Derived.RegionTactic
import Derived.BigRegion
import Derived.Great.BuildSlice
namespace Go.Proofs.Ytmlbemcblgnbjaa
open Go.RowKit

/-- A cursor lies at block g. -/
def CurW (w : World) (g : Nat) : Prop := ∃ zs s, Cur w g zs s
theorem CurW.lt {w : World} {g : Nat} (h : CurW w g) : g < w.heap.size := by obtain ⟨_, _, h⟩ := h; exact h.lt
theorem CurW.alloc {w : World} {g : Nat} (h : CurW w g) (o : Obj) : CurW (w.alloc o) g := by obtain ⟨_, _, h⟩ := h; exact ⟨_, _, h.alloc o⟩
theorem CurW.row {w w' : World} {g : Nat} {row : Option Nat} (h : CurW w g) (hg : w.grownBy w' row) (hr : ∀ k, row = some k → g < k) : CurW w' g := by obtain ⟨_, _, h⟩ := h; exact ⟨_, _, h.row hg hr⟩
theorem CurW.mine {w : World} {g l : Nat} (h : CurW w g) (hl : g < l) (o : Nat) (v : Value) : CurW (w.setCell ⟨l, o, none⟩ v) g :=
  h.row (grown_set (g := l) (World.grownBy.refl w (some l)) o v) (fun k hk => by cases hk; exact hl)
theorem CurW.below {w w' : World} {g : Nat} (h : CurW w g) (hb : Below w.heap.size w w') : CurW w' g := h.row (grown_of_below hb) (fun k hk => by cases hk)
/-- A block of one's own is stored into. -/
theorem grown_mine {w w1 : World} {g l : Nat} (h : w.grownBy w1 (some g)) (hl : w.heap.size ≤ l) (o : Nat) (v : Value) : w.grownBy (w1.setCell ⟨l, o, none⟩ v) (some g) :=
  grown_step h (grown_set (g := l) (World.grownBy.refl w1 (some l)) o v) (fun k hk => by cases hk; exact .inr hl)
theorem same_g {w : World} {g : Nat} : ∀ k, (some g : Option Nat) = some k → k = g ∨ w.heap.size ≤ k := fun k hk => by cases hk; exact .inl rfl
theorem belowW (w : World) (g : Nat) (n : Int) (hn : 0 < n) (hn' : n ≤ 1000000000) (hc : CurW w g) :
    Calls Try.prog 22 #[.pointer (some ⟨g, 0, none⟩), .int .i64 n] w fun e w' => ∃ k, e = .returned (.int .i64 k) ∧ 0 ≤ k ∧ k < n ∧ CurW w' g ∧ w.grownBy w' (some g) := by
  obtain ⟨zs, s, hc⟩ := hc
  exact (belowDraw w g zs s n hn hn' hc).mono fun e w' ⟨h1, h2, h3⟩ => ⟨_, h1, (belowF_bd zs s n hn).1, (belowF_bd zs s n hn).2, ⟨_, _, h2⟩, h3⟩
theorem onceW (w : World) (g : Nat) (n : Int) (hn : 0 < n) (hn' : n ≤ 1000000000) (hc : CurW w g) :
    Calls Try.prog 46 #[.pointer (some ⟨g, 0, none⟩), .int .i64 n] w fun e w' => ∃ b : Bool, e = .returned (.bool b) ∧ CurW w' g ∧ w.grownBy w' (some g) := by
  obtain ⟨zs, s, hc⟩ := hc
  exact (onceDraw w g zs s n hn hn' hc).mono fun e w' ⟨h1, h2, h3⟩ => ⟨_, h1, ⟨_, _, h2⟩, h3⟩
theorem pickW (w : World) (g l n : Nat) (ls : List Int) (hz : ls.length = n) (hn : 0 < n) (hn' : n ≤ 256) (hgl : g < l) (hc : CurW w g) (hl : w.heap[l]? = some (.cells (ls.map (Value.int .i64)).toArray 3 (0, 0))) :
    Calls Try.prog 36 #[.pointer (some ⟨g, 0, none⟩), .slice (some ⟨l, 0, none⟩) n n] w fun e w' => ∃ k, e = .returned (.int .i64 k) ∧ k ∈ ls ∧ CurW w' g ∧ w.grownBy w' (some g) := by
  obtain ⟨zs, s, hc⟩ := hc
  exact (pickDraw w g l n zs s ls hz hn hn' hgl hc hl).mono fun e w' ⟨h1, h2, h3⟩ => ⟨_, h1, pickF_mem zs s ls (by omega), ⟨_, _, h2⟩, h3⟩
end Go.Proofs.Ytmlbemcblgnbjaa
