/-
  What DrawRound and DrawPutWord do: some whole number of 64 bits is drawn, and nothing that was there is turned.
-/
import Derived.Test.YtbakkpkcnbkbeaaDoorCur
namespace Go.Proofs.YtbakkpkcnbkbeaaDoor
open Go.RowKit

def I64 (x : Int) : Prop := -9223372036854775808 ≤ x ∧ x ≤ 9223372036854775807

set_option maxRecDepth 100000 in
set_option maxHeartbeats 1000000 in
theorem drawRound (w : World) (a : Option Addr) (len cap : Nat) (zs : List Int) (hin : In w w.heap.size a len zs) :
    Calls Tryd.prog 28 #[.slice a len cap] w fun e w' => ∃ x : Int, e = .returned (.int .i64 x) ∧ I64 x ∧ Below w.heap.size w w' := by
  go_enter Tryd.func28, Tryd.ntmps28
  go_wp2_with fail
  refine (newDraw _ _ _ _ _ hin).mono ?_
  rintro e w1 ⟨rfl, hc, hb⟩
  go_wp2_with fail
  refine (pickDraw _ _ _ 9 [0, -1, 2147483647, 2147483648, -2147483648, -2147483649, 4294967296, 9223372036854775807, -9223372036854775808] rfl (by omega) (by omega) hc.lt (hc.alloc _) (heap_alloc_new w1 _)).mono ?_
  rintro e w3 ⟨x, rfl, hx, -, hg⟩
  have H : Hid (I64 x ∧ Below w.heap.size w w3) := ⟨by simp at hx; unfold I64; omega, draw_below hb hg⟩
  clear hx hg hb hc
  go_wp2
  go_ret
  exact ⟨x, rfl, H.out⟩

set_option maxRecDepth 100000 in
set_option maxHeartbeats 1000000 in
theorem drawWord (w : World) (g : Nat) (hc : Cur w g) :
    Calls Tryd.prog 44 #[.pointer (some ⟨g, 0, none⟩)] w fun e w' => ∃ x : Int, e = .returned (.int .i64 x) ∧ I64 x ∧ Cur w' g ∧ w.grownBy w' (some g) := by
  go_enter Tryd.func44, Tryd.ntmps44
  go_wp2_with fail
  refine (pickDraw _ _ _ 8 [0, 1, -1, 5, 7, 100, 2147483647, -2147483648] rfl (by omega) (by omega) hc.lt (hc.alloc _) (heap_alloc_new w _)).mono ?_
  rintro e w3 ⟨x, rfl, hx, hc', hg⟩
  have H : Hid (I64 x ∧ Cur w3 g ∧ w.grownBy w3 (some g)) := ⟨by simp at hx; unfold I64; omega, hc', alloc_grown hg⟩
  clear hx hg hc hc'
  go_wp2
  go_ret
  exact ⟨x, rfl, H.out⟩

set_option maxRecDepth 100000 in
set_option maxHeartbeats 1000000 in
theorem drawPutWord (w : World) (a : Option Addr) (len cap : Nat) (zs : List Int) (hin : In w w.heap.size a len zs) :
    Calls Tryd.prog 22 #[.slice a len cap] w fun e w' => ∃ x : Int, e = .returned (.int .i64 x) ∧ I64 x ∧ Below w.heap.size w w' := by
  go_enter Tryd.func22, Tryd.ntmps22
  go_wp2_with fail
  refine (newDraw _ _ _ _ _ hin).mono ?_
  rintro e w1 ⟨rfl, hc, hb⟩
  go_wp2_with fail
  refine (onceDraw _ _ _ (by omega) (by omega) hc).mono ?_
  rintro e w2 ⟨y, rfl, hc2, hg2⟩
  have hb2 : Below w.heap.size w w2 := hb.grown hg2 hb.size (fun k hk => by cases hk; exact Nat.le_refl _)
  clear hc hg2 hb hin
  cases y
  · go_wp2_with fail
    refine (drawWord _ _ hc2).mono ?_
    rintro e w3 ⟨x, rfl, hx, -, hg⟩
    have H : Hid (I64 x ∧ Below w.heap.size w w3) := ⟨hx, hb2.grown hg hb2.size (fun k hk => by cases hk; exact Nat.le_refl _)⟩
    clear hx hg hb2 hc2
    go_wp2
    go_ret
    exact ⟨x, rfl, H.out⟩
  · go_wp2_with fail
    refine (pickDraw _ _ _ 3 [2147483648, -2147483649, 9223372036854775807] rfl (by omega) (by omega) hc2.lt (hc2.alloc _) (heap_alloc_new w2 _)).mono ?_
    rintro e w3 ⟨x, rfl, hx, -, hg⟩
    have H : Hid (I64 x ∧ Below w.heap.size w w3) := ⟨by simp at hx; unfold I64; omega, draw_below hb2 hg⟩
    clear hx hg hb2 hc2
    go_wp2
    go_ret
    exact ⟨x, rfl, H.out⟩
end Go.Proofs.YtbakkpkcnbkbeaaDoor
