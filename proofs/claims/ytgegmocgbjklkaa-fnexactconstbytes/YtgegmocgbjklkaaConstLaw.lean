/-
  A const that comes in, how great it is, and its copy.
-/
import Derived.Test.YtgegmocgbjklkaaConstOkK
import Derived.OpenShut
namespace Go.Proofs.Ytgegmocgbjklkaa
open Go.ChangeShapes Go.WideShapes Go.RowKit

def IsConst (v : Value) : Prop := ∃ k n a b, v = constV k n a b ∧ a.size ≤ maxLen ∧ b.size ≤ maxLen
set_option maxRecDepth 100000 in
theorem openConst {H : Type} {enc : TypeId × Value → H} {W : World} {sp : Nat → Bool} {r : Reach} {base : Nat} {v : Value} {d : DataW H} {p : List MemPlace}
    (hv : Value.okWide Try.prog W r base 23 v) (h : DataW.Trod enc Try.prog W 0 sp true 23 v d p) : IsConst v := by
  have c0 : Try.prog.cellsOf 23 = 4 := by kernel_rfl
  have c3 : Try.prog.cellsOf 3 = 1 := by kernel_rfl
  have c9 : Try.prog.cellsOf 9 = 1 := by kernel_rfl
  obtain ⟨cs, rfl, _⟩ := okWide_struct Try.underlying23 hv
  obtain ⟨fuel, h⟩ := h
  obtain ⟨xs, n, rfl, hd, hlen, hxl, hf⟩ := DataW.trod_struct Try.underlying23 h
  rw [c0] at hlen
  have hcs : (Value.agg cs).cells.toList = cs.toList := rfl
  rw [hcs] at hlen hf
  obtain ⟨l⟩ := cs
  match xs, hxl, l, hlen with
  | [y0, y1, y2, y3], _, [v0, v1, v2, v3], _ =>
    have g0 := hf 0 _ rfl
    have g1 := hf 1 _ rfl
    have g2 := hf 2 _ rfl
    have g3 := hf 3 _ rfl
    simp [c3, c9] at g0 g1 g2 g3
    obtain ⟨k, e0, _⟩ := DataW.trod_int Try.underlying3 g0
    obtain ⟨n, e1, _⟩ := DataW.trod_int Try.underlying3 g1
    obtain ⟨a, e2, _, ha⟩ := DataW.trod_string Try.underlying9 g2
    obtain ⟨b, e3, _, hb⟩ := DataW.trod_string Try.underlying9 g3
    simp at e0 e1 e2 e3
    exact ⟨k, n, a, b, by rw [e0, e1, e2, e3]; rfl, ha, hb⟩

set_option maxHeartbeats 1000000 in
theorem szConst (k n : Int) (a b : ByteArray) (w : World) (ha : a.size ≤ maxLen) (hb : b.size ≤ maxLen) :
    Calls Try.prog 5 #[constV k n a b, .int .i64 1048576] w fun e w' => ∃ m : Int, e = .returned (.int .i64 m) ∧ (m < 0 ∨ (0 ≤ m ∧ a.size + b.size ≤ 1048576)) ∧ Below w.heap.size w w' := by
  unfold maxLen at ha hb
  unfold constV
  have hw : IntKind.i64.wrap (1048576 - (a.size : Int)) = 1048576 - (a.size : Int) := by rw [IntKind.wrap_i64]; omega
  by_cases h1 : (1048576 : Int) - (a.size : Int) < 0
  · go_enter Try.func5, Try.ntmps5
    go_wp2
    go_ret
    exact ⟨-1, rfl, by omega, (Below.refl _ _).alloc (Nat.le_refl _) _⟩
  · have hw2 : IntKind.i64.wrap (1048576 - (a.size : Int) - (b.size : Int)) = 1048576 - (a.size : Int) - (b.size : Int) := by rw [IntKind.wrap_i64]; omega
    by_cases h2 : (1048576 : Int) - (a.size : Int) - (b.size : Int) < 0
    · go_enter Try.func5, Try.ntmps5
      go_wp2
      go_ret
      exact ⟨-1, rfl, by omega, (Below.refl _ _).alloc (Nat.le_refl _) _⟩
    · go_enter Try.func5, Try.ntmps5
      go_wp2
      go_ret
      exact ⟨1048576 - (a.size : Int) - (b.size : Int), ret_int (by omega), by omega, (Below.refl _ _).alloc (Nat.le_refl _) _⟩

set_option maxHeartbeats 1000000 in
theorem toConst (k n : Int) (a b : ByteArray) (w : World) :
    Calls Try.prog 7 #[constV k n a b] w fun e w' => e = .returned (constV k n a b) ∧ Below w.heap.size w w' := by
  unfold constV
  go_enter Try.func7, Try.ntmps7
  go_wp2
  exact bodyPost_ret (v := .agg #[.int .i64 k, .int .i64 n, .string a, .string b]) (by simp [results, Try.results7, go_sem]) rfl ⟨rfl, (((Below.refl _ _).alloc (Nat.le_refl _) _).alloc (by simp) _).alloc (by simp; omega) _⟩
end Go.Proofs.Ytgegmocgbjklkaa
