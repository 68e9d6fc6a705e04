/-
  Small facts for the law on words: bytes as a text; a word that was put is got; what big answers.
-/
import Derived.Test.YtbakkpkcnbkbeaaDoorDrawWordAt
import Derived.Test.YtbakkpkcnbkbeaaDoorWordSpec
import Derived.Laws.BytesArg
namespace Go.Proofs.YtbakkpkcnbkbeaaDoor
open Go.RowKit

theorem own_str {w : World} {b : Nat} {v : Value} {zs : List Int} (h : Own w b v zs) (_hz : Byt zs) : (convert 22 9 v).run Tryd.prog w = .ok (.string (strOfNums zs)) w := by
  rcases h.2 with ⟨rfl, h0⟩ | ⟨g, c, cur, rfl, _⟩
  · have hn : zs = [] := List.eq_nil_of_length_eq_zero h0
    subst hn
    exact run_convert_bytes_nil (P := Tryd.prog) w 22 5 Tryd.underlying22 Tryd.underlying5 0 0 9 Tryd.underlying9
  · refine run_convert_bytes_arg (P := Tryd.prog) w 22 5 Tryd.underlying22 Tryd.underlying5 g 0 zs.length c zs rfl (fun i hi => ?_) 9 Tryd.underlying9
    have := World.ownsRow.cellAt h i (by omega)
    rw [Nat.zero_add, this]
    simp [hi]

theorem below_of_drew {w w' : World} (h : Below w.drew.heap.size w.drew w') : Below w.heap.size w w' := ⟨h.os, h.tape, h.output, h.size, h.block⟩

theorem gw_word (x : Int) (h0 : -2147483648 ≤ x) (h1 : x ≤ 2147483647) : gw (pw x) 0 = some (x, 4) := by
  rw [pw_in x h0 h1]
  simp only [gw, List.length_cons, List.length_nil]
  rw [if_pos (by omega)]
  have : rnd (ws [x % 256, x / 256 % 256, x / 65536 % 256, x / 16777216 % 256] 0 4) = x := by
    simp only [ws, List.getD]
    simp
    unfold rnd
    omega
  simp [this]
theorem gw_none (x : Int) (h : x < -2147483648 ∨ 2147483647 < x) : gw (pw x) 0 = none := by
  rw [pw_out x h]; simp [gw]

theorem bigNo (w : World) (a : Option Addr) (len cap : Nat) (h : (len : Int) ≤ 1048576) :
    Calls Tryd.prog 8 #[.slice a len cap] w fun e w' => e = .returned (.bool false) ∧ w' = w := by
  go_enter Tryd.func8, Tryd.ntmps8
  go_wp2
  go_ret
  exact ⟨ret_bool (by simp; omega), rfl⟩

theorem rnd_twice (n : Int) : (rnd (rnd n) == rnd n) = true := by
  have := rnd_bd n
  have e : rnd (rnd n) = rnd n := by unfold rnd; omega
  simp [e]

theorem putWordFour (n : Int) (w : World) (h0 : -2147483648 ≤ n) (h1 : n ≤ 2147483647) :
    Calls Tryd.prog 23 #[.int .i64 n] w fun e w' => ∃ c, e = .returned (.slice (some ⟨w.heap.size, 0, none⟩) 4 c) ∧ Below w.heap.size w w' := by
  have hr := rnd_in n h0 h1
  go_enter Tryd.func23, Tryd.ntmps23
  go_wp2_with (go_at_call 29; refine (roundImpl _ _).mono ?_; rintro e w' ⟨rfl, rfl⟩)
  go_ret
  exact ⟨_, rfl, (Below.refl _ _).alloc (Nat.le_refl _) _⟩
end Go.Proofs.YtbakkpkcnbkbeaaDoor
