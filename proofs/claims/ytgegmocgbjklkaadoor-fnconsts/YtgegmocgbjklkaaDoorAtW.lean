/-
  What at and big answer.
-/
import Derived.Test.YtgegmocgbjklkaaDoorBytes
namespace Go.Proofs.YtgegmocgbjklkaaDoor
open Go.RowKit

theorem bigNo (w : World) (a : Option Addr) (len cap : Nat) (h : (len : Int) ≤ 1048576) :
    Calls Tryd.prog 5 #[.slice a len cap] w fun e w' => e = .returned (.bool false) ∧ w' = w := by
  go_enter Tryd.func5, Tryd.ntmps5
  go_wp2
  go_ret
  exact ⟨ret_bool (by simp; omega), rfl⟩
theorem bigYes (w : World) (a : Option Addr) (len cap : Nat) (h : 1048576 < (len : Int)) :
    Calls Tryd.prog 5 #[.slice a len cap] w fun e w' => e = .returned (.bool true) ∧ w' = w := by
  go_enter Tryd.func5, Tryd.ntmps5
  go_wp2
  go_ret
  exact ⟨ret_bool (by simp), rfl⟩

/-- What at answers of the bytes. -/
def atF (zs : List Int) (i : Nat) : Int := if i < zs.length then zs.getD i 0 else ((i : Int) * 7 + zs.length) % 256

set_option maxHeartbeats 400000 in
theorem atB (w : World) (B : Nat) (a : Option Addr) (len cap : Nat) (zs : List Int) (i : Nat) (hi : i ≤ 1000000) (hin : In w B a len zs) :
    Calls Tryd.prog 11 #[.slice a len cap, .int .i64 (i : Int)] w fun e w' => e = .returned (.int .i64 (atF zs i)) ∧ w' = w := by
  have hl := hin.1
  have hm := hin.2.1
  by_cases hlt : i < len
  · obtain ⟨b, o, rfl, hb, hc⟩ := hin.2.2.2 (by omega)
    have hz := hc i hlt
    have hzb := hin.2.2.1 i hlt
    have HF : Hid (atF zs i = zs.getD i 0) := by show _ = _; unfold atF; rw [if_pos (by omega)]
    clear hin hc
    generalize zs.getD i 0 = z at *
    go_enter Tryd.func11, Tryd.ntmps11
    go_wp2
    go_ret
    exact ⟨ret_int HF.out.symm, rfl⟩
  · have HF : Hid (atF zs i = ((i : Int) * 7 + len) % 256) := by show _ = _; unfold atF; rw [if_neg (by omega), hl]
    clear hin
    go_enter Tryd.func11, Tryd.ntmps11
    go_wp2
    go_ret
    exact ⟨ret_int HF.out.symm, rfl⟩
theorem atF_bd (zs : List Int) (hz : Byt zs) (i : Nat) : 0 ≤ atF zs i ∧ atF zs i ≤ 255 := by
  unfold atF
  split
  · exact hz.at i (by omega)
  · omega
end Go.Proofs.YtgegmocgbjklkaaDoor
