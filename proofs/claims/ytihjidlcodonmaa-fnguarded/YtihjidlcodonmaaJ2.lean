/-
  Joined: RowIn, AtW.
-/
import Derived.Test.YtihjidlcodonmaaJ1
import Derived.WalkKit
import Derived.ProofKit
import Derived.OpenShut
/-
  A row of bytes that came in, as the walks take it.
-/
namespace Go.Proofs.Ytihjidlcodonmaa
open Go.ChangeShapes Go.WideShapes Go.ChangeAt Go.RowKit

def IsRow (k : IntKind) (w : World) (a : Option Addr) (len cap : Nat) (zs : List Int) : Prop :=
  (a = none ∧ len = 0 ∧ cap = 0 ∧ zs = []) ∨
  ∃ x, a = some x ∧ len ≤ cap ∧ cap ≤ maxLen ∧ zs.length = cap ∧ (∀ i, i < zs.length → w.cell? (x.add i) = some (.int k (zs.getD i 0))) ∧ ∀ n ∈ zs, (Lit.int k n).wf = true

theorem in_of {w : World} {a : Option Addr} {len cap : Nat} {zs : List Int} (h : IsRow .u8 w a len cap zs) (hl : len ≤ 1048576) : In w w.heap.size a len (zs.take len) := by
  rcases h with ⟨rfl, rfl, rfl, rfl⟩ | ⟨x, rfl, hlc, hm, hz, hcell, hwz⟩
  · exact ⟨rfl, by omega, fun j hj => by omega, fun h => by omega⟩
  · have hlen : (zs.take len).length = len := by simp; omega
    have hget : ∀ j, j < len → (zs.take len).getD j 0 = zs.getD j 0 := fun j hj => by simp [List.getD, hj]
    refine ⟨hlen, hl, fun j hj => ?_, fun hp => ?_⟩
    · rw [hget j hj]
      have := hwz (zs.getD j 0) (by rw [List.getD_eq_getElem?_getD, List.getElem?_eq_getElem (by omega)]; simp)
      exact bounds_u8 this
    · obtain ⟨b, off, spot⟩ := x
      have hc := hcell 0 (by omega)
      have hspot : spot = none := by simpa [Addr.add] using World.cell?_spot hc
      subst hspot
      refine ⟨b, off, rfl, World.block_lt_of_cell? w _ (by simpa [Addr.add] using hc), fun j hj => ?_⟩
      rw [hget j hj]
      have hcj := hcell j (by omega)
      rw [Addr.add_lit] at hcj
      exact hcj


end Go.Proofs.Ytihjidlcodonmaa
/-
  What at and big answer.
-/
namespace Go.Proofs.Ytihjidlcodonmaa
open Go.RowKit

theorem bigNo (w : World) (a : Option Addr) (len cap : Nat) (h : (len : Int) ≤ 1048576) :
    Calls Try.prog 22 #[.slice a len cap] w fun e w' => e = .returned (.bool false) ∧ w' = w := by
  go_enter Try.func22, Try.ntmps22
  go_wp2
  go_ret
  exact ⟨ret_bool (by simp; omega), rfl⟩
theorem bigYes (w : World) (a : Option Addr) (len cap : Nat) (h : 1048576 < (len : Int)) :
    Calls Try.prog 22 #[.slice a len cap] w fun e w' => e = .returned (.bool true) ∧ w' = w := by
  go_enter Try.func22, Try.ntmps22
  go_wp2
  go_ret
  exact ⟨ret_bool (by simp), rfl⟩

/-- What at answers of the bytes. -/
def atF (zs : List Int) (i : Nat) : Int := if i < zs.length then zs.getD i 0 else ((i : Int) * 7 + zs.length) % 256

set_option maxRecDepth 100000 in
set_option maxHeartbeats 400000 in
theorem atB (w : World) (B : Nat) (a : Option Addr) (len cap : Nat) (zs : List Int) (i : Nat) (hi : i ≤ 1000000) (hin : In w B a len zs) :
    Calls Try.prog 32 #[.slice a len cap, .int .i64 (i : Int)] w fun e w' => e = .returned (.int .i64 (atF zs i)) ∧ w' = w := by
  have hl := hin.1
  have hm := hin.2.1
  by_cases hlt : i < len
  · obtain ⟨b, o, rfl, hb, hc⟩ := hin.2.2.2 (by omega)
    have hz := hc i hlt
    have hzb := hin.2.2.1 i hlt
    have HF : Hid (atF zs i = zs.getD i 0) := by show _ = _; unfold atF; rw [if_pos (by omega)]
    clear hin hc
    generalize zs.getD i 0 = z at *
    go_enter Try.func32, Try.ntmps32
    go_wp2
    go_ret
    exact ⟨ret_int HF.out.symm, rfl⟩
  · have HF : Hid (atF zs i = ((i : Int) * 7 + len) % 256) := by show _ = _; unfold atF; rw [if_neg (by omega), hl]
    clear hin
    go_enter Try.func32, Try.ntmps32
    go_wp2
    go_ret
    exact ⟨ret_int HF.out.symm, rfl⟩
theorem atF_bd (zs : List Int) (hz : Byt zs) (i : Nat) : 0 ≤ atF zs i ∧ atF zs i ≤ 255 := by
  unfold atF
  split
  · exact hz.at i (by omega)
  · omega
end Go.Proofs.Ytihjidlcodonmaa
