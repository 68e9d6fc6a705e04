/-
  What bytes.Clone does: a copy of the bytes in new memory.
-/
import Derived.Test.YtmlbemcblgnbjaaBytes
import Derived.Lib.LazyBuf
namespace Go.Proofs.Ytmlbemcblgnbjaa
open Go.RowKit

set_option maxHeartbeats 1000000 in
theorem cloneB (w : World) (a : Option Addr) (len cap : Nat) (zs : List Int) (hin : In w w.heap.size a len zs) (hc : a = none → cap = 0) :
    Calls Try.prog 42 #[.slice a len cap] w fun e w' => ∃ v, e = .returned v ∧ Own w' w.heap.size v zs ∧ Below w.heap.size w w' ∧ (v = .slice none 0 0 ↔ a = none) := by
  have hnil : ∀ (w : World) (a : Option Addr) (l c : Nat), (binOp .eql 22 (.slice a l c) (.slice none 0 0)).run Try.prog w = .ok (.bool a.isNone) w := fun w a l c => Go.run_eql_slice_nil w 22 5 a l c Try.underlying22
  cases a with
  | none =>
    obtain ⟨rfl, rfl⟩ := hin.none_len
    go_enter Try.func42, Try.ntmps42
    go_wp2
    go_ret
    exact ⟨_, rfl, World.ownsRow_nil _ _ _ _, Below.refl _ _, by simp⟩
  | some x =>
    have HIN := hide (hin.kept (w' := w.alloc (.cells #[] 5)) (fun k hk => Below.heap_alloc w _ k hk))
    have HO := hide (own_empty w w.heap.size (Nat.le_refl _))
    clear hin
    go_enter Try.func42, Try.ntmps42
    go_wp2_with (at_builtin; refine app_in rfl _ _ rfl w.heap.size w.heap.size _ [] rfl HO.out _ _ _ zs rfl hc HIN.out (by simp) (by simp) ?_; intro v' w' o' g' n')
    have H := hide o'
    have HB := hide (((Below.refl w.heap.size w).alloc (Nat.le_refl _) (.cells #[] 5)).grown g' (by simp) (fun q hq => (HO.out.lt q hq).1))
    have n2 : v' = .slice none 0 0 ↔ Value.slice (some ⟨w.heap.size, 0, none⟩) 0 0 = .slice none 0 0 ∧ len = 0 := n'
    clear o' g' n' HO HIN
    go_wp2
    go_ret
    exact ⟨_, rfl, H.out, HB.out, by simp [n2]⟩

end Go.Proofs.Ytmlbemcblgnbjaa
