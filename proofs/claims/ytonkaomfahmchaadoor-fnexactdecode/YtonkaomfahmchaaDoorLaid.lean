/-
  What the listed variable gives: it holds an error that is not nil; a start that fits is there.
-/
import Derived.Test.YtonkaomfahmchaaDoorRows
import Derived.Test.YtonkaomfahmchaaDoorTake
import Derived.ChangeSame
import Derived.ChangeVars
import Derived.JoinedOf
import Derived.RowKit
import Derived.RowKitTokens
import Derived.LaidLaws
import Derived.LaidMore
import Derived.Stop.Joined
import Derived.WalkSmall
namespace Go.Proofs.YtonkaomfahmchaaDoor
open Go.ChangeShapes Go.WideShapes Go.RowKit

theorem Tryd.own : ownKnob Tryd.prog.godebug = none := by kernel_rfl
theorem Tryd.laidOut : laidOutB Tryd.prog = true := by kernel_rfl
theorem gErr : Tryd.prog.globalNamed "loop.example/g00283/impl.errNone" = some 0 := by kernel_rfl
theorem tErr : (Tryd.prog.globals[0]?).map (·.type) = some 54 := by kernel_rfl

def laidL : List (String × DataW Unit) := [("loop.example/g00283/impl.errNone", Rows.laid_loop_example_g00283_impl_errNone)]

theorem door_met (os : Os) (args : Array Value) : laidMetH Tryd.prog laidL ((World.doorLaid Tryd.prog 28 os).forCall (fun _ _ => 0) ⟨#[], args, []⟩).memory :=
  laidMetH_of_parts3 (fuel := 8) (laidMet_of_run' 8 (by kernel_rfl) (by kernel_rfl)) (by kernel_rfl) (by kernel_rfl)

theorem err_of_laid {W : World} (h : laidMetH Tryd.prog laidL W) : ∃ u x, W.var? Tryd.prog "loop.example/g00283/impl.errNone" = some #[.iface u x] := by
  rw [MakeChecks.laidMetH_plain _ _ _ (by kernel_rfl)] at h
  obtain ⟨ps, ⟨g0, t0, cs0, f0, p0, q0, hg0, ht0, hv0, hd0, _, _⟩, _, _⟩ := h
  obtain rfl := Option.some.inj (gErr.symm.trans hg0)
  obtain rfl := Option.some.inj (tErr.symm.trans ht0)
  obtain ⟨f1, u, v, hcs, _, _⟩ := iface_of_trod Tryd.underlying54 hd0
  have hcs' : cs0 = #[.iface u v] := by cases cs0; simp_all
  exact ⟨u, v, by rw [hv0, hcs']⟩

theorem err_cell {W : World} {u : TypeId} {x : Value} (h : W.var? Tryd.prog "loop.example/g00283/impl.errNone" = some #[.iface u x]) : Err W u x ∧ 0 < W.heap.size := by
  have hc : W.cell? ⟨0, 0, none⟩ = some (.iface u x) := by simpa using World.var?_cell gErr h 0
  exact ⟨hc, World.block_lt_of_cell? W _ hc⟩

theorem vars_read {H : Type} (enc : TypeId × Value → H) {W : World} {u : TypeId} {x : Value} (h : W.var? Tryd.prog "loop.example/g00283/impl.errNone" = some #[.iface u x]) (sp : Nat → Bool) :
    DataW.TrodVars enc Tryd.prog W sp ["loop.example/g00283/impl.errNone"] [tok enc (.iface u x)] [.cell 0 0] :=
  have hi : IsIface (.iface u x) := trivial
  ⟨0, 54, #[.iface u x], 1, [], [], gErr, tErr, h, trod_held Tryd.underlying54 hi 0, rfl, rfl⟩
end Go.Proofs.YtonkaomfahmchaaDoor
