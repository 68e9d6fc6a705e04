/-
  At a step of a region that draws its order: a call, and one row of bytes of one's own put behind another.
-/
import Derived.Test.YthagfdcfpffaoaaPnB
import Derived.Maps.AppendAt
import Derived.Deep.RegionHeldLaw
import Derived.Deep.Upon
namespace Go.Proofs.Ythagfdcfpffaoaa
open Go.RowKit

theorem step_callB {P : Program} {ops : Array Oper} {o : Oper} {a : Act} {w : World} {K : Act → World → Prop} {Q : Exit → Act → World → Prop} {E : Prop} {R : Ending → World → Prop} (d : Option Tmp) (hd : o.dst = d) (hgd : o.guard = none)
    (f : FuncId) (xs : Array Operand) (ts : Array TypeId) (_ho : o.op = .call { callee := .value (.func f), args := xs, argTypes := ts }) (args : Array Value) (hrun : (execOp a.eval o).run P w = .ok (.enter f args) w) (hc : Calls P f args w R) (h : ∀ e w', R e w' → ∃ v, e = .returned v ∧ K (a.put d v) w') :
    if Region.wanted o (yielded ops a.tmps) = true then Oper.wp P o a w K Q else E := by
  subst hd
  have hw : Region.wanted o (yielded ops a.tmps) = true := by simp [Region.wanted, hgd]
  rw [if_pos hw]
  unfold Oper.wp
  rw [hrun, Oper.upon_enter]
  refine hc.mono fun e w' hh => ?_
  obtain ⟨v, rfl, hk⟩ := h e w' hh
  exact hk

/-- 'append(v, u...)', both rows of one's own, u not empty. -/
theorem run_app_B {w : World} (ty : TypeId) (base b2 : Nat) (v u : Value) (xs zs : List Int) (hown : Own w base v xs) (hu : Own w b2 u zs) (hz : Byt zs) (hp : 0 < zs.length) (hl : zs.length ≤ 1048576) (hsm : xs.length ≤ 2000000) (hbase : base ≤ w.heap.size) :
    ∃ v' w', (Builtin.append_ #[37, 37] ty #[v, u]).run Try.prog w = .ok v' w' ∧ Own w' base v' (xs ++ zs) ∧ w.grownBy w' v.ownBlock := by
  obtain ⟨i0, hi0, hz0, hz1, hz2⟩ := info_parts Try.info5
  obtain ⟨a, c, rfl, hin, _⟩ := in_any hu hl hz (Nat.le_refl _)
  cases a with
  | none =>
    obtain ⟨h0, h1⟩ := hin.none_len
    subst h1
    simp at hp
  | some ad =>
    obtain ⟨v', w', hr, ho', hg', _, _⟩ := run_append_own_at (P := Try.prog) w base 37 ty 5 i0 (.int .u8 0) 1 1 Try.underlying37 hi0 hz0 hz1 hz2 rfl (by decide) v xs.length (xs.map (Value.int .u8)) hown ad zs.length c (zs.map (Value.int .u8)) (by simp) (cells_in hin) (byt_cells _) (by unfold maxLen; omega) (by omega) hbase
    exact ⟨v', w', hr, own_more ho', hg'⟩

theorem step_appB {w : World} {ops : Array Oper} {o : Oper} {act : Act} {K : Act → World → Prop} {Q : Exit → Act → World → Prop} {E : Prop} (d : Option Tmp) (hd : o.dst = d) (hgd : o.guard = none) (s x : Operand)
    (ho : o.op = .call { callee := .builtin .append, args := #[s, x], argTypes := #[37, 37] }) (base b2 : Nat) (v u : Value) (xs zs : List Int) (hs : act.eval s = v) (hx : act.eval x = u) (hown : Own w base v xs) (hu : Own w b2 u zs) (hz : Byt zs) (hp : 0 < zs.length) (hl : zs.length ≤ 1048576) (hsm : xs.length ≤ 2000000) (hbase : base ≤ w.heap.size)
    (h : ∀ v' w', Own w' base v' (xs ++ zs) → w.grownBy w' v.ownBlock → K (act.put d v') w') :
    if Region.wanted o (yielded ops act.tmps) = true then Oper.wp Try.prog o act w K Q else E := by
  subst hd
  have hw : Region.wanted o (yielded ops act.tmps) = true := by simp [Region.wanted, hgd]
  rw [if_pos hw]
  obtain ⟨v', w', hr, h1, h2⟩ := run_app_B o.type base b2 v u xs zs hown hu hz hp hl hsm hbase
  unfold Oper.wp execOp
  simp only [ho, resolve, invoke, builtin, Sem.run_bind, Sem.run_pure, Result.andThen_ok, List.map_toArray, List.map_cons, List.map_nil, hs, hx, hr]
  exact h v' w' h1 h2
end Go.Proofs.Ythagfdcfpffaoaa
