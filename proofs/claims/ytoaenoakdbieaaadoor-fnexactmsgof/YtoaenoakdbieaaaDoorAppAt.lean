/-
  Rows of bytes of one's own, one put behind another, and where they lie then.
-/
import Derived.Test.YtoaenoakdbieaaaDoorMsgBI
namespace Go.Proofs.YtoaenoakdbieaaaDoor
open Go.RowKit

/-- 'append(v, u...)', both rows of one's own: u's bytes behind v's; v's block, or a new one. -/
theorem app_own_at {w : World} {ops : Array Oper} {rest : List Oper} {o : Oper} {act : Act} {Q : Exit → Act → World → Prop} (hgd : o.guard = none) (s x : Operand)
    (ho : o.op = .call { callee := .builtin .append, args := #[s, x], argTypes := #[22, 22] }) (base b2 : Nat) (v u : Value) (xs zs : List Int) (hs : act.eval s = v) (hown : Own w base v xs)
    (hx : act.eval x = u) (hu : Own w b2 u zs) (hz : Byt zs) (hl : zs.length ≤ 1048576) (hsm : xs.length ≤ 2000000) (hbase : base ≤ w.heap.size)
    (h : ∀ v' w', Own w' base v' (xs ++ zs) → w.grownBy w' v.ownBlock → (v'.ownBlock = v.ownBlock ∨ v'.ownBlock = some w.heap.size) → wpList Tryd.prog ops Q rest (act.put o.dst v') w') :
    wpList Tryd.prog ops Q (o :: rest) act w := by
  obtain ⟨i0, hi, hz0, hz1, hz2⟩ := info_parts Tryd.info5
  obtain ⟨a, c, rfl, hin, _⟩ := in_any hu hl hz (Nat.le_refl _)
  cases a with
  | none =>
    obtain ⟨h0, rfl⟩ := hin.none_len
    obtain rfl := hu.cap0 rfl
    refine wpList_append_own_none hgd s x 22 ho base 5 i0 1 Tryd.underlying22 hi v _ _ hs hown hx (h v w ?_ (World.grownBy.refl _ _) (.inl rfl))
    rw [List.append_nil]; exact hown
  | some ad =>
    refine wpList_append_own_at w hgd s x 22 ho base 5 i0 (.int .u8 0) 1 1 Tryd.underlying22 hi hz0 hz1 hz2 rfl (by decide) v _ _ hs hown ad zs.length c (zs.map (Value.int .u8)) hx (by simp) (cells_in hin) (byt_cells _) (by unfold maxLen; omega) (by omega) hbase ?_
    intro v' w' ho' hg' _ ha'
    exact h v' w' (own_more ho') hg' ha'

theorem ne_at {v v' : Value} {n g : Nat} (h : v'.ownBlock = v.ownBlock ∨ v'.ownBlock = some n) (h0 : v.ownBlock ≠ some g) (hlt : g < n) : v'.ownBlock ≠ some g := by
  rcases h with h | h
  · rw [h]; exact h0
  · rw [h]; intro e; cases e; omega
theorem Own.ne {w : World} {b g : Nat} {v : Value} {zs : List Int} (h : Own w b v zs) (hg : w.heap.size ≤ g) : v.ownBlock ≠ some g := fun e => by
  have := (h.lt g e).2; omega

theorem bitSpec (r : Bool) (w : World) :
    Calls Tryd.prog 50 #[.bool r] w fun e w' => e = .returned (.int .i64 (bif r then 1 else 0)) ∧ w' = w := by
  cases r
  · go_enter Tryd.func50, Tryd.ntmps50
    go_wp2
    go_ret
    exact ⟨rfl, rfl⟩
  · go_enter Tryd.func50, Tryd.ntmps50
    go_wp2
    go_ret
    exact ⟨rfl, rfl⟩
end Go.Proofs.YtoaenoakdbieaaaDoor
