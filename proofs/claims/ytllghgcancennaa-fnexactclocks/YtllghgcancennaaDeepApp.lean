/-
  One more row, with data of its own, behind a row of one's own.
-/
import Derived.Test.YtllghgcancennaaDeep
import Derived.Maps.AppendAt
namespace Go.Proofs.Ytllghgcancennaa
open Go.RowKit

theorem ownD_nil (w : World) (b hi : Nat) (T : TypeId) (k : Nat) : OwnD w b hi (.row T k 0 []) (.slice none 0 0) := by
  refine ⟨[], ?_, List.nodup_nil, fun q hq => by simp at hq⟩
  unfold Owns
  exact ⟨[], [], World.ownsRow_nil _ _ _ _, ownsL_nil, rfl⟩
theorem appD {w : World} {ops : Array Oper} {rest : List Oper} {o : Oper} {act : Act} {Q : Exit → Act → World → Prop} (hgd : o.guard = none) (s x : Operand) (t : TypeId)
    (ho : o.op = .call { callee := .builtin .append, args := #[s, x], argTypes := #[t, t] }) (base hi m : Nat) (T : TypeId) (i : TypeInfo) (z : Value) (k bytes : Nat) (ht : Try.prog.underlying t = some (.slice T)) (hin : Try.prog.info? T = some i) (hz : i.zero = some z)
    (hsize : i.size = k) (hby : i.bytes = bytes) (hzs : z.cells.size = k) (hk : 0 < k) (v : Value) (n : Nat) (cs : List Dt) (hs : act.eval s = v) (hown : OwnD w base hi (.row T k n cs) v)
    (g c : Nat) (us : List Value) (ds : List Dt) (hx : act.eval x = .slice (some ⟨g, 0, none⟩) 1 c) (hbox : Box w g us) (hds : OwnDL w m w.heap.size ds us) (hl : us.length = k) (h1 : ∀ u ∈ us, u.oneCell' = true) (h63 : n ≤ 1000000) (hbytes : bytes ≤ 1000)
    (hm : hi ≤ m) (hbm : base ≤ m) (hms : m ≤ w.heap.size)
    (h : ∀ v' w', OwnD w' base w'.heap.size (.row T k (n + 1) (cs ++ ds)) v' → w.grownBy w' v.ownBlock → (∀ q, v.ownBlock = some q → base ≤ q ∧ q < hi) → wpList Try.prog ops Q rest (act.put o.dst v') w') :
    wpList Try.prog ops Q (o :: rest) act w := by
  obtain ⟨F, h2, h3, h4⟩ := hown
  have hlt := Owns.lt _ _ _ h2
  unfold Owns at h2
  obtain ⟨vs, G, h5, h6, rfl⟩ := h2
  obtain ⟨F', g1, g2, g3⟩ := hds
  have hlt' := OwnsL.lt _ _ _ g1
  refine wpList_append_own_at w hgd s x t ho base T i z k bytes ht hin hz hsize hby hzs hk v n vs hs h5 ⟨g, 0, none⟩ 1 c us hx (by rw [hl, Nat.one_mul]) (fun j u hu => by rw [Addr.add_lit, Nat.zero_add]; exact hbox j u hu) h1 (by unfold maxLen; omega) ?_ (by omega) ?_
  · have := Nat.mul_le_mul (show n + 1 ≤ 1000001 by omega) hbytes
    omega
  · intro v' w' ho' hg' _ hat
    have hv : ∀ q, v.ownBlock = some q → base ≤ q ∧ q < hi := fun q hq => ⟨(World.ownsRow.lt h5 q hq).1, h4 q (by rw [hq]; simp)⟩
    refine h v' w' ?_ hg' hv
    have nd := List.nodup_append.1 h3
    have kG : OwnsL w' base cs vs G := h6.same (fun q hq => hg'.block q (hlt q (by simp [hq])).2 (fun e => by
      have hq' : q ∈ v.ownBlock.toList := by rw [← e]; simp
      exact nd.2.2 q hq' q hq rfl))
    have kF : OwnsL w' base ds us F' := (g1.mono hbm).same (fun q hq => hg'.block q (hlt' q hq).2 (fun e => by
      have a := (hv q e.symm).2
      have b := (hlt' q hq).1
      omega))
    have hv' : ∀ q, v'.ownBlock = some q → q ∉ G ∧ q ∉ F' := fun q hq => by
      rcases hat with e | e
      · rw [e] at hq
        exact ⟨fun hm' => by
          have hq' : q ∈ v.ownBlock.toList := by rw [hq]; simp
          exact nd.2.2 q hq' q hm' rfl, fun hm' => by
          have a := (hv q hq).2
          have b := (hlt' q hm').1
          omega⟩
      · rw [e] at hq
        cases hq
        exact ⟨fun hm' => by have := (hlt _ (List.mem_append.2 (.inr hm'))).2; omega, fun hm' => by have := (hlt' _ hm').2; omega⟩
    refine ⟨v'.ownBlock.toList ++ (G ++ F'), ?_, ?_, ?_⟩
    · unfold Owns
      exact ⟨vs ++ us, G ++ F', ho', kG.join kF, rfl⟩
    · refine List.nodup_append.2 ⟨by cases v'.ownBlock <;> simp, List.nodup_append.2 ⟨nd.2.1, g2, fun a ha b hb e => ?_⟩, fun a ha b hb e => ?_⟩
      · subst e
        have p1 := h4 a (by simp [ha])
        have p2 := (hlt' a hb).1
        omega
      · subst e
        have := hv' a (by simpa using ha)
        rcases List.mem_append.1 hb with hb | hb
        · exact this.1 hb
        · exact this.2 hb
    · intro q hq
      rcases List.mem_append.1 hq with hq | hq
      · exact (World.ownsRow.lt ho' q (by simpa using hq)).2
      · rcases List.mem_append.1 hq with hq | hq
        · exact Nat.lt_of_lt_of_le (hlt q (by simp [hq])).2 hg'.size
        · exact Nat.lt_of_lt_of_le (hlt' q hq).2 hg'.size
end Go.Proofs.Ytllghgcancennaa
