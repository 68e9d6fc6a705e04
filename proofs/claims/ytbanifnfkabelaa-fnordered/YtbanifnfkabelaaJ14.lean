/-
  Joined: AppN, AppM.
-/
import Derived.Test.YtbanifnfkabelaaJ13
import Derived.Deep.Upon
/-
  A whole row of plain cells behind a row of one's own (append of a list).
-/
namespace Go.Proofs.Ytbanifnfkabelaa
open Go.RowKit

theorem ownsL_flat {w : World} {B b : Nat} : ∀ {ds : List Dt} {us : List Value}, (∀ d ∈ ds, ∃ u, d = .val u) → ReadsL w B ds us → OwnsL w b ds us []
  | [], us, _, h => by rw [readsL_nil h]; exact ownsL_nil
  | d :: ds, us, hf, h => by
    obtain ⟨u, us', rfl, h1, h2⟩ := readsL_cons h
    obtain ⟨u0, rfl⟩ := hf d (by simp)
    obtain rfl := reads_val h1
    exact ownsL_mk (F1 := []) (F2 := []) owns_val (ownsL_flat (fun d hd => hf d (by simp [hd])) h2)
theorem one_flat {w : World} {B : Nat} : ∀ {ds : List Dt} {us : List Value}, (∀ d ∈ ds, ∃ u, d = .val u ∧ u.oneCell' = true) → ReadsL w B ds us → ∀ u ∈ us, u.oneCell' = true
  | [], us, _, h, u, hu => by rw [readsL_nil h] at hu; simp at hu
  | d :: ds, us, hf, h, u, hu => by
    obtain ⟨u1, us', rfl, h1, h2⟩ := readsL_cons h
    obtain ⟨u0, rfl, hu0⟩ := hf d (by simp)
    obtain rfl := reads_val h1
    rcases List.mem_cons.1 hu with rfl | hu
    · exact hu0
    · exact one_flat (fun d hd => hf d (by simp [hd])) h2 u hu
theorem appN {w : World} {ops : Array Oper} {rest : List Oper} {o : Oper} {act : Act} {Q : Exit → Act → World → Prop} (hgd : o.guard = none) (s x : Operand) (t : TypeId)
    (ho : o.op = .call { callee := .builtin .append, args := #[s, x], argTypes := #[t, t] }) (b hi : Nat) (T : TypeId) (i : TypeInfo) (z : Value) (k bytes : Nat) (ht : Try.prog.underlying t = some (.slice T)) (hin : Try.prog.info? T = some i) (hz : i.zero = some z)
    (hsize : i.size = k) (hby : i.bytes = bytes) (hzs : z.cells.size = k) (hk : 0 < k) (g c n : Nat) (cs c1 c2 : List Dt) (v1 v2 : List Value) (hs : act.eval s = .slice (some ⟨g, 0, none⟩) n c) (hown : OwnDL w b hi (c1 ++ .row T k n cs :: c2) (v1 ++ .slice (some ⟨g, 0, none⟩) n c :: v2)) (hl12 : v1.length = c1.length)
    (xv : Value) (hx : act.eval x = xv) (m : Nat) (T' : TypeId) (ds : List Dt) (hrd : Reads w w.heap.size (.row T' k m ds) xv) (hf : ∀ d ∈ ds, ∃ u, d = .val u ∧ u.oneCell' = true) (h63 : n + m ≤ 2000000) (hbytes : bytes ≤ 1000) (hhi : hi ≤ w.heap.size) (hbw : b ≤ w.heap.size)
    (h : ∀ v' w', OwnDL w' b w'.heap.size (c1 ++ .row T k (n + m) (cs ++ ds) :: c2) (v1 ++ v' :: v2) → w.grownBy w' (some g) → b ≤ g → wpList Try.prog ops Q rest (act.put o.dst v') w') :
    wpList Try.prog ops Q (o :: rest) act w := by
  obtain ⟨vs, h5, hv, hnew⟩ := hown.rowN hl12 (n + m)
  have hgb := (hv g rfl).1
  unfold Reads at hrd
  obtain ⟨us, ⟨hul, a, cap, rfl, _, hnone, hc⟩, hds⟩ := hrd
  have hown2 : OwnDL w w.heap.size w.heap.size ds us := ⟨[], ownsL_flat (fun d hd => by obtain ⟨u, hu, _⟩ := hf d hd; exact ⟨u, hu⟩) hds, List.nodup_nil, fun q hq => by simp at hq⟩
  have fin : ∀ v' w', w'.ownsRow b T k v' (n + m) (vs ++ us) → w.grownBy w' (some g) → (v'.ownBlock = (some g) ∨ v'.ownBlock = some w.heap.size) → wpList Try.prog ops Q rest (act.put o.dst v') w' := fun v' w' ho' hg' hat =>
    h v' w' (hnew us ds w.heap.size hown2 hhi hbw v' w' ho' hg' hat) hg' hgb
  cases a with
  | none =>
    have hm : m = 0 := by
      cases m with
      | zero => rfl
      | succ m' =>
        obtain ⟨_, _, e, _⟩ := hc (by omega)
        cases e
    subst hm
    obtain rfl : us = [] := List.eq_nil_of_length_eq_zero (by rw [hul]; omega)
    have hle : n ≤ c := by
      obtain ⟨_, a', c', e, h2, _⟩ := rd_own h5 (Nat.le_refl _)
      cases e
      exact h2
    refine wpList_plain hgd fun K hK => ?_
    have hr := run_append_nothing (P := Try.prog) w t t o.type T i ht hin (some ⟨g, 0, none⟩) n c hle (.slice none 0 cap) (Src.ofNil w ht cap)
    unfold Oper.wp execOp
    simp only [ho, resolve, invoke, builtin, Sem.run_bind, Sem.run_pure, Result.andThen_ok, List.map_toArray, List.map_cons, List.map_nil, hs, hx, hr]
    exact hK _ _ (fin _ w (by simpa using h5) (World.grownBy.refl w _) (.inl rfl))
  | some ad =>
    have hcell : ∀ (j : Nat) (u : Value), us[j]? = some u → w.cell? (ad.add j) = some u := fun j u hu => by
      have hj : j < us.length := (List.getElem?_eq_some_iff.1 hu).1
      have hm : 0 < m := by
        cases m with
        | zero => rw [hul] at hj; omega
        | succ m' => omega
      obtain ⟨b', o', e, _, hcc⟩ := hc hm
      cases e
      rw [Addr.add_lit, hcc j (by rw [← hul]; exact hj)]
      exact hu
    refine wpList_append_own_at w hgd s x t ho b T i z k bytes ht hin hz hsize hby hzs hk _ n vs hs h5 ad m cap us hx hul hcell (one_flat hf hds) (by unfold maxLen; omega) ?_ hbw ?_
    · have := Nat.mul_le_mul (show n + m ≤ 2000000 by omega) hbytes
      omega
    · intro v' w' ho' hg' _ hat
      exact fin v' w' ho' hg' hat
end Go.Proofs.Ytbanifnfkabelaa
/-
  A whole row of plain cells behind a row of one's own that may be none.
-/
namespace Go.Proofs.Ytbanifnfkabelaa
open Go.RowKit

theorem appM {w : World} {ops : Array Oper} {rest : List Oper} {o : Oper} {act : Act} {Q : Exit → Act → World → Prop} (hgd : o.guard = none) (s x : Operand) (t : TypeId)
    (ho : o.op = .call { callee := .builtin .append, args := #[s, x], argTypes := #[t, t] }) (base hi : Nat) (T : TypeId) (i : TypeInfo) (z : Value) (k bytes : Nat) (ht : Try.prog.underlying t = some (.slice T)) (hin : Try.prog.info? T = some i) (hz : i.zero = some z)
    (hsize : i.size = k) (hby : i.bytes = bytes) (hzs : z.cells.size = k) (hk : 0 < k) (v : Value) (n : Nat) (cs : List Dt) (hs : act.eval s = v) (hown : OwnD w base hi (.row T k n cs) v)
    (xv : Value) (hx : act.eval x = xv) (m : Nat) (T' : TypeId) (ds : List Dt) (hrd : Reads w w.heap.size (.row T' k m ds) xv) (hf : ∀ d ∈ ds, ∃ u, d = .val u ∧ u.oneCell' = true) (h63 : n + m ≤ 3000000) (hbytes : bytes ≤ 1000) (hbw : base ≤ w.heap.size)
    (h : ∀ v' w', OwnD w' base w'.heap.size (.row T k (n + m) (cs ++ ds)) v' → w.grownBy w' v.ownBlock → (∀ q, v.ownBlock = some q → base ≤ q ∧ q < hi) → wpList Try.prog ops Q rest (act.put o.dst v') w') :
    wpList Try.prog ops Q (o :: rest) act w := by
  obtain ⟨F, h2, h3, h4⟩ := hown
  have hlt := Owns.lt _ _ _ h2
  have hsh : ∃ a c, v = .slice a n c ∧ n ≤ c := by
    have hr := Owns.reads (B := w.heap.size) (Nat.le_refl _) _ _ _ h2
    obtain ⟨a, c, e, h1, _⟩ := hr.shape
    exact ⟨a, c, e, h1⟩
  unfold Owns at h2
  obtain ⟨vs, G, h5, h6, rfl⟩ := h2
  have hv : ∀ q, v.ownBlock = some q → base ≤ q ∧ q < hi := fun q hq => ⟨(World.ownsRow.lt h5 q hq).1, h4 q (by rw [hq]; simp)⟩
  have nd := List.nodup_append.1 h3
  unfold Reads at hrd
  obtain ⟨us, ⟨hul, a, cap, rfl, _, hnone, hc⟩, hds⟩ := hrd
  have kF : ∀ w' : World, OwnsL w' base ds us [] := fun w' => by
    have h0 : OwnsL w base ds us [] := ownsL_flat (fun d hd => by obtain ⟨u, hu, _⟩ := hf d hd; exact ⟨u, hu⟩) hds
    exact h0.same (fun q hq => by simp at hq)
  have fin : ∀ v' w', w'.ownsRow base T k v' (n + m) (vs ++ us) → w.grownBy w' v.ownBlock → (v'.ownBlock = v.ownBlock ∨ v'.ownBlock = some w.heap.size) → wpList Try.prog ops Q rest (act.put o.dst v') w' := fun v' w' ho' hg' hat => by
    refine h v' w' ?_ hg' hv
    have kG : OwnsL w' base cs vs G := h6.same (fun q hq => hg'.block q (hlt q (by simp [hq])).2 (fun e => by
      have hq' : q ∈ v.ownBlock.toList := by rw [← e]; simp
      exact nd.2.2 q hq' q hq rfl))
    have hv' : ∀ q, v'.ownBlock = some q → q ∉ G := fun q hq => by
      rcases hat with e | e
      · rw [e] at hq
        exact fun hm' => by
          have hq' : q ∈ v.ownBlock.toList := by rw [hq]; simp
          exact nd.2.2 q hq' q hm' rfl
      · rw [e] at hq
        cases hq
        exact fun hm' => by have := (hlt _ (List.mem_append.2 (.inr hm'))).2; omega
    refine ⟨v'.ownBlock.toList ++ (G ++ []), ?_, ?_, ?_⟩
    · unfold Owns
      exact ⟨vs ++ us, G ++ [], ho', kG.join (kF w'), rfl⟩
    · rw [List.append_nil]
      refine List.nodup_append.2 ⟨by cases v'.ownBlock <;> simp, nd.2.1, fun a ha b hb e => ?_⟩
      subst e
      exact hv' a (by simpa using ha) hb
    · intro q hq
      rw [List.append_nil] at hq
      rcases List.mem_append.1 hq with hq | hq
      · exact (World.ownsRow.lt ho' q (by simpa using hq)).2
      · exact Nat.lt_of_lt_of_le (hlt q (by simp [hq])).2 hg'.size
  cases a with
  | none =>
    have hm : m = 0 := by
      cases m with
      | zero => rfl
      | succ m' =>
        obtain ⟨_, _, e, _⟩ := hc (by omega)
        cases e
    subst hm
    obtain rfl : us = [] := List.eq_nil_of_length_eq_zero (by rw [hul]; omega)
    obtain ⟨av, cv, ev, hle⟩ := hsh
    refine wpList_plain hgd fun K hK => ?_
    have hr := run_append_nothing (P := Try.prog) w t t o.type T i ht hin av n cv hle (.slice none 0 cap) (Src.ofNil w ht cap)
    unfold Oper.wp execOp
    simp only [ho, resolve, invoke, builtin, Sem.run_bind, Sem.run_pure, Result.andThen_ok, List.map_toArray, List.map_cons, List.map_nil, hs, hx, ev, hr]
    rw [ev] at fin h5
    exact hK _ _ (fin _ w (by simpa using h5) (World.grownBy.refl w _) (.inl rfl))
  | some ad =>
    have hcell : ∀ (j : Nat) (u : Value), us[j]? = some u → w.cell? (ad.add j) = some u := fun j u hu => by
      have hj : j < us.length := (List.getElem?_eq_some_iff.1 hu).1
      have hm : 0 < m := by
        cases m with
        | zero => rw [hul] at hj; omega
        | succ m' => omega
      obtain ⟨b', o', e, _, hcc⟩ := hc hm
      cases e
      rw [Addr.add_lit, hcc j (by rw [← hul]; exact hj)]
      exact hu
    refine wpList_append_own_at w hgd s x t ho base T i z k bytes ht hin hz hsize hby hzs hk v n vs hs h5 ad m cap us hx hul hcell (one_flat hf hds) (by unfold maxLen; omega) ?_ hbw ?_
    · have := Nat.mul_le_mul (show n + m ≤ 3000000 by omega) hbytes
      omega
    · intro v' w' ho' hg' _ hat
      exact fin v' w' ho' hg' hat
end Go.Proofs.Ytbanifnfkabelaa
