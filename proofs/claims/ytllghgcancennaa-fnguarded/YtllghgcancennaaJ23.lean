/-
  Joined: AppM, DeepP.
-/
import Derived.Test.YtllghgcancennaaJ18
import Derived.Test.YtllghgcancennaaJ3
import Derived.Laws.Slices
/-
  A whole row of plain cells behind a row of one's own that may be none.
-/
namespace Go.Proofs.Ytllghgcancennaa
open Go.RowKit

theorem appM {w : World} {ops : Array Oper} {rest : List Oper} {o : Oper} {act : Act} {Q : Exit → Act → World → Prop} (hgd : o.guard = none) (s x : Operand) (t : TypeId)
    (ho : o.op = .call { callee := .builtin .append, args := #[s, x], argTypes := #[t, t] }) (base hi : Nat) (T : TypeId) (i : TypeInfo) (z : Value) (k bytes : Nat) (ht : Try.prog.underlying t = some (.slice T)) (hin : Try.prog.info? T = some i) (hz : i.zero = some z)
    (hsize : i.size = k) (hby : i.bytes = bytes) (hzs : z.cells.size = k) (hk : 0 < k) (v : Value) (n : Nat) (cs : List Dt) (hs : act.eval s = v) (hown : OwnD w base hi (.row T k n cs) v)
    (xv : Value) (hx : act.eval x = xv) (m : Nat) (T' : TypeId) (ds : List Dt) (hrd : Reads w w.heap.size (.row T' k m ds) xv) (hf : ∀ d ∈ ds, ∃ u, d = .val u ∧ u.oneCell' = true) (h63 : n + m ≤ 3000000) (hbytes : bytes ≤ 1000) (hbw : base ≤ w.heap.size)
    (h : ∀ v' w', OwnD w' base w'.heap.size (.row T k (n + m) (cs ++ ds)) v' → w.grownBy w' v.ownBlock → (∀ q, v.ownBlock = some q → base ≤ q ∧ q < hi) → wpList Try.prog ops Q rest (act.put o.dst v') w') :
    wpList Try.prog ops Q (o :: rest) act w := by
  obtain ⟨F, h2, h3, h4⟩ := hown
  have hlt := Owns.lt _ _ _ h2
  have hsh : ∃ a c, v = .slice a n c ∧ n ≤ c := by
    have hr := Owns.reads (B := w.heap.size) (Nat.le_refl _) _ _ _ h2
    obtain ⟨a, c, e, h1, _⟩ := hr.shape
    exact ⟨a, c, e, h1⟩
  unfold Owns at h2
  obtain ⟨vs, G, h5, h6, rfl⟩ := h2
  have hv : ∀ q, v.ownBlock = some q → base ≤ q ∧ q < hi := fun q hq => ⟨(World.ownsRow.lt h5 q hq).1, h4 q (by rw [hq]; simp)⟩
  have nd := List.nodup_append.1 h3
  unfold Reads at hrd
  obtain ⟨us, ⟨hul, a, cap, rfl, _, hnone, hc⟩, hds⟩ := hrd
  have kF : ∀ w' : World, OwnsL w' base ds us [] := fun w' => by
    have h0 : OwnsL w base ds us [] := ownsL_flat (fun d hd => by obtain ⟨u, hu, _⟩ := hf d hd; exact ⟨u, hu⟩) hds
    exact h0.same (fun q hq => by simp at hq)
  have fin : ∀ v' w', w'.ownsRow base T k v' (n + m) (vs ++ us) → w.grownBy w' v.ownBlock → (v'.ownBlock = v.ownBlock ∨ v'.ownBlock = some w.heap.size) → wpList Try.prog ops Q rest (act.put o.dst v') w' := fun v' w' ho' hg' hat => by
    refine h v' w' ?_ hg' hv
    have kG : OwnsL w' base cs vs G := h6.same (fun q hq => hg'.block q (hlt q (by simp [hq])).2 (fun e => by
      have hq' : q ∈ v.ownBlock.toList := by rw [← e]; simp
      exact nd.2.2 q hq' q hq rfl))
    have hv' : ∀ q, v'.ownBlock = some q → q ∉ G := fun q hq => by
      rcases hat with e | e
      · rw [e] at hq
        exact fun hm' => by
          have hq' : q ∈ v.ownBlock.toList := by rw [hq]; simp
          exact nd.2.2 q hq' q hm' rfl
      · rw [e] at hq
        cases hq
        exact fun hm' => by have := (hlt _ (List.mem_append.2 (.inr hm'))).2; omega
    refine ⟨v'.ownBlock.toList ++ (G ++ []), ?_, ?_, ?_⟩
    · unfold Owns
      exact ⟨vs ++ us, G ++ [], ho', kG.join (kF w'), rfl⟩
    · rw [List.append_nil]
      refine List.nodup_append.2 ⟨by cases v'.ownBlock <;> simp, nd.2.1, fun a ha b hb e => ?_⟩
      subst e
      exact hv' a (by simpa using ha) hb
    · intro q hq
      rw [List.append_nil] at hq
      rcases List.mem_append.1 hq with hq | hq
      · exact (World.ownsRow.lt ho' q (by simpa using hq)).2
      · exact Nat.lt_of_lt_of_le (hlt q (by simp [hq])).2 hg'.size
  cases a with
  | none =>
    have hm : m = 0 := by
      cases m with
      | zero => rfl
      | succ m' =>
        obtain ⟨_, _, e, _⟩ := hc (by omega)
        cases e
    subst hm
    obtain rfl : us = [] := List.eq_nil_of_length_eq_zero (by rw [hul]; omega)
    obtain ⟨av, cv, ev, hle⟩ := hsh
    refine wpList_plain hgd fun K hK => ?_
    have hr := run_append_nothing (P := Try.prog) w t t o.type T i ht hin av n cv hle (.slice none 0 cap) (Src.ofNil w ht cap)
    unfold Oper.wp execOp
    simp only [ho, resolve, invoke, builtin, Sem.run_bind, Sem.run_pure, Result.andThen_ok, List.map_toArray, List.map_cons, List.map_nil, hs, hx, ev, hr]
    rw [ev] at fin h5
    exact hK _ _ (fin _ w (by simpa using h5) (World.grownBy.refl w _) (.inl rfl))
  | some ad =>
    have hcell : ∀ (j : Nat) (u : Value), us[j]? = some u → w.cell? (ad.add j) = some u := fun j u hu => by
      have hj : j < us.length := (List.getElem?_eq_some_iff.1 hu).1
      have hm : 0 < m := by
        cases m with
        | zero => rw [hul] at hj; omega
        | succ m' => omega
      obtain ⟨b', o', e, _, hcc⟩ := hc hm
      cases e
      rw [Addr.add_lit, hcc j (by rw [← hul]; exact hj)]
      exact hu
    refine wpList_append_own_at w hgd s x t ho base T i z k bytes ht hin hz hsize hby hzs hk v n vs hs h5 ad m cap us hx hul hcell (one_flat hf hds) (by unfold maxLen; omega) ?_ hbw ?_
    · have := Nat.mul_le_mul (show n + m ≤ 3000000 by omega) hbytes
      omega
    · intro v' w' ho' hg' _ hat
      exact fin v' w' ho' hg' hat
end Go.Proofs.Ytllghgcancennaa
/-
  The first and the last elements of a row, by a slice of it.
-/
namespace Go.Proofs.Ytllghgcancennaa
open Go.RowKit

theorem ReadsL.take {w : World} {B : Nat} : ∀ {cs : List Dt} {us : List Value} (j : Nat), ReadsL w B cs us → ReadsL w B (cs.take j) (us.take j)
  | _, _, 0, _ => by rw [List.take_zero, List.take_zero]; exact readsL_none
  | [], us, j + 1, h => by rw [readsL_nil h]; exact readsL_none
  | c :: cs, us, j + 1, h => by
    obtain ⟨u, us', rfl, h1, h2⟩ := readsL_cons h
    rw [List.take_succ_cons, List.take_succ_cons]
    exact readsL_mk h1 (ReadsL.take j h2)
theorem ReadsL.drop {w : World} {B : Nat} : ∀ {cs : List Dt} {us : List Value} (j : Nat), ReadsL w B cs us → ReadsL w B (cs.drop j) (us.drop j)
  | _, _, 0, h => by rw [List.drop_zero, List.drop_zero]; exact h
  | [], us, j + 1, h => by rw [readsL_nil h]; exact readsL_none
  | c :: cs, us, j + 1, h => by
    obtain ⟨u, us', rfl, h1, h2⟩ := readsL_cons h
    rw [List.drop_succ_cons, List.drop_succ_cons]
    exact ReadsL.drop j h2
theorem Reads.pre {w : World} {B : Nat} {T : TypeId} {k n cap : Nat} {cs : List Dt} {a : Option Addr} (h : Reads w B (.row T k n cs) (.slice a n cap)) {j : Nat} (hj : j ≤ n) : Reads w B (.row T k j (cs.take (j * k))) (.slice a j cap) := by
  unfold Reads at h ⊢
  obtain ⟨us, ⟨h1, a', cap', e, h2, h3, h4⟩, h5⟩ := h
  cases e
  have hle := Nat.mul_le_mul_right k hj
  refine ⟨us.take (j * k), ⟨by rw [List.length_take]; omega, a, cap, rfl, by omega, h3, fun hp => ?_⟩, h5.take _⟩
  obtain ⟨b, o, rfl, hb, hc⟩ := h4 (by omega)
  refine ⟨b, o, rfl, hb, fun i hi => ?_⟩
  rw [hc i (by omega), List.getElem?_take_of_lt hi]
theorem Reads.suf {w : World} {B : Nat} {T : TypeId} {k n cap : Nat} {cs : List Dt} {a : Option Addr} (h : Reads w B (.row T k n cs) (.slice a n cap)) {j : Nat} (hj : j ≤ n) : Reads w B (.row T k (n - j) (cs.drop (j * k))) (.slice (if cap = j then a else a.map (·.add (j * k))) (n - j) (cap - j)) := by
  unfold Reads at h ⊢
  obtain ⟨us, ⟨h1, a', cap', e, h2, h3, h4⟩, h5⟩ := h
  cases e
  have hle := Nat.mul_le_mul_right k hj
  refine ⟨us.drop (j * k), ⟨by rw [List.length_drop, h1, Nat.sub_mul], _, _, rfl, by omega, ?_, fun hp => ?_⟩, h5.drop _⟩
  · intro e
    split at e
    · omega
    · cases a with
      | none => have := h3 rfl; omega
      | some x => cases e
  · obtain ⟨b, o, rfl, hb, hc⟩ := h4 (by omega)
    refine ⟨b, o + j * k, ?_, hb, fun i hi => ?_⟩
    · rw [if_neg (by omega)]
      simp [Addr.add_lit]
    · rw [Nat.sub_mul] at hi
      rw [Nat.add_assoc, hc (j * k + i) (by omega), List.getElem?_drop]
end Go.Proofs.Ytllghgcancennaa
