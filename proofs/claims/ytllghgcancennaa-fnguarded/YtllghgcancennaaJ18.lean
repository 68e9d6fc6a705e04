/-
  A whole row of plain cells behind a row of one's own (append of a list).
-/
import Derived.Test.YtllghgcancennaaJ14
import Derived.Deep.Upon
namespace Go.Proofs.Ytllghgcancennaa
open Go.RowKit

theorem ownsL_flat {w : World} {B b : Nat} : ∀ {ds : List Dt} {us : List Value}, (∀ d ∈ ds, ∃ u, d = .val u) → ReadsL w B ds us → OwnsL w b ds us []
  | [], us, _, h => by rw [readsL_nil h]; exact ownsL_nil
  | d :: ds, us, hf, h => by
    obtain ⟨u, us', rfl, h1, h2⟩ := readsL_cons h
    obtain ⟨u0, rfl⟩ := hf d (by simp)
    obtain rfl := reads_val h1
    exact ownsL_mk (F1 := []) (F2 := []) owns_val (ownsL_flat (fun d hd => hf d (by simp [hd])) h2)
theorem one_flat {w : World} {B : Nat} : ∀ {ds : List Dt} {us : List Value}, (∀ d ∈ ds, ∃ u, d = .val u ∧ u.oneCell' = true) → ReadsL w B ds us → ∀ u ∈ us, u.oneCell' = true
  | [], us, _, h, u, hu => by rw [readsL_nil h] at hu; simp at hu
  | d :: ds, us, hf, h, u, hu => by
    obtain ⟨u1, us', rfl, h1, h2⟩ := readsL_cons h
    obtain ⟨u0, rfl, hu0⟩ := hf d (by simp)
    obtain rfl := reads_val h1
    rcases List.mem_cons.1 hu with rfl | hu
    · exact hu0
    · exact one_flat (fun d hd => hf d (by simp [hd])) h2 u hu
theorem appN {w : World} {ops : Array Oper} {rest : List Oper} {o : Oper} {act : Act} {Q : Exit → Act → World → Prop} (hgd : o.guard = none) (s x : Operand) (t : TypeId)
    (ho : o.op = .call { callee := .builtin .append, args := #[s, x], argTypes := #[t, t] }) (b hi : Nat) (T : TypeId) (i : TypeInfo) (z : Value) (k bytes : Nat) (ht : Try.prog.underlying t = some (.slice T)) (hin : Try.prog.info? T = some i) (hz : i.zero = some z)
    (hsize : i.size = k) (hby : i.bytes = bytes) (hzs : z.cells.size = k) (hk : 0 < k) (g c n : Nat) (cs c1 c2 : List Dt) (v1 v2 : List Value) (hs : act.eval s = .slice (some ⟨g, 0, none⟩) n c) (hown : OwnDL w b hi (c1 ++ .row T k n cs :: c2) (v1 ++ .slice (some ⟨g, 0, none⟩) n c :: v2)) (hl12 : v1.length = c1.length)
    (xv : Value) (hx : act.eval x = xv) (m : Nat) (T' : TypeId) (ds : List Dt) (hrd : Reads w w.heap.size (.row T' k m ds) xv) (hf : ∀ d ∈ ds, ∃ u, d = .val u ∧ u.oneCell' = true) (h63 : n + m ≤ 2000000) (hbytes : bytes ≤ 1000) (hhi : hi ≤ w.heap.size) (hbw : b ≤ w.heap.size)
    (h : ∀ v' w', OwnDL w' b w'.heap.size (c1 ++ .row T k (n + m) (cs ++ ds) :: c2) (v1 ++ v' :: v2) → w.grownBy w' (some g) → b ≤ g → wpList Try.prog ops Q rest (act.put o.dst v') w') :
    wpList Try.prog ops Q (o :: rest) act w := by
  obtain ⟨vs, h5, hv, hnew⟩ := hown.rowN hl12 (n + m)
  have hgb := (hv g rfl).1
  unfold Reads at hrd
  obtain ⟨us, ⟨hul, a, cap, rfl, _, hnone, hc⟩, hds⟩ := hrd
  have hown2 : OwnDL w w.heap.size w.heap.size ds us := ⟨[], ownsL_flat (fun d hd => by obtain ⟨u, hu, _⟩ := hf d hd; exact ⟨u, hu⟩) hds, List.nodup_nil, fun q hq => by simp at hq⟩
  have fin : ∀ v' w', w'.ownsRow b T k v' (n + m) (vs ++ us) → w.grownBy w' (some g) → (v'.ownBlock = (some g) ∨ v'.ownBlock = some w.heap.size) → wpList Try.prog ops Q rest (act.put o.dst v') w' := fun v' w' ho' hg' hat =>
    h v' w' (hnew us ds w.heap.size hown2 hhi hbw v' w' ho' hg' hat) hg' hgb
  cases a with
  | none =>
    have hm : m = 0 := by
      cases m with
      | zero => rfl
      | succ m' =>
        obtain ⟨_, _, e, _⟩ := hc (by omega)
        cases e
    subst hm
    obtain rfl : us = [] := List.eq_nil_of_length_eq_zero (by rw [hul]; omega)
    have hle : n ≤ c := by
      obtain ⟨_, a', c', e, h2, _⟩ := rd_own h5 (Nat.le_refl _)
      cases e
      exact h2
    refine wpList_plain hgd fun K hK => ?_
    have hr := run_append_nothing (P := Try.prog) w t t o.type T i ht hin (some ⟨g, 0, none⟩) n c hle (.slice none 0 cap) (Src.ofNil w ht cap)
    unfold Oper.wp execOp
    simp only [ho, resolve, invoke, builtin, Sem.run_bind, Sem.run_pure, Result.andThen_ok, List.map_toArray, List.map_cons, List.map_nil, hs, hx, hr]
    exact hK _ _ (fin _ w (by simpa using h5) (World.grownBy.refl w _) (.inl rfl))
  | some ad =>
    have hcell : ∀ (j : Nat) (u : Value), us[j]? = some u → w.cell? (ad.add j) = some u := fun j u hu => by
      have hj : j < us.length := (List.getElem?_eq_some_iff.1 hu).1
      have hm : 0 < m := by
        cases m with
        | zero => rw [hul] at hj; omega
        | succ m' => omega
      obtain ⟨b', o', e, _, hcc⟩ := hc hm
      cases e
      rw [Addr.add_lit, hcc j (by rw [← hul]; exact hj)]
      exact hu
    refine wpList_append_own_at w hgd s x t ho b T i z k bytes ht hin hz hsize hby hzs hk _ n vs hs h5 ad m cap us hx hul hcell (one_flat hf hds) (by unfold maxLen; omega) ?_ hbw ?_
    · have := Nat.mul_le_mul (show n + m ≤ 2000000 by omega) hbytes
      omega
    · intro v' w' ho' hg' _ hat
      exact fin v' w' ho' hg' hat
end Go.Proofs.Ytllghgcancennaa
