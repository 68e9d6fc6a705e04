/-
  Joined: DeepApp, DeepL.
-/
import Derived.Test.YtllghgcancennaaJ3
import Derived.Maps.AppendAt
import Derived.Deep.RegionLaw
import Derived.Deep.AppendLies
/-
  One more row, with data of its own, behind a row of one's own.
-/
namespace Go.Proofs.Ytllghgcancennaa
open Go.RowKit

theorem ownD_nil (w : World) (b hi : Nat) (T : TypeId) (k : Nat) : OwnD w b hi (.row T k 0 []) (.slice none 0 0) := by
  refine ⟨[], ?_, List.nodup_nil, fun q hq => by simp at hq⟩
  unfold Owns
  exact ⟨[], [], World.ownsRow_nil _ _ _ _, ownsL_nil, rfl⟩
theorem appD {w : World} {ops : Array Oper} {rest : List Oper} {o : Oper} {act : Act} {Q : Exit → Act → World → Prop} (hgd : o.guard = none) (s x : Operand) (t : TypeId)
    (ho : o.op = .call { callee := .builtin .append, args := #[s, x], argTypes := #[t, t] }) (base hi m : Nat) (T : TypeId) (i : TypeInfo) (z : Value) (k bytes : Nat) (ht : Try.prog.underlying t = some (.slice T)) (hin : Try.prog.info? T = some i) (hz : i.zero = some z)
    (hsize : i.size = k) (hby : i.bytes = bytes) (hzs : z.cells.size = k) (hk : 0 < k) (v : Value) (n : Nat) (cs : List Dt) (hs : act.eval s = v) (hown : OwnD w base hi (.row T k n cs) v)
    (g c : Nat) (us : List Value) (ds : List Dt) (hx : act.eval x = .slice (some ⟨g, 0, none⟩) 1 c) (hbox : Box w g us) (hds : OwnDL w m w.heap.size ds us) (hl : us.length = k) (h1 : ∀ u ∈ us, u.oneCell' = true) (h63 : n ≤ 1000000) (hbytes : bytes ≤ 1000)
    (hm : hi ≤ m) (hbm : base ≤ m) (hms : m ≤ w.heap.size)
    (h : ∀ v' w', OwnD w' base w'.heap.size (.row T k (n + 1) (cs ++ ds)) v' → w.grownBy w' v.ownBlock → (∀ q, v.ownBlock = some q → base ≤ q ∧ q < hi) → wpList Try.prog ops Q rest (act.put o.dst v') w') :
    wpList Try.prog ops Q (o :: rest) act w := by
  obtain ⟨F, h2, h3, h4⟩ := hown
  have hlt := Owns.lt _ _ _ h2
  unfold Owns at h2
  obtain ⟨vs, G, h5, h6, rfl⟩ := h2
  obtain ⟨F', g1, g2, g3⟩ := hds
  have hlt' := OwnsL.lt _ _ _ g1
  refine wpList_append_own_at w hgd s x t ho base T i z k bytes ht hin hz hsize hby hzs hk v n vs hs h5 ⟨g, 0, none⟩ 1 c us hx (by rw [hl, Nat.one_mul]) (fun j u hu => by rw [Addr.add_lit, Nat.zero_add]; exact hbox j u hu) h1 (by unfold maxLen; omega) ?_ (by omega) ?_
  · have := Nat.mul_le_mul (show n + 1 ≤ 1000001 by omega) hbytes
    omega
  · intro v' w' ho' hg' _ hat
    have hv : ∀ q, v.ownBlock = some q → base ≤ q ∧ q < hi := fun q hq => ⟨(World.ownsRow.lt h5 q hq).1, h4 q (by rw [hq]; simp)⟩
    refine h v' w' ?_ hg' hv
    have nd := List.nodup_append.1 h3
    have kG : OwnsL w' base cs vs G := h6.same (fun q hq => hg'.block q (hlt q (by simp [hq])).2 (fun e => by
      have hq' : q ∈ v.ownBlock.toList := by rw [← e]; simp
      exact nd.2.2 q hq' q hq rfl))
    have kF : OwnsL w' base ds us F' := (g1.mono hbm).same (fun q hq => hg'.block q (hlt' q hq).2 (fun e => by
      have a := (hv q e.symm).2
      have b := (hlt' q hq).1
      omega))
    have hv' : ∀ q, v'.ownBlock = some q → q ∉ G ∧ q ∉ F' := fun q hq => by
      rcases hat with e | e
      · rw [e] at hq
        exact ⟨fun hm' => by
          have hq' : q ∈ v.ownBlock.toList := by rw [hq]; simp
          exact nd.2.2 q hq' q hm' rfl, fun hm' => by
          have a := (hv q hq).2
          have b := (hlt' q hm').1
          omega⟩
      · rw [e] at hq
        cases hq
        exact ⟨fun hm' => by have := (hlt _ (List.mem_append.2 (.inr hm'))).2; omega, fun hm' => by have := (hlt' _ hm').2; omega⟩
    refine ⟨v'.ownBlock.toList ++ (G ++ F'), ?_, ?_, ?_⟩
    · unfold Owns
      exact ⟨vs ++ us, G ++ F', ho', kG.join kF, rfl⟩
    · refine List.nodup_append.2 ⟨by cases v'.ownBlock <;> simp, List.nodup_append.2 ⟨nd.2.1, g2, fun a ha b hb e => ?_⟩, fun a ha b hb e => ?_⟩
      · subst e
        have p1 := h4 a (by simp [ha])
        have p2 := (hlt' a hb).1
        omega
      · subst e
        have := hv' a (by simpa using ha)
        rcases List.mem_append.1 hb with hb | hb
        · exact this.1 hb
        · exact this.2 hb
    · intro q hq
      rcases List.mem_append.1 hq with hq | hq
      · exact (World.ownsRow.lt ho' q (by simpa using hq)).2
      · rcases List.mem_append.1 hq with hq | hq
        · exact Nat.lt_of_lt_of_le (hlt q (by simp [hq])).2 hg'.size
        · exact Nat.lt_of_lt_of_le (hlt' q hq).2 hg'.size
end Go.Proofs.Ytllghgcancennaa
/-
  One more row, with data of its own, behind a row that stands in a cell of a variable of one's own.
-/
namespace Go.Proofs.Ytllghgcancennaa
open Go.RowKit

theorem OwnDL.setVal {w : World} {b hi : Nat} {c1 c2 : List Dt} {v1 v2 : List Value} {u x : Value} (h : OwnDL w b hi (c1 ++ .val u :: c2) (v1 ++ x :: v2)) (hl : v1.length = c1.length) (u' : Value) : OwnDL w b hi (c1 ++ .val u' :: c2) (v1 ++ u' :: v2) := by
  obtain ⟨F, h1, h2, h3⟩ := h
  obtain ⟨u1, u2, F1, F2, e, rfl, h4, h5⟩ := OwnsL.app h1
  obtain ⟨rfl, rfl⟩ := List.append_inj e (by rw [h4.len, hl])
  obtain ⟨y, us, G1, G2, e2, rfl, h6, h7⟩ := ownsL_cons h5
  cases e2
  unfold Owns at h6
  obtain ⟨_, rfl⟩ := h6
  exact ⟨F1 ++ ([] ++ G2), h4.join (ownsL_mk owns_val h7), h2, h3⟩
theorem OwnDL.row {w : World} {b hi T k n : Nat} {cs c1 c2 : List Dt} {v1 v2 : List Value} {v : Value} (h : OwnDL w b hi (c1 ++ .row T k n cs :: c2) (v1 ++ v :: v2)) (hl : v1.length = c1.length) :
    ∃ vs, w.ownsRow b T k v n vs ∧ (∀ q, v.ownBlock = some q → b ≤ q ∧ q < hi) ∧ ∀ (us : List Value) (ds : List Dt) (m : Nat), OwnDL w m w.heap.size ds us → hi ≤ m → b ≤ m → ∀ (v' : Value) (w' : World), w'.ownsRow b T k v' (n + 1) (vs ++ us) → w.grownBy w' v.ownBlock → (v'.ownBlock = v.ownBlock ∨ v'.ownBlock = some w.heap.size) →
      OwnDL w' b w'.heap.size (c1 ++ .row T k (n + 1) (cs ++ ds) :: c2) (v1 ++ v' :: v2) := by
  obtain ⟨F, h1, h2, h3⟩ := h
  obtain ⟨u1, u2, F1, F2, e, rfl, h4, h5⟩ := OwnsL.app h1
  obtain ⟨rfl, rfl⟩ := List.append_inj e (by rw [h4.len, hl])
  obtain ⟨y, us, G1, G2, e2, rfl, h6, h7⟩ := ownsL_cons h5
  cases e2
  unfold Owns at h6
  obtain ⟨vs, G, h8, h9, rfl⟩ := h6
  have l1 := OwnsL.lt _ _ _ h4
  have l2 := OwnsL.lt _ _ _ h7
  have l3 := OwnsL.lt _ _ _ h9
  have hv : ∀ q, v.ownBlock = some q → b ≤ q ∧ q < hi := fun q hq => ⟨(World.ownsRow.lt h8 q hq).1, h3 q (by rw [hq]; simp)⟩
  refine ⟨vs, h8, hv, ?_⟩
  intro us ds m hds hm hbm v' w' ho' hg' hat
  obtain ⟨F', g1, g2, g3⟩ := hds
  have l4 := OwnsL.lt _ _ _ g1
  have nd := List.nodup_append.1 h2
  have nd2 := List.nodup_append.1 nd.2.1
  have nd3 := List.nodup_append.1 nd2.1
  have t1 : ∀ q ∈ F1, q < hi := fun q hq => h3 q (by simp [hq])
  have t2 : ∀ q ∈ G2, q < hi := fun q hq => h3 q (by simp [hq])
  have t3 : ∀ q ∈ G, q < hi := fun q hq => h3 q (by simp [hq])
  have d1 : ∀ q ∈ F1, v.ownBlock ≠ some q := fun q hq e => nd.2.2 q hq q (by simp [e]) rfl
  have d2 : ∀ q ∈ G2, v.ownBlock ≠ some q := fun q hq e => nd2.2.2 q (by simp [e]) q hq rfl
  have d3 : ∀ q ∈ G, v.ownBlock ≠ some q := fun q hq e => nd3.2.2 q (by simp [e]) q hq rfl
  have keep : ∀ q, q < w.heap.size → v.ownBlock ≠ some q → w'.heap[q]? = w.heap[q]? := fun q hq hne => hg'.block q hq (fun e => hne e.symm)
  have d4 : ∀ q ∈ F', v.ownBlock ≠ some q := fun q hq e => by have := (hv q e).2; have := (l4 q hq).1; omega
  have k1 : OwnsL w' b c1 v1 F1 := h4.same (fun q hq => keep q (l1 q hq).2 (d1 q hq))
  have k2 : OwnsL w' b c2 v2 G2 := h7.same (fun q hq => keep q (l2 q hq).2 (d2 q hq))
  have k3 : OwnsL w' b cs vs G := h9.same (fun q hq => keep q (l3 q hq).2 (d3 q hq))
  have k4 : OwnsL w' b ds us F' := (g1.mono hbm).same (fun q hq => keep q (l4 q hq).2 (d4 q hq))
  have a1 : ∀ q, v'.ownBlock = some q → q ∉ F1 ∧ q ∉ G2 ∧ q ∉ G ∧ q ∉ F' := fun q hq => by
    rcases hat with e | e
    · rw [e] at hq
      exact ⟨fun h => d1 q h hq, fun h => d2 q h hq, fun h => d3 q h hq, fun h => d4 q h hq⟩
    · rw [e] at hq
      cases hq
      exact ⟨fun h => by have := (l1 _ h).2; omega, fun h => by have := (l2 _ h).2; omega, fun h => by have := (l3 _ h).2; omega, fun h => by have := (l4 _ h).2; omega⟩
  refine ⟨F1 ++ ((v'.ownBlock.toList ++ (G ++ F')) ++ G2), k1.join (ownsL_mk ?_ k2), ?_, ?_⟩
  · unfold Owns
    exact ⟨vs ++ us, G ++ F', ho', k3.join k4, rfl⟩
  · refine List.nodup_append.2 ⟨nd.1, List.nodup_append.2 ⟨List.nodup_append.2 ⟨by cases v'.ownBlock <;> simp, List.nodup_append.2 ⟨nd3.2.1, g2, fun x hx y hy e => ?_⟩, fun x hx y hy e => ?_⟩, nd2.2.1, fun x hx y hy e => ?_⟩, fun x hx y hy e => ?_⟩
    · subst e; have := t3 x hx; have := (l4 x hy).1; omega
    · subst e
      have := a1 x (by simpa using hx)
      rcases List.mem_append.1 hy with hy | hy
      · exact this.2.2.1 hy
      · exact this.2.2.2 hy
    · subst e
      rcases List.mem_append.1 hx with hx | hx
      · exact (a1 x (by simpa using hx)).2.1 hy
      · rcases List.mem_append.1 hx with hx | hx
        · exact nd2.2.2 x (by simp [hx]) x hy rfl
        · have := t2 x hy; have := (l4 x hx).1; omega
    · subst e
      rcases List.mem_append.1 hy with hy | hy
      · rcases List.mem_append.1 hy with hy | hy
        · exact (a1 x (by simpa using hy)).1 hx
        · rcases List.mem_append.1 hy with hy | hy
          · exact nd.2.2 x hx x (by simp [hy]) rfl
          · have := t1 x hx; have := (l4 x hy).1; omega
      · exact nd.2.2 x hx x (by simp [hy]) rfl
  · intro q hq
    have hsz := hg'.size
    rcases List.mem_append.1 hq with hq | hq
    · have := (l1 q hq).2; omega
    · rcases List.mem_append.1 hq with hq | hq
      · rcases List.mem_append.1 hq with hq | hq
        · exact (World.ownsRow.lt ho' q (by simpa using hq)).2
        · rcases List.mem_append.1 hq with hq | hq
          · have := (l3 q hq).2; omega
          · have := (l4 q hq).2; omega
      · have := (l2 q hq).2; omega
theorem OwnDL.rowN {w : World} {b hi T k n : Nat} {cs c1 c2 : List Dt} {v1 v2 : List Value} {v : Value} (h : OwnDL w b hi (c1 ++ .row T k n cs :: c2) (v1 ++ v :: v2)) (hl : v1.length = c1.length) (n' : Nat) :
    ∃ vs, w.ownsRow b T k v n vs ∧ (∀ q, v.ownBlock = some q → b ≤ q ∧ q < hi) ∧ ∀ (us : List Value) (ds : List Dt) (m : Nat), OwnDL w m w.heap.size ds us → hi ≤ m → b ≤ m → ∀ (v' : Value) (w' : World), w'.ownsRow b T k v' (n') (vs ++ us) → w.grownBy w' v.ownBlock → (v'.ownBlock = v.ownBlock ∨ v'.ownBlock = some w.heap.size) →
      OwnDL w' b w'.heap.size (c1 ++ .row T k (n') (cs ++ ds) :: c2) (v1 ++ v' :: v2) := by
  obtain ⟨F, h1, h2, h3⟩ := h
  obtain ⟨u1, u2, F1, F2, e, rfl, h4, h5⟩ := OwnsL.app h1
  obtain ⟨rfl, rfl⟩ := List.append_inj e (by rw [h4.len, hl])
  obtain ⟨y, us, G1, G2, e2, rfl, h6, h7⟩ := ownsL_cons h5
  cases e2
  unfold Owns at h6
  obtain ⟨vs, G, h8, h9, rfl⟩ := h6
  have l1 := OwnsL.lt _ _ _ h4
  have l2 := OwnsL.lt _ _ _ h7
  have l3 := OwnsL.lt _ _ _ h9
  have hv : ∀ q, v.ownBlock = some q → b ≤ q ∧ q < hi := fun q hq => ⟨(World.ownsRow.lt h8 q hq).1, h3 q (by rw [hq]; simp)⟩
  refine ⟨vs, h8, hv, ?_⟩
  intro us ds m hds hm hbm v' w' ho' hg' hat
  obtain ⟨F', g1, g2, g3⟩ := hds
  have l4 := OwnsL.lt _ _ _ g1
  have nd := List.nodup_append.1 h2
  have nd2 := List.nodup_append.1 nd.2.1
  have nd3 := List.nodup_append.1 nd2.1
  have t1 : ∀ q ∈ F1, q < hi := fun q hq => h3 q (by simp [hq])
  have t2 : ∀ q ∈ G2, q < hi := fun q hq => h3 q (by simp [hq])
  have t3 : ∀ q ∈ G, q < hi := fun q hq => h3 q (by simp [hq])
  have d1 : ∀ q ∈ F1, v.ownBlock ≠ some q := fun q hq e => nd.2.2 q hq q (by simp [e]) rfl
  have d2 : ∀ q ∈ G2, v.ownBlock ≠ some q := fun q hq e => nd2.2.2 q (by simp [e]) q hq rfl
  have d3 : ∀ q ∈ G, v.ownBlock ≠ some q := fun q hq e => nd3.2.2 q (by simp [e]) q hq rfl
  have keep : ∀ q, q < w.heap.size → v.ownBlock ≠ some q → w'.heap[q]? = w.heap[q]? := fun q hq hne => hg'.block q hq (fun e => hne e.symm)
  have d4 : ∀ q ∈ F', v.ownBlock ≠ some q := fun q hq e => by have := (hv q e).2; have := (l4 q hq).1; omega
  have k1 : OwnsL w' b c1 v1 F1 := h4.same (fun q hq => keep q (l1 q hq).2 (d1 q hq))
  have k2 : OwnsL w' b c2 v2 G2 := h7.same (fun q hq => keep q (l2 q hq).2 (d2 q hq))
  have k3 : OwnsL w' b cs vs G := h9.same (fun q hq => keep q (l3 q hq).2 (d3 q hq))
  have k4 : OwnsL w' b ds us F' := (g1.mono hbm).same (fun q hq => keep q (l4 q hq).2 (d4 q hq))
  have a1 : ∀ q, v'.ownBlock = some q → q ∉ F1 ∧ q ∉ G2 ∧ q ∉ G ∧ q ∉ F' := fun q hq => by
    rcases hat with e | e
    · rw [e] at hq
      exact ⟨fun h => d1 q h hq, fun h => d2 q h hq, fun h => d3 q h hq, fun h => d4 q h hq⟩
    · rw [e] at hq
      cases hq
      exact ⟨fun h => by have := (l1 _ h).2; omega, fun h => by have := (l2 _ h).2; omega, fun h => by have := (l3 _ h).2; omega, fun h => by have := (l4 _ h).2; omega⟩
  refine ⟨F1 ++ ((v'.ownBlock.toList ++ (G ++ F')) ++ G2), k1.join (ownsL_mk ?_ k2), ?_, ?_⟩
  · unfold Owns
    exact ⟨vs ++ us, G ++ F', ho', k3.join k4, rfl⟩
  · refine List.nodup_append.2 ⟨nd.1, List.nodup_append.2 ⟨List.nodup_append.2 ⟨by cases v'.ownBlock <;> simp, List.nodup_append.2 ⟨nd3.2.1, g2, fun x hx y hy e => ?_⟩, fun x hx y hy e => ?_⟩, nd2.2.1, fun x hx y hy e => ?_⟩, fun x hx y hy e => ?_⟩
    · subst e; have := t3 x hx; have := (l4 x hy).1; omega
    · subst e
      have := a1 x (by simpa using hx)
      rcases List.mem_append.1 hy with hy | hy
      · exact this.2.2.1 hy
      · exact this.2.2.2 hy
    · subst e
      rcases List.mem_append.1 hx with hx | hx
      · exact (a1 x (by simpa using hx)).2.1 hy
      · rcases List.mem_append.1 hx with hx | hx
        · exact nd2.2.2 x (by simp [hx]) x hy rfl
        · have := t2 x hy; have := (l4 x hx).1; omega
    · subst e
      rcases List.mem_append.1 hy with hy | hy
      · rcases List.mem_append.1 hy with hy | hy
        · exact (a1 x (by simpa using hy)).1 hx
        · rcases List.mem_append.1 hy with hy | hy
          · exact nd.2.2 x hx x (by simp [hy]) rfl
          · have := t1 x hx; have := (l4 x hy).1; omega
      · exact nd.2.2 x hx x (by simp [hy]) rfl
  · intro q hq
    have hsz := hg'.size
    rcases List.mem_append.1 hq with hq | hq
    · have := (l1 q hq).2; omega
    · rcases List.mem_append.1 hq with hq | hq
      · rcases List.mem_append.1 hq with hq | hq
        · exact (World.ownsRow.lt ho' q (by simpa using hq)).2
        · rcases List.mem_append.1 hq with hq | hq
          · have := (l3 q hq).2; omega
          · have := (l4 q hq).2; omega
      · have := (l2 q hq).2; omega
theorem ownsRow_shape {w : World} {b T k n : Nat} {v : Value} {vs : List Value} (h : w.ownsRow b T k v (n + 1) vs) : ∃ g c, v = .slice (some ⟨g, 0, none⟩) (n + 1) c := by
  rcases h.2 with ⟨rfl, h0, _⟩ | ⟨g, c, cur, rfl, _⟩
  exact ⟨g, c, rfl⟩
theorem appL {w : World} {ops : Array Oper} {rest : List Oper} {o : Oper} {act : Act} {Q : Exit → Act → World → Prop} (hgd : o.guard = none) (s x : Operand) (t : TypeId)
    (ho : o.op = .call { callee := .builtin .append, args := #[s, x], argTypes := #[t, t] }) (b hi m : Nat) (T : TypeId) (i : TypeInfo) (z : Value) (k bytes : Nat) (ht : Try.prog.underlying t = some (.slice T)) (hin : Try.prog.info? T = some i) (hz : i.zero = some z)
    (hsize : i.size = k) (hby : i.bytes = bytes) (hzs : z.cells.size = k) (hk : 0 < k) (v : Value) (n : Nat) (cs c1 c2 : List Dt) (v1 v2 : List Value) (hs : act.eval s = v) (hown : OwnDL w b hi (c1 ++ .row T k n cs :: c2) (v1 ++ v :: v2)) (hl12 : v1.length = c1.length)
    (g c : Nat) (us : List Value) (ds : List Dt) (hx : act.eval x = .slice (some ⟨g, 0, none⟩) 1 c) (hbox : Box w g us) (hds : OwnDL w m w.heap.size ds us) (hl : us.length = k) (h1 : ∀ u ∈ us, u.oneCell' = true) (h63 : n ≤ 2000000) (hbytes : bytes ≤ 1000)
    (hm : hi ≤ m) (hbm : b ≤ m) (hms : m ≤ w.heap.size)
    (h : ∀ g' c' w', OwnDL w' b w'.heap.size (c1 ++ .row T k (n + 1) (cs ++ ds) :: c2) (v1 ++ .slice (some ⟨g', 0, none⟩) (n + 1) c' :: v2) → w.grownBy w' v.ownBlock → (∀ q, v.ownBlock = some q → b ≤ q ∧ q < hi) → wpList Try.prog ops Q rest (act.put o.dst (.slice (some ⟨g', 0, none⟩) (n + 1) c')) w') :
    wpList Try.prog ops Q (o :: rest) act w := by
  obtain ⟨vs, h5, hv, hnew⟩ := hown.row hl12
  refine wpList_append_own_at w hgd s x t ho b T i z k bytes ht hin hz hsize hby hzs hk v n vs hs h5 ⟨g, 0, none⟩ 1 c us hx (by rw [hl, Nat.one_mul]) (fun j u hu => by rw [Addr.add_lit, Nat.zero_add]; exact hbox j u hu) h1 (by unfold maxLen; omega) ?_ (by omega) ?_
  · have := Nat.mul_le_mul (show n + 1 ≤ 2000001 by omega) hbytes
    omega
  · intro v' w' ho' hg' _ hat
    obtain ⟨g', c', rfl⟩ := ownsRow_shape ho'
    exact h g' c' w' (hnew us ds m hds hm hbm _ w' ho' hg' hat) hg' hv
theorem step_appL {w : World} {ops : Array Oper} {o : Oper} {act : Act} {K : Act → World → Prop} {Q : Exit → Act → World → Prop} {E : Prop} (hgd : o.guard = none) (s x : Operand) (t : TypeId)
    (ho : o.op = .call { callee := .builtin .append, args := #[s, x], argTypes := #[t, t] }) (b hi m : Nat) (T : TypeId) (i : TypeInfo) (z : Value) (k bytes : Nat) (ht : Try.prog.underlying t = some (.slice T)) (hin : Try.prog.info? T = some i) (hz : i.zero = some z)
    (hsize : i.size = k) (hby : i.bytes = bytes) (hzs : z.cells.size = k) (hk : 0 < k) (v : Value) (n : Nat) (cs c1 c2 : List Dt) (v1 v2 : List Value) (hs : act.eval s = v) (hown : OwnDL w b hi (c1 ++ .row T k n cs :: c2) (v1 ++ v :: v2)) (hl12 : v1.length = c1.length)
    (g c : Nat) (us : List Value) (ds : List Dt) (hx : act.eval x = .slice (some ⟨g, 0, none⟩) 1 c) (hbox : Box w g us) (hds : OwnDL w m w.heap.size ds us) (hl : us.length = k) (h1 : ∀ u ∈ us, u.oneCell' = true) (h63 : n ≤ 2000000) (hbytes : bytes ≤ 1000)
    (hm : hi ≤ m) (hbm : b ≤ m) (hms : m ≤ w.heap.size)
    (h : ∀ g' c' w', OwnDL w' b w'.heap.size (c1 ++ .row T k (n + 1) (cs ++ ds) :: c2) (v1 ++ .slice (some ⟨g', 0, none⟩) (n + 1) c' :: v2) → w.grownBy w' v.ownBlock → (∀ q, v.ownBlock = some q → b ≤ q ∧ q < hi) → K (act.put o.dst (.slice (some ⟨g', 0, none⟩) (n + 1) c')) w') :
    if Region.wanted o (yielded ops act.tmps) = true then Oper.wp Try.prog o act w K Q else E := by
  obtain ⟨vs, h5, hv, hnew⟩ := hown.row hl12
  refine step_append_lies w hgd s x t ho b T i z k bytes ht hin hz hsize hby hzs hk v n vs hs h5 ⟨g, 0, none⟩ 1 c us hx (by rw [hl, Nat.one_mul]) (fun j u hu => by rw [Addr.add_lit, Nat.zero_add]; exact hbox j u hu) h1 (by omega) (by unfold maxLen; omega) ?_ (by omega) w.heap.size rfl ?_
  · have := Nat.mul_le_mul (show n + 1 ≤ 2000001 by omega) hbytes
    omega
  · intro g' c' w' ho' hg' hat _
    refine h g' c' w' (hnew us ds m hds hm hbm _ w' ho' hg' ?_) hg' hv
    rcases hat with e | e
    · exact .inl e.symm
    · exact .inr (by rw [e]; rfl)
theorem step_callC {P : Program} {ops : Array Oper} {o : Oper} {a : Act} {w : World} {K : Act → World → Prop} {Q : Exit → Act → World → Prop} {E : Prop} {R : Ending → World → Prop} (hgd : o.guard = none) (f : FuncId) (xs : Array Operand) (ts : Array TypeId) (_ho : o.op = .call { callee := .value (.func f), args := xs, argTypes := ts })
    (args : Array Value) (hrun : (execOp a.eval o).run P w = .ok (.enter f args) w) (hc : Calls P f args w R) (h : ∀ e w', R e w' → ∃ v, e = .returned v ∧ K (a.put o.dst v) w') :
    if Region.wanted o (yielded ops a.tmps) = true then Oper.wp P o a w K Q else E := by
  have hw : Region.wanted o (yielded ops a.tmps) = true := by simp [Region.wanted, hgd]
  rw [if_pos hw]
  unfold Oper.wp
  rw [hrun, Oper.upon_enter]
  refine hc.mono fun e w' hh => ?_
  obtain ⟨v, rfl, hk⟩ := h e w' hh
  exact hk
/-- A cell gives way to another, whose data lies behind all. -/
theorem OwnDL.repl {w : World} {b hi m hi' : Nat} {c c' : Dt} {c1 c2 : List Dt} {v1 v2 : List Value} {v v' : Value} (h : OwnDL w b hi (c1 ++ c :: c2) (v1 ++ v :: v2)) (hl : v1.length = c1.length) (h' : OwnD w m hi' c' v') (hm : hi ≤ m) (hb : b ≤ m) (hh : hi ≤ hi') : OwnDL w b hi' (c1 ++ c' :: c2) (v1 ++ v' :: v2) := by
  obtain ⟨F, h1, h2, h3⟩ := h
  obtain ⟨u1, u2, F1, F2, e, rfl, h4, h5⟩ := OwnsL.app h1
  obtain ⟨rfl, rfl⟩ := List.append_inj e (by rw [h4.len, hl])
  obtain ⟨y, us, G1, G2, e2, rfl, h6, h7⟩ := ownsL_cons h5
  cases e2
  obtain ⟨F', g1, g2, g3⟩ := h'
  have l4 := Owns.lt _ _ _ g1
  have nd := List.nodup_append.1 h2
  have nd2 := List.nodup_append.1 nd.2.1
  have t1 : ∀ q ∈ F1, q < hi := fun q hq => h3 q (by simp [hq])
  have t2 : ∀ q ∈ G2, q < hi := fun q hq => h3 q (by simp [hq])
  refine ⟨F1 ++ (F' ++ G2), h4.join (ownsL_mk (g1.mono hb) h7), List.nodup_append.2 ⟨nd.1, List.nodup_append.2 ⟨g2, nd2.2.1, fun x hx y hy e => ?_⟩, fun x hx y hy e => ?_⟩, fun q hq => ?_⟩
  · subst e; have := t2 x hy; have := (l4 x hx).1; omega
  · subst e
    rcases List.mem_append.1 hy with hy | hy
    · have := t1 x hx; have := (l4 x hy).1; omega
    · exact nd.2.2 x hx x (by simp [hy]) rfl
  · rcases List.mem_append.1 hq with hq | hq
    · have := t1 q hq; omega
    · rcases List.mem_append.1 hq with hq | hq
      · exact g3 q hq
      · have := t2 q hq; omega
theorem step_appJ {w : World} {ops : Array Oper} {o : Oper} {act : Act} {K : Act → World → Prop} {Q : Exit → Act → World → Prop} {E : Prop} (hgd : o.guard = none) (s x : Operand)
    (ho : o.op = .call { callee := .builtin .append, args := #[s, x], argTypes := #[36, 36] }) (base B : Nat) (v : Value) (ad : Addr) (m c : Nat) (xs zs : List Int) (hs : act.eval s = v) (hx : act.eval x = .slice (some ad) m c) (hown : Own w base v xs) (hin : In w B (some ad) m zs) (hsm : xs.length ≤ 2000000) (hbase : base ≤ w.heap.size)
    (h : ∀ v' w', Own w' base v' (xs ++ zs) → w.grownBy w' v.ownBlock → K (act.put o.dst v') w') :
    if Region.wanted o (yielded ops act.tmps) = true then Oper.wp Try.prog o act w K Q else E := by
  have hw : Region.wanted o (yielded ops act.tmps) = true := by simp [Region.wanted, hgd]
  rw [if_pos hw]
  obtain ⟨i0, hi, hz0, hz1, hz2⟩ := info_parts Try.info5
  have hl := hin.1
  have hm := hin.2.1
  obtain ⟨v', w', hr, ho', hg', _, _⟩ := run_append_own_at (P := Try.prog) w base 36 o.type 5 i0 (.int .u8 0) 1 1 Try.underlying36 hi hz0 hz1 hz2 rfl (by decide) v xs.length (xs.map (Value.int .u8)) hown ad m c (zs.map (Value.int .u8)) (by simp; omega) (cells_in hin) (byt_cells _) (by unfold maxLen; omega) (by omega) hbase
  unfold Oper.wp execOp
  simp only [ho, resolve, invoke, builtin, Sem.run_bind, Sem.run_pure, Result.andThen_ok, List.map_toArray, List.map_cons, List.map_nil, hs, hx, hr]
  exact h v' w' (own_more (by rw [hl]; exact ho')) hg'
end Go.Proofs.Ytllghgcancennaa
