/-
  Joined: Deep, DeepB.
-/
import Derived.Test.YtllghgcancennaaJ2
import Derived.OpenShut
/-
  Data as it lies: plain cells, and slices of rows of cells, as deep as may be; what may be read of it, what is one's own, and what stays.
-/
namespace Go.Proofs.Ytllghgcancennaa
open Go.RowKit

/-- What a cell tells: a plain value, or a slice of n rows of k cells each (of the type T). -/
inductive Dt where
  | val (v : Value)
  | row (T : TypeId) (k n : Nat) (cs : List Dt)
instance : Inhabited Dt := ⟨.val undef⟩

mutual
/-- The value v is this, and all of it may be read below block B. -/
def Reads (w : World) (B : Nat) : Dt → Value → Prop
  | .val u, v => v = u
  | .row _ k n cs, v => ∃ us, Rd w B k v n us ∧ ReadsL w B cs us
def ReadsL (w : World) (B : Nat) : List Dt → List Value → Prop
  | [], us => us = []
  | c :: cs, us => ∃ u us', us = u :: us' ∧ Reads w B c u ∧ ReadsL w B cs us'
end

mutual
theorem Reads.imp {w w' : World} {B B' : Nat} (hi : ∀ k v n us, Rd w B k v n us → Rd w' B' k v n us) : ∀ (d : Dt) (v : Value), Reads w B d v → Reads w' B' d v
  | .val u, v, h => by unfold Reads at *; exact h
  | .row T k n cs, v, h => by
    unfold Reads at *
    obtain ⟨us, h1, h2⟩ := h
    exact ⟨us, hi _ _ _ _ h1, ReadsL.imp hi cs us h2⟩
theorem ReadsL.imp {w w' : World} {B B' : Nat} (hi : ∀ k v n us, Rd w B k v n us → Rd w' B' k v n us) : ∀ (cs : List Dt) (us : List Value), ReadsL w B cs us → ReadsL w' B' cs us
  | [], us, h => by unfold ReadsL at *; exact h
  | c :: cs, us, h => by
    unfold ReadsL at *
    obtain ⟨u, us', e, h1, h2⟩ := h
    exact ⟨u, us', e, Reads.imp hi c u h1, ReadsL.imp hi cs us' h2⟩
end
theorem Reads.kept {w w' : World} {B : Nat} {d : Dt} {v : Value} (h : Reads w B d v) (hb : ∀ k, k < B → w'.heap[k]? = w.heap[k]?) : Reads w' B d v := Reads.imp (fun _ _ _ _ h => h.kept hb) d v h
theorem Reads.up {w : World} {B B' : Nat} {d : Dt} {v : Value} (h : Reads w B d v) (hB : B ≤ B') : Reads w B' d v := Reads.imp (fun _ _ _ _ h => h.up hB) d v h
theorem Reads.at {w w' : World} {d : Dt} {v : Value} (h : Reads w w.heap.size d v) (hb : Below w.heap.size w w') : Reads w' w'.heap.size d v := (h.kept hb.block).up hb.size
theorem Reads.low {w w' : World} {B : Nat} {d : Dt} {v : Value} (h : Reads w B d v) (hb : Below w.heap.size w w') (hB : B ≤ w.heap.size) : Reads w' B d v := h.kept (fun k hk => hb.block k (by omega))
theorem Reads.drewN {w : World} {B : Nat} {d : Dt} {v : Value} (h : Reads w B d v) (q : Nat) : Reads (w.drewN q) B d v := Reads.imp (fun _ _ _ _ h => h.drewN q) d v h
theorem ReadsL.kept {w w' : World} {B : Nat} {cs : List Dt} {us : List Value} (h : ReadsL w B cs us) (hb : ∀ k, k < B → w'.heap[k]? = w.heap[k]?) : ReadsL w' B cs us := ReadsL.imp (fun _ _ _ _ h => h.kept hb) cs us h
theorem ReadsL.up {w : World} {B B' : Nat} {cs : List Dt} {us : List Value} (h : ReadsL w B cs us) (hB : B ≤ B') : ReadsL w B' cs us := ReadsL.imp (fun _ _ _ _ h => h.up hB) cs us h
theorem ReadsL.at {w w' : World} {cs : List Dt} {us : List Value} (h : ReadsL w w.heap.size cs us) (hb : Below w.heap.size w w') : ReadsL w' w'.heap.size cs us := (h.kept hb.block).up hb.size
theorem ReadsL.low {w w' : World} {B : Nat} {cs : List Dt} {us : List Value} (h : ReadsL w B cs us) (hb : Below w.heap.size w w') (hB : B ≤ w.heap.size) : ReadsL w' B cs us := h.kept (fun k hk => hb.block k (by omega))
theorem ReadsL.drewN {w : World} {B : Nat} {cs : List Dt} {us : List Value} (h : ReadsL w B cs us) (q : Nat) : ReadsL (w.drewN q) B cs us := ReadsL.imp (fun _ _ _ _ h => h.drewN q) cs us h

theorem ReadsL.app {w : World} {B : Nat} : ∀ {c1 c2 : List Dt} {us : List Value}, ReadsL w B (c1 ++ c2) us → ∃ u1 u2, us = u1 ++ u2 ∧ u1.length = c1.length ∧ ReadsL w B c1 u1 ∧ ReadsL w B c2 u2
  | [], c2, us, h => ⟨[], us, rfl, rfl, by unfold ReadsL; rfl, h⟩
  | c :: c1, c2, us, h => by
    rw [List.cons_append] at h
    unfold ReadsL at h
    obtain ⟨u, us', rfl, h1, h2⟩ := h
    obtain ⟨u1, u2, rfl, hl, h3, h4⟩ := ReadsL.app h2
    exact ⟨u :: u1, u2, rfl, by simp [hl], by unfold ReadsL; exact ⟨u, u1, rfl, h1, h3⟩, h4⟩
theorem ReadsL.len {w : World} {B : Nat} : ∀ {cs : List Dt} {us : List Value}, ReadsL w B cs us → us.length = cs.length
  | [], us, h => by unfold ReadsL at h; subst h; rfl
  | c :: cs, us, h => by
    unfold ReadsL at h
    obtain ⟨u, us', rfl, _, h2⟩ := h
    simp [ReadsL.len h2]
theorem readsL_nil {w : World} {B : Nat} {us : List Value} (h : ReadsL w B [] us) : us = [] := by unfold ReadsL at h; exact h
theorem readsL_cons {w : World} {B : Nat} {c : Dt} {cs : List Dt} {us : List Value} (h : ReadsL w B (c :: cs) us) : ∃ u us', us = u :: us' ∧ Reads w B c u ∧ ReadsL w B cs us' := by unfold ReadsL at h; exact h
theorem readsL_mk {w : World} {B : Nat} {c : Dt} {cs : List Dt} {u : Value} {us : List Value} (h : Reads w B c u) (h' : ReadsL w B cs us) : ReadsL w B (c :: cs) (u :: us) := by unfold ReadsL; exact ⟨u, us, rfl, h, h'⟩
theorem readsL_none {w : World} {B : Nat} : ReadsL w B [] [] := by unfold ReadsL; rfl
theorem reads_val {w : World} {B : Nat} {u v : Value} (h : Reads w B (.val u) v) : v = u := by unfold Reads at h; exact h
theorem reads_val' {w : World} {B : Nat} {u : Value} : Reads w B (.val u) u := by unfold Reads; rfl

theorem flatD_len {α : Type} {f : α → List Dt} {k : Nat} (hf : ∀ x, (f x).length = k) : ∀ (xs : List α), (xs.flatMap f).length = xs.length * k
  | [] => by simp
  | x :: xs => by rw [List.flatMap_cons, List.length_append, hf, flatD_len hf xs, List.length_cons, Nat.succ_mul]; omega

theorem readsL_flat {w : World} {B : Nat} {α : Type} {f : α → List Dt} {k : Nat} (hf : ∀ x, (f x).length = k) : ∀ (xs : List α) (us : List Value) (d : α) (j : Nat), ReadsL w B (xs.flatMap f) us → j < xs.length →
    ∃ vs, ReadsL w B (f (xs.getD j d)) vs ∧ ∀ i, i < k → us[j * k + i]? = vs[i]?
  | [], us, d, j, h, hj => by simp at hj
  | x :: xs, us, d, 0, h, hj => by
    rw [List.flatMap_cons] at h
    obtain ⟨u1, u2, rfl, hl, h1, _⟩ := ReadsL.app h
    refine ⟨u1, by simpa using h1, fun i hi => ?_⟩
    rw [List.getElem?_append_left (by rw [hl, hf]; omega)]
    simp
  | x :: xs, us, d, j + 1, h, hj => by
    rw [List.flatMap_cons] at h
    obtain ⟨u1, u2, rfl, hl, _, h2⟩ := ReadsL.app h
    obtain ⟨vs, h3, h4⟩ := readsL_flat hf xs u2 d j h2 (by simpa using hj)
    refine ⟨vs, by simpa using h3, fun i hi => ?_⟩
    rw [List.getElem?_append_right (by rw [hl, hf, Nat.succ_mul]; omega), hl, hf, ← h4 i hi]
    congr 1
    rw [Nat.succ_mul]; omega

/-- A slice of rows: its cells, row by row. -/
theorem row_at {w : World} {B : Nat} {α : Type} [Inhabited α] {f : α → List Dt} {T : TypeId} {k : Nat} (hf : ∀ x, (f x).length = k) {xs : List α} {n : Nat} (hn : xs.length = n) {v : Value} (h : Reads w B (.row T k n (xs.flatMap f)) v) :
    ∃ a cap, v = .slice a n cap ∧ n ≤ cap ∧ (a = none → cap = 0) ∧ (0 < n → ∃ b o, a = some ⟨b, o, none⟩ ∧ b < B ∧ ∀ j, j < n → ∃ vs, ReadsL w B (f (xs.getD j default)) vs ∧ ∀ i, i < k → w.cell? ⟨b, o + j * k + i, none⟩ = vs[i]?) := by
  subst hn
  unfold Reads at h
  obtain ⟨us, ⟨_, a, cap, rfl, h2, h3, h4⟩, h5⟩ := h
  refine ⟨a, cap, rfl, h2, h3, fun hp => ?_⟩
  obtain ⟨b, o, rfl, hb, hc⟩ := h4 hp
  refine ⟨b, o, rfl, hb, fun j hj => ?_⟩
  obtain ⟨vs, h6, h7⟩ := readsL_flat hf xs us default j h5 hj
  refine ⟨vs, h6, fun i hi => ?_⟩
  have : j * k + i < xs.length * k := by
    have := Nat.mul_le_mul_right k (show j + 1 ≤ xs.length from hj)
    rw [Nat.succ_mul] at this
    omega
  rw [Nat.add_assoc, hc _ this, h7 i hi]

mutual
/-- The value v is this, and all of it lies in memory of one's own from block b on: in the blocks F. -/
def Owns (w : World) (b : Nat) : Dt → Value → List Nat → Prop
  | .val u, v, F => v = u ∧ F = []
  | .row T k n cs, v, F => ∃ us G, w.ownsRow b T k v n us ∧ OwnsL w b cs us G ∧ F = v.ownBlock.toList ++ G
def OwnsL (w : World) (b : Nat) : List Dt → List Value → List Nat → Prop
  | [], us, F => us = [] ∧ F = []
  | c :: cs, us, F => ∃ u us' F1 F2, us = u :: us' ∧ F = F1 ++ F2 ∧ Owns w b c u F1 ∧ OwnsL w b cs us' F2
end
mutual
theorem Owns.imp {w w' : World} {b b' : Nat} {F0 : List Nat} (hi : ∀ T k v n us, (∀ q, v.ownBlock = some q → q ∈ F0) → w.ownsRow b T k v n us → w'.ownsRow b' T k v n us) : ∀ (d : Dt) (v : Value) (F : List Nat), (∀ q ∈ F, q ∈ F0) → Owns w b d v F → Owns w' b' d v F
  | .val u, v, F, _, h => by unfold Owns at *; exact h
  | .row T k n cs, v, F, hF, h => by
    unfold Owns at *
    obtain ⟨us, G, h1, h2, rfl⟩ := h
    exact ⟨us, G, hi _ _ _ _ _ (fun q hq => hF q (by rw [hq]; simp)) h1, OwnsL.imp hi cs us G (fun q hq => hF q (by simp [hq])) h2, rfl⟩
theorem OwnsL.imp {w w' : World} {b b' : Nat} {F0 : List Nat} (hi : ∀ T k v n us, (∀ q, v.ownBlock = some q → q ∈ F0) → w.ownsRow b T k v n us → w'.ownsRow b' T k v n us) : ∀ (cs : List Dt) (us : List Value) (F : List Nat), (∀ q ∈ F, q ∈ F0) → OwnsL w b cs us F → OwnsL w' b' cs us F
  | [], us, F, _, h => by unfold OwnsL at *; exact h
  | c :: cs, us, F, hF, h => by
    unfold OwnsL at *
    obtain ⟨u, us', F1, F2, rfl, rfl, h1, h2⟩ := h
    exact ⟨u, us', F1, F2, rfl, rfl, Owns.imp hi c u F1 (fun q hq => hF q (by simp [hq])) h1, OwnsL.imp hi cs us' F2 (fun q hq => hF q (by simp [hq])) h2⟩
end
theorem rowSame {w w' : World} {b e sz n : Nat} {v : Value} {cs : List Value} (h : w.ownsRow b e sz v n cs) (hs : ∀ q, v.ownBlock = some q → w'.heap[q]? = w.heap[q]?) : w'.ownsRow b e sz v n cs := by
  refine ⟨h.1, ?_⟩
  rcases h.2 with hn | ⟨g, cap, cur, rfl, hb, hgg, rest⟩
  · exact .inl hn
  · exact .inr ⟨g, cap, cur, rfl, hb, (hs g rfl).trans hgg, rest⟩
theorem rowMono {w : World} {b b' e sz n : Nat} {v : Value} {cs : List Value} (h : w.ownsRow b e sz v n cs) (hb : b' ≤ b) : w.ownsRow b' e sz v n cs := by
  refine ⟨h.1, ?_⟩
  rcases h.2 with h0 | ⟨g, cap, cur, e, hg, r⟩
  · exact .inl h0
  · exact .inr ⟨g, cap, cur, e, Nat.le_trans hb hg, r⟩
theorem Owns.same {w w' : World} {b : Nat} {d : Dt} {v : Value} {F : List Nat} (h : Owns w b d v F) (hs : ∀ q ∈ F, w'.heap[q]? = w.heap[q]?) : Owns w' b d v F :=
  Owns.imp (F0 := F) (fun _ _ _ _ _ hm h => rowSame h (fun q hq => hs q (hm q hq))) d v F (fun _ h => h) h
theorem OwnsL.same {w w' : World} {b : Nat} {cs : List Dt} {us : List Value} {F : List Nat} (h : OwnsL w b cs us F) (hs : ∀ q ∈ F, w'.heap[q]? = w.heap[q]?) : OwnsL w' b cs us F :=
  OwnsL.imp (F0 := F) (fun _ _ _ _ _ hm h => rowSame h (fun q hq => hs q (hm q hq))) cs us F (fun _ h => h) h
theorem Owns.mono {w : World} {b b' : Nat} {d : Dt} {v : Value} {F : List Nat} (h : Owns w b d v F) (hb : b' ≤ b) : Owns w b' d v F :=
  Owns.imp (F0 := F) (fun _ _ _ _ _ _ h => rowMono h hb) d v F (fun _ h => h) h
theorem OwnsL.mono {w : World} {b b' : Nat} {cs : List Dt} {us : List Value} {F : List Nat} (h : OwnsL w b cs us F) (hb : b' ≤ b) : OwnsL w b' cs us F :=
  OwnsL.imp (F0 := F) (fun _ _ _ _ _ _ h => rowMono h hb) cs us F (fun _ h => h) h
mutual
theorem Owns.lt {w : World} {b : Nat} : ∀ (d : Dt) (v : Value) (F : List Nat), Owns w b d v F → ∀ q ∈ F, b ≤ q ∧ q < w.heap.size
  | .val u, v, F, h, q, hq => by unfold Owns at h; rw [h.2] at hq; simp at hq
  | .row T k n cs, v, F, h, q, hq => by
    unfold Owns at h
    obtain ⟨us, G, h1, h2, rfl⟩ := h
    rcases List.mem_append.1 hq with hq | hq
    · exact World.ownsRow.lt h1 q (by simpa using hq)
    · exact OwnsL.lt cs us G h2 q hq
theorem OwnsL.lt {w : World} {b : Nat} : ∀ (cs : List Dt) (us : List Value) (F : List Nat), OwnsL w b cs us F → ∀ q ∈ F, b ≤ q ∧ q < w.heap.size
  | [], us, F, h, q, hq => by unfold OwnsL at h; rw [h.2] at hq; simp at hq
  | c :: cs, us, F, h, q, hq => by
    unfold OwnsL at h
    obtain ⟨u, us', F1, F2, rfl, rfl, h1, h2⟩ := h
    rcases List.mem_append.1 hq with hq | hq
    · exact Owns.lt c u F1 h1 q hq
    · exact OwnsL.lt cs us' F2 h2 q hq
end
mutual
theorem Owns.reads {w : World} {b B : Nat} (hB : w.heap.size ≤ B) : ∀ (d : Dt) (v : Value) (F : List Nat), Owns w b d v F → Reads w B d v
  | .val u, v, F, h => by unfold Owns at h; unfold Reads; exact h.1
  | .row T k n cs, v, F, h => by
    unfold Owns at h
    unfold Reads
    obtain ⟨us, G, h1, h2, rfl⟩ := h
    exact ⟨us, rd_own h1 hB, OwnsL.reads hB cs us G h2⟩
theorem OwnsL.reads {w : World} {b B : Nat} (hB : w.heap.size ≤ B) : ∀ (cs : List Dt) (us : List Value) (F : List Nat), OwnsL w b cs us F → ReadsL w B cs us
  | [], us, F, h => by unfold OwnsL at h; unfold ReadsL; exact h.1
  | c :: cs, us, F, h => by
    unfold OwnsL at h
    unfold ReadsL
    obtain ⟨u, us', F1, F2, rfl, rfl, h1, h2⟩ := h
    exact ⟨u, us', rfl, Owns.reads hB c u F1 h1, OwnsL.reads hB cs us' F2 h2⟩
end
theorem ownsL_nil {w : World} {b : Nat} : OwnsL w b [] [] [] := by unfold OwnsL; exact ⟨rfl, rfl⟩
theorem ownsL_mk {w : World} {b : Nat} {c : Dt} {cs : List Dt} {u : Value} {us : List Value} {F1 F2 : List Nat} (h : Owns w b c u F1) (h' : OwnsL w b cs us F2) : OwnsL w b (c :: cs) (u :: us) (F1 ++ F2) := by unfold OwnsL; exact ⟨u, us, F1, F2, rfl, rfl, h, h'⟩
theorem owns_val {w : World} {b : Nat} {u : Value} : Owns w b (.val u) u [] := by unfold Owns; exact ⟨rfl, rfl⟩
theorem ownsL_cons {w : World} {b : Nat} {c : Dt} {cs : List Dt} {us : List Value} {F : List Nat} (h : OwnsL w b (c :: cs) us F) : ∃ u us' F1 F2, us = u :: us' ∧ F = F1 ++ F2 ∧ Owns w b c u F1 ∧ OwnsL w b cs us' F2 := by unfold OwnsL at h; exact h
theorem OwnsL.len {w : World} {b : Nat} : ∀ {cs : List Dt} {us : List Value} {F : List Nat}, OwnsL w b cs us F → us.length = cs.length
  | [], us, F, h => by unfold OwnsL at h; rw [h.1]; rfl
  | c :: cs, us, F, h => by
    unfold OwnsL at h
    obtain ⟨u, us', F1, F2, rfl, _, _, h2⟩ := h
    simp [OwnsL.len h2]
theorem OwnsL.app {w : World} {b : Nat} : ∀ {c1 c2 : List Dt} {us : List Value} {F : List Nat}, OwnsL w b (c1 ++ c2) us F → ∃ u1 u2 F1 F2, us = u1 ++ u2 ∧ F = F1 ++ F2 ∧ OwnsL w b c1 u1 F1 ∧ OwnsL w b c2 u2 F2
  | [], c2, us, F, h => ⟨[], us, [], F, rfl, rfl, ownsL_nil, h⟩
  | c :: c1, c2, us, F, h => by
    rw [List.cons_append] at h
    obtain ⟨u, us', F1, F2, rfl, rfl, h1, h2⟩ := ownsL_cons h
    obtain ⟨u1, u2, F3, F4, rfl, rfl, h3, h4⟩ := OwnsL.app h2
    exact ⟨u :: u1, u2, F1 ++ F3, F4, rfl, by simp, ownsL_mk h1 h3, h4⟩
theorem OwnsL.join {w : World} {b : Nat} : ∀ {c1 c2 : List Dt} {u1 u2 : List Value} {F1 F2 : List Nat}, OwnsL w b c1 u1 F1 → OwnsL w b c2 u2 F2 → OwnsL w b (c1 ++ c2) (u1 ++ u2) (F1 ++ F2)
  | [], c2, u1, u2, F1, F2, h, h' => by
    unfold OwnsL at h
    rw [h.1, h.2]; exact h'
  | c :: c1, c2, u1, u2, F1, F2, h, h' => by
    obtain ⟨u, us', F3, F4, rfl, rfl, h1, h2⟩ := ownsL_cons h
    rw [List.cons_append, List.cons_append, List.append_assoc]
    exact ownsL_mk h1 (OwnsL.join h2 h')
theorem ownsL_vals {w : World} {b : Nat} : ∀ (zs : List Value), OwnsL w b (zs.map .val) zs []
  | [] => ownsL_nil
  | _ :: zs => ownsL_mk (F1 := []) (F2 := []) owns_val (ownsL_vals zs)

/-- Data of one's own, no two of its blocks the same, in blocks from b on up to hi. -/
def OwnD (w : World) (b hi : Nat) (d : Dt) (v : Value) : Prop := ∃ F, Owns w b d v F ∧ F.Nodup ∧ ∀ q ∈ F, q < hi
def OwnDL (w : World) (b hi : Nat) (cs : List Dt) (us : List Value) : Prop := ∃ F, OwnsL w b cs us F ∧ F.Nodup ∧ ∀ q ∈ F, q < hi
theorem OwnD.same {w w' : World} {b hi : Nat} {d : Dt} {v : Value} (h : OwnD w b hi d v) (hs : ∀ q, b ≤ q → q < hi → q < w.heap.size → w'.heap[q]? = w.heap[q]?) : OwnD w' b hi d v := by
  obtain ⟨F, h1, h2, h3⟩ := h
  exact ⟨F, h1.same (fun q hq => hs q (Owns.lt _ _ _ h1 q hq).1 (h3 q hq) (Owns.lt _ _ _ h1 q hq).2), h2, h3⟩
theorem OwnDL.same {w w' : World} {b hi : Nat} {cs : List Dt} {us : List Value} (h : OwnDL w b hi cs us) (hs : ∀ q, b ≤ q → q < hi → q < w.heap.size → w'.heap[q]? = w.heap[q]?) : OwnDL w' b hi cs us := by
  obtain ⟨F, h1, h2, h3⟩ := h
  exact ⟨F, h1.same (fun q hq => hs q (OwnsL.lt _ _ _ h1 q hq).1 (h3 q hq) (OwnsL.lt _ _ _ h1 q hq).2), h2, h3⟩
theorem OwnD.below {w w' : World} {b hi : Nat} {d : Dt} {v : Value} (h : OwnD w b hi d v) (hb : Below w.heap.size w w') : OwnD w' b hi d v := h.same (fun q _ _ hq => hb.block q hq)
theorem OwnDL.below {w w' : World} {b hi : Nat} {cs : List Dt} {us : List Value} (h : OwnDL w b hi cs us) (hb : Below w.heap.size w w') : OwnDL w' b hi cs us := h.same (fun q _ _ hq => hb.block q hq)
theorem OwnD.mono {w : World} {b b' hi : Nat} {d : Dt} {v : Value} (h : OwnD w b hi d v) (hb : b' ≤ b) : OwnD w b' hi d v := by
  obtain ⟨F, h1, h2⟩ := h
  exact ⟨F, h1.mono hb, h2⟩
theorem OwnDL.mono {w : World} {b b' hi : Nat} {cs : List Dt} {us : List Value} (h : OwnDL w b hi cs us) (hb : b' ≤ b) : OwnDL w b' hi cs us := by
  obtain ⟨F, h1, h2⟩ := h
  exact ⟨F, h1.mono hb, h2⟩
theorem OwnD.up {w : World} {b hi hi' : Nat} {d : Dt} {v : Value} (h : OwnD w b hi d v) (hb : hi ≤ hi') : OwnD w b hi' d v := by
  obtain ⟨F, h1, h2, h3⟩ := h
  exact ⟨F, h1, h2, fun q hq => Nat.lt_of_lt_of_le (h3 q hq) hb⟩
theorem OwnDL.up {w : World} {b hi hi' : Nat} {cs : List Dt} {us : List Value} (h : OwnDL w b hi cs us) (hb : hi ≤ hi') : OwnDL w b hi' cs us := by
  obtain ⟨F, h1, h2, h3⟩ := h
  exact ⟨F, h1, h2, fun q hq => Nat.lt_of_lt_of_le (h3 q hq) hb⟩
theorem OwnD.rd {w : World} {b hi B : Nat} {d : Dt} {v : Value} (h : OwnD w b hi d v) (hB : w.heap.size ≤ B) : Reads w B d v := by
  obtain ⟨F, h1, _⟩ := h
  exact Owns.reads hB _ _ _ h1
theorem OwnDL.rd {w : World} {b hi B : Nat} {cs : List Dt} {us : List Value} (h : OwnDL w b hi cs us) (hB : w.heap.size ≤ B) : ReadsL w B cs us := by
  obtain ⟨F, h1, _⟩ := h
  exact OwnsL.reads hB _ _ _ h1
theorem OwnD.drewN {w : World} {b hi : Nat} {d : Dt} {v : Value} (h : OwnD w b hi d v) (q : Nat) : OwnD (w.drewN q) b hi d v := h.same (fun _ _ _ _ => rfl)
theorem OwnDL.drewN {w : World} {b hi : Nat} {cs : List Dt} {us : List Value} (h : OwnDL w b hi cs us) (q : Nat) : OwnDL (w.drewN q) b hi cs us := h.same (fun _ _ _ _ => rfl)
theorem OwnD.shape {w : World} {b hi : Nat} {T : TypeId} {k n : Nat} {cs : List Dt} {v : Value} (h : OwnD w b hi (.row T k n cs) v) : ∃ a c, v = .slice a n c := by
  obtain ⟨F, h1, _⟩ := h
  unfold Owns at h1
  obtain ⟨us, G, h2, _⟩ := h1
  rcases h2.2 with ⟨rfl, h0⟩ | ⟨g, c, _, rfl, _⟩
  · exact ⟨_, _, by rw [h0]⟩
  · exact ⟨_, _, rfl⟩
theorem Reads.shape {w : World} {B : Nat} {T : TypeId} {k n : Nat} {cs : List Dt} {v : Value} (h : Reads w B (.row T k n cs) v) : ∃ a c, v = .slice a n c ∧ n ≤ c ∧ (a = none → c = 0) := by
  unfold Reads at h
  obtain ⟨us, ⟨_, a, cap, rfl, h2, h3, _⟩, _⟩ := h
  exact ⟨a, cap, rfl, h2, h3⟩
/-- Several things of one's own, each in blocks behind the one before. -/
theorem ownDL_nil (w : World) (b hi : Nat) : OwnDL w b hi [] [] := ⟨[], ownsL_nil, List.nodup_nil, fun q hq => by simp at hq⟩
theorem OwnDL.cons {w : World} {b hi m : Nat} {c : Dt} {cs : List Dt} {u : Value} {us : List Value} (h : OwnD w b m c u) (h' : OwnDL w m hi cs us) (hb : b ≤ m) (hm : m ≤ hi) : OwnDL w b hi (c :: cs) (u :: us) := by
  obtain ⟨F, h1, h2, h3⟩ := h
  obtain ⟨G, g1, g2, g3⟩ := h'
  refine ⟨F ++ G, ownsL_mk h1 (g1.mono hb), List.nodup_append.2 ⟨h2, g2, fun x hx y hy e => ?_⟩, fun q hq => ?_⟩
  · have a := h3 x hx
    have b := (OwnsL.lt _ _ _ g1 y hy).1
    omega
  · rcases List.mem_append.1 hq with hq | hq
    · exact Nat.lt_of_lt_of_le (h3 q hq) hm
    · exact g3 q hq
theorem OwnDL.val {w : World} {b hi : Nat} {cs : List Dt} {u : Value} {us : List Value} (h' : OwnDL w b hi cs us) : OwnDL w b hi (.val u :: cs) (u :: us) := by
  obtain ⟨G, g1, g2, g3⟩ := h'
  exact ⟨[] ++ G, ownsL_mk owns_val g1, by simpa using g2, by simpa using g3⟩

/-- Cells stored one behind the other. -/
def setRow (w : World) (g at' : Nat) : List Value → World
  | [] => w
  | u :: us => setRow (w.setCell ⟨g, at', none⟩ u) g (at' + 1) us
theorem setRow_from (g : Nat) : ∀ (us : List Value) (w wr : World) (at' : Nat), w.grownBy wr (some g) → w.grownBy (setRow wr g at' us) (some g)
  | [], _, _, _, h => h
  | _ :: us, _, _, _, h => setRow_from g us _ _ _ (grown_set h _ _)
theorem setRow_grown (g : Nat) (us : List Value) (w : World) (at' : Nat) : w.grownBy (setRow w g at' us) (some g) := setRow_from g us w w at' ⟨rfl, rfl, rfl, Nat.le_refl _, fun _ _ _ => rfl⟩
theorem setRow_owns {b e sz n cap g : Nat} : ∀ (us : List Value) (w : World) (at' : Nat) (xs : List Value), w.ownsRow b e sz (.slice (some ⟨g, 0, none⟩) n cap) n xs → at' + us.length ≤ xs.length →
    (setRow w g at' us).ownsRow b e sz (.slice (some ⟨g, 0, none⟩) n cap) n (xs.take at' ++ us ++ xs.drop (at' + us.length))
  | [], w, at', xs, h, hl => by simpa [setRow] using h
  | u :: us, w, at', xs, h, hl => by
    have hl' : at' + us.length + 1 ≤ xs.length := by simpa [Nat.add_assoc] using hl
    have := setRow_owns us _ (at' + 1) _ (World.ownsRow.stored h at' u).1 (by simp; omega)
    unfold setRow
    rw [List.take_set, List.drop_set_of_lt (by omega)] at this
    rw [List.take_succ_eq_append_getElem (by omega), List.set_append_right _ _ (by simp; omega)] at this
    simp only [List.length_take, Nat.min_eq_left (show at' ≤ xs.length by omega), Nat.sub_self, List.set_cons_zero] at this
    simp only [List.append_assoc, List.cons_append, List.nil_append, List.length_cons] at this ⊢
    rwa [show at' + (us.length + 1) = at' + 1 + us.length from by omega]

/-- Plain cells of a row give way to others, plain or not: all is one's own as before. -/
theorem Owns.put {w : World} {b : Nat} {T : TypeId} {k n c g : Nat} {c1 c2 ds : List Dt} {zs us : List Value} {F F' : List Nat} (h : Owns w b (.row T k n (c1 ++ zs.map .val ++ c2)) (.slice (some ⟨g, 0, none⟩) n c) F) (hn : F.Nodup)
    (h' : OwnsL w b ds us F') (hn' : F'.Nodup) (hd : ∀ q ∈ F', q ∉ F) (hl : us.length = zs.length) :
    ∃ F'', Owns (setRow w g c1.length us) b (.row T k n (c1 ++ ds ++ c2)) (.slice (some ⟨g, 0, none⟩) n c) F'' ∧ F''.Nodup ∧ (∀ q, q ∈ F'' ↔ q ∈ F ∨ q ∈ F') := by
  unfold Owns at h
  obtain ⟨vs, G, h1, h2, rfl⟩ := h
  obtain ⟨v12, v3, G12, G3, rfl, rfl, h3, h4⟩ := OwnsL.app h2
  obtain ⟨v1, v2, G1, G2, rfl, rfl, h5, h6⟩ := OwnsL.app h3
  have hv1 := h5.len
  have hv2 : v2.length = zs.length := by have := h6.len; simpa using this
  have hG2 : G2 = [] := by
    have key : ∀ (zs v2 : List Value) (G2 : List Nat), OwnsL w b (zs.map .val) v2 G2 → G2 = [] := by
      intro zs
      induction zs with
      | nil => intro v2 G2 h; unfold OwnsL at h; exact h.2
      | cons z zs ih =>
        intro v2 G2 h
        obtain ⟨u, us', F1, F2, _, rfl, e1, e2⟩ := ownsL_cons h
        unfold Owns at e1
        rw [e1.2, ih _ _ e2]; rfl
    exact key zs v2 G2 h6
  subst hG2
  have hg : (Value.slice (some ⟨g, 0, none⟩) n c).ownBlock.toList = [g] := rfl
  rw [hg] at hn hd ⊢
  have hnd := hn
  simp only [List.singleton_append, List.append_nil] at hn hd
  rw [List.nodup_cons] at hn
  have hgF' : g ∉ F' := fun hm => hd g hm (by simp)
  have hrow := setRow_owns us w c1.length _ h1 (by simp only [List.length_append]; omega)
  have e1 : (v1 ++ v2 ++ v3).take c1.length = v1 := by rw [List.append_assoc, ← hv1, List.take_left']; rfl
  have e2 : (v1 ++ v2 ++ v3).drop (c1.length + us.length) = v3 := by
    rw [hl, ← hv2, ← hv1, ← List.length_append, List.drop_left']; rfl
  rw [e1, e2] at hrow
  have hgr := setRow_grown g us w c1.length
  have keep : ∀ {cs : List Dt} {ws : List Value} {H : List Nat}, OwnsL w b cs ws H → g ∉ H → OwnsL (setRow w g c1.length us) b cs ws H := by
    intro cs ws H ho hm
    exact ho.same (fun q hq => hgr.block q (OwnsL.lt _ _ _ ho q hq).2 (fun e => hm (by cases e; exact hq)))
  refine ⟨[g] ++ (G1 ++ F' ++ G3), ?_, ?_, ?_⟩
  · unfold Owns
    refine ⟨v1 ++ us ++ v3, G1 ++ F' ++ G3, hrow, ?_, rfl⟩
    exact ((keep h5 (fun hm => hn.1 (by simp [hm]))).join (keep h' hgF')).join (keep h4 (fun hm => hn.1 (by simp [hm])))
  · have n13 := List.nodup_append.1 hn.2
    rw [List.singleton_append, List.nodup_cons]
    refine ⟨?_, ?_⟩
    · simp only [List.mem_append, not_or]
      have := hn.1
      simp only [List.mem_append, not_or] at this
      exact ⟨⟨this.1, hgF'⟩, this.2⟩
    · rw [List.append_assoc]
      refine List.nodup_append.2 ⟨n13.1, List.nodup_append.2 ⟨hn', n13.2.1, fun x hx y hy e => ?_⟩, fun x hx y hy e => ?_⟩
      · subst e; exact hd x hx (by simp [hy])
      · subst e
        rcases List.mem_append.1 hy with hy | hy
        · exact hd x hy (by simp [hx])
        · exact n13.2.2 x hx x hy rfl
  · intro q
    simp only [List.mem_append, List.mem_singleton, List.append_nil]
    constructor
    · rintro (h | (h | h) | h)
      · exact .inl (.inl h)
      · exact .inl (.inr (.inl h))
      · exact .inr h
      · exact .inl (.inr (.inr h))
    · rintro ((h | h | h) | h)
      · exact .inl h
      · exact .inr (.inl (.inl h))
      · exact .inr (.inr h)
      · exact .inr (.inl (.inr h))
theorem OwnD.grownP {w w' : World} {b hi p : Nat} {d : Dt} {v : Value} (h : OwnD w b hi d v) (hg : w.grownBy w' (some p)) (hp : p < b) : OwnD w' b hi d v := h.same (fun q hq _ hq' => hg.block q hq' (fun e => by cases e; omega))
theorem OwnDL.grownP {w w' : World} {b hi p : Nat} {cs : List Dt} {us : List Value} (h : OwnDL w b hi cs us) (hg : w.grownBy w' (some p)) (hp : p < b) : OwnDL w' b hi cs us := h.same (fun q hq _ hq' => hg.block q hq' (fun e => by cases e; omega))
end Go.Proofs.Ytllghgcancennaa
/-
  Rows of texts and of bytes as data.
-/
namespace Go.Proofs.Ytllghgcancennaa
open Go.ChangeShapes Go.WideShapes Go.RowKit

def txD (s : ByteArray) : List Dt := [.val (.string s)]
def byD (z : Int) : List Dt := [.val (.int .u8 z)]
def strs (s : List ByteArray) : Dt := .row 9 1 s.length (s.flatMap txD)
def byts (z : List Int) : Dt := .row 5 1 z.length (z.flatMap byD)
theorem str_at {w : World} {B : Nat} {v : Value} {xs : List ByteArray} (h : Reads w B (strs xs) v) :
    ∃ a cap, v = .slice a xs.length cap ∧ xs.length ≤ cap ∧ (a = none → cap = 0) ∧ (0 < xs.length → ∃ b o, a = some ⟨b, o, none⟩ ∧ b < B ∧ ∀ j, j < xs.length → w.cell? ⟨b, o + j, none⟩ = some (.string (xs.getD j default))) := by
  obtain ⟨a, cap, rfl, h1, h2, h3⟩ := row_at (f := txD) (k := 1) (fun _ => rfl) rfl h
  refine ⟨a, cap, rfl, h1, h2, fun hp => ?_⟩
  obtain ⟨b, o, rfl, hb, hc⟩ := h3 hp
  refine ⟨b, o, rfl, hb, fun j hj => ?_⟩
  obtain ⟨vs, h4, h5⟩ := hc j hj
  obtain ⟨u0, vs0, rfl, q0, h4⟩ := readsL_cons h4
  obtain rfl := readsL_nil h4
  obtain rfl := reads_val q0
  have c0 := h5 0 (by omega)
  simp only [Nat.mul_one, Nat.add_zero] at c0
  exact c0

/-- Bytes as data are bytes as rows. -/
theorem byts_in {w : World} {B : Nat} {v : Value} {zs : List Int} (h : Reads w B (byts zs) v) (hm : zs.length ≤ 1048576) (hz : Byt zs) : ∃ a cap, v = .slice a zs.length cap ∧ zs.length ≤ cap ∧ (a = none → cap = 0) ∧ In w B a zs.length zs := by
  obtain ⟨a, cap, rfl, h1, h2, h3⟩ := row_at (f := byD) (k := 1) (fun _ => rfl) rfl h
  refine ⟨a, cap, rfl, h1, h2, rfl, hm, hz.at, fun hp => ?_⟩
  obtain ⟨b, o, rfl, hb, hc⟩ := h3 hp
  refine ⟨b, o, rfl, hb, fun j hj => ?_⟩
  obtain ⟨vs, h4, h5⟩ := hc j hj
  obtain ⟨u0, vs0, rfl, q0, h4⟩ := readsL_cons h4
  obtain rfl := readsL_nil h4
  obtain rfl := reads_val q0
  have c0 := h5 0 (by omega)
  simp only [Nat.mul_one, Nat.add_zero] at c0
  rw [c0]
  rfl
theorem byts_cells (zs : List Int) : zs.flatMap byD = (zs.map (Value.int .u8)).map Dt.val := by
  induction zs with
  | nil => rfl
  | cons z zs ih => rw [List.flatMap_cons, ih]; rfl
theorem strs_cells (zs : List ByteArray) : zs.flatMap txD = (zs.map Value.string).map Dt.val := by
  induction zs with
  | nil => rfl
  | cons z zs ih => rw [List.flatMap_cons, ih]; rfl
theorem Own.deep {w : World} {b hi : Nat} {v : Value} {zs : List Int} (h : Own w b v zs) (hq : ∀ q, v.ownBlock = some q → q < hi) : OwnD w b hi (byts zs) v := by
  refine ⟨v.ownBlock.toList, ?_, ?_, fun q hm => hq q (by simpa using hm)⟩
  · unfold byts Owns
    refine ⟨zs.map (Value.int .u8), [], h, ?_, by simp⟩
    rw [byts_cells]
    exact ownsL_vals _
  · cases v.ownBlock <;> simp
theorem OwnD.bytes {w : World} {b hi : Nat} {v : Value} {zs : List Int} (h : OwnD w b hi (byts zs) v) : Own w b v zs ∧ ∀ q, v.ownBlock = some q → q < hi := by
  obtain ⟨F, h1, _, h3⟩ := h
  unfold byts Owns at h1
  obtain ⟨us, G, h4, h5, rfl⟩ := h1
  rw [byts_cells] at h5
  have e := OwnsL.reads (Nat.le_refl _) _ _ _ h5
  have key : ∀ (xs us : List Value), ReadsL w w.heap.size (xs.map Dt.val) us → us = xs := by
    intro xs
    induction xs with
    | nil => intro us h; exact readsL_nil h
    | cons x xs ih =>
      intro us h
      obtain ⟨u, us', rfl, q, h'⟩ := readsL_cons h
      rw [reads_val q, ih _ h']
  rw [key _ _ e] at h4
  exact ⟨h4, fun q hq => h3 q (by rw [hq]; simp)⟩
theorem readsL_join {w : World} {B : Nat} : ∀ {c1 c2 : List Dt} {u1 u2 : List Value}, ReadsL w B c1 u1 → ReadsL w B c2 u2 → ReadsL w B (c1 ++ c2) (u1 ++ u2)
  | [], c2, u1, u2, h, h' => by rw [readsL_nil h]; exact h'
  | c :: c1, c2, u1, u2, h, h' => by
    obtain ⟨u, us', rfl, h1, h2⟩ := readsL_cons h
    exact readsL_mk h1 (readsL_join h2 h')
theorem reads_rows {w : World} {B : Nat} {α β : Type} {f : β → List Dt} {m : α → β} {c : α → List Value} : ∀ (ys : List α), (∀ y ∈ ys, ReadsL w B (f (m y)) (c y)) → ReadsL w B ((ys.map m).flatMap f) (ys.flatMap c)
  | [], _ => readsL_none
  | y :: ys, h => by
    rw [List.map_cons, List.flatMap_cons, List.flatMap_cons]
    exact readsL_join (h y (by simp)) (reads_rows ys (fun z hz => h z (by simp [hz])))
theorem reads_row {w : World} {B : Nat} {α β : Type} {T : TypeId} {k : Nat} {f : β → List Dt} {m : α → β} {c : α → List Value} {v : Value} (ys : List α) (h : Rd w B k v ys.length (ys.flatMap c)) (hy : ∀ y ∈ ys, ReadsL w B (f (m y)) (c y)) : Reads w B (.row T k (ys.map m).length ((ys.map m).flatMap f)) v := by
  unfold Reads
  rw [List.length_map]
  exact ⟨_, h, reads_rows ys hy⟩
theorem all_of_getD {α : Type} [Inhabited α] {Q : α → Prop} {ys : List α} (h : ∀ j, j < ys.length → Q (ys.getD j default)) : ∀ y ∈ ys, Q y := fun y hy => by
  obtain ⟨j, hj, rfl⟩ := List.mem_iff_getElem.1 hy
  have := h j hj
  simpa [hj] using this

end Go.Proofs.Ytllghgcancennaa
