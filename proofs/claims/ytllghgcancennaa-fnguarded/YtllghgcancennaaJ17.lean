/-
  A row of clocks of one's own: its cells by name, what lies behind them, one more.
-/
import Derived.Test.YtllghgcancennaaJ7
import Derived.Test.YtllghgcancennaaJ16
import Derived.Test.YtllghgcancennaaJ13
import Derived.Test.YtllghgcancennaaJ12
namespace Go.Proofs.Ytllghgcancennaa
open Go.RowKit

def rws (cs : List (List Smp)) : Dt := .row 44 1 cs.length (cs.map smps)
def outD (cs : List (List Smp)) (us : List Value) : List Dt := .row 44 1 cs.length (us.map .val) :: cs.map smps
/-- v is a row of one's own of the clocks cs; its cells are us. -/
def Out (w : World) (B hi : Nat) (cs : List (List Smp)) (v : Value) (us : List Value) : Prop := us.length = cs.length ∧ OwnDL w B hi (outD cs us) (v :: us)
theorem Out.below {w w' : World} {B hi : Nat} {cs : List (List Smp)} {v : Value} {us : List Value} (h : Out w B hi cs v us) (hb : Below w.heap.size w w') : Out w' B hi cs v us := ⟨h.1, h.2.below hb⟩
theorem Out.up {w : World} {B hi hi' : Nat} {cs : List (List Smp)} {v : Value} {us : List Value} (h : Out w B hi cs v us) (hh : hi ≤ hi') : Out w B hi' cs v us := ⟨h.1, h.2.up hh⟩
theorem Out.grownP {w w' : World} {B hi p : Nat} {cs : List (List Smp)} {v : Value} {us : List Value} (h : Out w B hi cs v us) (hg : w.grownBy w' (some p)) (hp : p < B) : Out w' B hi cs v us := ⟨h.1, h.2.grownP hg hp⟩
theorem outNone (w : World) (B hi : Nat) (hB : B ≤ hi) : Out w B hi [] (.slice none 0 0) [] :=
  ⟨rfl, OwnDL.cons (ownD_nil w B B 44 1) (ownDL_nil _ _ _) (Nat.le_refl _) hB⟩
theorem Out.zero (w : World) : Out (w.alloc (.cells #[] 44)) w.heap.size (w.alloc (.cells #[] 44)).heap.size [] (.slice (some ⟨w.heap.size, 0, none⟩) 0 0) [] :=
  ⟨rfl, OwnDL.cons (ownD_zero w 44 1) (ownDL_nil _ _ _) (by simp) (Nat.le_refl _)⟩
theorem Out.shape {w : World} {B hi : Nat} {cs : List (List Smp)} {v : Value} {us : List Value} (h : Out w B hi cs v us) : ∃ a c, v = .slice a cs.length c := by
  have := (OwnDL.mid (c1 := []) (v1 := []) h.2 rfl).shape
  exact this
theorem smps_reads {w : World} {B : Nat} : ∀ {cs : List (List Smp)} {us : List Value} {j : Nat}, ReadsL w B (cs.map smps) us → j < cs.length → Reads w B (smps (cs.getD j [])) (us.getD j undef)
  | [], _, _, _, hj => by simp at hj
  | c :: cs, us, 0, h, _ => by
    rw [List.map_cons] at h
    obtain ⟨u, us', rfl, h1, _⟩ := readsL_cons h
    exact h1
  | c :: cs, us, j + 1, h, hj => by
    rw [List.map_cons] at h
    obtain ⟨u, us', rfl, _, h2⟩ := readsL_cons h
    exact smps_reads (cs := cs) (us := us') (j := j) h2 (by simpa using hj)
theorem Out.reads {w : World} {B hi : Nat} {cs : List (List Smp)} {v : Value} {us : List Value} (h : Out w B hi cs v us) {j : Nat} (hj : j < cs.length) : Reads w w.heap.size (smps (cs.getD j [])) (us.getD j undef) := by
  have h1 := h.2.rd (Nat.le_refl _)
  unfold outD at h1
  obtain ⟨u, us', e, _, h2⟩ := readsL_cons h1
  cases e
  exact smps_reads h2 hj
theorem vals_reads {w : World} {B : Nat} : ∀ {vs us : List Value}, ReadsL w B (vs.map .val) us → us = vs
  | [], us, h => readsL_nil h
  | v :: vs, us, h => by
    rw [List.map_cons] at h
    obtain ⟨u, us', rfl, h1, h2⟩ := readsL_cons h
    rw [reads_val h1, vals_reads h2]
theorem Out.cell {w : World} {B hi : Nat} {cs : List (List Smp)} {v : Value} {us : List Value} (h : Out w B hi cs v us) {j : Nat} (hj : j < cs.length) :
    ∃ g o c, v = .slice (some ⟨g, o, none⟩) cs.length c ∧ w.cell? ⟨g, o + j, none⟩ = some (us.getD j undef) := by
  have hl := h.1
  have h1 := h.2.rd (Nat.le_refl _)
  unfold outD at h1
  obtain ⟨u, us', e, h2, _⟩ := readsL_cons h1
  cases e
  unfold Reads at h2
  obtain ⟨vs, ⟨_, a, c, rfl, _, _, h3⟩, h4⟩ := h2
  obtain rfl := vals_reads h4
  obtain ⟨b, o, rfl, _, h5⟩ := h3 (by omega)
  refine ⟨b, o, c, rfl, ?_⟩
  rw [h5 j (by omega), List.getD_eq_getElem?_getD, List.getElem?_eq_getElem (by omega)]
  rfl
theorem Out.done {w : World} {B hi : Nat} {cs : List (List Smp)} {v : Value} {us : List Value} (h : Out w B hi cs v us) : OwnD w B hi (rws cs) v := by
  have h1 := h.2
  unfold outD at h1
  have h2 : OwnDL w B hi (.row 44 1 cs.length (cs.map smps) :: []) (v :: []) := OwnDL.unflat (us := us) (by rw [List.append_nil, List.append_nil]; exact h1) (by simp [h.1])
  exact OwnDL.mid (c1 := []) (v1 := []) h2 rfl
theorem Try.infoClc : (Try.prog.info? 44).map (fun i => (i.zero, i.size, i.bytes)) = some (some (.slice none 0 0), 1, 24) := by kernel_rfl
theorem Out.app {w : World} {ops : Array Oper} {rest : List Oper} {o : Oper} {act : Act} {Q : Exit → Act → World → Prop} (hgd : o.guard = none) (s x : Operand)
    (ho : o.op = .call { callee := .builtin .append, args := #[s, x], argTypes := #[29, 29] }) (B hi m n : Nat) (cs : List (List Smp)) (hn : cs.length = n) (v : Value) (us : List Value) (hs : act.eval s = v) (h0 : Out w B hi cs v us)
    (g cp : Nat) (u : Value) (c : List Smp) (hx : act.eval x = .slice (some ⟨g, 0, none⟩) 1 cp) (hbox : Box w g [u]) (hu : OwnD w m w.heap.size (smps c) u) (h63 : n ≤ 2000000) (hm : hi ≤ m) (hbm : B ≤ m) (hms : m ≤ w.heap.size)
    (h : ∀ g' c' w', Out w' B w'.heap.size (cs ++ [c]) (.slice (some ⟨g', 0, none⟩) (n + 1) c') (us ++ [u]) → w.grownBy w' v.ownBlock → (∀ q, v.ownBlock = some q → B ≤ q ∧ q < w.heap.size) → wpList Try.prog ops Q rest (act.put o.dst (.slice (some ⟨g', 0, none⟩) (n + 1) c')) w') :
    wpList Try.prog ops Q (o :: rest) act w := by
  subst hn
  obtain ⟨i0, hi0, hz0, hz1, hz2⟩ := info_parts Try.infoClc
  obtain ⟨ua, uc, rfl⟩ := hu.shape
  have h1 : OwnDL w B w.heap.size (.row 44 1 cs.length (us.map .val) :: (cs.map smps ++ [smps c])) (v :: (us ++ [.slice ua c.length uc])) := OwnDL.push (h0.2.up hm) hu hbm hms
  refine appL hgd s x 29 ho B w.heap.size w.heap.size 44 i0 (.slice none 0 0) 1 24 Try.underlying29 hi0 hz0 hz1 hz2 rfl (by decide) v cs.length (us.map .val) [] _ [] _ hs h1 rfl g cp [.slice ua c.length uc] [.val (.slice ua c.length uc)] hx hbox (OwnDL.val (ownDL_nil _ _ _)) rfl (by simp [Value.oneCell']) h63 (by decide) (Nat.le_refl _) (Nat.le_trans hbm hms) (Nat.le_refl _) ?_
  intro g' c' w' o' g1 g2
  refine h g' c' w' ⟨by simp [h0.1], ?_⟩ g1 g2
  unfold outD
  rw [List.length_append, List.map_append, List.map_append]
  exact o'
end Go.Proofs.Ytllghgcancennaa
