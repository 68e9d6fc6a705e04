/-
  Joined: DeepF, StepW.
-/
import Derived.Test.YtllghgcancennaaJ12
import Derived.Test.YtllghgcancennaaJ1
import Derived.Deep.RegionHeldLaw
import Derived.Deep.RegionLaw
import Derived.Deep.DrawnRows
/-
  Several rows of one's own, side by side: one more, one less, one of them.
-/
namespace Go.Proofs.Ytllghgcancennaa
open Go.RowKit

theorem OwnDL.mid {w : World} {b hi : Nat} {c : Dt} {c1 c2 : List Dt} {v : Value} {v1 v2 : List Value} (h : OwnDL w b hi (c1 ++ c :: c2) (v1 ++ v :: v2)) (hl : v1.length = c1.length) : OwnD w b hi c v := by
  obtain ⟨F, h1, h2, h3⟩ := h
  obtain ⟨u1, u2, F1, F2, e, rfl, h4, h5⟩ := OwnsL.app h1
  obtain ⟨rfl, rfl⟩ := List.append_inj e (by rw [h4.len, hl])
  obtain ⟨y, us, G1, G2, e2, rfl, h6, h7⟩ := ownsL_cons h5
  cases e2
  exact ⟨G1, h6, (List.nodup_append.1 (List.nodup_append.1 h2).2.1).1, fun q hq => h3 q (by simp [hq])⟩
theorem OwnDL.left {w : World} {b hi : Nat} {c1 c2 : List Dt} {v1 v2 : List Value} (h : OwnDL w b hi (c1 ++ c2) (v1 ++ v2)) (hl : v1.length = c1.length) : OwnDL w b hi c1 v1 := by
  obtain ⟨F, h1, h2, h3⟩ := h
  obtain ⟨u1, u2, F1, F2, e, rfl, h4, h5⟩ := OwnsL.app h1
  obtain ⟨rfl, rfl⟩ := List.append_inj e (by rw [h4.len, hl])
  exact ⟨F1, h4, (List.nodup_append.1 h2).1, fun q hq => h3 q (by simp [hq])⟩
theorem OwnDL.push {w : World} {b m hi : Nat} {c : Dt} {cs : List Dt} {v : Value} {us : List Value} (h : OwnDL w b m cs us) (h' : OwnD w m hi c v) (hb : b ≤ m) (hm : m ≤ hi) : OwnDL w b hi (cs ++ [c]) (us ++ [v]) := by
  obtain ⟨F, h1, h2, h3⟩ := h
  obtain ⟨G, g1, g2, g3⟩ := h'
  refine ⟨F ++ (G ++ []), h1.join (ownsL_mk (g1.mono hb) ownsL_nil), ?_, fun q hq => ?_⟩
  · rw [List.append_nil]
    refine List.nodup_append.2 ⟨h2, g2, fun x hx y hy e => ?_⟩
    have a := h3 x hx
    have b := (Owns.lt _ _ _ g1 y hy).1
    omega
  · rw [List.append_nil] at hq
    rcases List.mem_append.1 hq with hq | hq
    · exact Nat.lt_of_lt_of_le (h3 q hq) hm
    · exact g3 q hq
theorem OwnDL.snoc {w : World} {b : Nat} {cs : List Dt} {us : List Value} (h : OwnDL w b w.heap.size cs us) (hb : b ≤ w.heap.size) (T : TypeId) (k n : Nat) (arr : Array Value) (hn : n ≤ 1000000) (hl : arr.size = n * k) :
    OwnDL (w.alloc (.cells arr T)) b (w.alloc (.cells arr T)).heap.size (cs ++ [.row T k n (arr.toList.map .val)]) (us ++ [.slice (some ⟨w.heap.size, 0, none⟩) n n]) := by
  have bA := (Below.refl w.heap.size w).alloc (Nat.le_refl _) (.cells arr T)
  refine (h.below bA).push ?_ hb bA.size
  refine ⟨[w.heap.size], ?_, by simp, fun q hq => by simp at hq ⊢; omega⟩
  unfold Owns
  exact ⟨arr.toList, [], World.ownsRow_lit w arr n (Nat.le_refl _) (by unfold maxLen; omega) hl, ownsL_vals _, rfl⟩
end Go.Proofs.Ytllghgcancennaa
/-
  A guarded call in a drawn region, by its contract; a row that is owned, in a world that is like it there.
-/
namespace Go.Proofs.Ytllghgcancennaa
theorem step_callW {P : Program} {ops : Array Oper} {o : Oper} {a : Act} {w : World} {K : Act → World → Prop} {Q : Exit → Act → World → Prop} {E : Prop} {R : Ending → World → Prop} (d : Option Tmp) (hd : o.dst = d) (hw : Region.wanted o (yielded ops a.tmps) = true)
    (f : FuncId) (xs : Array Operand) (ts : Array TypeId) (_ho : o.op = .call { callee := .value (.func f), args := xs, argTypes := ts }) (args : Array Value) (hrun : (execOp a.eval o).run P w = .ok (.enter f args) w) (hc : Calls P f args w R) (h : ∀ e w', R e w' → ∃ v, e = .returned v ∧ K (a.put d v) w') :
    if Region.wanted o (yielded ops a.tmps) = true then Oper.wp P o a w K Q else E := by
  subst hd
  rw [if_pos hw]
  unfold Oper.wp
  rw [hrun, Oper.upon_enter]
  refine hc.mono fun e w' hh => ?_
  obtain ⟨v, rfl, hk⟩ := h e w' hh
  exact hk
theorem own_like {w w' : World} {b e sz n : Nat} {v : Value} {cs : List Value} (h : w.ownsRow b e sz v n cs) (hs : ∀ q, v.ownBlock = some q → w'.heap[q]? = w.heap[q]?) : w'.ownsRow b e sz v n cs := by
  refine ⟨h.1, ?_⟩
  rcases h.2 with hn | ⟨g, cap, cur, rfl, hb, hgg, rest⟩
  · exact .inl hn
  · exact .inr ⟨g, cap, cur, rfl, hb, (hs g rfl).trans hgg, rest⟩
end Go.Proofs.Ytllghgcancennaa
