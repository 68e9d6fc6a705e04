/-
  What every merge of two rows wants: lengths, caps, a row that was made, a call of a function that is held.
-/
import Derived.Test.YtllghgcancennaaCmpI
import Derived.Test.YtllghgcancennaaAppM
import Derived.Test.YtllghgcancennaaDeepP
import Derived.Test.YtllghgcancennaaStepX
import Derived.Test.YtllghgcancennaaFlatOne
import Derived.Test.YtllghgcancennaaBoxW
namespace Go.Proofs.Ytllghgcancennaa
open Go.RowKit

def slen : Value → Nat | .slice _ n _ => n | _ => 0
theorem row_cap {w : World} {B n cap k : Nat} {T : TypeId} {cs : List Dt} {ad : Option Addr} (h : Reads w B (.row T k n cs) (.slice ad n cap)) : n ≤ cap := by
  obtain ⟨a, c, e, h1, _⟩ := h.shape
  cases e
  exact h1
theorem two_ways {G P : Prop} (k : P → G) (h : P) : G := k h
theorem ownDL_made {w : World} {b T k c g : Nat} (h : w.ownsRow b T k (.slice (some ⟨g, 0, none⟩) 0 c) 0 []) : OwnDL w b w.heap.size [.row T k 0 []] [.slice (some ⟨g, 0, none⟩) 0 c] := by
  refine ⟨[g], ownsL_mk (F1 := [g]) (F2 := []) ?_ ownsL_nil, by simp, fun q hq => ?_⟩
  · unfold Owns
    exact ⟨[], [], h, ownsL_nil, rfl⟩
  · have hq' : q = g := by simpa using hq
    subst hq'
    exact (World.ownsRow.lt h _ rfl).2
theorem step_callF {P : Program} {ops : Array Oper} {o : Oper} {a : Act} {w : World} {K : Act → World → Prop} {Q : Exit → Act → World → Prop} {E : Prop} {R : Ending → World → Prop} (d : Option Tmp) (hd : o.dst = d) (hw : Region.wanted o (yielded ops a.tmps) = true)
    (f : FuncId) (args : Array Value) (hrun : (execOp a.eval o).run P w = .ok (.enter f args) w) (hc : Calls P f args w R) (h : ∀ e w', R e w' → ∃ v, e = .returned v ∧ K (a.put d v) w') :
    if Region.wanted o (yielded ops a.tmps) = true then Oper.wp P o a w K Q else E := by
  subst hd
  rw [if_pos hw]
  unfold Oper.wp
  rw [hrun, Oper.upon_enter]
  refine hc.mono fun e w' hh => ?_
  obtain ⟨v, rfl, hk⟩ := h e w' hh
  exact hk
end Go.Proofs.Ytllghgcancennaa
