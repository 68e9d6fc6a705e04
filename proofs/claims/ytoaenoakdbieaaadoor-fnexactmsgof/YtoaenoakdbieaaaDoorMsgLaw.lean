/-
  Boxes; what MsgOf answers, opened.
-/
import Derived.Test.YtoaenoakdbieaaaDoorMsgOfI
import Derived.Test.YtoaenoakdbieaaaDoorHeldM
namespace Go.Proofs.YtoaenoakdbieaaaDoor
open Go.RowKit

def Bx (w : World) (g : Nat) (vs : Array Value) (T : TypeId) : Prop := w.heap[g]? = some (.cells vs T (0, 0))
theorem Bx.lt {w : World} {g : Nat} {vs : Array Value} {T : TypeId} (h : Bx w g vs T) : g < w.heap.size := (Array.getElem?_eq_some_iff.1 h).1
theorem Bx.below {w w' : World} {g : Nat} {vs : Array Value} {T : TypeId} (h : Bx w g vs T) (hb : Below w.heap.size w w') : Bx w' g vs T := (hb.block g h.lt).trans h
theorem Bx.new (w : World) (vs : Array Value) (T : TypeId) : Bx (w.alloc (.cells vs T)) w.heap.size vs T := heap_alloc_new w _
theorem Bx.kept {w w' : World} {g : Nat} {vs : Array Value} {T : TypeId} {row : Option Nat} (h : Bx w g vs T) (hg : w.grownBy w' row) (hne : row ≠ some g) : Bx w' g vs T := (hg.block g h.lt (fun e => hne e.symm)).trans h

/-- What MsgOf answers, with its parts named. -/
def AnsM (b : Nat) (m : M) (ok : Bool) (e : Ending) (w' : World) : Prop :=
  ∃ a5 c5 a6 c6, e = .returned (.tuple #[.agg #[.int .i64 m.k, .int .i64 m.i, .int .i64 m.u, .int .i64 m.c, .int .i64 m.n, .slice a5 m.cs.length c5, .slice a6 m.ns.length c6], .bool ok]) ∧ OwnC w' b (.slice a5 m.cs.length c5) m.cs ∧ OwnN w' b (.slice a6 m.ns.length c6) m.ns ∧
    (∀ q, (Value.slice a5 m.cs.length c5).ownBlock = some q → ∀ r, (Value.slice a6 m.ns.length c6).ownBlock = some r → q < r)
theorem ansM_of {b : Nat} {r : Option M} {e : Ending} {w' : World} (h : ansOf b r e w') : AnsM b (r.getD M0) r.isSome e w' := by
  obtain ⟨u, rfl, v5, v6, rfl, o5, o6, hne⟩ := h
  obtain ⟨a5, c5, rfl⟩ := ownC_shape o5
  obtain ⟨a6, c6, rfl⟩ := ownN_shape o6
  exact ⟨a5, c5, a6, c6, rfl, o5, o6, hne⟩
theorem mOf_lens {zs : List Int} : ((mOf zs).getD M0).cs.length ≤ 1048576 ∧ ((mOf zs).getD M0).ns.length ≤ 1048576 := by
  cases h : mOf zs with
  | none => exact ⟨Nat.zero_le _, Nat.zero_le _⟩
  | some m =>
    unfold mOf at h
    obtain ⟨⟨m', e⟩, h1, h2⟩ := Option.bind_eq_some_iff.1 h
    simp only at h2
    split at h2
    · cases h2
      exact rMsg_lens h1
    · cases h2
end Go.Proofs.YtoaenoakdbieaaaDoor
