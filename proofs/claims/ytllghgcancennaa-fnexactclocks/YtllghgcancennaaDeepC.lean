/-
  A cell of one of several rows of one's own is stored into.
-/
import Derived.Test.YtllghgcancennaaDeepF
import Derived.Test.YtllghgcancennaaDeepMk
namespace Go.Proofs.Ytllghgcancennaa
open Go.RowKit

theorem OwnDL.cell {w : World} {b hi : Nat} {T : TypeId} {k n c g : Nat} {cs c1 c2 : List Dt} {v1 v2 : List Value} (h : OwnDL w b hi (c1 ++ .row T k n cs :: c2) (v1 ++ .slice (some ⟨g, 0, none⟩) n c :: v2)) (hl : v1.length = c1.length) {i : Nat} {z : Value} (hi' : cs[i]? = some (.val z)) (u : Value) :
    w.cell? ⟨g, i, none⟩ = some z ∧ w.frozen? ⟨g, i, none⟩ = false ∧ b ≤ g ∧ OwnDL (w.setCell ⟨g, i, none⟩ u) b hi (c1 ++ .row T k n (cs.set i (.val u)) :: c2) (v1 ++ .slice (some ⟨g, 0, none⟩) n c :: v2) := by
  obtain ⟨F, h1, h2, h3⟩ := h
  obtain ⟨u1, u2, F1, F2, e, rfl, h4, h5⟩ := OwnsL.app h1
  obtain ⟨rfl, rfl⟩ := List.append_inj e (by rw [h4.len, hl])
  obtain ⟨y, us, G1, G2, e2, rfl, h6, h7⟩ := ownsL_cons h5
  cases e2
  have nd := List.nodup_append.1 h2
  have nd2 := List.nodup_append.1 nd.2.1
  obtain ⟨e0, f0, hgF, ho⟩ := h6.cell nd2.1 hi' u
  have keep : ∀ {cs : List Dt} {ws : List Value} {H : List Nat}, OwnsL w b cs ws H → g ∉ H → OwnsL (w.setCell ⟨g, i, none⟩ u) b cs ws H := by
    intro cs ws H ho hm
    exact ho.same (fun q hq => heap_setCell_other w ⟨g, i, none⟩ q u (fun e => hm (by have e2 : q = g := e; rw [← e2]; exact hq)))
  refine ⟨e0, f0, (Owns.lt _ _ _ h6 g hgF).1, F1 ++ (G1 ++ G2), (keep h4 (fun hm => nd.2.2 g hm g (by simp [hgF]) rfl)).join (ownsL_mk ho (keep h7 (fun hm => nd2.2.2 g hgF g hm rfl))), h2, h3⟩
end Go.Proofs.Ytllghgcancennaa
