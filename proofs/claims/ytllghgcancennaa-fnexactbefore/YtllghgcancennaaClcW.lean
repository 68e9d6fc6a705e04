/-
  A row of clocks as it is read.
-/
import Derived.Test.YtllghgcancennaaClcO
namespace Go.Proofs.Ytllghgcancennaa
open Go.RowKit

theorem rws_at {w : World} {B : Nat} {cs : List (List Smp)} {v : Value} (h : Reads w B (rws cs) v) :
    ∃ a cap, v = .slice a cs.length cap ∧ cs.length ≤ cap ∧ (0 < cs.length → ∃ b o, a = some ⟨b, o, none⟩ ∧ b < B ∧ ∀ j, j < cs.length → ∃ u, w.cell? ⟨b, o + j, none⟩ = some u ∧ Reads w B (smps (cs.getD j [])) u) := by
  unfold rws Reads at h
  obtain ⟨us, ⟨hl, a, cap, rfl, h2, _, h4⟩, h5⟩ := h
  refine ⟨a, cap, rfl, h2, fun hp => ?_⟩
  obtain ⟨b, o, rfl, hb, hc⟩ := h4 hp
  refine ⟨b, o, rfl, hb, fun j hj => ⟨us.getD j undef, ?_, smps_reads h5 hj⟩⟩
  have hlen := h5.len
  rw [hc j (by omega), List.getD_eq_getElem?_getD, List.getElem?_eq_getElem (by rw [hlen, List.length_map]; exact hj)]
  rfl
end Go.Proofs.Ytllghgcancennaa
