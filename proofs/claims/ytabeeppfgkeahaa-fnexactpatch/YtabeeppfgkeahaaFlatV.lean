/-
  Values are plain cells.
-/
import Derived.Test.YtabeeppfgkeahaaVlR
namespace Go.Proofs.Ytabeeppfgkeahaa
open Go.RowKit

theorem flat_vl : ∀ (xs : List Vl), ∀ d ∈ xs.flatMap vlD, ∃ u, d = .val u ∧ u.oneCell' = true := fun xs d hd => by
  rw [List.mem_flatMap] at hd
  obtain ⟨x, _, hd⟩ := hd
  unfold vlD at hd
  simp only [List.mem_cons, List.not_mem_nil, or_false] at hd
  rcases hd with rfl | rfl <;> exact ⟨_, rfl, rfl⟩
end Go.Proofs.Ytabeeppfgkeahaa
