/-
  Rows of packets and nets: copied into new memory, held against each other.
-/
import Derived.Test.YtmlbemcblgnbjaaNetTo
import Derived.Test.YtmlbemcblgnbjaaEq
namespace Go.Proofs.Ytmlbemcblgnbjaa
open Go.RowKit

theorem Try.infoPk : (Try.prog.info? 28).map (fun i => (i.zero, i.size, i.bytes)) = some (some (.agg #[.int .i64 0, .int .i64 0, .slice none 0 0, .bool false]), 4, 48) := by kernel_rfl

def zeroX : Pk × Value := (⟨0, 0, [], false⟩, .slice none 0 0)
theorem ownX_made {w : World} {b hi g n c : Nat} (h : w.ownsRow b 28 4 (.slice (some ⟨g, 0, none⟩) n c) n ((List.replicate n zeroX).flatMap pkC)) (hg : g < hi) : OwnX w b hi (.slice (some ⟨g, 0, none⟩) n c) (List.replicate n zeroX) := by
  refine ⟨by rw [List.length_replicate]; exact h, fun x hx => ?_, ⟨fun u hu q hq => ?_, ?_⟩, fun q hq => ?_, fun u hu q hq => ?_⟩
  · rw [(List.mem_replicate.1 hx).2]; exact World.ownsRow_nil _ _ _ _
  · rw [List.map_replicate] at hu
    rw [(List.mem_replicate.1 hu).2] at hq; cases hq
  · rw [List.map_replicate, List.pairwise_replicate]; right; intro q hq; cases hq
  · cases hq; exact hg
  · rw [List.map_replicate] at hu
    rw [(List.mem_replicate.1 hu).2] at hq; cases hq

end Go.Proofs.Ytmlbemcblgnbjaa
