/-
  The last statement of the law on what is sealed, by itself: sums, turned bytes and what is opened are the model's.
-/
import Derived.Test.YtpemnkfjeldgmaaDrawOpenF
import Derived.Deep.RegionHeld
namespace Go.Proofs.Ytpemnkfjeldgmaa
open Go.RowKit

def findRegion (n : Nat) : Code → Option Code
  | .region i ops b => if i = n then some (.region i ops b) else none
  | .seq a b => match findRegion n a with
    | some c => some c
    | none => findRegion n b
  | .cond _ a b => match findRegion n a with
    | some c => some c
    | none => findRegion n b
  | .block _ c => findRegion n c
  | .loop c => findRegion n c
  | _ => none
noncomputable def lastSealed : Code := ((Try.f3.body.bind (findRegion 18)).getD .skip)

theorem any_str {w : World} {B len c : Nat} {a : Option Addr} {ys : List Int} (h : In w B a len ys) (hc : a = none → c = 0) (hs : ∀ x, a = some x → x.spot = none) : (convert 22 9 (.slice a len c)).run Try.prog w = .ok (.string (strOfNums ys)) w := by
  cases a with
  | none =>
    obtain ⟨rfl, rfl⟩ := h.none_len
    obtain rfl := hc rfl
    exact run_convert_bytes_nil (P := Try.prog) w 22 5 Try.underlying22 Try.underlying5 0 0 9 Try.underlying9
  | some x =>
    obtain ⟨b, o, sp⟩ := x
    have := hs _ rfl
    simp only at this
    subst this
    exact in_str c h

end Go.Proofs.Ytpemnkfjeldgmaa
