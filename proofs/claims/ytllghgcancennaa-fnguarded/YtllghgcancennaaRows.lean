/-
  No cell of these rows narrows 'for every input' (looked for: loops, veiled, ifaces, maps, wideKeys, modest, calm, conditions, laid).
  DERIVED. THE GIVEN ROWS OF THIS SEAT. 6 by the template 'for every input the law returns true; each argument reads behind the call as it read before'; 0 by the template 'total and deterministic' (their statements: YtllghgcancennaaTotals.lean).
  GIVEN WITH THE SEED: the statements are not yours to turn. If you find one false, say at which input.
  Laid BY PROGRAM, IN A SANDBOX (cutbox-rows.mjs): the forced cells as the released guide's own fill.sh prints them over the translation 9ea91816f604dc21… (all of the seat's roots in one cut). By AI agents, Wed Nov 11 2026. No macro, syntax, notation, axiom, sorry.
-/
import Derived.Test.YtllghgcancennaaChecked
import GoSem.Claim
import GoSem.ClaimJoined
import GoSem.ClaimMapViews
import Derived.JoinedTies
import Derived.KernelRfl
namespace Go.Proofs.Ytllghgcancennaa
/- THE CELL 'sum', in the pinned program and in every row, IS THE sha256 OF THE DUMP (.gsa) THAT YtllghgcancennaaProg.lean LOADS. Nothing in Lean hashes anything: it is a label: what it is worth is what the hold of that sum in a sandbox is worth. -/
noncomputable def Try.pinned : Pinned := { name := "ytllghgcancennaa", sum := "9ea91816f604dc21ee25ba6b44b3410f760127a3a7f3142b298b42d5a411c4eb", checked := Try.checked }
namespace Rows
def none {H : Type} : Left H := { results := [], args := [] }

/-- 'laws.FnExactBefore': WHATEVER THE INPUT: true; the input reads as it did. -/
def fnExactBeforeSpec : ChangeSpec := { name := "fnExactBefore", fn := fun _ => fun
  | [d1, d2, d3] => { results := [.lit (.bool true)], args := [d1, d2, d3] }
  | _ => none }
def fnExactBeforeRow : OpenClaim := { program := "ytllghgcancennaa", sum := "9ea91816f604dc21ee25ba6b44b3410f760127a3a7f3142b298b42d5a411c4eb", func := "loop.example/g00283/laws.FnExactBefore", spec := "fnExactBefore", unfollowed := true, recurses := true, plainKeys := false, apart := false }
def FnExactBeforeSaid : Prop := fnExactBeforeRow.holds Try.pinned (OpenSpec.ofChange fnExactBeforeSpec)

/-- ITS FALSE NEIGHBOUR: 'it returns false'. Refute it at one input. -/
def fnExactBeforeWrong : ChangeSpec := { name := "fnExactBefore", fn := fun _ => fun
  | [d1, d2, d3] => { results := [.lit (.bool false)], args := [d1, d2, d3] }
  | _ => none }
def FnExactBeforeWrongFalsely : Prop := fnExactBeforeRow.holds Try.pinned (OpenSpec.ofChange fnExactBeforeWrong)

/-- 'laws.FnExactClocks': WHATEVER THE INPUT: true; the input reads as it did. -/
def fnExactClocksSpec : ChangeSpec := { name := "fnExactClocks", fn := fun _ => fun
  | [d] => { results := [.lit (.bool true)], args := [d] }
  | _ => none }
def fnExactClocksRow : OpenClaim := { program := "ytllghgcancennaa", sum := "9ea91816f604dc21ee25ba6b44b3410f760127a3a7f3142b298b42d5a411c4eb", func := "loop.example/g00283/laws.FnExactClocks", spec := "fnExactClocks", unfollowed := true, recurses := true, plainKeys := false, apart := false }
def FnExactClocksSaid : Prop := fnExactClocksRow.holds Try.pinned (OpenSpec.ofChange fnExactClocksSpec)

/-- ITS FALSE NEIGHBOUR: 'it returns false'. Refute it at one input. -/
def fnExactClocksWrong : ChangeSpec := { name := "fnExactClocks", fn := fun _ => fun
  | [d] => { results := [.lit (.bool false)], args := [d] }
  | _ => none }
def FnExactClocksWrongFalsely : Prop := fnExactClocksRow.holds Try.pinned (OpenSpec.ofChange fnExactClocksWrong)

/-- 'laws.FnExactRaceAt': WHATEVER THE INPUT: true; the input reads as it did. -/
def fnExactRaceAtSpec : ChangeSpec := { name := "fnExactRaceAt", fn := fun _ => fun
  | [d] => { results := [.lit (.bool true)], args := [d] }
  | _ => none }
def fnExactRaceAtRow : OpenClaim := { program := "ytllghgcancennaa", sum := "9ea91816f604dc21ee25ba6b44b3410f760127a3a7f3142b298b42d5a411c4eb", func := "loop.example/g00283/laws.FnExactRaceAt", spec := "fnExactRaceAt", unfollowed := true, recurses := true, plainKeys := false, apart := false }
def FnExactRaceAtSaid : Prop := fnExactRaceAtRow.holds Try.pinned (OpenSpec.ofChange fnExactRaceAtSpec)

/-- ITS FALSE NEIGHBOUR: 'it returns false'. Refute it at one input. -/
def fnExactRaceAtWrong : ChangeSpec := { name := "fnExactRaceAt", fn := fun _ => fun
  | [d] => { results := [.lit (.bool false)], args := [d] }
  | _ => none }
def FnExactRaceAtWrongFalsely : Prop := fnExactRaceAtRow.holds Try.pinned (OpenSpec.ofChange fnExactRaceAtWrong)

/-- 'laws.FnGuarded': WHATEVER THE INPUT: true; the input reads as it did. -/
def fnGuardedSpec : ChangeSpec := { name := "fnGuarded", fn := fun _ => fun
  | [d] => { results := [.lit (.bool true)], args := [d] }
  | _ => none }
def fnGuardedRow : OpenClaim := { program := "ytllghgcancennaa", sum := "9ea91816f604dc21ee25ba6b44b3410f760127a3a7f3142b298b42d5a411c4eb", func := "loop.example/g00283/laws.FnGuarded", spec := "fnGuarded", unfollowed := true, recurses := true, plainKeys := false, apart := false }
def FnGuardedSaid : Prop := fnGuardedRow.holds Try.pinned (OpenSpec.ofChange fnGuardedSpec)

/-- ITS FALSE NEIGHBOUR: 'it returns false'. Refute it at one input. -/
def fnGuardedWrong : ChangeSpec := { name := "fnGuarded", fn := fun _ => fun
  | [d] => { results := [.lit (.bool false)], args := [d] }
  | _ => none }
def FnGuardedWrongFalsely : Prop := fnGuardedRow.holds Try.pinned (OpenSpec.ofChange fnGuardedWrong)

/-- 'laws.FnKnowing': WHATEVER THE INPUT: true; the input reads as it did. -/
def fnKnowingSpec : ChangeSpec := { name := "fnKnowing", fn := fun _ => fun
  | [d] => { results := [.lit (.bool true)], args := [d] }
  | _ => none }
def fnKnowingRow : OpenClaim := { program := "ytllghgcancennaa", sum := "9ea91816f604dc21ee25ba6b44b3410f760127a3a7f3142b298b42d5a411c4eb", func := "loop.example/g00283/laws.FnKnowing", spec := "fnKnowing", unfollowed := true, recurses := true, plainKeys := false, apart := false }
def FnKnowingSaid : Prop := fnKnowingRow.holds Try.pinned (OpenSpec.ofChange fnKnowingSpec)

/-- ITS FALSE NEIGHBOUR: 'it returns false'. Refute it at one input. -/
def fnKnowingWrong : ChangeSpec := { name := "fnKnowing", fn := fun _ => fun
  | [d] => { results := [.lit (.bool false)], args := [d] }
  | _ => none }
def FnKnowingWrongFalsely : Prop := fnKnowingRow.holds Try.pinned (OpenSpec.ofChange fnKnowingWrong)

/-- 'laws.FnOrdered': WHATEVER THE INPUT: true; the input reads as it did. -/
def fnOrderedSpec : ChangeSpec := { name := "fnOrdered", fn := fun _ => fun
  | [d] => { results := [.lit (.bool true)], args := [d] }
  | _ => none }
def fnOrderedRow : OpenClaim := { program := "ytllghgcancennaa", sum := "9ea91816f604dc21ee25ba6b44b3410f760127a3a7f3142b298b42d5a411c4eb", func := "loop.example/g00283/laws.FnOrdered", spec := "fnOrdered", unfollowed := true, recurses := true, plainKeys := false, apart := false }
def FnOrderedSaid : Prop := fnOrderedRow.holds Try.pinned (OpenSpec.ofChange fnOrderedSpec)

/-- ITS FALSE NEIGHBOUR: 'it returns false'. Refute it at one input. -/
def fnOrderedWrong : ChangeSpec := { name := "fnOrdered", fn := fun _ => fun
  | [d] => { results := [.lit (.bool false)], args := [d] }
  | _ => none }
def FnOrderedWrongFalsely : Prop := fnOrderedRow.holds Try.pinned (OpenSpec.ofChange fnOrderedWrong)

/- THE SECOND FORM. 'bulk': how many values and letters a reading holds, each counted each time it is reached (what is shared counts as often as it is met; a slice's spare places count too). A statement '..UptoSaid' is the law's where the arguments, and the package variables that the reading takes, are together of bulk at most 1048576: NARROWER than '..Said'. Prove '..Said' where nothing that the law and all that it calls make is longer than what came in: it says more and counts as full. Else prove '..UptoSaid'. A law counts once. -/
mutual
def uptoBulk {H : Type} : DataW H → Nat
  | .lit (.string bytes) => bytes.length + 1
  | .lit _ => 1
  | .nil => 1
  | .ptr d => uptoBulk d + 1
  | .slice elems spare => uptoBulkAll elems + uptoBulkAll spare + 1
  | .agg parts => uptoBulkAll parts + 1
  | .iface _ d => uptoBulk d + 1
  | .map entries => uptoBulkEntries entries + 1
  | .held _ => 1
def uptoBulkAll {H : Type} : List (DataW H) → Nat
  | [] => 0
  | d :: r => uptoBulk d + uptoBulkAll r
def uptoBulkEntries {H : Type} : List (Lit × DataW H) → Nat
  | [] => 0
  | x :: r => uptoBulkEntry x + uptoBulkEntries r
def uptoBulkEntry {H : Type} : Lit × DataW H → Nat
  | (.string bytes, d) => bytes.length + uptoBulk d + 1
  | (_, d) => uptoBulk d + 1
 end
def uptoSmall : (H : Type) → List (DataW H) → Bool := fun _ ds => decide (uptoBulkAll ds ≤ 1048576)
def OpenSpec.upto (s : _root_.Go.ChangeSpec) : _root_.Go.OpenSpec := { _root_.Go.OpenSpec.ofChange s with cond := some uptoSmall }

/-- 'laws.FnExactBefore', WHERE WHAT IT READS IS OF BULK AT MOST 1048576: true; the input reads as it did. -/
def fnExactBeforeUptoRow : OpenClaim := { program := "ytllghgcancennaa", sum := "9ea91816f604dc21ee25ba6b44b3410f760127a3a7f3142b298b42d5a411c4eb", func := "loop.example/g00283/laws.FnExactBefore", spec := "fnExactBefore", unfollowed := true, recurses := true, plainKeys := false, apart := false, narrowed := true }
def FnExactBeforeUptoSaid : Prop := fnExactBeforeUptoRow.holds Try.pinned (OpenSpec.upto fnExactBeforeSpec)

/-- 'laws.FnExactClocks', WHERE WHAT IT READS IS OF BULK AT MOST 1048576: true; the input reads as it did. -/
def fnExactClocksUptoRow : OpenClaim := { program := "ytllghgcancennaa", sum := "9ea91816f604dc21ee25ba6b44b3410f760127a3a7f3142b298b42d5a411c4eb", func := "loop.example/g00283/laws.FnExactClocks", spec := "fnExactClocks", unfollowed := true, recurses := true, plainKeys := false, apart := false, narrowed := true }
def FnExactClocksUptoSaid : Prop := fnExactClocksUptoRow.holds Try.pinned (OpenSpec.upto fnExactClocksSpec)

/-- 'laws.FnExactRaceAt', WHERE WHAT IT READS IS OF BULK AT MOST 1048576: true; the input reads as it did. -/
def fnExactRaceAtUptoRow : OpenClaim := { program := "ytllghgcancennaa", sum := "9ea91816f604dc21ee25ba6b44b3410f760127a3a7f3142b298b42d5a411c4eb", func := "loop.example/g00283/laws.FnExactRaceAt", spec := "fnExactRaceAt", unfollowed := true, recurses := true, plainKeys := false, apart := false, narrowed := true }
def FnExactRaceAtUptoSaid : Prop := fnExactRaceAtUptoRow.holds Try.pinned (OpenSpec.upto fnExactRaceAtSpec)

/-- 'laws.FnGuarded', WHERE WHAT IT READS IS OF BULK AT MOST 1048576: true; the input reads as it did. -/
def fnGuardedUptoRow : OpenClaim := { program := "ytllghgcancennaa", sum := "9ea91816f604dc21ee25ba6b44b3410f760127a3a7f3142b298b42d5a411c4eb", func := "loop.example/g00283/laws.FnGuarded", spec := "fnGuarded", unfollowed := true, recurses := true, plainKeys := false, apart := false, narrowed := true }
def FnGuardedUptoSaid : Prop := fnGuardedUptoRow.holds Try.pinned (OpenSpec.upto fnGuardedSpec)

/-- 'laws.FnKnowing', WHERE WHAT IT READS IS OF BULK AT MOST 1048576: true; the input reads as it did. -/
def fnKnowingUptoRow : OpenClaim := { program := "ytllghgcancennaa", sum := "9ea91816f604dc21ee25ba6b44b3410f760127a3a7f3142b298b42d5a411c4eb", func := "loop.example/g00283/laws.FnKnowing", spec := "fnKnowing", unfollowed := true, recurses := true, plainKeys := false, apart := false, narrowed := true }
def FnKnowingUptoSaid : Prop := fnKnowingUptoRow.holds Try.pinned (OpenSpec.upto fnKnowingSpec)

/-- 'laws.FnOrdered', WHERE WHAT IT READS IS OF BULK AT MOST 1048576: true; the input reads as it did. -/
def fnOrderedUptoRow : OpenClaim := { program := "ytllghgcancennaa", sum := "9ea91816f604dc21ee25ba6b44b3410f760127a3a7f3142b298b42d5a411c4eb", func := "loop.example/g00283/laws.FnOrdered", spec := "fnOrdered", unfollowed := true, recurses := true, plainKeys := false, apart := false, narrowed := true }
def FnOrderedUptoSaid : Prop := fnOrderedUptoRow.holds Try.pinned (OpenSpec.upto fnOrderedSpec)

end Rows
end Go.Proofs.Ytllghgcancennaa
