/-
  No cell of these rows narrows 'for every input' (looked for: loops, veiled, ifaces, maps, wideKeys, modest, calm, conditions, laid).
  DERIVED. THE GIVEN ROWS OF THIS SEAT. 7 by the template 'for every input the law returns true; each argument reads behind the call as it read before'; 0 by the template 'total and deterministic' (their statements: YtmdpbhikemmogaaTotals.lean).
  GIVEN WITH THE SEED: the statements are not yours to turn. If you find one false, say at which input.
  Laid BY PROGRAM, IN A SANDBOX (cutbox-rows.mjs): the forced cells as the released guide's own fill.sh prints them over the translation 03dc6912416967c6… (all of the seat's roots in one cut). By AI agents, Wed Nov 11 2026. No macro, syntax, notation, axiom, sorry.
-/
import Derived.Test.YtmdpbhikemmogaaChecked
import GoSem.Claim
import GoSem.ClaimJoined
import GoSem.ClaimMapViews
import Derived.JoinedTies
import Derived.KernelRfl
namespace Go.Proofs.Ytmdpbhikemmogaa
/- THE CELL 'sum', in the pinned program and in every row, IS THE sha256 OF THE DUMP (.gsa) THAT YtmdpbhikemmogaaProg.lean LOADS. Nothing in Lean hashes anything: it is a label: what it is worth is what the hold of that sum in a sandbox is worth. -/
noncomputable def Try.pinned : Pinned := { name := "ytmdpbhikemmogaa", sum := "03dc6912416967c6d67e590e6889a7fcfaae96b9f1003036cd3e5decf8161c86", checked := Try.checked }
namespace Rows
def none {H : Type} : Left H := { results := [], args := [] }

/-- 'laws.FnNet': WHATEVER THE INPUT: true; the input reads as it did. -/
def fnNetSpec : ChangeSpec := { name := "fnNet", fn := fun _ => fun
  | [d] => { results := [.lit (.bool true)], args := [d] }
  | _ => none }
def fnNetRow : OpenClaim := { program := "ytmdpbhikemmogaa", sum := "03dc6912416967c6d67e590e6889a7fcfaae96b9f1003036cd3e5decf8161c86", func := "loop.example/g00283/laws.FnNet", spec := "fnNet", apart := false }
def FnNetSaid : Prop := fnNetRow.holds Try.pinned (OpenSpec.ofChange fnNetSpec)

/-- ITS FALSE NEIGHBOUR: 'it returns false'. Refute it at one input. -/
def fnNetWrong : ChangeSpec := { name := "fnNet", fn := fun _ => fun
  | [d] => { results := [.lit (.bool false)], args := [d] }
  | _ => none }
def FnNetWrongFalsely : Prop := fnNetRow.holds Try.pinned (OpenSpec.ofChange fnNetWrong)

/-- 'laws.FnNetOrder': WHATEVER THE INPUT: true; the input reads as it did. -/
def fnNetOrderSpec : ChangeSpec := { name := "fnNetOrder", fn := fun _ => fun
  | [d] => { results := [.lit (.bool true)], args := [d] }
  | _ => none }
def fnNetOrderRow : OpenClaim := { program := "ytmdpbhikemmogaa", sum := "03dc6912416967c6d67e590e6889a7fcfaae96b9f1003036cd3e5decf8161c86", func := "loop.example/g00283/laws.FnNetOrder", spec := "fnNetOrder", apart := false }
def FnNetOrderSaid : Prop := fnNetOrderRow.holds Try.pinned (OpenSpec.ofChange fnNetOrderSpec)

/-- ITS FALSE NEIGHBOUR: 'it returns false'. Refute it at one input. -/
def fnNetOrderWrong : ChangeSpec := { name := "fnNetOrder", fn := fun _ => fun
  | [d] => { results := [.lit (.bool false)], args := [d] }
  | _ => none }
def FnNetOrderWrongFalsely : Prop := fnNetOrderRow.holds Try.pinned (OpenSpec.ofChange fnNetOrderWrong)

/-- 'laws.FnExactNetOk': WHATEVER THE INPUT: true; the input reads as it did. -/
def fnExactNetOkSpec : ChangeSpec := { name := "fnExactNetOk", fn := fun _ => fun
  | [d] => { results := [.lit (.bool true)], args := [d] }
  | _ => none }
def fnExactNetOkRow : OpenClaim := { program := "ytmdpbhikemmogaa", sum := "03dc6912416967c6d67e590e6889a7fcfaae96b9f1003036cd3e5decf8161c86", func := "loop.example/g00283/laws.FnExactNetOk", spec := "fnExactNetOk", apart := false }
def FnExactNetOkSaid : Prop := fnExactNetOkRow.holds Try.pinned (OpenSpec.ofChange fnExactNetOkSpec)

/-- ITS FALSE NEIGHBOUR: 'it returns false'. Refute it at one input. -/
def fnExactNetOkWrong : ChangeSpec := { name := "fnExactNetOk", fn := fun _ => fun
  | [d] => { results := [.lit (.bool false)], args := [d] }
  | _ => none }
def FnExactNetOkWrongFalsely : Prop := fnExactNetOkRow.holds Try.pinned (OpenSpec.ofChange fnExactNetOkWrong)

/-- 'laws.FnExactPost': WHATEVER THE INPUT: true; the input reads as it did. -/
def fnExactPostSpec : ChangeSpec := { name := "fnExactPost", fn := fun _ => fun
  | [d1, d2] => { results := [.lit (.bool true)], args := [d1, d2] }
  | _ => none }
def fnExactPostRow : OpenClaim := { program := "ytmdpbhikemmogaa", sum := "03dc6912416967c6d67e590e6889a7fcfaae96b9f1003036cd3e5decf8161c86", func := "loop.example/g00283/laws.FnExactPost", spec := "fnExactPost", apart := false }
def FnExactPostSaid : Prop := fnExactPostRow.holds Try.pinned (OpenSpec.ofChange fnExactPostSpec)

/-- ITS FALSE NEIGHBOUR: 'it returns false'. Refute it at one input. -/
def fnExactPostWrong : ChangeSpec := { name := "fnExactPost", fn := fun _ => fun
  | [d1, d2] => { results := [.lit (.bool false)], args := [d1, d2] }
  | _ => none }
def FnExactPostWrongFalsely : Prop := fnExactPostRow.holds Try.pinned (OpenSpec.ofChange fnExactPostWrong)

/-- 'laws.FnExactTake': WHATEVER THE INPUT: true; the input reads as it did. -/
def fnExactTakeSpec : ChangeSpec := { name := "fnExactTake", fn := fun _ => fun
  | [d1, d2] => { results := [.lit (.bool true)], args := [d1, d2] }
  | _ => none }
def fnExactTakeRow : OpenClaim := { program := "ytmdpbhikemmogaa", sum := "03dc6912416967c6d67e590e6889a7fcfaae96b9f1003036cd3e5decf8161c86", func := "loop.example/g00283/laws.FnExactTake", spec := "fnExactTake", apart := false }
def FnExactTakeSaid : Prop := fnExactTakeRow.holds Try.pinned (OpenSpec.ofChange fnExactTakeSpec)

/-- ITS FALSE NEIGHBOUR: 'it returns false'. Refute it at one input. -/
def fnExactTakeWrong : ChangeSpec := { name := "fnExactTake", fn := fun _ => fun
  | [d1, d2] => { results := [.lit (.bool false)], args := [d1, d2] }
  | _ => none }
def FnExactTakeWrongFalsely : Prop := fnExactTakeRow.holds Try.pinned (OpenSpec.ofChange fnExactTakeWrong)

/-- 'laws.FnExactTwice': WHATEVER THE INPUT: true; the input reads as it did. -/
def fnExactTwiceSpec : ChangeSpec := { name := "fnExactTwice", fn := fun _ => fun
  | [d1, d2] => { results := [.lit (.bool true)], args := [d1, d2] }
  | _ => none }
def fnExactTwiceRow : OpenClaim := { program := "ytmdpbhikemmogaa", sum := "03dc6912416967c6d67e590e6889a7fcfaae96b9f1003036cd3e5decf8161c86", func := "loop.example/g00283/laws.FnExactTwice", spec := "fnExactTwice", apart := false }
def FnExactTwiceSaid : Prop := fnExactTwiceRow.holds Try.pinned (OpenSpec.ofChange fnExactTwiceSpec)

/-- ITS FALSE NEIGHBOUR: 'it returns false'. Refute it at one input. -/
def fnExactTwiceWrong : ChangeSpec := { name := "fnExactTwice", fn := fun _ => fun
  | [d1, d2] => { results := [.lit (.bool false)], args := [d1, d2] }
  | _ => none }
def FnExactTwiceWrongFalsely : Prop := fnExactTwiceRow.holds Try.pinned (OpenSpec.ofChange fnExactTwiceWrong)

/-- 'laws.FnExactSpoil': WHATEVER THE INPUT: true; the input reads as it did. -/
def fnExactSpoilSpec : ChangeSpec := { name := "fnExactSpoil", fn := fun _ => fun
  | [d1, d2, d3] => { results := [.lit (.bool true)], args := [d1, d2, d3] }
  | _ => none }
def fnExactSpoilRow : OpenClaim := { program := "ytmdpbhikemmogaa", sum := "03dc6912416967c6d67e590e6889a7fcfaae96b9f1003036cd3e5decf8161c86", func := "loop.example/g00283/laws.FnExactSpoil", spec := "fnExactSpoil", apart := false }
def FnExactSpoilSaid : Prop := fnExactSpoilRow.holds Try.pinned (OpenSpec.ofChange fnExactSpoilSpec)

/-- ITS FALSE NEIGHBOUR: 'it returns false'. Refute it at one input. -/
def fnExactSpoilWrong : ChangeSpec := { name := "fnExactSpoil", fn := fun _ => fun
  | [d1, d2, d3] => { results := [.lit (.bool false)], args := [d1, d2, d3] }
  | _ => none }
def FnExactSpoilWrongFalsely : Prop := fnExactSpoilRow.holds Try.pinned (OpenSpec.ofChange fnExactSpoilWrong)

/- THE SECOND FORM. 'bulk': how many values and letters a reading holds, each counted each time it is reached (what is shared counts as often as it is met; a slice's spare places count too). A statement '..UptoSaid' is the law's where the arguments, and the package variables that the reading takes, are together of bulk at most 1048576: NARROWER than '..Said'. Prove '..Said' where nothing that the law and all that it calls make is longer than what came in: it says more and counts as full. Else prove '..UptoSaid'. A law counts once. -/
mutual
def uptoBulk {H : Type} : DataW H → Nat
  | .lit (.string bytes) => bytes.length + 1
  | .lit _ => 1
  | .nil => 1
  | .ptr d => uptoBulk d + 1
  | .slice elems spare => uptoBulkAll elems + uptoBulkAll spare + 1
  | .agg parts => uptoBulkAll parts + 1
  | .iface _ d => uptoBulk d + 1
  | .map entries => uptoBulkEntries entries + 1
  | .held _ => 1
def uptoBulkAll {H : Type} : List (DataW H) → Nat
  | [] => 0
  | d :: r => uptoBulk d + uptoBulkAll r
def uptoBulkEntries {H : Type} : List (Lit × DataW H) → Nat
  | [] => 0
  | x :: r => uptoBulkEntry x + uptoBulkEntries r
def uptoBulkEntry {H : Type} : Lit × DataW H → Nat
  | (.string bytes, d) => bytes.length + uptoBulk d + 1
  | (_, d) => uptoBulk d + 1
 end
def uptoSmall : (H : Type) → List (DataW H) → Bool := fun _ ds => decide (uptoBulkAll ds ≤ 1048576)
def OpenSpec.upto (s : _root_.Go.ChangeSpec) : _root_.Go.OpenSpec := { _root_.Go.OpenSpec.ofChange s with cond := some uptoSmall }

/-- 'laws.FnNet', WHERE WHAT IT READS IS OF BULK AT MOST 1048576: true; the input reads as it did. -/
def fnNetUptoRow : OpenClaim := { program := "ytmdpbhikemmogaa", sum := "03dc6912416967c6d67e590e6889a7fcfaae96b9f1003036cd3e5decf8161c86", func := "loop.example/g00283/laws.FnNet", spec := "fnNet", apart := false, narrowed := true }
def FnNetUptoSaid : Prop := fnNetUptoRow.holds Try.pinned (OpenSpec.upto fnNetSpec)

/-- 'laws.FnNetOrder', WHERE WHAT IT READS IS OF BULK AT MOST 1048576: true; the input reads as it did. -/
def fnNetOrderUptoRow : OpenClaim := { program := "ytmdpbhikemmogaa", sum := "03dc6912416967c6d67e590e6889a7fcfaae96b9f1003036cd3e5decf8161c86", func := "loop.example/g00283/laws.FnNetOrder", spec := "fnNetOrder", apart := false, narrowed := true }
def FnNetOrderUptoSaid : Prop := fnNetOrderUptoRow.holds Try.pinned (OpenSpec.upto fnNetOrderSpec)

/-- 'laws.FnExactNetOk', WHERE WHAT IT READS IS OF BULK AT MOST 1048576: true; the input reads as it did. -/
def fnExactNetOkUptoRow : OpenClaim := { program := "ytmdpbhikemmogaa", sum := "03dc6912416967c6d67e590e6889a7fcfaae96b9f1003036cd3e5decf8161c86", func := "loop.example/g00283/laws.FnExactNetOk", spec := "fnExactNetOk", apart := false, narrowed := true }
def FnExactNetOkUptoSaid : Prop := fnExactNetOkUptoRow.holds Try.pinned (OpenSpec.upto fnExactNetOkSpec)

/-- 'laws.FnExactPost', WHERE WHAT IT READS IS OF BULK AT MOST 1048576: true; the input reads as it did. -/
def fnExactPostUptoRow : OpenClaim := { program := "ytmdpbhikemmogaa", sum := "03dc6912416967c6d67e590e6889a7fcfaae96b9f1003036cd3e5decf8161c86", func := "loop.example/g00283/laws.FnExactPost", spec := "fnExactPost", apart := false, narrowed := true }
def FnExactPostUptoSaid : Prop := fnExactPostUptoRow.holds Try.pinned (OpenSpec.upto fnExactPostSpec)

/-- 'laws.FnExactTake', WHERE WHAT IT READS IS OF BULK AT MOST 1048576: true; the input reads as it did. -/
def fnExactTakeUptoRow : OpenClaim := { program := "ytmdpbhikemmogaa", sum := "03dc6912416967c6d67e590e6889a7fcfaae96b9f1003036cd3e5decf8161c86", func := "loop.example/g00283/laws.FnExactTake", spec := "fnExactTake", apart := false, narrowed := true }
def FnExactTakeUptoSaid : Prop := fnExactTakeUptoRow.holds Try.pinned (OpenSpec.upto fnExactTakeSpec)

/-- 'laws.FnExactTwice', WHERE WHAT IT READS IS OF BULK AT MOST 1048576: true; the input reads as it did. -/
def fnExactTwiceUptoRow : OpenClaim := { program := "ytmdpbhikemmogaa", sum := "03dc6912416967c6d67e590e6889a7fcfaae96b9f1003036cd3e5decf8161c86", func := "loop.example/g00283/laws.FnExactTwice", spec := "fnExactTwice", apart := false, narrowed := true }
def FnExactTwiceUptoSaid : Prop := fnExactTwiceUptoRow.holds Try.pinned (OpenSpec.upto fnExactTwiceSpec)

/-- 'laws.FnExactSpoil', WHERE WHAT IT READS IS OF BULK AT MOST 1048576: true; the input reads as it did. -/
def fnExactSpoilUptoRow : OpenClaim := { program := "ytmdpbhikemmogaa", sum := "03dc6912416967c6d67e590e6889a7fcfaae96b9f1003036cd3e5decf8161c86", func := "loop.example/g00283/laws.FnExactSpoil", spec := "fnExactSpoil", apart := false, narrowed := true }
def FnExactSpoilUptoSaid : Prop := fnExactSpoilUptoRow.holds Try.pinned (OpenSpec.upto fnExactSpoilSpec)

end Rows
end Go.Proofs.Ytmdpbhikemmogaa
