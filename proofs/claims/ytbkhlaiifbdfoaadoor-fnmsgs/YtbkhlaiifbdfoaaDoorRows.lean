/-
  NARROWER THAN 'FOR EVERY INPUT', by the rows' own cells (each row's printed sentence says how): FnMsgs: ifaces, laid · FnExactMsgOf: ifaces, laid.
  DERIVED. THE GIVEN ROWS OF THIS SEAT. 2 by the template 'for every input the law returns true; each argument reads behind the call as it read before'; 0 by the template 'total and deterministic' (their statements: YtbkhlaiifbdfoaaDoorTotals.lean).
  GIVEN WITH THE SEED: the statements are not yours to turn. If you find one false, say at which input.
  Laid BY PROGRAM, IN A SANDBOX (cutbox-rows.mjs): the forced cells as the released guide's own fill.sh prints them over the translation 393f826c9a35b04f… (all of the seat's roots in one cut). By AI agents, Wed Nov 11 2026. No macro, syntax, notation, axiom, sorry.
-/
import Derived.Test.YtbkhlaiifbdfoaaDoorChecked
import GoSem.Claim
import GoSem.ClaimJoined
import GoSem.ClaimMapViews
import Derived.JoinedTies
import Derived.KernelRfl
namespace Go.Proofs.YtbkhlaiifbdfoaaDoor
/- THE CELL 'sum', in the pinned program and in every row, IS THE sha256 OF THE DUMP (.gsa) THAT YtbkhlaiifbdfoaaDoorProg.lean LOADS. Nothing in Lean hashes anything: it is a label: what it is worth is what the hold of that sum in a sandbox is worth. -/
noncomputable def Tryd.pinned : Pinned := { name := "ytbkhlaiifbdfoaadoor", sum := "393f826c9a35b04f0c904fd08a40c02acd20b8f6150251d28d24acd791096334", checked := Tryd.checked }
namespace Rows
def none {H : Type} : Left H := { results := [], args := [] }

/- WHAT THE LISTED PACKAGE-LEVEL VARIABLES READ AS WHEN THE CALL BEGINS. Each datum BY PROGRAM (the guide's laid-datum.mjs) off the statement by which the dump's own 'gosem.cut.vars' lays the variable. In a bare row this is a premise. The card (YtbkhlaiifbdfoaaDoorCards.lean) ties it to the program's text. -/
def laid_loop_example_g00283_impl_errNone {H : Type} : DataW H := .iface "*errors.errorString" (.ptr (.agg [.lit (.string [110, 111, 116, 104, 105, 110, 103, 32, 115, 116, 97, 110, 100, 115, 32, 116, 104, 101, 114, 101])]))

/-- 'laws.FnMsgs': WHATEVER THE INPUT: true; the input reads as it did. -/
def fnMsgsSpec : ChangeSpec := { name := "fnMsgs", vars := ["loop.example/g00283/impl.errNone"], fn := fun _ => fun
  | [d, g1] => { results := [.lit (.bool true)], args := [d], vars := [g1] }
  | _ => none }
def fnMsgsRow : OpenClaim := { program := "ytbkhlaiifbdfoaadoor", sum := "393f826c9a35b04f0c904fd08a40c02acd20b8f6150251d28d24acd791096334", func := "loop.example/g00283/laws.FnMsgs", spec := "fnMsgs", unfollowed := true, recurses := true, named := ["loop.example/g00283/impl.errNone"], ifaces := true, apart := false, laid := [("loop.example/g00283/impl.errNone", laid_loop_example_g00283_impl_errNone)] }
def FnMsgsSaid : Prop := fnMsgsRow.holds Tryd.pinned (OpenSpec.ofChange fnMsgsSpec)

/-- ITS FALSE NEIGHBOUR: 'it returns false'. Refute it at one input. -/
def fnMsgsWrong : ChangeSpec := { name := "fnMsgs", vars := ["loop.example/g00283/impl.errNone"], fn := fun _ => fun
  | [d, g1] => { results := [.lit (.bool false)], args := [d], vars := [g1] }
  | _ => none }
def FnMsgsWrongFalsely : Prop := fnMsgsRow.holds Tryd.pinned (OpenSpec.ofChange fnMsgsWrong)

/-- 'laws.FnExactMsgOf': WHATEVER THE INPUT: true; the input reads as it did. -/
def fnExactMsgOfSpec : ChangeSpec := { name := "fnExactMsgOf", vars := ["loop.example/g00283/impl.errNone"], fn := fun _ => fun
  | [d, g1] => { results := [.lit (.bool true)], args := [d], vars := [g1] }
  | _ => none }
def fnExactMsgOfRow : OpenClaim := { program := "ytbkhlaiifbdfoaadoor", sum := "393f826c9a35b04f0c904fd08a40c02acd20b8f6150251d28d24acd791096334", func := "loop.example/g00283/laws.FnExactMsgOf", spec := "fnExactMsgOf", unfollowed := true, recurses := true, named := ["loop.example/g00283/impl.errNone"], ifaces := true, apart := false, laid := [("loop.example/g00283/impl.errNone", laid_loop_example_g00283_impl_errNone)] }
def FnExactMsgOfSaid : Prop := fnExactMsgOfRow.holds Tryd.pinned (OpenSpec.ofChange fnExactMsgOfSpec)

/-- ITS FALSE NEIGHBOUR: 'it returns false'. Refute it at one input. -/
def fnExactMsgOfWrong : ChangeSpec := { name := "fnExactMsgOf", vars := ["loop.example/g00283/impl.errNone"], fn := fun _ => fun
  | [d, g1] => { results := [.lit (.bool false)], args := [d], vars := [g1] }
  | _ => none }
def FnExactMsgOfWrongFalsely : Prop := fnExactMsgOfRow.holds Tryd.pinned (OpenSpec.ofChange fnExactMsgOfWrong)

/- THE SECOND FORM. 'bulk': how many values and letters a reading holds, each counted each time it is reached (what is shared counts as often as it is met; a slice's spare places count too). A statement '..UptoSaid' is the law's where the arguments, and the package variables that the reading takes, are together of bulk at most 1048576: NARROWER than '..Said'. Prove '..Said' where nothing that the law and all that it calls make is longer than what came in: it says more and counts as full. Else prove '..UptoSaid'. A law counts once. -/
mutual
def uptoBulk {H : Type} : DataW H → Nat
  | .lit (.string bytes) => bytes.length + 1
  | .lit _ => 1
  | .nil => 1
  | .ptr d => uptoBulk d + 1
  | .slice elems spare => uptoBulkAll elems + uptoBulkAll spare + 1
  | .agg parts => uptoBulkAll parts + 1
  | .iface _ d => uptoBulk d + 1
  | .map entries => uptoBulkEntries entries + 1
  | .held _ => 1
def uptoBulkAll {H : Type} : List (DataW H) → Nat
  | [] => 0
  | d :: r => uptoBulk d + uptoBulkAll r
def uptoBulkEntries {H : Type} : List (Lit × DataW H) → Nat
  | [] => 0
  | x :: r => uptoBulkEntry x + uptoBulkEntries r
def uptoBulkEntry {H : Type} : Lit × DataW H → Nat
  | (.string bytes, d) => bytes.length + uptoBulk d + 1
  | (_, d) => uptoBulk d + 1
 end
def uptoSmall : (H : Type) → List (DataW H) → Bool := fun _ ds => decide (uptoBulkAll ds ≤ 1048576)
def OpenSpec.upto (s : _root_.Go.ChangeSpec) : _root_.Go.OpenSpec := { _root_.Go.OpenSpec.ofChange s with cond := some uptoSmall }

/-- 'laws.FnMsgs', WHERE WHAT IT READS IS OF BULK AT MOST 1048576: true; the input reads as it did. -/
def fnMsgsUptoRow : OpenClaim := { program := "ytbkhlaiifbdfoaadoor", sum := "393f826c9a35b04f0c904fd08a40c02acd20b8f6150251d28d24acd791096334", func := "loop.example/g00283/laws.FnMsgs", spec := "fnMsgs", unfollowed := true, recurses := true, named := ["loop.example/g00283/impl.errNone"], ifaces := true, apart := false, laid := [("loop.example/g00283/impl.errNone", laid_loop_example_g00283_impl_errNone)], narrowed := true }
def FnMsgsUptoSaid : Prop := fnMsgsUptoRow.holds Tryd.pinned (OpenSpec.upto fnMsgsSpec)

/-- 'laws.FnExactMsgOf', WHERE WHAT IT READS IS OF BULK AT MOST 1048576: true; the input reads as it did. -/
def fnExactMsgOfUptoRow : OpenClaim := { program := "ytbkhlaiifbdfoaadoor", sum := "393f826c9a35b04f0c904fd08a40c02acd20b8f6150251d28d24acd791096334", func := "loop.example/g00283/laws.FnExactMsgOf", spec := "fnExactMsgOf", unfollowed := true, recurses := true, named := ["loop.example/g00283/impl.errNone"], ifaces := true, apart := false, laid := [("loop.example/g00283/impl.errNone", laid_loop_example_g00283_impl_errNone)], narrowed := true }
def FnExactMsgOfUptoSaid : Prop := fnExactMsgOfUptoRow.holds Tryd.pinned (OpenSpec.upto fnExactMsgOfSpec)

end Rows
end Go.Proofs.YtbkhlaiifbdfoaaDoor
