/-
  NARROWER THAN 'FOR EVERY INPUT', by the rows' own cells (each row's printed sentence says how): FnAcked: ifaces, laid · FnSpoilt: ifaces, laid.
  DERIVED. THE GIVEN ROWS OF THIS SEAT. 2 by the template 'for every input the law returns true; each argument reads behind the call as it read before'; 0 by the template 'total and deterministic' (their statements: YtkfnpijljpbiaaaDoorTotals.lean).
  GIVEN WITH THE SEED: the statements are not yours to turn. If you find one false, say at which input.
  Laid BY PROGRAM, IN A SANDBOX (cutbox-rows.mjs): the forced cells as the released guide's own fill.sh prints them over the translation 9a669632f75f773c… (all of the seat's roots in one cut). By AI agents, Wed Nov 11 2026. No macro, syntax, notation, axiom, sorry.
-/
import Derived.Test.YtkfnpijljpbiaaaDoorChecked
import GoSem.Claim
import GoSem.ClaimJoined
import GoSem.ClaimMapViews
import Derived.JoinedTies
import Derived.KernelRfl
namespace Go.Proofs.YtkfnpijljpbiaaaDoor
/- THE CELL 'sum', in the pinned program and in every row, IS THE sha256 OF THE DUMP (.gsa) THAT YtkfnpijljpbiaaaDoorProg.lean LOADS. Nothing in Lean hashes anything: it is a label: what it is worth is what the hold of that sum in a sandbox is worth. -/
noncomputable def Tryd.pinned : Pinned := { name := "ytkfnpijljpbiaaadoor", sum := "9a669632f75f773c7cec610d7a823ce963b9d7ecde5e6b9cb442c9d1d36f143f", checked := Tryd.checked }
namespace Rows
def none {H : Type} : Left H := { results := [], args := [] }

/- WHAT THE LISTED PACKAGE-LEVEL VARIABLES READ AS WHEN THE CALL BEGINS. Each datum BY PROGRAM (the guide's laid-datum.mjs) off the statement by which the dump's own 'gosem.cut.vars' lays the variable. In a bare row this is a premise. The card (YtkfnpijljpbiaaaDoorCards.lean) ties it to the program's text. -/
def laid_loop_example_g00283_impl_errNone {H : Type} : DataW H := .iface "*errors.errorString" (.ptr (.agg [.lit (.string [110, 111, 116, 104, 105, 110, 103, 32, 115, 116, 97, 110, 100, 115, 32, 116, 104, 101, 114, 101])]))

/-- 'laws.FnAcked': WHATEVER THE INPUT: true; the input reads as it did. -/
def fnAckedSpec : ChangeSpec := { name := "fnAcked", vars := ["loop.example/g00283/impl.errNone"], fn := fun _ => fun
  | [d, g1] => { results := [.lit (.bool true)], args := [d], vars := [g1] }
  | _ => none }
def fnAckedRow : OpenClaim := { program := "ytkfnpijljpbiaaadoor", sum := "9a669632f75f773c7cec610d7a823ce963b9d7ecde5e6b9cb442c9d1d36f143f", func := "loop.example/g00283/laws.FnAcked", spec := "fnAcked", unfollowed := true, recurses := true, named := ["loop.example/g00283/impl.errNone"], ifaces := true, apart := false, laid := [("loop.example/g00283/impl.errNone", laid_loop_example_g00283_impl_errNone)] }
def FnAckedSaid : Prop := fnAckedRow.holds Tryd.pinned (OpenSpec.ofChange fnAckedSpec)

/-- ITS FALSE NEIGHBOUR: 'it returns false'. Refute it at one input. -/
def fnAckedWrong : ChangeSpec := { name := "fnAcked", vars := ["loop.example/g00283/impl.errNone"], fn := fun _ => fun
  | [d, g1] => { results := [.lit (.bool false)], args := [d], vars := [g1] }
  | _ => none }
def FnAckedWrongFalsely : Prop := fnAckedRow.holds Tryd.pinned (OpenSpec.ofChange fnAckedWrong)

/-- 'laws.FnSpoilt': WHATEVER THE INPUT: true; the input reads as it did. -/
def fnSpoiltSpec : ChangeSpec := { name := "fnSpoilt", vars := ["loop.example/g00283/impl.errNone"], fn := fun _ => fun
  | [d, g1] => { results := [.lit (.bool true)], args := [d], vars := [g1] }
  | _ => none }
def fnSpoiltRow : OpenClaim := { program := "ytkfnpijljpbiaaadoor", sum := "9a669632f75f773c7cec610d7a823ce963b9d7ecde5e6b9cb442c9d1d36f143f", func := "loop.example/g00283/laws.FnSpoilt", spec := "fnSpoilt", unfollowed := true, recurses := true, named := ["loop.example/g00283/impl.errNone"], ifaces := true, apart := false, laid := [("loop.example/g00283/impl.errNone", laid_loop_example_g00283_impl_errNone)] }
def FnSpoiltSaid : Prop := fnSpoiltRow.holds Tryd.pinned (OpenSpec.ofChange fnSpoiltSpec)

/-- ITS FALSE NEIGHBOUR: 'it returns false'. Refute it at one input. -/
def fnSpoiltWrong : ChangeSpec := { name := "fnSpoilt", vars := ["loop.example/g00283/impl.errNone"], fn := fun _ => fun
  | [d, g1] => { results := [.lit (.bool false)], args := [d], vars := [g1] }
  | _ => none }
def FnSpoiltWrongFalsely : Prop := fnSpoiltRow.holds Tryd.pinned (OpenSpec.ofChange fnSpoiltWrong)

/- THE SECOND FORM. 'bulk': how many values and letters a reading holds, each counted each time it is reached (what is shared counts as often as it is met; a slice's spare places count too). A statement '..UptoSaid' is the law's where the arguments, and the package variables that the reading takes, are together of bulk at most 1048576: NARROWER than '..Said'. Prove '..Said' where nothing that the law and all that it calls make is longer than what came in: it says more and counts as full. Else prove '..UptoSaid'. A law counts once. -/
mutual
def uptoBulk {H : Type} : DataW H → Nat
  | .lit (.string bytes) => bytes.length + 1
  | .lit _ => 1
  | .nil => 1
  | .ptr d => uptoBulk d + 1
  | .slice elems spare => uptoBulkAll elems + uptoBulkAll spare + 1
  | .agg parts => uptoBulkAll parts + 1
  | .iface _ d => uptoBulk d + 1
  | .map entries => uptoBulkEntries entries + 1
  | .held _ => 1
def uptoBulkAll {H : Type} : List (DataW H) → Nat
  | [] => 0
  | d :: r => uptoBulk d + uptoBulkAll r
def uptoBulkEntries {H : Type} : List (Lit × DataW H) → Nat
  | [] => 0
  | x :: r => uptoBulkEntry x + uptoBulkEntries r
def uptoBulkEntry {H : Type} : Lit × DataW H → Nat
  | (.string bytes, d) => bytes.length + uptoBulk d + 1
  | (_, d) => uptoBulk d + 1
 end
def uptoSmall : (H : Type) → List (DataW H) → Bool := fun _ ds => decide (uptoBulkAll ds ≤ 1048576)
def OpenSpec.upto (s : _root_.Go.ChangeSpec) : _root_.Go.OpenSpec := { _root_.Go.OpenSpec.ofChange s with cond := some uptoSmall }

/-- 'laws.FnAcked', WHERE WHAT IT READS IS OF BULK AT MOST 1048576: true; the input reads as it did. -/
def fnAckedUptoRow : OpenClaim := { program := "ytkfnpijljpbiaaadoor", sum := "9a669632f75f773c7cec610d7a823ce963b9d7ecde5e6b9cb442c9d1d36f143f", func := "loop.example/g00283/laws.FnAcked", spec := "fnAcked", unfollowed := true, recurses := true, named := ["loop.example/g00283/impl.errNone"], ifaces := true, apart := false, laid := [("loop.example/g00283/impl.errNone", laid_loop_example_g00283_impl_errNone)], narrowed := true }
def FnAckedUptoSaid : Prop := fnAckedUptoRow.holds Tryd.pinned (OpenSpec.upto fnAckedSpec)

/-- 'laws.FnSpoilt', WHERE WHAT IT READS IS OF BULK AT MOST 1048576: true; the input reads as it did. -/
def fnSpoiltUptoRow : OpenClaim := { program := "ytkfnpijljpbiaaadoor", sum := "9a669632f75f773c7cec610d7a823ce963b9d7ecde5e6b9cb442c9d1d36f143f", func := "loop.example/g00283/laws.FnSpoilt", spec := "fnSpoilt", unfollowed := true, recurses := true, named := ["loop.example/g00283/impl.errNone"], ifaces := true, apart := false, laid := [("loop.example/g00283/impl.errNone", laid_loop_example_g00283_impl_errNone)], narrowed := true }
def FnSpoiltUptoSaid : Prop := fnSpoiltUptoRow.holds Tryd.pinned (OpenSpec.upto fnSpoiltSpec)

end Rows
end Go.Proofs.YtkfnpijljpbiaaaDoor
