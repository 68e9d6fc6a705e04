/-
  NARROWER THAN 'FOR EVERY INPUT', by the rows' own cells (each row's printed sentence says how): FnNums: ifaces, laid · FnWords: ifaces, laid · FnExactGetNum: ifaces, laid · FnExactGetWord: ifaces, laid · FnExactGetText: ifaces, laid.
  DERIVED. THE GIVEN ROWS OF THIS SEAT. 5 by the template 'for every input the law returns true; each argument reads behind the call as it read before'; 0 by the template 'total and deterministic' (their statements: YtfomgkkiaklpfaaDoorTotals.lean).
  GIVEN WITH THE SEED: the statements are not yours to turn. If you find one false, say at which input.
  Laid BY PROGRAM, IN A SANDBOX (cutbox-rows.mjs): the forced cells as the released guide's own fill.sh prints them over the translation 593dbede80be10c5… (all of the seat's roots in one cut). By AI agents, Wed Nov 11 2026. No macro, syntax, notation, axiom, sorry.
-/
import Derived.Test.YtfomgkkiaklpfaaDoorChecked
import GoSem.Claim
import GoSem.ClaimJoined
import GoSem.ClaimMapViews
import Derived.JoinedTies
import Derived.KernelRfl
namespace Go.Proofs.YtfomgkkiaklpfaaDoor
/- THE CELL 'sum', in the pinned program and in every row, IS THE sha256 OF THE DUMP (.gsa) THAT YtfomgkkiaklpfaaDoorProg.lean LOADS. Nothing in Lean hashes anything: it is a label: what it is worth is what the hold of that sum in a sandbox is worth. -/
noncomputable def Tryd.pinned : Pinned := { name := "ytfomgkkiaklpfaadoor", sum := "593dbede80be10c59a3965024886345d0cc4aab3a5f91a54d5c6a47a289d001a", checked := Tryd.checked }
namespace Rows
def none {H : Type} : Left H := { results := [], args := [] }

/- WHAT THE LISTED PACKAGE-LEVEL VARIABLES READ AS WHEN THE CALL BEGINS. Each datum BY PROGRAM (the guide's laid-datum.mjs) off the statement by which the dump's own 'gosem.cut.vars' lays the variable. In a bare row this is a premise. The card (YtfomgkkiaklpfaaDoorCards.lean) ties it to the program's text. -/
def laid_loop_example_g00283_impl_errNone {H : Type} : DataW H := .iface "*errors.errorString" (.ptr (.agg [.lit (.string [110, 111, 116, 104, 105, 110, 103, 32, 115, 116, 97, 110, 100, 115, 32, 116, 104, 101, 114, 101])]))

/-- 'laws.FnNums': WHATEVER THE INPUT: true; the input reads as it did. -/
def fnNumsSpec : ChangeSpec := { name := "fnNums", vars := ["loop.example/g00283/impl.errNone"], fn := fun _ => fun
  | [d, g1] => { results := [.lit (.bool true)], args := [d], vars := [g1] }
  | _ => none }
def fnNumsRow : OpenClaim := { program := "ytfomgkkiaklpfaadoor", sum := "593dbede80be10c59a3965024886345d0cc4aab3a5f91a54d5c6a47a289d001a", func := "loop.example/g00283/laws.FnNums", spec := "fnNums", unfollowed := true, recurses := true, named := ["loop.example/g00283/impl.errNone"], ifaces := true, apart := false, laid := [("loop.example/g00283/impl.errNone", laid_loop_example_g00283_impl_errNone)] }
def FnNumsSaid : Prop := fnNumsRow.holds Tryd.pinned (OpenSpec.ofChange fnNumsSpec)

/-- ITS FALSE NEIGHBOUR: 'it returns false'. Refute it at one input. -/
def fnNumsWrong : ChangeSpec := { name := "fnNums", vars := ["loop.example/g00283/impl.errNone"], fn := fun _ => fun
  | [d, g1] => { results := [.lit (.bool false)], args := [d], vars := [g1] }
  | _ => none }
def FnNumsWrongFalsely : Prop := fnNumsRow.holds Tryd.pinned (OpenSpec.ofChange fnNumsWrong)

/-- 'laws.FnWords': WHATEVER THE INPUT: true; the input reads as it did. -/
def fnWordsSpec : ChangeSpec := { name := "fnWords", vars := ["loop.example/g00283/impl.errNone"], fn := fun _ => fun
  | [d, g1] => { results := [.lit (.bool true)], args := [d], vars := [g1] }
  | _ => none }
def fnWordsRow : OpenClaim := { program := "ytfomgkkiaklpfaadoor", sum := "593dbede80be10c59a3965024886345d0cc4aab3a5f91a54d5c6a47a289d001a", func := "loop.example/g00283/laws.FnWords", spec := "fnWords", unfollowed := true, recurses := true, named := ["loop.example/g00283/impl.errNone"], ifaces := true, apart := false, laid := [("loop.example/g00283/impl.errNone", laid_loop_example_g00283_impl_errNone)] }
def FnWordsSaid : Prop := fnWordsRow.holds Tryd.pinned (OpenSpec.ofChange fnWordsSpec)

/-- ITS FALSE NEIGHBOUR: 'it returns false'. Refute it at one input. -/
def fnWordsWrong : ChangeSpec := { name := "fnWords", vars := ["loop.example/g00283/impl.errNone"], fn := fun _ => fun
  | [d, g1] => { results := [.lit (.bool false)], args := [d], vars := [g1] }
  | _ => none }
def FnWordsWrongFalsely : Prop := fnWordsRow.holds Tryd.pinned (OpenSpec.ofChange fnWordsWrong)

/-- 'laws.FnExactGetNum': WHATEVER THE INPUT: true; the input reads as it did. -/
def fnExactGetNumSpec : ChangeSpec := { name := "fnExactGetNum", vars := ["loop.example/g00283/impl.errNone"], fn := fun _ => fun
  | [d1, d2, g1] => { results := [.lit (.bool true)], args := [d1, d2], vars := [g1] }
  | _ => none }
def fnExactGetNumRow : OpenClaim := { program := "ytfomgkkiaklpfaadoor", sum := "593dbede80be10c59a3965024886345d0cc4aab3a5f91a54d5c6a47a289d001a", func := "loop.example/g00283/laws.FnExactGetNum", spec := "fnExactGetNum", unfollowed := true, recurses := true, named := ["loop.example/g00283/impl.errNone"], ifaces := true, apart := false, laid := [("loop.example/g00283/impl.errNone", laid_loop_example_g00283_impl_errNone)] }
def FnExactGetNumSaid : Prop := fnExactGetNumRow.holds Tryd.pinned (OpenSpec.ofChange fnExactGetNumSpec)

/-- ITS FALSE NEIGHBOUR: 'it returns false'. Refute it at one input. -/
def fnExactGetNumWrong : ChangeSpec := { name := "fnExactGetNum", vars := ["loop.example/g00283/impl.errNone"], fn := fun _ => fun
  | [d1, d2, g1] => { results := [.lit (.bool false)], args := [d1, d2], vars := [g1] }
  | _ => none }
def FnExactGetNumWrongFalsely : Prop := fnExactGetNumRow.holds Tryd.pinned (OpenSpec.ofChange fnExactGetNumWrong)

/-- 'laws.FnExactGetWord': WHATEVER THE INPUT: true; the input reads as it did. -/
def fnExactGetWordSpec : ChangeSpec := { name := "fnExactGetWord", vars := ["loop.example/g00283/impl.errNone"], fn := fun _ => fun
  | [d1, d2, g1] => { results := [.lit (.bool true)], args := [d1, d2], vars := [g1] }
  | _ => none }
def fnExactGetWordRow : OpenClaim := { program := "ytfomgkkiaklpfaadoor", sum := "593dbede80be10c59a3965024886345d0cc4aab3a5f91a54d5c6a47a289d001a", func := "loop.example/g00283/laws.FnExactGetWord", spec := "fnExactGetWord", unfollowed := true, recurses := true, named := ["loop.example/g00283/impl.errNone"], ifaces := true, apart := false, laid := [("loop.example/g00283/impl.errNone", laid_loop_example_g00283_impl_errNone)] }
def FnExactGetWordSaid : Prop := fnExactGetWordRow.holds Tryd.pinned (OpenSpec.ofChange fnExactGetWordSpec)

/-- ITS FALSE NEIGHBOUR: 'it returns false'. Refute it at one input. -/
def fnExactGetWordWrong : ChangeSpec := { name := "fnExactGetWord", vars := ["loop.example/g00283/impl.errNone"], fn := fun _ => fun
  | [d1, d2, g1] => { results := [.lit (.bool false)], args := [d1, d2], vars := [g1] }
  | _ => none }
def FnExactGetWordWrongFalsely : Prop := fnExactGetWordRow.holds Tryd.pinned (OpenSpec.ofChange fnExactGetWordWrong)

/-- 'laws.FnExactGetText': WHATEVER THE INPUT: true; the input reads as it did. -/
def fnExactGetTextSpec : ChangeSpec := { name := "fnExactGetText", vars := ["loop.example/g00283/impl.errNone"], fn := fun _ => fun
  | [d1, d2, g1] => { results := [.lit (.bool true)], args := [d1, d2], vars := [g1] }
  | _ => none }
def fnExactGetTextRow : OpenClaim := { program := "ytfomgkkiaklpfaadoor", sum := "593dbede80be10c59a3965024886345d0cc4aab3a5f91a54d5c6a47a289d001a", func := "loop.example/g00283/laws.FnExactGetText", spec := "fnExactGetText", unfollowed := true, recurses := true, named := ["loop.example/g00283/impl.errNone"], ifaces := true, apart := false, laid := [("loop.example/g00283/impl.errNone", laid_loop_example_g00283_impl_errNone)] }
def FnExactGetTextSaid : Prop := fnExactGetTextRow.holds Tryd.pinned (OpenSpec.ofChange fnExactGetTextSpec)

/-- ITS FALSE NEIGHBOUR: 'it returns false'. Refute it at one input. -/
def fnExactGetTextWrong : ChangeSpec := { name := "fnExactGetText", vars := ["loop.example/g00283/impl.errNone"], fn := fun _ => fun
  | [d1, d2, g1] => { results := [.lit (.bool false)], args := [d1, d2], vars := [g1] }
  | _ => none }
def FnExactGetTextWrongFalsely : Prop := fnExactGetTextRow.holds Tryd.pinned (OpenSpec.ofChange fnExactGetTextWrong)

/- THE SECOND FORM. 'bulk': how many values and letters a reading holds, each counted each time it is reached (what is shared counts as often as it is met; a slice's spare places count too). A statement '..UptoSaid' is the law's where the arguments, and the package variables that the reading takes, are together of bulk at most 1048576: NARROWER than '..Said'. Prove '..Said' where nothing that the law and all that it calls make is longer than what came in: it says more and counts as full. Else prove '..UptoSaid'. A law counts once. -/
mutual
def uptoBulk {H : Type} : DataW H → Nat
  | .lit (.string bytes) => bytes.length + 1
  | .lit _ => 1
  | .nil => 1
  | .ptr d => uptoBulk d + 1
  | .slice elems spare => uptoBulkAll elems + uptoBulkAll spare + 1
  | .agg parts => uptoBulkAll parts + 1
  | .iface _ d => uptoBulk d + 1
  | .map entries => uptoBulkEntries entries + 1
  | .held _ => 1
def uptoBulkAll {H : Type} : List (DataW H) → Nat
  | [] => 0
  | d :: r => uptoBulk d + uptoBulkAll r
def uptoBulkEntries {H : Type} : List (Lit × DataW H) → Nat
  | [] => 0
  | x :: r => uptoBulkEntry x + uptoBulkEntries r
def uptoBulkEntry {H : Type} : Lit × DataW H → Nat
  | (.string bytes, d) => bytes.length + uptoBulk d + 1
  | (_, d) => uptoBulk d + 1
 end
def uptoSmall : (H : Type) → List (DataW H) → Bool := fun _ ds => decide (uptoBulkAll ds ≤ 1048576)
def OpenSpec.upto (s : _root_.Go.ChangeSpec) : _root_.Go.OpenSpec := { _root_.Go.OpenSpec.ofChange s with cond := some uptoSmall }

/-- 'laws.FnNums', WHERE WHAT IT READS IS OF BULK AT MOST 1048576: true; the input reads as it did. -/
def fnNumsUptoRow : OpenClaim := { program := "ytfomgkkiaklpfaadoor", sum := "593dbede80be10c59a3965024886345d0cc4aab3a5f91a54d5c6a47a289d001a", func := "loop.example/g00283/laws.FnNums", spec := "fnNums", unfollowed := true, recurses := true, named := ["loop.example/g00283/impl.errNone"], ifaces := true, apart := false, laid := [("loop.example/g00283/impl.errNone", laid_loop_example_g00283_impl_errNone)], narrowed := true }
def FnNumsUptoSaid : Prop := fnNumsUptoRow.holds Tryd.pinned (OpenSpec.upto fnNumsSpec)

/-- 'laws.FnWords', WHERE WHAT IT READS IS OF BULK AT MOST 1048576: true; the input reads as it did. -/
def fnWordsUptoRow : OpenClaim := { program := "ytfomgkkiaklpfaadoor", sum := "593dbede80be10c59a3965024886345d0cc4aab3a5f91a54d5c6a47a289d001a", func := "loop.example/g00283/laws.FnWords", spec := "fnWords", unfollowed := true, recurses := true, named := ["loop.example/g00283/impl.errNone"], ifaces := true, apart := false, laid := [("loop.example/g00283/impl.errNone", laid_loop_example_g00283_impl_errNone)], narrowed := true }
def FnWordsUptoSaid : Prop := fnWordsUptoRow.holds Tryd.pinned (OpenSpec.upto fnWordsSpec)

/-- 'laws.FnExactGetNum', WHERE WHAT IT READS IS OF BULK AT MOST 1048576: true; the input reads as it did. -/
def fnExactGetNumUptoRow : OpenClaim := { program := "ytfomgkkiaklpfaadoor", sum := "593dbede80be10c59a3965024886345d0cc4aab3a5f91a54d5c6a47a289d001a", func := "loop.example/g00283/laws.FnExactGetNum", spec := "fnExactGetNum", unfollowed := true, recurses := true, named := ["loop.example/g00283/impl.errNone"], ifaces := true, apart := false, laid := [("loop.example/g00283/impl.errNone", laid_loop_example_g00283_impl_errNone)], narrowed := true }
def FnExactGetNumUptoSaid : Prop := fnExactGetNumUptoRow.holds Tryd.pinned (OpenSpec.upto fnExactGetNumSpec)

/-- 'laws.FnExactGetWord', WHERE WHAT IT READS IS OF BULK AT MOST 1048576: true; the input reads as it did. -/
def fnExactGetWordUptoRow : OpenClaim := { program := "ytfomgkkiaklpfaadoor", sum := "593dbede80be10c59a3965024886345d0cc4aab3a5f91a54d5c6a47a289d001a", func := "loop.example/g00283/laws.FnExactGetWord", spec := "fnExactGetWord", unfollowed := true, recurses := true, named := ["loop.example/g00283/impl.errNone"], ifaces := true, apart := false, laid := [("loop.example/g00283/impl.errNone", laid_loop_example_g00283_impl_errNone)], narrowed := true }
def FnExactGetWordUptoSaid : Prop := fnExactGetWordUptoRow.holds Tryd.pinned (OpenSpec.upto fnExactGetWordSpec)

/-- 'laws.FnExactGetText', WHERE WHAT IT READS IS OF BULK AT MOST 1048576: true; the input reads as it did. -/
def fnExactGetTextUptoRow : OpenClaim := { program := "ytfomgkkiaklpfaadoor", sum := "593dbede80be10c59a3965024886345d0cc4aab3a5f91a54d5c6a47a289d001a", func := "loop.example/g00283/laws.FnExactGetText", spec := "fnExactGetText", unfollowed := true, recurses := true, named := ["loop.example/g00283/impl.errNone"], ifaces := true, apart := false, laid := [("loop.example/g00283/impl.errNone", laid_loop_example_g00283_impl_errNone)], narrowed := true }
def FnExactGetTextUptoSaid : Prop := fnExactGetTextUptoRow.holds Tryd.pinned (OpenSpec.upto fnExactGetTextSpec)

end Rows
end Go.Proofs.YtfomgkkiaklpfaaDoor
