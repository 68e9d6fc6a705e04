/-
  No cell of these rows narrows 'for every input' (looked for: loops, veiled, ifaces, maps, wideKeys, modest, calm, conditions, laid).
  DERIVED. THE GIVEN ROWS OF THIS SEAT. 6 by the template 'for every input the law returns true; each argument reads behind the call as it read before'; 0 by the template 'total and deterministic' (their statements: YtofnpgheppgcaaaTotals.lean).
  GIVEN WITH THE SEED: the statements are not yours to turn. If you find one false, say at which input.
  Laid BY PROGRAM, IN A SANDBOX (cutbox-rows.mjs): the forced cells as the released guide's own fill.sh prints them over the translation 8559fb3b07d2773a… (all of the seat's roots in one cut). By AI agents, Wed Nov 11 2026. No macro, syntax, notation, axiom, sorry.
-/
import Derived.Test.YtofnpgheppgcaaaChecked
import GoSem.Claim
import GoSem.ClaimJoined
import GoSem.ClaimMapViews
import Derived.JoinedTies
import Derived.KernelRfl
namespace Go.Proofs.Ytofnpgheppgcaaa
/- THE CELL 'sum', in the pinned program and in every row, IS THE sha256 OF THE DUMP (.gsa) THAT YtofnpgheppgcaaaProg.lean LOADS. Nothing in Lean hashes anything: it is a label: what it is worth is what the hold of that sum in a sandbox is worth. -/
noncomputable def Try.pinned : Pinned := { name := "ytofnpgheppgcaaa", sum := "8559fb3b07d2773a744748dfb125edb68fd3ed93af96f14d51cce2fa5d48f7ce", checked := Try.checked }
namespace Rows
def none {H : Type} : Left H := { results := [], args := [] }

/-- 'laws.FnExactCopiesOk': WHATEVER THE INPUT: true; the input reads as it did. -/
def fnExactCopiesOkSpec : ChangeSpec := { name := "fnExactCopiesOk", fn := fun _ => fun
  | [d1, d2] => { results := [.lit (.bool true)], args := [d1, d2] }
  | _ => none }
def fnExactCopiesOkRow : OpenClaim := { program := "ytofnpgheppgcaaa", sum := "8559fb3b07d2773a744748dfb125edb68fd3ed93af96f14d51cce2fa5d48f7ce", func := "loop.example/g00283/laws.FnExactCopiesOk", spec := "fnExactCopiesOk", unfollowed := true, recurses := true, apart := false }
def FnExactCopiesOkSaid : Prop := fnExactCopiesOkRow.holds Try.pinned (OpenSpec.ofChange fnExactCopiesOkSpec)

/-- ITS FALSE NEIGHBOUR: 'it returns false'. Refute it at one input. -/
def fnExactCopiesOkWrong : ChangeSpec := { name := "fnExactCopiesOk", fn := fun _ => fun
  | [d1, d2] => { results := [.lit (.bool false)], args := [d1, d2] }
  | _ => none }
def FnExactCopiesOkWrongFalsely : Prop := fnExactCopiesOkRow.holds Try.pinned (OpenSpec.ofChange fnExactCopiesOkWrong)

/-- 'laws.FnExactCopyOf': WHATEVER THE INPUT: true; the input reads as it did. -/
def fnExactCopyOfSpec : ChangeSpec := { name := "fnExactCopyOf", fn := fun _ => fun
  | [d1, d2] => { results := [.lit (.bool true)], args := [d1, d2] }
  | _ => none }
def fnExactCopyOfRow : OpenClaim := { program := "ytofnpgheppgcaaa", sum := "8559fb3b07d2773a744748dfb125edb68fd3ed93af96f14d51cce2fa5d48f7ce", func := "loop.example/g00283/laws.FnExactCopyOf", spec := "fnExactCopyOf", unfollowed := true, recurses := true, apart := false }
def FnExactCopyOfSaid : Prop := fnExactCopyOfRow.holds Try.pinned (OpenSpec.ofChange fnExactCopyOfSpec)

/-- ITS FALSE NEIGHBOUR: 'it returns false'. Refute it at one input. -/
def fnExactCopyOfWrong : ChangeSpec := { name := "fnExactCopyOf", fn := fun _ => fun
  | [d1, d2] => { results := [.lit (.bool false)], args := [d1, d2] }
  | _ => none }
def FnExactCopyOfWrongFalsely : Prop := fnExactCopyOfRow.holds Try.pinned (OpenSpec.ofChange fnExactCopyOfWrong)

/-- 'laws.FnExactReadCopy': WHATEVER THE INPUT: true; the input reads as it did. -/
def fnExactReadCopySpec : ChangeSpec := { name := "fnExactReadCopy", fn := fun _ => fun
  | [d1, d2, d3] => { results := [.lit (.bool true)], args := [d1, d2, d3] }
  | _ => none }
def fnExactReadCopyRow : OpenClaim := { program := "ytofnpgheppgcaaa", sum := "8559fb3b07d2773a744748dfb125edb68fd3ed93af96f14d51cce2fa5d48f7ce", func := "loop.example/g00283/laws.FnExactReadCopy", spec := "fnExactReadCopy", unfollowed := true, recurses := true, apart := false }
def FnExactReadCopySaid : Prop := fnExactReadCopyRow.holds Try.pinned (OpenSpec.ofChange fnExactReadCopySpec)

/-- ITS FALSE NEIGHBOUR: 'it returns false'. Refute it at one input. -/
def fnExactReadCopyWrong : ChangeSpec := { name := "fnExactReadCopy", fn := fun _ => fun
  | [d1, d2, d3] => { results := [.lit (.bool false)], args := [d1, d2, d3] }
  | _ => none }
def FnExactReadCopyWrongFalsely : Prop := fnExactReadCopyRow.holds Try.pinned (OpenSpec.ofChange fnExactReadCopyWrong)

/-- 'laws.FnExactWriteCopy': WHATEVER THE INPUT: true; the input reads as it did. -/
def fnExactWriteCopySpec : ChangeSpec := { name := "fnExactWriteCopy", fn := fun _ => fun
  | [d1, d2, d3, d4] => { results := [.lit (.bool true)], args := [d1, d2, d3, d4] }
  | _ => none }
def fnExactWriteCopyRow : OpenClaim := { program := "ytofnpgheppgcaaa", sum := "8559fb3b07d2773a744748dfb125edb68fd3ed93af96f14d51cce2fa5d48f7ce", func := "loop.example/g00283/laws.FnExactWriteCopy", spec := "fnExactWriteCopy", unfollowed := true, recurses := true, apart := false }
def FnExactWriteCopySaid : Prop := fnExactWriteCopyRow.holds Try.pinned (OpenSpec.ofChange fnExactWriteCopySpec)

/-- ITS FALSE NEIGHBOUR: 'it returns false'. Refute it at one input. -/
def fnExactWriteCopyWrong : ChangeSpec := { name := "fnExactWriteCopy", fn := fun _ => fun
  | [d1, d2, d3, d4] => { results := [.lit (.bool false)], args := [d1, d2, d3, d4] }
  | _ => none }
def FnExactWriteCopyWrongFalsely : Prop := fnExactWriteCopyRow.holds Try.pinned (OpenSpec.ofChange fnExactWriteCopyWrong)

/-- 'laws.FnExactDirtyOf': WHATEVER THE INPUT: true; the input reads as it did. -/
def fnExactDirtyOfSpec : ChangeSpec := { name := "fnExactDirtyOf", fn := fun _ => fun
  | [d] => { results := [.lit (.bool true)], args := [d] }
  | _ => none }
def fnExactDirtyOfRow : OpenClaim := { program := "ytofnpgheppgcaaa", sum := "8559fb3b07d2773a744748dfb125edb68fd3ed93af96f14d51cce2fa5d48f7ce", func := "loop.example/g00283/laws.FnExactDirtyOf", spec := "fnExactDirtyOf", apart := false }
def FnExactDirtyOfSaid : Prop := fnExactDirtyOfRow.holds Try.pinned (OpenSpec.ofChange fnExactDirtyOfSpec)

/-- ITS FALSE NEIGHBOUR: 'it returns false'. Refute it at one input. -/
def fnExactDirtyOfWrong : ChangeSpec := { name := "fnExactDirtyOf", fn := fun _ => fun
  | [d] => { results := [.lit (.bool false)], args := [d] }
  | _ => none }
def FnExactDirtyOfWrongFalsely : Prop := fnExactDirtyOfRow.holds Try.pinned (OpenSpec.ofChange fnExactDirtyOfWrong)

/-- 'laws.FnExactCleanCopy': WHATEVER THE INPUT: true; the input reads as it did. -/
def fnExactCleanCopySpec : ChangeSpec := { name := "fnExactCleanCopy", fn := fun _ => fun
  | [d1, d2] => { results := [.lit (.bool true)], args := [d1, d2] }
  | _ => none }
def fnExactCleanCopyRow : OpenClaim := { program := "ytofnpgheppgcaaa", sum := "8559fb3b07d2773a744748dfb125edb68fd3ed93af96f14d51cce2fa5d48f7ce", func := "loop.example/g00283/laws.FnExactCleanCopy", spec := "fnExactCleanCopy", unfollowed := true, recurses := true, apart := false }
def FnExactCleanCopySaid : Prop := fnExactCleanCopyRow.holds Try.pinned (OpenSpec.ofChange fnExactCleanCopySpec)

/-- ITS FALSE NEIGHBOUR: 'it returns false'. Refute it at one input. -/
def fnExactCleanCopyWrong : ChangeSpec := { name := "fnExactCleanCopy", fn := fun _ => fun
  | [d1, d2] => { results := [.lit (.bool false)], args := [d1, d2] }
  | _ => none }
def FnExactCleanCopyWrongFalsely : Prop := fnExactCleanCopyRow.holds Try.pinned (OpenSpec.ofChange fnExactCleanCopyWrong)

/- THE SECOND FORM. 'bulk': how many values and letters a reading holds, each counted each time it is reached (what is shared counts as often as it is met; a slice's spare places count too). A statement '..UptoSaid' is the law's where the arguments, and the package variables that the reading takes, are together of bulk at most 1048576: NARROWER than '..Said'. Prove '..Said' where nothing that the law and all that it calls make is longer than what came in: it says more and counts as full. Else prove '..UptoSaid'. A law counts once. -/
mutual
def uptoBulk {H : Type} : DataW H → Nat
  | .lit (.string bytes) => bytes.length + 1
  | .lit _ => 1
  | .nil => 1
  | .ptr d => uptoBulk d + 1
  | .slice elems spare => uptoBulkAll elems + uptoBulkAll spare + 1
  | .agg parts => uptoBulkAll parts + 1
  | .iface _ d => uptoBulk d + 1
  | .map entries => uptoBulkEntries entries + 1
  | .held _ => 1
def uptoBulkAll {H : Type} : List (DataW H) → Nat
  | [] => 0
  | d :: r => uptoBulk d + uptoBulkAll r
def uptoBulkEntries {H : Type} : List (Lit × DataW H) → Nat
  | [] => 0
  | x :: r => uptoBulkEntry x + uptoBulkEntries r
def uptoBulkEntry {H : Type} : Lit × DataW H → Nat
  | (.string bytes, d) => bytes.length + uptoBulk d + 1
  | (_, d) => uptoBulk d + 1
 end
def uptoSmall : (H : Type) → List (DataW H) → Bool := fun _ ds => decide (uptoBulkAll ds ≤ 1048576)
def OpenSpec.upto (s : _root_.Go.ChangeSpec) : _root_.Go.OpenSpec := { _root_.Go.OpenSpec.ofChange s with cond := some uptoSmall }

/-- 'laws.FnExactCopiesOk', WHERE WHAT IT READS IS OF BULK AT MOST 1048576: true; the input reads as it did. -/
def fnExactCopiesOkUptoRow : OpenClaim := { program := "ytofnpgheppgcaaa", sum := "8559fb3b07d2773a744748dfb125edb68fd3ed93af96f14d51cce2fa5d48f7ce", func := "loop.example/g00283/laws.FnExactCopiesOk", spec := "fnExactCopiesOk", unfollowed := true, recurses := true, apart := false, narrowed := true }
def FnExactCopiesOkUptoSaid : Prop := fnExactCopiesOkUptoRow.holds Try.pinned (OpenSpec.upto fnExactCopiesOkSpec)

/-- 'laws.FnExactCopyOf', WHERE WHAT IT READS IS OF BULK AT MOST 1048576: true; the input reads as it did. -/
def fnExactCopyOfUptoRow : OpenClaim := { program := "ytofnpgheppgcaaa", sum := "8559fb3b07d2773a744748dfb125edb68fd3ed93af96f14d51cce2fa5d48f7ce", func := "loop.example/g00283/laws.FnExactCopyOf", spec := "fnExactCopyOf", unfollowed := true, recurses := true, apart := false, narrowed := true }
def FnExactCopyOfUptoSaid : Prop := fnExactCopyOfUptoRow.holds Try.pinned (OpenSpec.upto fnExactCopyOfSpec)

/-- 'laws.FnExactReadCopy', WHERE WHAT IT READS IS OF BULK AT MOST 1048576: true; the input reads as it did. -/
def fnExactReadCopyUptoRow : OpenClaim := { program := "ytofnpgheppgcaaa", sum := "8559fb3b07d2773a744748dfb125edb68fd3ed93af96f14d51cce2fa5d48f7ce", func := "loop.example/g00283/laws.FnExactReadCopy", spec := "fnExactReadCopy", unfollowed := true, recurses := true, apart := false, narrowed := true }
def FnExactReadCopyUptoSaid : Prop := fnExactReadCopyUptoRow.holds Try.pinned (OpenSpec.upto fnExactReadCopySpec)

/-- 'laws.FnExactWriteCopy', WHERE WHAT IT READS IS OF BULK AT MOST 1048576: true; the input reads as it did. -/
def fnExactWriteCopyUptoRow : OpenClaim := { program := "ytofnpgheppgcaaa", sum := "8559fb3b07d2773a744748dfb125edb68fd3ed93af96f14d51cce2fa5d48f7ce", func := "loop.example/g00283/laws.FnExactWriteCopy", spec := "fnExactWriteCopy", unfollowed := true, recurses := true, apart := false, narrowed := true }
def FnExactWriteCopyUptoSaid : Prop := fnExactWriteCopyUptoRow.holds Try.pinned (OpenSpec.upto fnExactWriteCopySpec)

/-- 'laws.FnExactDirtyOf', WHERE WHAT IT READS IS OF BULK AT MOST 1048576: true; the input reads as it did. -/
def fnExactDirtyOfUptoRow : OpenClaim := { program := "ytofnpgheppgcaaa", sum := "8559fb3b07d2773a744748dfb125edb68fd3ed93af96f14d51cce2fa5d48f7ce", func := "loop.example/g00283/laws.FnExactDirtyOf", spec := "fnExactDirtyOf", apart := false, narrowed := true }
def FnExactDirtyOfUptoSaid : Prop := fnExactDirtyOfUptoRow.holds Try.pinned (OpenSpec.upto fnExactDirtyOfSpec)

/-- 'laws.FnExactCleanCopy', WHERE WHAT IT READS IS OF BULK AT MOST 1048576: true; the input reads as it did. -/
def fnExactCleanCopyUptoRow : OpenClaim := { program := "ytofnpgheppgcaaa", sum := "8559fb3b07d2773a744748dfb125edb68fd3ed93af96f14d51cce2fa5d48f7ce", func := "loop.example/g00283/laws.FnExactCleanCopy", spec := "fnExactCleanCopy", unfollowed := true, recurses := true, apart := false, narrowed := true }
def FnExactCleanCopyUptoSaid : Prop := fnExactCleanCopyUptoRow.holds Try.pinned (OpenSpec.upto fnExactCleanCopySpec)

end Rows
end Go.Proofs.Ytofnpgheppgcaaa
