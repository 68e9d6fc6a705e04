/-
  DERIVED. GIVEN WITH THE SEED: THE CARDS: each row of YtgegmocgbjklkaaDoorRows.lean that lists a variable, with what it lists TIED to the program's text (the seventh form; the later family's looks); each row that meets fmt, with fmt's text TOLD by the authors' own Lean function (tested against real Go, not proved from fmt's source: count such statements apart). THE CARD IS WHAT COUNTS. Prove the row's statement (the work); the ties are given (YtgegmocgbjklkaaDoorTie.lean); close each card by the builder's one call (the guide's Derived/Test/ToyasCard.lean, 'card_holds'). Laid BY PROGRAM, IN A SANDBOX (cutbox-door.mjs). By AI agents, Wed Nov 11 2026. No macro, syntax, notation, axiom, sorry.
-/
import Derived.Test.YtgegmocgbjklkaaDoorRows
import GoSem.ClaimSeven
namespace Go.Proofs.YtgegmocgbjklkaaDoor
namespace Rows

/-- THE TIED CARD OF 'laws.FnConsts'. -/
def fnConstsCard : Claim7 := { stood := { row := fnConstsRow, standIns := [], harness := (true, "cbdce714cdd6be1b11c5a8f781d207e035b267704d9b363f13bd77256415f4e5"), looks := false }, kinds := [], alts := [], laidByText := true, laidKinds := [.sentinel], laidTests := true, laidLooks := .later }
def FnConstsCardSaid : Prop := Claim7.holds Tryd.pinned (.plain (OpenSpec.ofChange fnConstsSpec)) fnConstsCard

/-- THE TIED CARD OF 'laws.FnExactConstOf'. -/
def fnExactConstOfCard : Claim7 := { stood := { row := fnExactConstOfRow, standIns := [], harness := (true, "cbdce714cdd6be1b11c5a8f781d207e035b267704d9b363f13bd77256415f4e5"), looks := false }, kinds := [], alts := [], laidByText := true, laidKinds := [.sentinel], laidTests := true, laidLooks := .later }
def FnExactConstOfCardSaid : Prop := Claim7.holds Tryd.pinned (.plain (OpenSpec.ofChange fnExactConstOfSpec)) fnExactConstOfCard

/-- THE SECOND FORM's CARD OF 'laws.FnConsts'. -/
def fnConstsUptoCard : Claim7 := { stood := { row := fnConstsUptoRow, standIns := [], harness := (true, "cbdce714cdd6be1b11c5a8f781d207e035b267704d9b363f13bd77256415f4e5"), looks := false }, kinds := [], alts := [], laidByText := true, laidKinds := [.sentinel], laidTests := true, laidLooks := .later }
def FnConstsUptoCardSaid : Prop := Claim7.holds Tryd.pinned (.plain (OpenSpec.upto fnConstsSpec)) fnConstsUptoCard

/-- THE SECOND FORM's CARD OF 'laws.FnExactConstOf'. -/
def fnExactConstOfUptoCard : Claim7 := { stood := { row := fnExactConstOfUptoRow, standIns := [], harness := (true, "cbdce714cdd6be1b11c5a8f781d207e035b267704d9b363f13bd77256415f4e5"), looks := false }, kinds := [], alts := [], laidByText := true, laidKinds := [.sentinel], laidTests := true, laidLooks := .later }
def FnExactConstOfUptoCardSaid : Prop := Claim7.holds Tryd.pinned (.plain (OpenSpec.upto fnExactConstOfSpec)) fnExactConstOfUptoCard
end Rows
end Go.Proofs.YtgegmocgbjklkaaDoor
