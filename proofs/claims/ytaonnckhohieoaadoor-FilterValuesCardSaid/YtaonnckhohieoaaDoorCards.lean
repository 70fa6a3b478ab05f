/-
  DERIVED. GIVEN WITH THE SEED: THE CARDS: each row of YtaonnckhohieoaaDoorRows.lean that lists a variable, with what it lists TIED to the program's text (the seventh form; the later family's looks); each row that meets fmt, with fmt's text TOLD by the authors' own Lean function (tested against real Go, not proved from fmt's source: count such statements apart). THE CARD IS WHAT COUNTS. Prove the row's statement (the work); the ties are given (YtaonnckhohieoaaDoorTie.lean); close each card by the builder's one call (the guide's Derived/Test/ToyasCard.lean, 'card_holds'). Laid BY PROGRAM, IN A SANDBOX (cutbox-door.mjs). By AI agents, Wed Nov 11 2026. No macro, syntax, notation, axiom, sorry.
-/
import Derived.Test.YtaonnckhohieoaaDoorRows
import GoSem.ClaimSeven
namespace Go.Proofs.YtaonnckhohieoaaDoor
namespace Rows

/-- THE TIED CARD OF 'sporranlaw12.FilterValues'. -/
def filterValuesCard : Claim7 := { stood := { row := filterValuesRow, standIns := [], harness := (true, "8178a8920832ddad5a44d137d8e19b620b80af962b6087f73e142a635fae903d"), looks := false }, kinds := [], alts := [], laidByText := true, laidKinds := [.data], laidTests := true, laidLooks := .later }
def FilterValuesCardSaid : Prop := Claim7.holds Tryd.pinned (.plain (OpenSpec.ofChange filterValuesSpec)) filterValuesCard

/-- THE SECOND FORM's CARD OF 'sporranlaw12.FilterValues'. -/
def filterValuesUptoCard : Claim7 := { stood := { row := filterValuesUptoRow, standIns := [], harness := (true, "8178a8920832ddad5a44d137d8e19b620b80af962b6087f73e142a635fae903d"), looks := false }, kinds := [], alts := [], laidByText := true, laidKinds := [.data], laidTests := true, laidLooks := .later }
def FilterValuesUptoCardSaid : Prop := Claim7.holds Tryd.pinned (.plain (OpenSpec.upto filterValuesSpec)) filterValuesUptoCard
end Rows
end Go.Proofs.YtaonnckhohieoaaDoor
