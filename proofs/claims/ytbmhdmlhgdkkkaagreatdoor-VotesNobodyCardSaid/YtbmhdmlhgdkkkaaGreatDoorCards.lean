/-
  DERIVED. GIVEN WITH THE SEED: THE CARDS: each row of YtbmhdmlhgdkkkaaGreatDoorRows.lean that lists a variable, with what it lists TIED to the program's text (the seventh form; the later family's looks); each row that meets fmt, with fmt's text TOLD by the authors' own Lean function (tested against real Go, not proved from fmt's source: count such statements apart). THE CARD IS WHAT COUNTS. Prove the row's statement (the work); the ties are given (YtbmhdmlhgdkkkaaGreatDoorTie.lean); close each card by the builder's one call (the guide's Derived/Test/ToyasCard.lean, 'card_holds'). Laid BY PROGRAM, IN A SANDBOX (cutbox-door.mjs). By AI agents, Wed Nov 11 2026. No macro, syntax, notation, axiom, sorry.
-/
import Derived.Test.YtbmhdmlhgdkkkaaGreatDoorRows
import GoSem.ClaimSeven
namespace Go.Proofs.YtbmhdmlhgdkkkaaGreatDoor
namespace Rows

/-- THE TIED CARD OF 'sporranlaw18.VotesNobody'. -/
def votesNobodyCard : Claim7 := { stood := { row := votesNobodyRow, standIns := [], harness := (true, "3ef540fb5d67af04deb911816e28404898633f6d42dad980860b58ef5a3796d4"), looks := false }, kinds := [], alts := [], laidByText := true, laidKinds := [.data, .data, .data, .data, .data, .data], laidTests := true, laidLooks := .later }
def VotesNobodyCardSaid : Prop := Claim7.holds Tryz.pinned (.plain (OpenSpec.ofChange votesNobodySpec)) votesNobodyCard

/-- THE SECOND FORM's CARD OF 'sporranlaw18.VotesNobody'. -/
def votesNobodyUptoCard : Claim7 := { stood := { row := votesNobodyUptoRow, standIns := [], harness := (true, "3ef540fb5d67af04deb911816e28404898633f6d42dad980860b58ef5a3796d4"), looks := false }, kinds := [], alts := [], laidByText := true, laidKinds := [.data, .data, .data, .data, .data, .data], laidTests := true, laidLooks := .later }
def VotesNobodyUptoCardSaid : Prop := Claim7.holds Tryz.pinned (.plain (OpenSpec.upto votesNobodySpec)) votesNobodyUptoCard
end Rows
end Go.Proofs.YtbmhdmlhgdkkkaaGreatDoor
