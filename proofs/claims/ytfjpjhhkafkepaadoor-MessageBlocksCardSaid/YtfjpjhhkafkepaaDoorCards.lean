/-
  DERIVED. GIVEN WITH THE SEED: THE CARDS: each row of YtfjpjhhkafkepaaDoorRows.lean that lists a variable, with what it lists TIED to the program's text (the seventh form; the later family's looks); each row that meets fmt, with fmt's text TOLD by the authors' own Lean function (tested against real Go, not proved from fmt's source: count such statements apart). THE CARD IS WHAT COUNTS. Prove the row's statement (the work); the ties are given (YtfjpjhhkafkepaaDoorTie.lean); close each card by the builder's one call (the guide's Derived/Test/ToyasCard.lean, 'card_holds'). Laid BY PROGRAM, IN A SANDBOX (cutbox-door.mjs). By AI agents, Wed Nov 11 2026. No macro, syntax, notation, axiom, sorry.
-/
import Derived.Test.YtfjpjhhkafkepaaDoorRows
import GoSem.ClaimSeven
namespace Go.Proofs.YtfjpjhhkafkepaaDoor
namespace Rows

/-- THE TIED CARD OF 'sporranlaw10.MessageBlocks'. -/
def messageBlocksCard : Claim7 := { stood := { row := messageBlocksRow, standIns := [], harness := (true, "2c0d02d069dc5d0e928de76a91c9113a44ccd7a112db7b49f73e72d78642f070"), looks := true }, kinds := [], alts := [], laidByText := true, laidKinds := [.data], laidTests := true, laidLooks := .later }
def MessageBlocksCardSaid : Prop := Claim7.holds Tryd.pinned (.plain (OpenSpec.ofChange messageBlocksSpec)) messageBlocksCard

/-- THE SECOND FORM's CARD OF 'sporranlaw10.MessageBlocks'. -/
def messageBlocksUptoCard : Claim7 := { stood := { row := messageBlocksUptoRow, standIns := [], harness := (true, "2c0d02d069dc5d0e928de76a91c9113a44ccd7a112db7b49f73e72d78642f070"), looks := true }, kinds := [], alts := [], laidByText := true, laidKinds := [.data], laidTests := true, laidLooks := .later }
def MessageBlocksUptoCardSaid : Prop := Claim7.holds Tryd.pinned (.plain (OpenSpec.upto messageBlocksSpec)) messageBlocksUptoCard
end Rows
end Go.Proofs.YtfjpjhhkafkepaaDoor
