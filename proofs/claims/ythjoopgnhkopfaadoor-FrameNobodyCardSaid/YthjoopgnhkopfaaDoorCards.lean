/-
  DERIVED. GIVEN WITH THE SEED: THE CARDS: each row of YthjoopgnhkopfaaDoorRows.lean that lists a variable, with what it lists TIED to the program's text (the seventh form; the later family's looks); each row that meets fmt, with fmt's text TOLD by the authors' own Lean function (tested against real Go, not proved from fmt's source: count such statements apart). THE CARD IS WHAT COUNTS. Prove the row's statement (the work); the ties are given (YthjoopgnhkopfaaDoorTie.lean); close each card by the builder's one call (the guide's Derived/Test/ToyasCard.lean, 'card_holds'). Laid BY PROGRAM, IN A SANDBOX (cutbox-door.mjs). By AI agents, Wed Nov 11 2026. No macro, syntax, notation, axiom, sorry.
-/
import Derived.Test.YthjoopgnhkopfaaDoorRows
import GoSem.ClaimSeven
namespace Go.Proofs.YthjoopgnhkopfaaDoor
namespace Rows

/-- THE TIED CARD OF 'sporranlaw08.BlockWrites'. -/
def blockWritesCard : Claim7 := { stood := { row := blockWritesRow, standIns := [], harness := (true, "8b007ec6b4685376d20415a98b64e0492654737d0938b9bf786b72599ea20e36"), looks := true }, kinds := [], alts := [], laidByText := true, laidKinds := [.data, .data], laidTests := true, laidLooks := .later }
def BlockWritesCardSaid : Prop := Claim7.holds Tryd.pinned (.plain (OpenSpec.ofChange blockWritesSpec)) blockWritesCard

/-- THE TIED CARD OF 'sporranlaw08.BlockChecks'. -/
def blockChecksCard : Claim7 := { stood := { row := blockChecksRow, standIns := [], harness := (true, "8b007ec6b4685376d20415a98b64e0492654737d0938b9bf786b72599ea20e36"), looks := true }, kinds := [], alts := [], laidByText := true, laidKinds := [.data, .data], laidTests := true, laidLooks := .later }
def BlockChecksCardSaid : Prop := Claim7.holds Tryd.pinned (.plain (OpenSpec.ofChange blockChecksSpec)) blockChecksCard

/-- THE TIED CARD OF 'sporranlaw09.FrameLives'. -/
def frameLivesCard : Claim7 := { stood := { row := frameLivesRow, standIns := [], harness := (true, "8b007ec6b4685376d20415a98b64e0492654737d0938b9bf786b72599ea20e36"), looks := true }, kinds := [], alts := [], laidByText := true, laidKinds := [.data, .data, .data, .pinned], laidTests := true, laidLooks := .later }
def FrameLivesCardSaid : Prop := Claim7.holds Tryd.pinned (.plain (OpenSpec.ofChange frameLivesSpec)) frameLivesCard

/-- THE TIED CARD OF 'sporranlaw09.FrameBack'. -/
def frameBackCard : Claim7 := { stood := { row := frameBackRow, standIns := [], harness := (true, "8b007ec6b4685376d20415a98b64e0492654737d0938b9bf786b72599ea20e36"), looks := true }, kinds := [], alts := [], laidByText := true, laidKinds := [.data, .data, .data, .pinned], laidTests := true, laidLooks := .later }
def FrameBackCardSaid : Prop := Claim7.holds Tryd.pinned (.plain (OpenSpec.ofChange frameBackSpec)) frameBackCard

/-- THE TIED CARD OF 'sporranlaw09.FrameFaults'. -/
def frameFaultsCard : Claim7 := { stood := { row := frameFaultsRow, standIns := [], harness := (true, "8b007ec6b4685376d20415a98b64e0492654737d0938b9bf786b72599ea20e36"), looks := true }, kinds := [], alts := [], laidByText := true, laidKinds := [.data, .data, .data, .pinned], laidTests := true, laidLooks := .later }
def FrameFaultsCardSaid : Prop := Claim7.holds Tryd.pinned (.plain (OpenSpec.ofChange frameFaultsSpec)) frameFaultsCard

/-- THE TIED CARD OF 'sporranlaw09.FrameSums'. -/
def frameSumsCard : Claim7 := { stood := { row := frameSumsRow, standIns := [], harness := (true, "8b007ec6b4685376d20415a98b64e0492654737d0938b9bf786b72599ea20e36"), looks := true }, kinds := [], alts := [], laidByText := true, laidKinds := [.data, .data, .data, .pinned], laidTests := true, laidLooks := .later }
def FrameSumsCardSaid : Prop := Claim7.holds Tryd.pinned (.plain (OpenSpec.ofChange frameSumsSpec)) frameSumsCard

/-- THE TIED CARD OF 'sporranlaw09.FrameNobody'. -/
def frameNobodyCard : Claim7 := { stood := { row := frameNobodyRow, standIns := [], harness := (true, "8b007ec6b4685376d20415a98b64e0492654737d0938b9bf786b72599ea20e36"), looks := true }, kinds := [], alts := [], laidByText := true, laidKinds := [.data, .data, .data, .pinned], laidTests := true, laidLooks := .later }
def FrameNobodyCardSaid : Prop := Claim7.holds Tryd.pinned (.plain (OpenSpec.ofChange frameNobodySpec)) frameNobodyCard

/-- THE TIED CARD OF 'sporranlaw10.MessageReads'. -/
def messageReadsCard : Claim7 := { stood := { row := messageReadsRow, standIns := [], harness := (true, "8b007ec6b4685376d20415a98b64e0492654737d0938b9bf786b72599ea20e36"), looks := true }, kinds := [], alts := [], laidByText := true, laidKinds := [.data], laidTests := true, laidLooks := .later }
def MessageReadsCardSaid : Prop := Claim7.holds Tryd.pinned (.plain (OpenSpec.ofChange messageReadsSpec)) messageReadsCard

/-- THE TIED CARD OF 'sporranlaw10.MessageBlocks'. -/
def messageBlocksCard : Claim7 := { stood := { row := messageBlocksRow, standIns := [], harness := (true, "8b007ec6b4685376d20415a98b64e0492654737d0938b9bf786b72599ea20e36"), looks := true }, kinds := [], alts := [], laidByText := true, laidKinds := [.data], laidTests := true, laidLooks := .later }
def MessageBlocksCardSaid : Prop := Claim7.holds Tryd.pinned (.plain (OpenSpec.ofChange messageBlocksSpec)) messageBlocksCard

/-- THE SECOND FORM's CARD OF 'sporranlaw08.BlockWrites'. -/
def blockWritesUptoCard : Claim7 := { stood := { row := blockWritesUptoRow, standIns := [], harness := (true, "8b007ec6b4685376d20415a98b64e0492654737d0938b9bf786b72599ea20e36"), looks := true }, kinds := [], alts := [], laidByText := true, laidKinds := [.data, .data], laidTests := true, laidLooks := .later }
def BlockWritesUptoCardSaid : Prop := Claim7.holds Tryd.pinned (.plain (OpenSpec.upto blockWritesSpec)) blockWritesUptoCard

/-- THE SECOND FORM's CARD OF 'sporranlaw08.BlockChecks'. -/
def blockChecksUptoCard : Claim7 := { stood := { row := blockChecksUptoRow, standIns := [], harness := (true, "8b007ec6b4685376d20415a98b64e0492654737d0938b9bf786b72599ea20e36"), looks := true }, kinds := [], alts := [], laidByText := true, laidKinds := [.data, .data], laidTests := true, laidLooks := .later }
def BlockChecksUptoCardSaid : Prop := Claim7.holds Tryd.pinned (.plain (OpenSpec.upto blockChecksSpec)) blockChecksUptoCard

/-- THE SECOND FORM's CARD OF 'sporranlaw09.FrameLives'. -/
def frameLivesUptoCard : Claim7 := { stood := { row := frameLivesUptoRow, standIns := [], harness := (true, "8b007ec6b4685376d20415a98b64e0492654737d0938b9bf786b72599ea20e36"), looks := true }, kinds := [], alts := [], laidByText := true, laidKinds := [.data, .data, .data, .pinned], laidTests := true, laidLooks := .later }
def FrameLivesUptoCardSaid : Prop := Claim7.holds Tryd.pinned (.plain (OpenSpec.upto frameLivesSpec)) frameLivesUptoCard

/-- THE SECOND FORM's CARD OF 'sporranlaw09.FrameBack'. -/
def frameBackUptoCard : Claim7 := { stood := { row := frameBackUptoRow, standIns := [], harness := (true, "8b007ec6b4685376d20415a98b64e0492654737d0938b9bf786b72599ea20e36"), looks := true }, kinds := [], alts := [], laidByText := true, laidKinds := [.data, .data, .data, .pinned], laidTests := true, laidLooks := .later }
def FrameBackUptoCardSaid : Prop := Claim7.holds Tryd.pinned (.plain (OpenSpec.upto frameBackSpec)) frameBackUptoCard

/-- THE SECOND FORM's CARD OF 'sporranlaw09.FrameFaults'. -/
def frameFaultsUptoCard : Claim7 := { stood := { row := frameFaultsUptoRow, standIns := [], harness := (true, "8b007ec6b4685376d20415a98b64e0492654737d0938b9bf786b72599ea20e36"), looks := true }, kinds := [], alts := [], laidByText := true, laidKinds := [.data, .data, .data, .pinned], laidTests := true, laidLooks := .later }
def FrameFaultsUptoCardSaid : Prop := Claim7.holds Tryd.pinned (.plain (OpenSpec.upto frameFaultsSpec)) frameFaultsUptoCard

/-- THE SECOND FORM's CARD OF 'sporranlaw09.FrameSums'. -/
def frameSumsUptoCard : Claim7 := { stood := { row := frameSumsUptoRow, standIns := [], harness := (true, "8b007ec6b4685376d20415a98b64e0492654737d0938b9bf786b72599ea20e36"), looks := true }, kinds := [], alts := [], laidByText := true, laidKinds := [.data, .data, .data, .pinned], laidTests := true, laidLooks := .later }
def FrameSumsUptoCardSaid : Prop := Claim7.holds Tryd.pinned (.plain (OpenSpec.upto frameSumsSpec)) frameSumsUptoCard

/-- THE SECOND FORM's CARD OF 'sporranlaw09.FrameNobody'. -/
def frameNobodyUptoCard : Claim7 := { stood := { row := frameNobodyUptoRow, standIns := [], harness := (true, "8b007ec6b4685376d20415a98b64e0492654737d0938b9bf786b72599ea20e36"), looks := true }, kinds := [], alts := [], laidByText := true, laidKinds := [.data, .data, .data, .pinned], laidTests := true, laidLooks := .later }
def FrameNobodyUptoCardSaid : Prop := Claim7.holds Tryd.pinned (.plain (OpenSpec.upto frameNobodySpec)) frameNobodyUptoCard

/-- THE SECOND FORM's CARD OF 'sporranlaw10.MessageReads'. -/
def messageReadsUptoCard : Claim7 := { stood := { row := messageReadsUptoRow, standIns := [], harness := (true, "8b007ec6b4685376d20415a98b64e0492654737d0938b9bf786b72599ea20e36"), looks := true }, kinds := [], alts := [], laidByText := true, laidKinds := [.data], laidTests := true, laidLooks := .later }
def MessageReadsUptoCardSaid : Prop := Claim7.holds Tryd.pinned (.plain (OpenSpec.upto messageReadsSpec)) messageReadsUptoCard

/-- THE SECOND FORM's CARD OF 'sporranlaw10.MessageBlocks'. -/
def messageBlocksUptoCard : Claim7 := { stood := { row := messageBlocksUptoRow, standIns := [], harness := (true, "8b007ec6b4685376d20415a98b64e0492654737d0938b9bf786b72599ea20e36"), looks := true }, kinds := [], alts := [], laidByText := true, laidKinds := [.data], laidTests := true, laidLooks := .later }
def MessageBlocksUptoCardSaid : Prop := Claim7.holds Tryd.pinned (.plain (OpenSpec.upto messageBlocksSpec)) messageBlocksUptoCard
end Rows
end Go.Proofs.YthjoopgnhkopfaaDoor
