/-
  DERIVED. GIVEN WITH THE SEED: THE CARDS: each row of YtlbbnaihhagfdaaDoorRows.lean that lists a variable, with what it lists TIED to the program's text (the seventh form; the later family's looks); each row that meets fmt, with fmt's text TOLD by the authors' own Lean function (tested against real Go, not proved from fmt's source: count such statements apart). THE CARD IS WHAT COUNTS. Prove the row's statement (the work); the ties are given (YtlbbnaihhagfdaaDoorTie.lean); close each card by the builder's one call (the guide's Derived/Test/ToyasCard.lean, 'card_holds'). Laid BY PROGRAM, IN A SANDBOX (cutbox-door.mjs). By AI agents, Wed Nov 11 2026. No macro, syntax, notation, axiom, sorry.
-/
import Derived.Test.YtlbbnaihhagfdaaDoorRows
import GoSem.ClaimSeven
namespace Go.Proofs.YtlbbnaihhagfdaaDoor
namespace Rows

/-- THE TIED CARD OF 'sporranlaw16.JournalTwice'. -/
def journalTwiceCard : Claim7 := { stood := { row := journalTwiceRow, standIns := [], harness := (true, "a9081dc2cf90c7d2d0c1bfc5e7b82ea123fcfa11a7312d3afabf125d61788f2d"), looks := true }, kinds := [], alts := [], laidByText := true, laidKinds := [.data, .data], laidTests := true, laidLooks := .later }
def JournalTwiceCardSaid : Prop := Claim7.holds Tryd.pinned (.plain (OpenSpec.ofChange journalTwiceSpec)) journalTwiceCard

/-- THE TIED CARD OF 'sporranlaw16.JournalPuts'. -/
def journalPutsCard : Claim7 := { stood := { row := journalPutsRow, standIns := [], harness := (true, "a9081dc2cf90c7d2d0c1bfc5e7b82ea123fcfa11a7312d3afabf125d61788f2d"), looks := true }, kinds := [], alts := [], laidByText := true, laidKinds := [.data, .data], laidTests := true, laidLooks := .later }
def JournalPutsCardSaid : Prop := Claim7.holds Tryd.pinned (.plain (OpenSpec.ofChange journalPutsSpec)) journalPutsCard

/-- THE TIED CARD OF 'sporranlaw16.JournalHalts'. -/
def journalHaltsCard : Claim7 := { stood := { row := journalHaltsRow, standIns := [], harness := (true, "a9081dc2cf90c7d2d0c1bfc5e7b82ea123fcfa11a7312d3afabf125d61788f2d"), looks := true }, kinds := [], alts := [], laidByText := true, laidKinds := [.data, .data], laidTests := true, laidLooks := .later }
def JournalHaltsCardSaid : Prop := Claim7.holds Tryd.pinned (.plain (OpenSpec.ofChange journalHaltsSpec)) journalHaltsCard

/-- THE TIED CARD OF 'sporranlaw16.JournalNobody'. -/
def journalNobodyCard : Claim7 := { stood := { row := journalNobodyRow, standIns := [], harness := (true, "a9081dc2cf90c7d2d0c1bfc5e7b82ea123fcfa11a7312d3afabf125d61788f2d"), looks := true }, kinds := [], alts := [], laidByText := true, laidKinds := [.data, .data], laidTests := true, laidLooks := .later }
def JournalNobodyCardSaid : Prop := Claim7.holds Tryd.pinned (.plain (OpenSpec.ofChange journalNobodySpec)) journalNobodyCard

/-- THE SECOND FORM's CARD OF 'sporranlaw16.JournalTwice'. -/
def journalTwiceUptoCard : Claim7 := { stood := { row := journalTwiceUptoRow, standIns := [], harness := (true, "a9081dc2cf90c7d2d0c1bfc5e7b82ea123fcfa11a7312d3afabf125d61788f2d"), looks := true }, kinds := [], alts := [], laidByText := true, laidKinds := [.data, .data], laidTests := true, laidLooks := .later }
def JournalTwiceUptoCardSaid : Prop := Claim7.holds Tryd.pinned (.plain (OpenSpec.upto journalTwiceSpec)) journalTwiceUptoCard

/-- THE SECOND FORM's CARD OF 'sporranlaw16.JournalPuts'. -/
def journalPutsUptoCard : Claim7 := { stood := { row := journalPutsUptoRow, standIns := [], harness := (true, "a9081dc2cf90c7d2d0c1bfc5e7b82ea123fcfa11a7312d3afabf125d61788f2d"), looks := true }, kinds := [], alts := [], laidByText := true, laidKinds := [.data, .data], laidTests := true, laidLooks := .later }
def JournalPutsUptoCardSaid : Prop := Claim7.holds Tryd.pinned (.plain (OpenSpec.upto journalPutsSpec)) journalPutsUptoCard

/-- THE SECOND FORM's CARD OF 'sporranlaw16.JournalHalts'. -/
def journalHaltsUptoCard : Claim7 := { stood := { row := journalHaltsUptoRow, standIns := [], harness := (true, "a9081dc2cf90c7d2d0c1bfc5e7b82ea123fcfa11a7312d3afabf125d61788f2d"), looks := true }, kinds := [], alts := [], laidByText := true, laidKinds := [.data, .data], laidTests := true, laidLooks := .later }
def JournalHaltsUptoCardSaid : Prop := Claim7.holds Tryd.pinned (.plain (OpenSpec.upto journalHaltsSpec)) journalHaltsUptoCard

/-- THE SECOND FORM's CARD OF 'sporranlaw16.JournalNobody'. -/
def journalNobodyUptoCard : Claim7 := { stood := { row := journalNobodyUptoRow, standIns := [], harness := (true, "a9081dc2cf90c7d2d0c1bfc5e7b82ea123fcfa11a7312d3afabf125d61788f2d"), looks := true }, kinds := [], alts := [], laidByText := true, laidKinds := [.data, .data], laidTests := true, laidLooks := .later }
def JournalNobodyUptoCardSaid : Prop := Claim7.holds Tryd.pinned (.plain (OpenSpec.upto journalNobodySpec)) journalNobodyUptoCard
end Rows
end Go.Proofs.YtlbbnaihhagfdaaDoor
