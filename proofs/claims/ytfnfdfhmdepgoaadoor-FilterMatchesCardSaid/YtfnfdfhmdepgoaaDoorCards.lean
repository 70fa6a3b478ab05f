/-
  DERIVED. GIVEN WITH THE SEED: THE CARDS: each row of YtfnfdfhmdepgoaaDoorRows.lean that lists a variable, with what it lists TIED to the program's text (the seventh form; the later family's looks); each row that meets fmt, with fmt's text TOLD by the authors' own Lean function (tested against real Go, not proved from fmt's source: count such statements apart). THE CARD IS WHAT COUNTS. Prove the row's statement (the work); the ties are given (YtfnfdfhmdepgoaaDoorTie.lean); close each card by the builder's one call (the guide's Derived/Test/ToyasCard.lean, 'card_holds'). Laid BY PROGRAM, IN A SANDBOX (cutbox-door.mjs). By AI agents, Wed Nov 11 2026. No macro, syntax, notation, axiom, sorry.
-/
import Derived.Test.YtfnfdfhmdepgoaaDoorRows
import GoSem.ClaimSeven
namespace Go.Proofs.YtfnfdfhmdepgoaaDoor
namespace Rows

/-- THE TIED CARD OF 'sporranlaw12.FilterBuilds'. -/
def filterBuildsCard : Claim7 := { stood := { row := filterBuildsRow, standIns := [], harness := (true, "0026defc136159f87352b3cac9c0b6996331b533e9e9fb2788c60476b3d9b763"), looks := false }, kinds := [], alts := [], laidByText := true, laidKinds := [.data], laidTests := true, laidLooks := .later }
def FilterBuildsCardSaid : Prop := Claim7.holds Tryd.pinned (.plain (OpenSpec.ofChange filterBuildsSpec)) filterBuildsCard

/-- THE TIED CARD OF 'sporranlaw12.FilterItems'. -/
def filterItemsCard : Claim7 := { stood := { row := filterItemsRow, standIns := [], harness := (true, "0026defc136159f87352b3cac9c0b6996331b533e9e9fb2788c60476b3d9b763"), looks := false }, kinds := [], alts := [], laidByText := true, laidKinds := [.data], laidTests := true, laidLooks := .later }
def FilterItemsCardSaid : Prop := Claim7.holds Tryd.pinned (.plain (OpenSpec.ofChange filterItemsSpec)) filterItemsCard

/-- THE TIED CARD OF 'sporranlaw12.FilterMatches'. -/
def filterMatchesCard : Claim7 := { stood := { row := filterMatchesRow, standIns := [], harness := (true, "0026defc136159f87352b3cac9c0b6996331b533e9e9fb2788c60476b3d9b763"), looks := false }, kinds := [], alts := [], laidByText := true, laidKinds := [.data], laidTests := true, laidLooks := .later }
def FilterMatchesCardSaid : Prop := Claim7.holds Tryd.pinned (.plain (OpenSpec.ofChange filterMatchesSpec)) filterMatchesCard

/-- THE TIED CARD OF 'sporranlaw12.FilterHolds'. -/
def filterHoldsCard : Claim7 := { stood := { row := filterHoldsRow, standIns := [], harness := (true, "0026defc136159f87352b3cac9c0b6996331b533e9e9fb2788c60476b3d9b763"), looks := false }, kinds := [], alts := [], laidByText := true, laidKinds := [.data], laidTests := true, laidLooks := .later }
def FilterHoldsCardSaid : Prop := Claim7.holds Tryd.pinned (.plain (OpenSpec.ofChange filterHoldsSpec)) filterHoldsCard

/-- THE TIED CARD OF 'sporranlaw12.FilterOrders'. -/
def filterOrdersCard : Claim7 := { stood := { row := filterOrdersRow, standIns := [], harness := (true, "0026defc136159f87352b3cac9c0b6996331b533e9e9fb2788c60476b3d9b763"), looks := false }, kinds := [], alts := [], laidByText := true, laidKinds := [.data], laidTests := true, laidLooks := .later }
def FilterOrdersCardSaid : Prop := Claim7.holds Tryd.pinned (.plain (OpenSpec.ofChange filterOrdersSpec)) filterOrdersCard

/-- THE TIED CARD OF 'sporranlaw12.FilterRises'. -/
def filterRisesCard : Claim7 := { stood := { row := filterRisesRow, standIns := [], harness := (true, "0026defc136159f87352b3cac9c0b6996331b533e9e9fb2788c60476b3d9b763"), looks := false }, kinds := [], alts := [], laidByText := true, laidKinds := [.data], laidTests := true, laidLooks := .later }
def FilterRisesCardSaid : Prop := Claim7.holds Tryd.pinned (.plain (OpenSpec.ofChange filterRisesSpec)) filterRisesCard

/-- THE SECOND FORM's CARD OF 'sporranlaw12.FilterBuilds'. -/
def filterBuildsUptoCard : Claim7 := { stood := { row := filterBuildsUptoRow, standIns := [], harness := (true, "0026defc136159f87352b3cac9c0b6996331b533e9e9fb2788c60476b3d9b763"), looks := false }, kinds := [], alts := [], laidByText := true, laidKinds := [.data], laidTests := true, laidLooks := .later }
def FilterBuildsUptoCardSaid : Prop := Claim7.holds Tryd.pinned (.plain (OpenSpec.upto filterBuildsSpec)) filterBuildsUptoCard

/-- THE SECOND FORM's CARD OF 'sporranlaw12.FilterItems'. -/
def filterItemsUptoCard : Claim7 := { stood := { row := filterItemsUptoRow, standIns := [], harness := (true, "0026defc136159f87352b3cac9c0b6996331b533e9e9fb2788c60476b3d9b763"), looks := false }, kinds := [], alts := [], laidByText := true, laidKinds := [.data], laidTests := true, laidLooks := .later }
def FilterItemsUptoCardSaid : Prop := Claim7.holds Tryd.pinned (.plain (OpenSpec.upto filterItemsSpec)) filterItemsUptoCard

/-- THE SECOND FORM's CARD OF 'sporranlaw12.FilterMatches'. -/
def filterMatchesUptoCard : Claim7 := { stood := { row := filterMatchesUptoRow, standIns := [], harness := (true, "0026defc136159f87352b3cac9c0b6996331b533e9e9fb2788c60476b3d9b763"), looks := false }, kinds := [], alts := [], laidByText := true, laidKinds := [.data], laidTests := true, laidLooks := .later }
def FilterMatchesUptoCardSaid : Prop := Claim7.holds Tryd.pinned (.plain (OpenSpec.upto filterMatchesSpec)) filterMatchesUptoCard

/-- THE SECOND FORM's CARD OF 'sporranlaw12.FilterHolds'. -/
def filterHoldsUptoCard : Claim7 := { stood := { row := filterHoldsUptoRow, standIns := [], harness := (true, "0026defc136159f87352b3cac9c0b6996331b533e9e9fb2788c60476b3d9b763"), looks := false }, kinds := [], alts := [], laidByText := true, laidKinds := [.data], laidTests := true, laidLooks := .later }
def FilterHoldsUptoCardSaid : Prop := Claim7.holds Tryd.pinned (.plain (OpenSpec.upto filterHoldsSpec)) filterHoldsUptoCard

/-- THE SECOND FORM's CARD OF 'sporranlaw12.FilterOrders'. -/
def filterOrdersUptoCard : Claim7 := { stood := { row := filterOrdersUptoRow, standIns := [], harness := (true, "0026defc136159f87352b3cac9c0b6996331b533e9e9fb2788c60476b3d9b763"), looks := false }, kinds := [], alts := [], laidByText := true, laidKinds := [.data], laidTests := true, laidLooks := .later }
def FilterOrdersUptoCardSaid : Prop := Claim7.holds Tryd.pinned (.plain (OpenSpec.upto filterOrdersSpec)) filterOrdersUptoCard

/-- THE SECOND FORM's CARD OF 'sporranlaw12.FilterRises'. -/
def filterRisesUptoCard : Claim7 := { stood := { row := filterRisesUptoRow, standIns := [], harness := (true, "0026defc136159f87352b3cac9c0b6996331b533e9e9fb2788c60476b3d9b763"), looks := false }, kinds := [], alts := [], laidByText := true, laidKinds := [.data], laidTests := true, laidLooks := .later }
def FilterRisesUptoCardSaid : Prop := Claim7.holds Tryd.pinned (.plain (OpenSpec.upto filterRisesSpec)) filterRisesUptoCard
end Rows
end Go.Proofs.YtfnfdfhmdepgoaaDoor
