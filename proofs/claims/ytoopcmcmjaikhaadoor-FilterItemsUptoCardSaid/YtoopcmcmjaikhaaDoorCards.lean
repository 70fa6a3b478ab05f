/-
  DERIVED. GIVEN WITH THE SEED: THE CARDS: each row of YtoopcmcmjaikhaaDoorRows.lean that lists a variable, with what it lists TIED to the program's text (the seventh form; the later family's looks); each row that meets fmt, with fmt's text TOLD by the authors' own Lean function (tested against real Go, not proved from fmt's source: count such statements apart). THE CARD IS WHAT COUNTS. Prove the row's statement (the work); the ties are given (YtoopcmcmjaikhaaDoorTie.lean); close each card by the builder's one call (the guide's Derived/Test/ToyasCard.lean, 'card_holds'). Laid BY PROGRAM, IN A SANDBOX (cutbox-door.mjs). By AI agents, Wed Nov 11 2026. No macro, syntax, notation, axiom, sorry.
-/
import Derived.Test.YtoopcmcmjaikhaaDoorRows
import GoSem.ClaimSeven
namespace Go.Proofs.YtoopcmcmjaikhaaDoor
namespace Rows

/-- THE TIED CARD OF 'sporranlaw24.AuditLeads'. -/
def auditLeadsCard : Claim7 := { stood := { row := auditLeadsRow, standIns := [], harness := (true, "0199c94cb409754160ff1d9dd08a3fca2d5985d0812adfda39cfc780a5302024"), looks := false }, kinds := [], alts := [], laidByText := true, laidKinds := [.data, .data], laidTests := true, laidLooks := .later }
def AuditLeadsCardSaid : Prop := Claim7.holds Tryd.pinned (.plain (OpenSpec.ofChange auditLeadsSpec)) auditLeadsCard

/-- THE TIED CARD OF 'sporranlaw12.FilterBuilds'. -/
def filterBuildsCard : Claim7 := { stood := { row := filterBuildsRow, standIns := [], harness := (true, "0199c94cb409754160ff1d9dd08a3fca2d5985d0812adfda39cfc780a5302024"), looks := false }, kinds := [], alts := [], laidByText := true, laidKinds := [.data], laidTests := true, laidLooks := .later }
def FilterBuildsCardSaid : Prop := Claim7.holds Tryd.pinned (.plain (OpenSpec.ofChange filterBuildsSpec)) filterBuildsCard

/-- THE TIED CARD OF 'sporranlaw12.FilterItems'. -/
def filterItemsCard : Claim7 := { stood := { row := filterItemsRow, standIns := [], harness := (true, "0199c94cb409754160ff1d9dd08a3fca2d5985d0812adfda39cfc780a5302024"), looks := false }, kinds := [], alts := [], laidByText := true, laidKinds := [.data], laidTests := true, laidLooks := .later }
def FilterItemsCardSaid : Prop := Claim7.holds Tryd.pinned (.plain (OpenSpec.ofChange filterItemsSpec)) filterItemsCard

/-- THE TIED CARD OF 'sporranlaw12.FilterHolds'. -/
def filterHoldsCard : Claim7 := { stood := { row := filterHoldsRow, standIns := [], harness := (true, "0199c94cb409754160ff1d9dd08a3fca2d5985d0812adfda39cfc780a5302024"), looks := false }, kinds := [], alts := [], laidByText := true, laidKinds := [.data], laidTests := true, laidLooks := .later }
def FilterHoldsCardSaid : Prop := Claim7.holds Tryd.pinned (.plain (OpenSpec.ofChange filterHoldsSpec)) filterHoldsCard

/-- THE TIED CARD OF 'sporranlaw12.FilterOrders'. -/
def filterOrdersCard : Claim7 := { stood := { row := filterOrdersRow, standIns := [], harness := (true, "0199c94cb409754160ff1d9dd08a3fca2d5985d0812adfda39cfc780a5302024"), looks := false }, kinds := [], alts := [], laidByText := true, laidKinds := [.data], laidTests := true, laidLooks := .later }
def FilterOrdersCardSaid : Prop := Claim7.holds Tryd.pinned (.plain (OpenSpec.ofChange filterOrdersSpec)) filterOrdersCard

/-- THE TIED CARD OF 'sporranlaw12.FilterRises'. -/
def filterRisesCard : Claim7 := { stood := { row := filterRisesRow, standIns := [], harness := (true, "0199c94cb409754160ff1d9dd08a3fca2d5985d0812adfda39cfc780a5302024"), looks := false }, kinds := [], alts := [], laidByText := true, laidKinds := [.data], laidTests := true, laidLooks := .later }
def FilterRisesCardSaid : Prop := Claim7.holds Tryd.pinned (.plain (OpenSpec.ofChange filterRisesSpec)) filterRisesCard

/-- THE SECOND FORM's CARD OF 'sporranlaw24.AuditLeads'. -/
def auditLeadsUptoCard : Claim7 := { stood := { row := auditLeadsUptoRow, standIns := [], harness := (true, "0199c94cb409754160ff1d9dd08a3fca2d5985d0812adfda39cfc780a5302024"), looks := false }, kinds := [], alts := [], laidByText := true, laidKinds := [.data, .data], laidTests := true, laidLooks := .later }
def AuditLeadsUptoCardSaid : Prop := Claim7.holds Tryd.pinned (.plain (OpenSpec.upto auditLeadsSpec)) auditLeadsUptoCard

/-- THE SECOND FORM's CARD OF 'sporranlaw12.FilterBuilds'. -/
def filterBuildsUptoCard : Claim7 := { stood := { row := filterBuildsUptoRow, standIns := [], harness := (true, "0199c94cb409754160ff1d9dd08a3fca2d5985d0812adfda39cfc780a5302024"), looks := false }, kinds := [], alts := [], laidByText := true, laidKinds := [.data], laidTests := true, laidLooks := .later }
def FilterBuildsUptoCardSaid : Prop := Claim7.holds Tryd.pinned (.plain (OpenSpec.upto filterBuildsSpec)) filterBuildsUptoCard

/-- THE SECOND FORM's CARD OF 'sporranlaw12.FilterItems'. -/
def filterItemsUptoCard : Claim7 := { stood := { row := filterItemsUptoRow, standIns := [], harness := (true, "0199c94cb409754160ff1d9dd08a3fca2d5985d0812adfda39cfc780a5302024"), looks := false }, kinds := [], alts := [], laidByText := true, laidKinds := [.data], laidTests := true, laidLooks := .later }
def FilterItemsUptoCardSaid : Prop := Claim7.holds Tryd.pinned (.plain (OpenSpec.upto filterItemsSpec)) filterItemsUptoCard

/-- THE SECOND FORM's CARD OF 'sporranlaw12.FilterHolds'. -/
def filterHoldsUptoCard : Claim7 := { stood := { row := filterHoldsUptoRow, standIns := [], harness := (true, "0199c94cb409754160ff1d9dd08a3fca2d5985d0812adfda39cfc780a5302024"), looks := false }, kinds := [], alts := [], laidByText := true, laidKinds := [.data], laidTests := true, laidLooks := .later }
def FilterHoldsUptoCardSaid : Prop := Claim7.holds Tryd.pinned (.plain (OpenSpec.upto filterHoldsSpec)) filterHoldsUptoCard

/-- THE SECOND FORM's CARD OF 'sporranlaw12.FilterOrders'. -/
def filterOrdersUptoCard : Claim7 := { stood := { row := filterOrdersUptoRow, standIns := [], harness := (true, "0199c94cb409754160ff1d9dd08a3fca2d5985d0812adfda39cfc780a5302024"), looks := false }, kinds := [], alts := [], laidByText := true, laidKinds := [.data], laidTests := true, laidLooks := .later }
def FilterOrdersUptoCardSaid : Prop := Claim7.holds Tryd.pinned (.plain (OpenSpec.upto filterOrdersSpec)) filterOrdersUptoCard

/-- THE SECOND FORM's CARD OF 'sporranlaw12.FilterRises'. -/
def filterRisesUptoCard : Claim7 := { stood := { row := filterRisesUptoRow, standIns := [], harness := (true, "0199c94cb409754160ff1d9dd08a3fca2d5985d0812adfda39cfc780a5302024"), looks := false }, kinds := [], alts := [], laidByText := true, laidKinds := [.data], laidTests := true, laidLooks := .later }
def FilterRisesUptoCardSaid : Prop := Claim7.holds Tryd.pinned (.plain (OpenSpec.upto filterRisesSpec)) filterRisesUptoCard
end Rows
end Go.Proofs.YtoopcmcmjaikhaaDoor
