/-
  DERIVED. GIVEN WITH THE SEED: THE CARDS: each row of YtbiobejfjhmccaaDoorRows.lean that lists a variable, with what it lists TIED to the program's text (the seventh form; the later family's looks); each row that meets fmt, with fmt's text TOLD by the authors' own Lean function (tested against real Go, not proved from fmt's source: count such statements apart). THE CARD IS WHAT COUNTS. Prove the row's statement (the work); the ties are given (YtbiobejfjhmccaaDoorTie.lean); close each card by the builder's one call (the guide's Derived/Test/ToyasCard.lean, 'card_holds'). Laid BY PROGRAM, IN A SANDBOX (cutbox-door.mjs). By AI agents, Wed Nov 11 2026. No macro, syntax, notation, axiom, sorry.
-/
import Derived.Test.YtbiobejfjhmccaaDoorRows
import GoSem.ClaimSeven
namespace Go.Proofs.YtbiobejfjhmccaaDoor
namespace Rows

/-- THE TIED CARD OF 'sporranlaw01.ShaSums'. -/
def shaSumsCard : Claim7 := { stood := { row := shaSumsRow, standIns := [], harness := (true, "8bf501e6a99cedb24af6d1d4e089c80a65d2267ee2cfdf8541ccf78d031baa76"), looks := false }, kinds := [], alts := [], laidByText := true, laidKinds := [.data, .data], laidTests := true, laidLooks := .later }
def ShaSumsCardSaid : Prop := Claim7.holds Tryd.pinned (.plain (OpenSpec.ofChange shaSumsSpec)) shaSumsCard

/-- THE TIED CARD OF 'sporranlaw01.ShaWrites'. -/
def shaWritesCard : Claim7 := { stood := { row := shaWritesRow, standIns := [], harness := (true, "8bf501e6a99cedb24af6d1d4e089c80a65d2267ee2cfdf8541ccf78d031baa76"), looks := false }, kinds := [], alts := [], laidByText := true, laidKinds := [.data, .data], laidTests := true, laidLooks := .later }
def ShaWritesCardSaid : Prop := Claim7.holds Tryd.pinned (.plain (OpenSpec.ofChange shaWritesSpec)) shaWritesCard

/-- THE TIED CARD OF 'sporranlaw01.ShaBorders'. -/
def shaBordersCard : Claim7 := { stood := { row := shaBordersRow, standIns := [], harness := (true, "8bf501e6a99cedb24af6d1d4e089c80a65d2267ee2cfdf8541ccf78d031baa76"), looks := false }, kinds := [], alts := [], laidByText := true, laidKinds := [.data, .data], laidTests := true, laidLooks := .later }
def ShaBordersCardSaid : Prop := Claim7.holds Tryd.pinned (.plain (OpenSpec.ofChange shaBordersSpec)) shaBordersCard

/-- THE TIED CARD OF 'sporranlaw01.ShaTwice'. -/
def shaTwiceCard : Claim7 := { stood := { row := shaTwiceRow, standIns := [], harness := (true, "8bf501e6a99cedb24af6d1d4e089c80a65d2267ee2cfdf8541ccf78d031baa76"), looks := false }, kinds := [], alts := [], laidByText := true, laidKinds := [.data, .data], laidTests := true, laidLooks := .later }
def ShaTwiceCardSaid : Prop := Claim7.holds Tryd.pinned (.plain (OpenSpec.ofChange shaTwiceSpec)) shaTwiceCard

/-- THE TIED CARD OF 'sporranlaw01.ShaNobody'. -/
def shaNobodyCard : Claim7 := { stood := { row := shaNobodyRow, standIns := [], harness := (true, "8bf501e6a99cedb24af6d1d4e089c80a65d2267ee2cfdf8541ccf78d031baa76"), looks := false }, kinds := [], alts := [], laidByText := true, laidKinds := [.data, .data], laidTests := true, laidLooks := .later }
def ShaNobodyCardSaid : Prop := Claim7.holds Tryd.pinned (.plain (OpenSpec.ofChange shaNobodySpec)) shaNobodyCard

/-- THE TIED CARD OF 'sporranlaw02.SipSums'. -/
def sipSumsCard : Claim7 := { stood := { row := sipSumsRow, standIns := [], harness := (true, "8bf501e6a99cedb24af6d1d4e089c80a65d2267ee2cfdf8541ccf78d031baa76"), looks := false }, kinds := [], alts := [], laidByText := true, laidKinds := [.data], laidTests := true, laidLooks := .later }
def SipSumsCardSaid : Prop := Claim7.holds Tryd.pinned (.plain (OpenSpec.ofChange sipSumsSpec)) sipSumsCard

/-- THE TIED CARD OF 'sporranlaw02.SipEnds'. -/
def sipEndsCard : Claim7 := { stood := { row := sipEndsRow, standIns := [], harness := (true, "8bf501e6a99cedb24af6d1d4e089c80a65d2267ee2cfdf8541ccf78d031baa76"), looks := false }, kinds := [], alts := [], laidByText := true, laidKinds := [.data], laidTests := true, laidLooks := .later }
def SipEndsCardSaid : Prop := Claim7.holds Tryd.pinned (.plain (OpenSpec.ofChange sipEndsSpec)) sipEndsCard

/-- THE SECOND FORM's CARD OF 'sporranlaw01.ShaSums'. -/
def shaSumsUptoCard : Claim7 := { stood := { row := shaSumsUptoRow, standIns := [], harness := (true, "8bf501e6a99cedb24af6d1d4e089c80a65d2267ee2cfdf8541ccf78d031baa76"), looks := false }, kinds := [], alts := [], laidByText := true, laidKinds := [.data, .data], laidTests := true, laidLooks := .later }
def ShaSumsUptoCardSaid : Prop := Claim7.holds Tryd.pinned (.plain (OpenSpec.upto shaSumsSpec)) shaSumsUptoCard

/-- THE SECOND FORM's CARD OF 'sporranlaw01.ShaWrites'. -/
def shaWritesUptoCard : Claim7 := { stood := { row := shaWritesUptoRow, standIns := [], harness := (true, "8bf501e6a99cedb24af6d1d4e089c80a65d2267ee2cfdf8541ccf78d031baa76"), looks := false }, kinds := [], alts := [], laidByText := true, laidKinds := [.data, .data], laidTests := true, laidLooks := .later }
def ShaWritesUptoCardSaid : Prop := Claim7.holds Tryd.pinned (.plain (OpenSpec.upto shaWritesSpec)) shaWritesUptoCard

/-- THE SECOND FORM's CARD OF 'sporranlaw01.ShaBorders'. -/
def shaBordersUptoCard : Claim7 := { stood := { row := shaBordersUptoRow, standIns := [], harness := (true, "8bf501e6a99cedb24af6d1d4e089c80a65d2267ee2cfdf8541ccf78d031baa76"), looks := false }, kinds := [], alts := [], laidByText := true, laidKinds := [.data, .data], laidTests := true, laidLooks := .later }
def ShaBordersUptoCardSaid : Prop := Claim7.holds Tryd.pinned (.plain (OpenSpec.upto shaBordersSpec)) shaBordersUptoCard

/-- THE SECOND FORM's CARD OF 'sporranlaw01.ShaTwice'. -/
def shaTwiceUptoCard : Claim7 := { stood := { row := shaTwiceUptoRow, standIns := [], harness := (true, "8bf501e6a99cedb24af6d1d4e089c80a65d2267ee2cfdf8541ccf78d031baa76"), looks := false }, kinds := [], alts := [], laidByText := true, laidKinds := [.data, .data], laidTests := true, laidLooks := .later }
def ShaTwiceUptoCardSaid : Prop := Claim7.holds Tryd.pinned (.plain (OpenSpec.upto shaTwiceSpec)) shaTwiceUptoCard

/-- THE SECOND FORM's CARD OF 'sporranlaw01.ShaNobody'. -/
def shaNobodyUptoCard : Claim7 := { stood := { row := shaNobodyUptoRow, standIns := [], harness := (true, "8bf501e6a99cedb24af6d1d4e089c80a65d2267ee2cfdf8541ccf78d031baa76"), looks := false }, kinds := [], alts := [], laidByText := true, laidKinds := [.data, .data], laidTests := true, laidLooks := .later }
def ShaNobodyUptoCardSaid : Prop := Claim7.holds Tryd.pinned (.plain (OpenSpec.upto shaNobodySpec)) shaNobodyUptoCard

/-- THE SECOND FORM's CARD OF 'sporranlaw02.SipSums'. -/
def sipSumsUptoCard : Claim7 := { stood := { row := sipSumsUptoRow, standIns := [], harness := (true, "8bf501e6a99cedb24af6d1d4e089c80a65d2267ee2cfdf8541ccf78d031baa76"), looks := false }, kinds := [], alts := [], laidByText := true, laidKinds := [.data], laidTests := true, laidLooks := .later }
def SipSumsUptoCardSaid : Prop := Claim7.holds Tryd.pinned (.plain (OpenSpec.upto sipSumsSpec)) sipSumsUptoCard

/-- THE SECOND FORM's CARD OF 'sporranlaw02.SipEnds'. -/
def sipEndsUptoCard : Claim7 := { stood := { row := sipEndsUptoRow, standIns := [], harness := (true, "8bf501e6a99cedb24af6d1d4e089c80a65d2267ee2cfdf8541ccf78d031baa76"), looks := false }, kinds := [], alts := [], laidByText := true, laidKinds := [.data], laidTests := true, laidLooks := .later }
def SipEndsUptoCardSaid : Prop := Claim7.holds Tryd.pinned (.plain (OpenSpec.upto sipEndsSpec)) sipEndsUptoCard
end Rows
end Go.Proofs.YtbiobejfjhmccaaDoor
