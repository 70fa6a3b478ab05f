/-
  NARROWER THAN 'FOR EVERY INPUT', by the rows' own cells (each row's printed sentence says how): AddressTexts: laid · AddressParses: laid · AddressBack: laid · AddressTurned: laid · AddressGreat: laid.
  DERIVED. THE GIVEN ROWS OF THIS SEAT. 5 by the template 'for every input the law returns true; each argument reads behind the call as it read before'; 0 by the template 'total and deterministic' (their statements: YtghjgkgfpblijaaDoorTotals.lean).
  GIVEN WITH THE SEED: the statements are not yours to turn. If you find one false, say at which input.
  Laid BY PROGRAM, IN A SANDBOX (cutbox-rows.mjs): the forced cells as the released guide's own fill.sh prints them over the translation b1afd35386f275a5… (all of the seat's roots in one cut). By AI agents, Wed Nov 11 2026. No macro, syntax, notation, axiom, sorry.
-/
import Derived.Test.YtghjgkgfpblijaaDoorChecked
import GoSem.PinnedTables
import GoSem.Claim
import GoSem.ClaimJoined
import GoSem.ClaimMapViews
import Derived.JoinedTies
import Derived.KernelRfl
namespace Go.Proofs.YtghjgkgfpblijaaDoor
/- THE CELL 'sum', in the pinned program and in every row, IS THE sha256 OF THE DUMP (.gsa) THAT YtghjgkgfpblijaaDoorProg.lean LOADS. Nothing in Lean hashes anything: it is a label: what it is worth is what the hold of that sum in a sandbox is worth. -/
noncomputable def Tryd.pinned : Pinned := { name := "ytghjgkgfpblijaadoor", sum := "b1afd35386f275a5ecc6fe8b6944a3e3c9c2b84c3d8d2cf69bf3f00a7daea3d0", checked := Tryd.checked }
namespace Rows
def none {H : Type} : Left H := { results := [], args := [] }

/- WHAT THE LISTED PACKAGE-LEVEL VARIABLES READ AS WHEN THE CALL BEGINS. Each datum BY PROGRAM (the guide's laid-datum.mjs) off the statement by which the dump's own 'gosem.cut.vars' lays the variable. In a bare row this is a premise. The card (YtghjgkgfpblijaaDoorCards.lean) ties it to the program's text. -/
def laid_sporran_sha_startWords {H : Type} : DataW H := .agg [.lit (.int .u32 1779033703), .lit (.int .u32 3144134277), .lit (.int .u32 1013904242), .lit (.int .u32 2773480762), .lit (.int .u32 1359893119), .lit (.int .u32 2600822924), .lit (.int .u32 528734635), .lit (.int .u32 1541459225)]
def laid_sporran_sha_roundWords {H : Type} : DataW H := .agg [.lit (.int .u32 1116352408), .lit (.int .u32 1899447441), .lit (.int .u32 3049323471), .lit (.int .u32 3921009573), .lit (.int .u32 961987163), .lit (.int .u32 1508970993), .lit (.int .u32 2453635748), .lit (.int .u32 2870763221), .lit (.int .u32 3624381080), .lit (.int .u32 310598401), .lit (.int .u32 607225278), .lit (.int .u32 1426881987), .lit (.int .u32 1925078388), .lit (.int .u32 2162078206), .lit (.int .u32 2614888103), .lit (.int .u32 3248222580), .lit (.int .u32 3835390401), .lit (.int .u32 4022224774), .lit (.int .u32 264347078), .lit (.int .u32 604807628), .lit (.int .u32 770255983), .lit (.int .u32 1249150122), .lit (.int .u32 1555081692), .lit (.int .u32 1996064986), .lit (.int .u32 2554220882), .lit (.int .u32 2821834349), .lit (.int .u32 2952996808), .lit (.int .u32 3210313671), .lit (.int .u32 3336571891), .lit (.int .u32 3584528711), .lit (.int .u32 113926993), .lit (.int .u32 338241895), .lit (.int .u32 666307205), .lit (.int .u32 773529912), .lit (.int .u32 1294757372), .lit (.int .u32 1396182291), .lit (.int .u32 1695183700), .lit (.int .u32 1986661051), .lit (.int .u32 2177026350), .lit (.int .u32 2456956037), .lit (.int .u32 2730485921), .lit (.int .u32 2820302411), .lit (.int .u32 3259730800), .lit (.int .u32 3345764771), .lit (.int .u32 3516065817), .lit (.int .u32 3600352804), .lit (.int .u32 4094571909), .lit (.int .u32 275423344), .lit (.int .u32 430227734), .lit (.int .u32 506948616), .lit (.int .u32 659060556), .lit (.int .u32 883997877), .lit (.int .u32 958139571), .lit (.int .u32 1322822218), .lit (.int .u32 1537002063), .lit (.int .u32 1747873779), .lit (.int .u32 1955562222), .lit (.int .u32 2024104815), .lit (.int .u32 2227730452), .lit (.int .u32 2361852424), .lit (.int .u32 2428436474), .lit (.int .u32 2756734187), .lit (.int .u32 3204031479), .lit (.int .u32 3329325298)]
def laid_sporran_script_patterns {H : Type} : DataW H := .agg [.agg [.lit (.int .i64 1), .lit (.string [118, 169, 20]), .lit (.int .i64 20), .lit (.string [136, 172])], .agg [.lit (.int .i64 2), .lit (.string [169, 20]), .lit (.int .i64 20), .lit (.string [135])], .agg [.lit (.int .i64 3), .lit (.string [0, 20]), .lit (.int .i64 20), .lit (.string [])], .agg [.lit (.int .i64 4), .lit (.string [0, 32]), .lit (.int .i64 32), .lit (.string [])], .agg [.lit (.int .i64 5), .lit (.string [81, 32]), .lit (.int .i64 32), .lit (.string [])], .agg [.lit (.int .i64 6), .lit (.string [106]), .lit (.int .i64 (-1)), .lit (.string [])]]
def laid_sporran_address_checkWords {H : Type} : DataW H := .agg [.lit (.int .u32 996825010), .lit (.int .u32 642813549), .lit (.int .u32 513874426), .lit (.int .u32 1027748829), .lit (.int .u32 705979059)]
def laid_unicode_utf8_acceptRanges {H : Type} : DataW H := .agg [.agg [.lit (.int .u8 128), .lit (.int .u8 191)], .agg [.lit (.int .u8 160), .lit (.int .u8 191)], .agg [.lit (.int .u8 128), .lit (.int .u8 159)], .agg [.lit (.int .u8 144), .lit (.int .u8 191)], .agg [.lit (.int .u8 128), .lit (.int .u8 143)], .agg [.lit (.int .u8 0), .lit (.int .u8 0)], .agg [.lit (.int .u8 0), .lit (.int .u8 0)], .agg [.lit (.int .u8 0), .lit (.int .u8 0)], .agg [.lit (.int .u8 0), .lit (.int .u8 0)], .agg [.lit (.int .u8 0), .lit (.int .u8 0)], .agg [.lit (.int .u8 0), .lit (.int .u8 0)], .agg [.lit (.int .u8 0), .lit (.int .u8 0)], .agg [.lit (.int .u8 0), .lit (.int .u8 0)], .agg [.lit (.int .u8 0), .lit (.int .u8 0)], .agg [.lit (.int .u8 0), .lit (.int .u8 0)], .agg [.lit (.int .u8 0), .lit (.int .u8 0)]]
/-- One of Go's own tables, pinned by name: the form's constant. -/
def laid_unicode_CaseRanges : DataW Unit := Go.Pinned.caseRanges
/-- One of Go's own tables, pinned by name: the form's constant. -/
def laid_unicode_utf8_first : DataW Unit := Go.Pinned.utf8First

/-- 'sporranlaw14.AddressTexts': WHATEVER THE INPUT: true; the input reads as it did. -/
def addressTextsSpec : ChangeSpec := { name := "addressTexts", fn := fun _ => fun
  | [d] => { results := [.lit (.bool true)], args := [d] }
  | _ => none }
def addressTextsRow : OpenClaim := { program := "ytghjgkgfpblijaadoor", sum := "b1afd35386f275a5ecc6fe8b6944a3e3c9c2b84c3d8d2cf69bf3f00a7daea3d0", func := "sporran/sporranlaw14.AddressTexts", spec := "addressTexts", named := ["sporran/script.patterns", "sporran/sha.startWords", "sporran/sha.roundWords", "sporran/address.checkWords"], apart := false, laid := [("sporran/sha.startWords", laid_sporran_sha_startWords), ("sporran/sha.roundWords", laid_sporran_sha_roundWords), ("sporran/script.patterns", laid_sporran_script_patterns), ("sporran/address.checkWords", laid_sporran_address_checkWords)] }
def AddressTextsSaid : Prop := addressTextsRow.holds Tryd.pinned (OpenSpec.ofChange addressTextsSpec)

/-- ITS FALSE NEIGHBOUR: 'it returns false'. Refute it at one input. -/
def addressTextsWrong : ChangeSpec := { name := "addressTexts", fn := fun _ => fun
  | [d] => { results := [.lit (.bool false)], args := [d] }
  | _ => none }
def AddressTextsWrongFalsely : Prop := addressTextsRow.holds Tryd.pinned (OpenSpec.ofChange addressTextsWrong)

/-- 'sporranlaw14.AddressParses': WHATEVER THE INPUT: true; the input reads as it did. -/
def addressParsesSpec : ChangeSpec := { name := "addressParses", fn := fun _ => fun
  | [d] => { results := [.lit (.bool true)], args := [d] }
  | _ => none }
def addressParsesRow : OpenClaim := { program := "ytghjgkgfpblijaadoor", sum := "b1afd35386f275a5ecc6fe8b6944a3e3c9c2b84c3d8d2cf69bf3f00a7daea3d0", func := "sporran/sporranlaw14.AddressParses", spec := "addressParses", named := ["sporran/sha.startWords", "sporran/sha.roundWords", "sporran/script.patterns", "sporran/address.checkWords"], apart := false, laid := [("sporran/sha.startWords", laid_sporran_sha_startWords), ("sporran/sha.roundWords", laid_sporran_sha_roundWords), ("sporran/script.patterns", laid_sporran_script_patterns), ("sporran/address.checkWords", laid_sporran_address_checkWords)] }
def AddressParsesSaid : Prop := addressParsesRow.holds Tryd.pinned (OpenSpec.ofChange addressParsesSpec)

/-- ITS FALSE NEIGHBOUR: 'it returns false'. Refute it at one input. -/
def addressParsesWrong : ChangeSpec := { name := "addressParses", fn := fun _ => fun
  | [d] => { results := [.lit (.bool false)], args := [d] }
  | _ => none }
def AddressParsesWrongFalsely : Prop := addressParsesRow.holds Tryd.pinned (OpenSpec.ofChange addressParsesWrong)

/-- 'sporranlaw14.AddressBack': WHATEVER THE INPUT: true; the input reads as it did. -/
def addressBackSpec : ChangeSpec := { name := "addressBack", fn := fun _ => fun
  | [d1, d2, d3] => { results := [.lit (.bool true)], args := [d1, d2, d3] }
  | _ => none }
def addressBackRow : OpenClaim := { program := "ytghjgkgfpblijaadoor", sum := "b1afd35386f275a5ecc6fe8b6944a3e3c9c2b84c3d8d2cf69bf3f00a7daea3d0", func := "sporran/sporranlaw14.AddressBack", spec := "addressBack", named := ["sporran/script.patterns", "sporran/sha.startWords", "sporran/sha.roundWords", "sporran/address.checkWords"], apart := false, laid := [("sporran/sha.startWords", laid_sporran_sha_startWords), ("sporran/sha.roundWords", laid_sporran_sha_roundWords), ("sporran/script.patterns", laid_sporran_script_patterns), ("sporran/address.checkWords", laid_sporran_address_checkWords)] }
def AddressBackSaid : Prop := addressBackRow.holds Tryd.pinned (OpenSpec.ofChange addressBackSpec)

/-- ITS FALSE NEIGHBOUR: 'it returns false'. Refute it at one input. -/
def addressBackWrong : ChangeSpec := { name := "addressBack", fn := fun _ => fun
  | [d1, d2, d3] => { results := [.lit (.bool false)], args := [d1, d2, d3] }
  | _ => none }
def AddressBackWrongFalsely : Prop := addressBackRow.holds Tryd.pinned (OpenSpec.ofChange addressBackWrong)

/-- 'sporranlaw14.AddressTurned': WHATEVER THE INPUT: true; the input reads as it did. -/
def addressTurnedSpec : ChangeSpec := { name := "addressTurned", fn := fun _ => fun
  | [d1, d2, d3, d4] => { results := [.lit (.bool true)], args := [d1, d2, d3, d4] }
  | _ => none }
def addressTurnedRow : OpenClaim := { program := "ytghjgkgfpblijaadoor", sum := "b1afd35386f275a5ecc6fe8b6944a3e3c9c2b84c3d8d2cf69bf3f00a7daea3d0", func := "sporran/sporranlaw14.AddressTurned", spec := "addressTurned", named := ["sporran/script.patterns", "sporran/sha.startWords", "sporran/sha.roundWords", "sporran/address.checkWords"], apart := false, laid := [("sporran/sha.startWords", laid_sporran_sha_startWords), ("sporran/sha.roundWords", laid_sporran_sha_roundWords), ("sporran/script.patterns", laid_sporran_script_patterns), ("sporran/address.checkWords", laid_sporran_address_checkWords)] }
def AddressTurnedSaid : Prop := addressTurnedRow.holds Tryd.pinned (OpenSpec.ofChange addressTurnedSpec)

/-- ITS FALSE NEIGHBOUR: 'it returns false'. Refute it at one input. -/
def addressTurnedWrong : ChangeSpec := { name := "addressTurned", fn := fun _ => fun
  | [d1, d2, d3, d4] => { results := [.lit (.bool false)], args := [d1, d2, d3, d4] }
  | _ => none }
def AddressTurnedWrongFalsely : Prop := addressTurnedRow.holds Tryd.pinned (OpenSpec.ofChange addressTurnedWrong)

/-- 'sporranlaw14.AddressGreat': WHATEVER THE INPUT: true; the input reads as it did. -/
def addressGreatSpec : ChangeSpec := { name := "addressGreat", fn := fun _ => fun
  | [d] => { results := [.lit (.bool true)], args := [d] }
  | _ => none }
def addressGreatRow : OpenClaim := { program := "ytghjgkgfpblijaadoor", sum := "b1afd35386f275a5ecc6fe8b6944a3e3c9c2b84c3d8d2cf69bf3f00a7daea3d0", func := "sporran/sporranlaw14.AddressGreat", spec := "addressGreat", inPlace := ["internal/bytealg.MakeNoZero"], unfollowed := true, recurses := true, named := ["sporran/script.patterns", "sporran/sha.startWords", "sporran/sha.roundWords", "sporran/address.checkWords", "unicode/utf8.first", "unicode/utf8.acceptRanges", "unicode.CaseRanges"], apart := false, laid := [("unicode/utf8.acceptRanges", laid_unicode_utf8_acceptRanges), ("sporran/sha.startWords", laid_sporran_sha_startWords), ("sporran/sha.roundWords", laid_sporran_sha_roundWords), ("sporran/script.patterns", laid_sporran_script_patterns), ("sporran/address.checkWords", laid_sporran_address_checkWords), ("unicode.CaseRanges", laid_unicode_CaseRanges), ("unicode/utf8.first", laid_unicode_utf8_first)] }
def AddressGreatSaid : Prop := addressGreatRow.holds Tryd.pinned (OpenSpec.ofChange addressGreatSpec)

/-- ITS FALSE NEIGHBOUR: 'it returns false'. Refute it at one input. -/
def addressGreatWrong : ChangeSpec := { name := "addressGreat", fn := fun _ => fun
  | [d] => { results := [.lit (.bool false)], args := [d] }
  | _ => none }
def AddressGreatWrongFalsely : Prop := addressGreatRow.holds Tryd.pinned (OpenSpec.ofChange addressGreatWrong)

/- THE SECOND FORM. 'bulk': how many values and letters a reading holds, each counted each time it is reached (what is shared counts as often as it is met; a slice's spare places count too). A statement '..UptoSaid' is the law's where the arguments, and the package variables that the reading takes, are together of bulk at most 1048576: NARROWER than '..Said'. Prove '..Said' where nothing that the law and all that it calls make is longer than what came in: it says more and counts as full. Else prove '..UptoSaid'. A law counts once. -/
mutual
def uptoBulk {H : Type} : DataW H → Nat
  | .lit (.string bytes) => bytes.length + 1
  | .lit _ => 1
  | .nil => 1
  | .ptr d => uptoBulk d + 1
  | .slice elems spare => uptoBulkAll elems + uptoBulkAll spare + 1
  | .agg parts => uptoBulkAll parts + 1
  | .iface _ d => uptoBulk d + 1
  | .map entries => uptoBulkEntries entries + 1
  | .held _ => 1
def uptoBulkAll {H : Type} : List (DataW H) → Nat
  | [] => 0
  | d :: r => uptoBulk d + uptoBulkAll r
def uptoBulkEntries {H : Type} : List (Lit × DataW H) → Nat
  | [] => 0
  | x :: r => uptoBulkEntry x + uptoBulkEntries r
def uptoBulkEntry {H : Type} : Lit × DataW H → Nat
  | (.string bytes, d) => bytes.length + uptoBulk d + 1
  | (_, d) => uptoBulk d + 1
 end
def uptoSmall : (H : Type) → List (DataW H) → Bool := fun _ ds => decide (uptoBulkAll ds ≤ 1048576)
def OpenSpec.upto (s : _root_.Go.ChangeSpec) : _root_.Go.OpenSpec := { _root_.Go.OpenSpec.ofChange s with cond := some uptoSmall }

/-- 'sporranlaw14.AddressTexts', WHERE WHAT IT READS IS OF BULK AT MOST 1048576: true; the input reads as it did. -/
def addressTextsUptoRow : OpenClaim := { program := "ytghjgkgfpblijaadoor", sum := "b1afd35386f275a5ecc6fe8b6944a3e3c9c2b84c3d8d2cf69bf3f00a7daea3d0", func := "sporran/sporranlaw14.AddressTexts", spec := "addressTexts", named := ["sporran/script.patterns", "sporran/sha.startWords", "sporran/sha.roundWords", "sporran/address.checkWords"], apart := false, laid := [("sporran/sha.startWords", laid_sporran_sha_startWords), ("sporran/sha.roundWords", laid_sporran_sha_roundWords), ("sporran/script.patterns", laid_sporran_script_patterns), ("sporran/address.checkWords", laid_sporran_address_checkWords)], narrowed := true }
def AddressTextsUptoSaid : Prop := addressTextsUptoRow.holds Tryd.pinned (OpenSpec.upto addressTextsSpec)

/-- 'sporranlaw14.AddressParses', WHERE WHAT IT READS IS OF BULK AT MOST 1048576: true; the input reads as it did. -/
def addressParsesUptoRow : OpenClaim := { program := "ytghjgkgfpblijaadoor", sum := "b1afd35386f275a5ecc6fe8b6944a3e3c9c2b84c3d8d2cf69bf3f00a7daea3d0", func := "sporran/sporranlaw14.AddressParses", spec := "addressParses", named := ["sporran/sha.startWords", "sporran/sha.roundWords", "sporran/script.patterns", "sporran/address.checkWords"], apart := false, laid := [("sporran/sha.startWords", laid_sporran_sha_startWords), ("sporran/sha.roundWords", laid_sporran_sha_roundWords), ("sporran/script.patterns", laid_sporran_script_patterns), ("sporran/address.checkWords", laid_sporran_address_checkWords)], narrowed := true }
def AddressParsesUptoSaid : Prop := addressParsesUptoRow.holds Tryd.pinned (OpenSpec.upto addressParsesSpec)

/-- 'sporranlaw14.AddressBack', WHERE WHAT IT READS IS OF BULK AT MOST 1048576: true; the input reads as it did. -/
def addressBackUptoRow : OpenClaim := { program := "ytghjgkgfpblijaadoor", sum := "b1afd35386f275a5ecc6fe8b6944a3e3c9c2b84c3d8d2cf69bf3f00a7daea3d0", func := "sporran/sporranlaw14.AddressBack", spec := "addressBack", named := ["sporran/script.patterns", "sporran/sha.startWords", "sporran/sha.roundWords", "sporran/address.checkWords"], apart := false, laid := [("sporran/sha.startWords", laid_sporran_sha_startWords), ("sporran/sha.roundWords", laid_sporran_sha_roundWords), ("sporran/script.patterns", laid_sporran_script_patterns), ("sporran/address.checkWords", laid_sporran_address_checkWords)], narrowed := true }
def AddressBackUptoSaid : Prop := addressBackUptoRow.holds Tryd.pinned (OpenSpec.upto addressBackSpec)

/-- 'sporranlaw14.AddressTurned', WHERE WHAT IT READS IS OF BULK AT MOST 1048576: true; the input reads as it did. -/
def addressTurnedUptoRow : OpenClaim := { program := "ytghjgkgfpblijaadoor", sum := "b1afd35386f275a5ecc6fe8b6944a3e3c9c2b84c3d8d2cf69bf3f00a7daea3d0", func := "sporran/sporranlaw14.AddressTurned", spec := "addressTurned", named := ["sporran/script.patterns", "sporran/sha.startWords", "sporran/sha.roundWords", "sporran/address.checkWords"], apart := false, laid := [("sporran/sha.startWords", laid_sporran_sha_startWords), ("sporran/sha.roundWords", laid_sporran_sha_roundWords), ("sporran/script.patterns", laid_sporran_script_patterns), ("sporran/address.checkWords", laid_sporran_address_checkWords)], narrowed := true }
def AddressTurnedUptoSaid : Prop := addressTurnedUptoRow.holds Tryd.pinned (OpenSpec.upto addressTurnedSpec)

/-- 'sporranlaw14.AddressGreat', WHERE WHAT IT READS IS OF BULK AT MOST 1048576: true; the input reads as it did. -/
def addressGreatUptoRow : OpenClaim := { program := "ytghjgkgfpblijaadoor", sum := "b1afd35386f275a5ecc6fe8b6944a3e3c9c2b84c3d8d2cf69bf3f00a7daea3d0", func := "sporran/sporranlaw14.AddressGreat", spec := "addressGreat", inPlace := ["internal/bytealg.MakeNoZero"], unfollowed := true, recurses := true, named := ["sporran/script.patterns", "sporran/sha.startWords", "sporran/sha.roundWords", "sporran/address.checkWords", "unicode/utf8.first", "unicode/utf8.acceptRanges", "unicode.CaseRanges"], apart := false, laid := [("unicode/utf8.acceptRanges", laid_unicode_utf8_acceptRanges), ("sporran/sha.startWords", laid_sporran_sha_startWords), ("sporran/sha.roundWords", laid_sporran_sha_roundWords), ("sporran/script.patterns", laid_sporran_script_patterns), ("sporran/address.checkWords", laid_sporran_address_checkWords), ("unicode.CaseRanges", laid_unicode_CaseRanges), ("unicode/utf8.first", laid_unicode_utf8_first)], narrowed := true }
def AddressGreatUptoSaid : Prop := addressGreatUptoRow.holds Tryd.pinned (OpenSpec.upto addressGreatSpec)

end Rows
end Go.Proofs.YtghjgkgfpblijaaDoor
