/-
  NARROWER THAN 'FOR EVERY INPUT', by the rows' own cells (each row's printed sentence says how): AuditLeads: laid · FilterBuilds: laid · FilterItems: laid · FilterHolds: laid · FilterOrders: laid · FilterRises: laid.
  DERIVED. THE GIVEN ROWS OF THIS SEAT. 6 by the template 'for every input the law returns true; each argument reads behind the call as it read before'; 0 by the template 'total and deterministic' (their statements: YtoopcmcmjaikhaaDoorTotals.lean).
  GIVEN WITH THE SEED: the statements are not yours to turn. If you find one false, say at which input.
  Laid BY PROGRAM, IN A SANDBOX (cutbox-rows.mjs): the forced cells as the released guide's own fill.sh prints them over the translation 0258d4494b7f3dfe… (all of the seat's roots in one cut). By AI agents, Wed Nov 11 2026. No macro, syntax, notation, axiom, sorry.
-/
import Derived.Test.YtoopcmcmjaikhaaDoorChecked
import GoSem.Claim
import GoSem.ClaimJoined
import GoSem.ClaimMapViews
import Derived.JoinedTies
import Derived.KernelRfl
namespace Go.Proofs.YtoopcmcmjaikhaaDoor
/- THE CELL 'sum', in the pinned program and in every row, IS THE sha256 OF THE DUMP (.gsa) THAT YtoopcmcmjaikhaaDoorProg.lean LOADS. Nothing in Lean hashes anything: it is a label: what it is worth is what the hold of that sum in a sandbox is worth. -/
noncomputable def Tryd.pinned : Pinned := { name := "ytoopcmcmjaikhaadoor", sum := "0258d4494b7f3dfe01f05ca6b3eecce19876a3774b6c222d2b122651439e2b57", checked := Tryd.checked }
namespace Rows
def none {H : Type} : Left H := { results := [], args := [] }

/- WHAT THE LISTED PACKAGE-LEVEL VARIABLES READ AS WHEN THE CALL BEGINS. Each datum BY PROGRAM (the guide's laid-datum.mjs) off the statement by which the dump's own 'gosem.cut.vars' lays the variable. In a bare row this is a premise. The card (YtoopcmcmjaikhaaDoorCards.lean) ties it to the program's text. -/
def laid_sporran_sha_startWords {H : Type} : DataW H := .agg [.lit (.int .u32 1779033703), .lit (.int .u32 3144134277), .lit (.int .u32 1013904242), .lit (.int .u32 2773480762), .lit (.int .u32 1359893119), .lit (.int .u32 2600822924), .lit (.int .u32 528734635), .lit (.int .u32 1541459225)]
def laid_sporran_sha_roundWords {H : Type} : DataW H := .agg [.lit (.int .u32 1116352408), .lit (.int .u32 1899447441), .lit (.int .u32 3049323471), .lit (.int .u32 3921009573), .lit (.int .u32 961987163), .lit (.int .u32 1508970993), .lit (.int .u32 2453635748), .lit (.int .u32 2870763221), .lit (.int .u32 3624381080), .lit (.int .u32 310598401), .lit (.int .u32 607225278), .lit (.int .u32 1426881987), .lit (.int .u32 1925078388), .lit (.int .u32 2162078206), .lit (.int .u32 2614888103), .lit (.int .u32 3248222580), .lit (.int .u32 3835390401), .lit (.int .u32 4022224774), .lit (.int .u32 264347078), .lit (.int .u32 604807628), .lit (.int .u32 770255983), .lit (.int .u32 1249150122), .lit (.int .u32 1555081692), .lit (.int .u32 1996064986), .lit (.int .u32 2554220882), .lit (.int .u32 2821834349), .lit (.int .u32 2952996808), .lit (.int .u32 3210313671), .lit (.int .u32 3336571891), .lit (.int .u32 3584528711), .lit (.int .u32 113926993), .lit (.int .u32 338241895), .lit (.int .u32 666307205), .lit (.int .u32 773529912), .lit (.int .u32 1294757372), .lit (.int .u32 1396182291), .lit (.int .u32 1695183700), .lit (.int .u32 1986661051), .lit (.int .u32 2177026350), .lit (.int .u32 2456956037), .lit (.int .u32 2730485921), .lit (.int .u32 2820302411), .lit (.int .u32 3259730800), .lit (.int .u32 3345764771), .lit (.int .u32 3516065817), .lit (.int .u32 3600352804), .lit (.int .u32 4094571909), .lit (.int .u32 275423344), .lit (.int .u32 430227734), .lit (.int .u32 506948616), .lit (.int .u32 659060556), .lit (.int .u32 883997877), .lit (.int .u32 958139571), .lit (.int .u32 1322822218), .lit (.int .u32 1537002063), .lit (.int .u32 1747873779), .lit (.int .u32 1955562222), .lit (.int .u32 2024104815), .lit (.int .u32 2227730452), .lit (.int .u32 2361852424), .lit (.int .u32 2428436474), .lit (.int .u32 2756734187), .lit (.int .u32 3204031479), .lit (.int .u32 3329325298)]
def laid_sporran_sip_startWords {H : Type} : DataW H := .agg [.lit (.int .u64 8317987319222330741), .lit (.int .u64 7237128888997146477), .lit (.int .u64 7816392313619706465), .lit (.int .u64 8387220255154660723)]

/-- 'sporranlaw24.AuditLeads': WHATEVER THE INPUT: true; the input reads as it did. -/
def auditLeadsSpec : ChangeSpec := { name := "auditLeads", fn := fun _ => fun
  | [d1, d2] => { results := [.lit (.bool true)], args := [d1, d2] }
  | _ => none }
def auditLeadsRow : OpenClaim := { program := "ytoopcmcmjaikhaadoor", sum := "0258d4494b7f3dfe01f05ca6b3eecce19876a3774b6c222d2b122651439e2b57", func := "sporran/sporranlaw24.AuditLeads", spec := "auditLeads", named := ["sporran/sha.startWords", "sporran/sha.roundWords"], apart := false, laid := [("sporran/sha.startWords", laid_sporran_sha_startWords), ("sporran/sha.roundWords", laid_sporran_sha_roundWords)] }
def AuditLeadsSaid : Prop := auditLeadsRow.holds Tryd.pinned (OpenSpec.ofChange auditLeadsSpec)

/-- ITS FALSE NEIGHBOUR: 'it returns false'. Refute it at one input. -/
def auditLeadsWrong : ChangeSpec := { name := "auditLeads", fn := fun _ => fun
  | [d1, d2] => { results := [.lit (.bool false)], args := [d1, d2] }
  | _ => none }
def AuditLeadsWrongFalsely : Prop := auditLeadsRow.holds Tryd.pinned (OpenSpec.ofChange auditLeadsWrong)

/-- 'sporranlaw12.FilterBuilds': WHATEVER THE INPUT: true; the input reads as it did. -/
def filterBuildsSpec : ChangeSpec := { name := "filterBuilds", fn := fun _ => fun
  | [d1, d2] => { results := [.lit (.bool true)], args := [d1, d2] }
  | _ => none }
def filterBuildsRow : OpenClaim := { program := "ytoopcmcmjaikhaadoor", sum := "0258d4494b7f3dfe01f05ca6b3eecce19876a3774b6c222d2b122651439e2b57", func := "sporran/sporranlaw12.FilterBuilds", spec := "filterBuilds", unfollowed := true, recurses := true, named := ["sporran/sip.startWords"], apart := false, laid := [("sporran/sip.startWords", laid_sporran_sip_startWords)] }
def FilterBuildsSaid : Prop := filterBuildsRow.holds Tryd.pinned (OpenSpec.ofChange filterBuildsSpec)

/-- ITS FALSE NEIGHBOUR: 'it returns false'. Refute it at one input. -/
def filterBuildsWrong : ChangeSpec := { name := "filterBuilds", fn := fun _ => fun
  | [d1, d2] => { results := [.lit (.bool false)], args := [d1, d2] }
  | _ => none }
def FilterBuildsWrongFalsely : Prop := filterBuildsRow.holds Tryd.pinned (OpenSpec.ofChange filterBuildsWrong)

/-- 'sporranlaw12.FilterItems': WHATEVER THE INPUT: true; the input reads as it did. -/
def filterItemsSpec : ChangeSpec := { name := "filterItems", fn := fun _ => fun
  | [d1, d2] => { results := [.lit (.bool true)], args := [d1, d2] }
  | _ => none }
def filterItemsRow : OpenClaim := { program := "ytoopcmcmjaikhaadoor", sum := "0258d4494b7f3dfe01f05ca6b3eecce19876a3774b6c222d2b122651439e2b57", func := "sporran/sporranlaw12.FilterItems", spec := "filterItems", unfollowed := true, recurses := true, named := ["sporran/sip.startWords"], apart := false, laid := [("sporran/sip.startWords", laid_sporran_sip_startWords)] }
def FilterItemsSaid : Prop := filterItemsRow.holds Tryd.pinned (OpenSpec.ofChange filterItemsSpec)

/-- ITS FALSE NEIGHBOUR: 'it returns false'. Refute it at one input. -/
def filterItemsWrong : ChangeSpec := { name := "filterItems", fn := fun _ => fun
  | [d1, d2] => { results := [.lit (.bool false)], args := [d1, d2] }
  | _ => none }
def FilterItemsWrongFalsely : Prop := filterItemsRow.holds Tryd.pinned (OpenSpec.ofChange filterItemsWrong)

/-- 'sporranlaw12.FilterHolds': WHATEVER THE INPUT: true; the input reads as it did. -/
def filterHoldsSpec : ChangeSpec := { name := "filterHolds", fn := fun _ => fun
  | [d1, d2, d3] => { results := [.lit (.bool true)], args := [d1, d2, d3] }
  | _ => none }
def filterHoldsRow : OpenClaim := { program := "ytoopcmcmjaikhaadoor", sum := "0258d4494b7f3dfe01f05ca6b3eecce19876a3774b6c222d2b122651439e2b57", func := "sporran/sporranlaw12.FilterHolds", spec := "filterHolds", unfollowed := true, recurses := true, named := ["sporran/sip.startWords"], apart := false, laid := [("sporran/sip.startWords", laid_sporran_sip_startWords)] }
def FilterHoldsSaid : Prop := filterHoldsRow.holds Tryd.pinned (OpenSpec.ofChange filterHoldsSpec)

/-- ITS FALSE NEIGHBOUR: 'it returns false'. Refute it at one input. -/
def filterHoldsWrong : ChangeSpec := { name := "filterHolds", fn := fun _ => fun
  | [d1, d2, d3] => { results := [.lit (.bool false)], args := [d1, d2, d3] }
  | _ => none }
def FilterHoldsWrongFalsely : Prop := filterHoldsRow.holds Tryd.pinned (OpenSpec.ofChange filterHoldsWrong)

/-- 'sporranlaw12.FilterOrders': WHATEVER THE INPUT: true; the input reads as it did. -/
def filterOrdersSpec : ChangeSpec := { name := "filterOrders", fn := fun _ => fun
  | [d1, d2] => { results := [.lit (.bool true)], args := [d1, d2] }
  | _ => none }
def filterOrdersRow : OpenClaim := { program := "ytoopcmcmjaikhaadoor", sum := "0258d4494b7f3dfe01f05ca6b3eecce19876a3774b6c222d2b122651439e2b57", func := "sporran/sporranlaw12.FilterOrders", spec := "filterOrders", unfollowed := true, recurses := true, named := ["sporran/sip.startWords"], apart := false, laid := [("sporran/sip.startWords", laid_sporran_sip_startWords)] }
def FilterOrdersSaid : Prop := filterOrdersRow.holds Tryd.pinned (OpenSpec.ofChange filterOrdersSpec)

/-- ITS FALSE NEIGHBOUR: 'it returns false'. Refute it at one input. -/
def filterOrdersWrong : ChangeSpec := { name := "filterOrders", fn := fun _ => fun
  | [d1, d2] => { results := [.lit (.bool false)], args := [d1, d2] }
  | _ => none }
def FilterOrdersWrongFalsely : Prop := filterOrdersRow.holds Tryd.pinned (OpenSpec.ofChange filterOrdersWrong)

/-- 'sporranlaw12.FilterRises': WHATEVER THE INPUT: true; the input reads as it did. -/
def filterRisesSpec : ChangeSpec := { name := "filterRises", fn := fun _ => fun
  | [d1, d2] => { results := [.lit (.bool true)], args := [d1, d2] }
  | _ => none }
def filterRisesRow : OpenClaim := { program := "ytoopcmcmjaikhaadoor", sum := "0258d4494b7f3dfe01f05ca6b3eecce19876a3774b6c222d2b122651439e2b57", func := "sporran/sporranlaw12.FilterRises", spec := "filterRises", unfollowed := true, recurses := true, named := ["sporran/sip.startWords"], apart := false, laid := [("sporran/sip.startWords", laid_sporran_sip_startWords)] }
def FilterRisesSaid : Prop := filterRisesRow.holds Tryd.pinned (OpenSpec.ofChange filterRisesSpec)

/-- ITS FALSE NEIGHBOUR: 'it returns false'. Refute it at one input. -/
def filterRisesWrong : ChangeSpec := { name := "filterRises", fn := fun _ => fun
  | [d1, d2] => { results := [.lit (.bool false)], args := [d1, d2] }
  | _ => none }
def FilterRisesWrongFalsely : Prop := filterRisesRow.holds Tryd.pinned (OpenSpec.ofChange filterRisesWrong)

/- THE SECOND FORM. 'bulk': how many values and letters a reading holds, each counted each time it is reached (what is shared counts as often as it is met; a slice's spare places count too). A statement '..UptoSaid' is the law's where the arguments, and the package variables that the reading takes, are together of bulk at most 1048576: NARROWER than '..Said'. Prove '..Said' where nothing that the law and all that it calls make is longer than what came in: it says more and counts as full. Else prove '..UptoSaid'. A law counts once. -/
mutual
def uptoBulk {H : Type} : DataW H → Nat
  | .lit (.string bytes) => bytes.length + 1
  | .lit _ => 1
  | .nil => 1
  | .ptr d => uptoBulk d + 1
  | .slice elems spare => uptoBulkAll elems + uptoBulkAll spare + 1
  | .agg parts => uptoBulkAll parts + 1
  | .iface _ d => uptoBulk d + 1
  | .map entries => uptoBulkEntries entries + 1
  | .held _ => 1
def uptoBulkAll {H : Type} : List (DataW H) → Nat
  | [] => 0
  | d :: r => uptoBulk d + uptoBulkAll r
def uptoBulkEntries {H : Type} : List (Lit × DataW H) → Nat
  | [] => 0
  | x :: r => uptoBulkEntry x + uptoBulkEntries r
def uptoBulkEntry {H : Type} : Lit × DataW H → Nat
  | (.string bytes, d) => bytes.length + uptoBulk d + 1
  | (_, d) => uptoBulk d + 1
 end
def uptoSmall : (H : Type) → List (DataW H) → Bool := fun _ ds => decide (uptoBulkAll ds ≤ 1048576)
def OpenSpec.upto (s : _root_.Go.ChangeSpec) : _root_.Go.OpenSpec := { _root_.Go.OpenSpec.ofChange s with cond := some uptoSmall }

/-- 'sporranlaw24.AuditLeads', WHERE WHAT IT READS IS OF BULK AT MOST 1048576: true; the input reads as it did. -/
def auditLeadsUptoRow : OpenClaim := { program := "ytoopcmcmjaikhaadoor", sum := "0258d4494b7f3dfe01f05ca6b3eecce19876a3774b6c222d2b122651439e2b57", func := "sporran/sporranlaw24.AuditLeads", spec := "auditLeads", named := ["sporran/sha.startWords", "sporran/sha.roundWords"], apart := false, laid := [("sporran/sha.startWords", laid_sporran_sha_startWords), ("sporran/sha.roundWords", laid_sporran_sha_roundWords)], narrowed := true }
def AuditLeadsUptoSaid : Prop := auditLeadsUptoRow.holds Tryd.pinned (OpenSpec.upto auditLeadsSpec)

/-- 'sporranlaw12.FilterBuilds', WHERE WHAT IT READS IS OF BULK AT MOST 1048576: true; the input reads as it did. -/
def filterBuildsUptoRow : OpenClaim := { program := "ytoopcmcmjaikhaadoor", sum := "0258d4494b7f3dfe01f05ca6b3eecce19876a3774b6c222d2b122651439e2b57", func := "sporran/sporranlaw12.FilterBuilds", spec := "filterBuilds", unfollowed := true, recurses := true, named := ["sporran/sip.startWords"], apart := false, laid := [("sporran/sip.startWords", laid_sporran_sip_startWords)], narrowed := true }
def FilterBuildsUptoSaid : Prop := filterBuildsUptoRow.holds Tryd.pinned (OpenSpec.upto filterBuildsSpec)

/-- 'sporranlaw12.FilterItems', WHERE WHAT IT READS IS OF BULK AT MOST 1048576: true; the input reads as it did. -/
def filterItemsUptoRow : OpenClaim := { program := "ytoopcmcmjaikhaadoor", sum := "0258d4494b7f3dfe01f05ca6b3eecce19876a3774b6c222d2b122651439e2b57", func := "sporran/sporranlaw12.FilterItems", spec := "filterItems", unfollowed := true, recurses := true, named := ["sporran/sip.startWords"], apart := false, laid := [("sporran/sip.startWords", laid_sporran_sip_startWords)], narrowed := true }
def FilterItemsUptoSaid : Prop := filterItemsUptoRow.holds Tryd.pinned (OpenSpec.upto filterItemsSpec)

/-- 'sporranlaw12.FilterHolds', WHERE WHAT IT READS IS OF BULK AT MOST 1048576: true; the input reads as it did. -/
def filterHoldsUptoRow : OpenClaim := { program := "ytoopcmcmjaikhaadoor", sum := "0258d4494b7f3dfe01f05ca6b3eecce19876a3774b6c222d2b122651439e2b57", func := "sporran/sporranlaw12.FilterHolds", spec := "filterHolds", unfollowed := true, recurses := true, named := ["sporran/sip.startWords"], apart := false, laid := [("sporran/sip.startWords", laid_sporran_sip_startWords)], narrowed := true }
def FilterHoldsUptoSaid : Prop := filterHoldsUptoRow.holds Tryd.pinned (OpenSpec.upto filterHoldsSpec)

/-- 'sporranlaw12.FilterOrders', WHERE WHAT IT READS IS OF BULK AT MOST 1048576: true; the input reads as it did. -/
def filterOrdersUptoRow : OpenClaim := { program := "ytoopcmcmjaikhaadoor", sum := "0258d4494b7f3dfe01f05ca6b3eecce19876a3774b6c222d2b122651439e2b57", func := "sporran/sporranlaw12.FilterOrders", spec := "filterOrders", unfollowed := true, recurses := true, named := ["sporran/sip.startWords"], apart := false, laid := [("sporran/sip.startWords", laid_sporran_sip_startWords)], narrowed := true }
def FilterOrdersUptoSaid : Prop := filterOrdersUptoRow.holds Tryd.pinned (OpenSpec.upto filterOrdersSpec)

/-- 'sporranlaw12.FilterRises', WHERE WHAT IT READS IS OF BULK AT MOST 1048576: true; the input reads as it did. -/
def filterRisesUptoRow : OpenClaim := { program := "ytoopcmcmjaikhaadoor", sum := "0258d4494b7f3dfe01f05ca6b3eecce19876a3774b6c222d2b122651439e2b57", func := "sporran/sporranlaw12.FilterRises", spec := "filterRises", unfollowed := true, recurses := true, named := ["sporran/sip.startWords"], apart := false, laid := [("sporran/sip.startWords", laid_sporran_sip_startWords)], narrowed := true }
def FilterRisesUptoSaid : Prop := filterRisesUptoRow.holds Tryd.pinned (OpenSpec.upto filterRisesSpec)

end Rows
end Go.Proofs.YtoopcmcmjaikhaaDoor
