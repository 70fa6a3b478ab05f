/-
  NARROWER THAN 'FOR EVERY INPUT', by the rows' own cells (each row's printed sentence says how): FilterValues: laid.
  DERIVED. THE GIVEN ROWS OF THIS SEAT. 1 by the template 'for every input the law returns true; each argument reads behind the call as it read before'; 0 by the template 'total and deterministic' (their statements: YtaonnckhohieoaaDoorTotals.lean).
  GIVEN WITH THE SEED: the statements are not yours to turn. If you find one false, say at which input.
  Laid BY PROGRAM, IN A SANDBOX (cutbox-rows.mjs): the forced cells as the released guide's own fill.sh prints them over the translation 0fa4c950b9d96990… (all of the seat's roots in one cut). By AI agents, Wed Nov 11 2026. No macro, syntax, notation, axiom, sorry.
-/
import Derived.Test.YtaonnckhohieoaaDoorChecked
import GoSem.Claim
import GoSem.ClaimJoined
import GoSem.ClaimMapViews
import Derived.JoinedTies
import Derived.KernelRfl
namespace Go.Proofs.YtaonnckhohieoaaDoor
/- THE CELL 'sum', in the pinned program and in every row, IS THE sha256 OF THE DUMP (.gsa) THAT YtaonnckhohieoaaDoorProg.lean LOADS. Nothing in Lean hashes anything: it is a label: what it is worth is what the hold of that sum in a sandbox is worth. -/
noncomputable def Tryd.pinned : Pinned := { name := "ytaonnckhohieoaadoor", sum := "0fa4c950b9d969902a67c9a5fa7bf0e798cbfba86fd1345b0f0cf8b4a84f0600", checked := Tryd.checked }
namespace Rows
def none {H : Type} : Left H := { results := [], args := [] }

/- WHAT THE LISTED PACKAGE-LEVEL VARIABLES READ AS WHEN THE CALL BEGINS. Each datum BY PROGRAM (the guide's laid-datum.mjs) off the statement by which the dump's own 'gosem.cut.vars' lays the variable. In a bare row this is a premise. The card (YtaonnckhohieoaaDoorCards.lean) ties it to the program's text. -/
def laid_sporran_sip_startWords {H : Type} : DataW H := .agg [.lit (.int .u64 8317987319222330741), .lit (.int .u64 7237128888997146477), .lit (.int .u64 7816392313619706465), .lit (.int .u64 8387220255154660723)]

/-- 'sporranlaw12.FilterValues': WHATEVER THE INPUT: true; the input reads as it did. -/
def filterValuesSpec : ChangeSpec := { name := "filterValues", fn := fun _ => fun
  | [d] => { results := [.lit (.bool true)], args := [d] }
  | _ => none }
def filterValuesRow : OpenClaim := { program := "ytaonnckhohieoaadoor", sum := "0fa4c950b9d969902a67c9a5fa7bf0e798cbfba86fd1345b0f0cf8b4a84f0600", func := "sporran/sporranlaw12.FilterValues", spec := "filterValues", unfollowed := true, recurses := true, named := ["sporran/sip.startWords"], apart := false, laid := [("sporran/sip.startWords", laid_sporran_sip_startWords)] }
def FilterValuesSaid : Prop := filterValuesRow.holds Tryd.pinned (OpenSpec.ofChange filterValuesSpec)

/-- ITS FALSE NEIGHBOUR: 'it returns false'. Refute it at one input. -/
def filterValuesWrong : ChangeSpec := { name := "filterValues", fn := fun _ => fun
  | [d] => { results := [.lit (.bool false)], args := [d] }
  | _ => none }
def FilterValuesWrongFalsely : Prop := filterValuesRow.holds Tryd.pinned (OpenSpec.ofChange filterValuesWrong)

/- THE SECOND FORM. 'bulk': how many values and letters a reading holds, each counted each time it is reached (what is shared counts as often as it is met; a slice's spare places count too). A statement '..UptoSaid' is the law's where the arguments, and the package variables that the reading takes, are together of bulk at most 1048576: NARROWER than '..Said'. Prove '..Said' where nothing that the law and all that it calls make is longer than what came in: it says more and counts as full. Else prove '..UptoSaid'. A law counts once. -/
mutual
def uptoBulk {H : Type} : DataW H → Nat
  | .lit (.string bytes) => bytes.length + 1
  | .lit _ => 1
  | .nil => 1
  | .ptr d => uptoBulk d + 1
  | .slice elems spare => uptoBulkAll elems + uptoBulkAll spare + 1
  | .agg parts => uptoBulkAll parts + 1
  | .iface _ d => uptoBulk d + 1
  | .map entries => uptoBulkEntries entries + 1
  | .held _ => 1
def uptoBulkAll {H : Type} : List (DataW H) → Nat
  | [] => 0
  | d :: r => uptoBulk d + uptoBulkAll r
def uptoBulkEntries {H : Type} : List (Lit × DataW H) → Nat
  | [] => 0
  | x :: r => uptoBulkEntry x + uptoBulkEntries r
def uptoBulkEntry {H : Type} : Lit × DataW H → Nat
  | (.string bytes, d) => bytes.length + uptoBulk d + 1
  | (_, d) => uptoBulk d + 1
 end
def uptoSmall : (H : Type) → List (DataW H) → Bool := fun _ ds => decide (uptoBulkAll ds ≤ 1048576)
def OpenSpec.upto (s : _root_.Go.ChangeSpec) : _root_.Go.OpenSpec := { _root_.Go.OpenSpec.ofChange s with cond := some uptoSmall }

/-- 'sporranlaw12.FilterValues', WHERE WHAT IT READS IS OF BULK AT MOST 1048576: true; the input reads as it did. -/
def filterValuesUptoRow : OpenClaim := { program := "ytaonnckhohieoaadoor", sum := "0fa4c950b9d969902a67c9a5fa7bf0e798cbfba86fd1345b0f0cf8b4a84f0600", func := "sporran/sporranlaw12.FilterValues", spec := "filterValues", unfollowed := true, recurses := true, named := ["sporran/sip.startWords"], apart := false, laid := [("sporran/sip.startWords", laid_sporran_sip_startWords)], narrowed := true }
def FilterValuesUptoSaid : Prop := filterValuesUptoRow.holds Tryd.pinned (OpenSpec.upto filterValuesSpec)

end Rows
end Go.Proofs.YtaonnckhohieoaaDoor
