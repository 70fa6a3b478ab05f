/-
  NARROWER THAN 'FOR EVERY INPUT', by the rows' own cells (each row's printed sentence says how): MessageBlocks: laid.
  DERIVED. THE GIVEN ROWS OF THIS SEAT. 1 by the template 'for every input the law returns true; each argument reads behind the call as it read before'; 0 by the template 'total and deterministic' (their statements: YtfjpjhhkafkepaaDoorTotals.lean).
  GIVEN WITH THE SEED: the statements are not yours to turn. If you find one false, say at which input.
  Laid BY PROGRAM, IN A SANDBOX (cutbox-rows.mjs): the forced cells as the released guide's own fill.sh prints them over the translation b27c5e4a2ee6c30a… (all of the seat's roots in one cut). By AI agents, Wed Nov 11 2026. No macro, syntax, notation, axiom, sorry.
-/
import Derived.Test.YtfjpjhhkafkepaaDoorChecked
import GoSem.Claim
import GoSem.ClaimJoined
import GoSem.ClaimMapViews
import Derived.JoinedTies
import Derived.KernelRfl
namespace Go.Proofs.YtfjpjhhkafkepaaDoor
/- THE CELL 'sum', in the pinned program and in every row, IS THE sha256 OF THE DUMP (.gsa) THAT YtfjpjhhkafkepaaDoorProg.lean LOADS. Nothing in Lean hashes anything: it is a label: what it is worth is what the hold of that sum in a sandbox is worth. -/
noncomputable def Tryd.pinned : Pinned := { name := "ytfjpjhhkafkepaadoor", sum := "b27c5e4a2ee6c30aaa95877df0e8bcfc844210fac64df252b04b0948389094b1", checked := Tryd.checked }
namespace Rows
def none {H : Type} : Left H := { results := [], args := [] }

/- WHAT THE LISTED PACKAGE-LEVEL VARIABLES READ AS WHEN THE CALL BEGINS. Each datum BY PROGRAM (the guide's laid-datum.mjs) off the statement by which the dump's own 'gosem.cut.vars' lays the variable. In a bare row this is a premise. The card (YtfjpjhhkafkepaaDoorCards.lean) ties it to the program's text. -/
def laid_sporran_message_layouts {H : Type} : DataW H := .agg [.agg [.lit (.string []), .agg [.lit (.int .i64 0), .lit (.int .i64 0), .lit (.int .i64 0), .lit (.int .i64 0), .lit (.int .i64 0), .lit (.int .i64 0)], .lit (.int .i64 0)], .agg [.lit (.string [118, 101, 114, 115, 105, 111, 110]), .agg [.lit (.int .i64 1), .lit (.int .i64 11), .lit (.int .i64 2), .lit (.int .i64 12), .lit (.int .i64 13), .lit (.int .i64 14)], .lit (.int .i64 256)], .agg [.lit (.string [118, 101, 114, 97, 99, 107]), .agg [.lit (.int .i64 0), .lit (.int .i64 0), .lit (.int .i64 0), .lit (.int .i64 0), .lit (.int .i64 0), .lit (.int .i64 0)], .lit (.int .i64 0)], .agg [.lit (.string [112, 105, 110, 103]), .agg [.lit (.int .i64 2), .lit (.int .i64 0), .lit (.int .i64 0), .lit (.int .i64 0), .lit (.int .i64 0), .lit (.int .i64 0)], .lit (.int .i64 0)], .agg [.lit (.string [112, 111, 110, 103]), .agg [.lit (.int .i64 2), .lit (.int .i64 0), .lit (.int .i64 0), .lit (.int .i64 0), .lit (.int .i64 0), .lit (.int .i64 0)], .lit (.int .i64 0)], .agg [.lit (.string [103, 101, 116, 104, 101, 97, 100, 101, 114, 115]), .agg [.lit (.int .i64 1), .lit (.int .i64 5), .lit (.int .i64 3), .lit (.int .i64 0), .lit (.int .i64 0), .lit (.int .i64 0)], .lit (.int .i64 101)], .agg [.lit (.string [104, 101, 97, 100, 101, 114, 115]), .agg [.lit (.int .i64 7), .lit (.int .i64 0), .lit (.int .i64 0), .lit (.int .i64 0), .lit (.int .i64 0), .lit (.int .i64 0)], .lit (.int .i64 100)], .agg [.lit (.string [103, 101, 116, 99, 102, 104, 101, 97, 100, 101, 114, 115]), .agg [.lit (.int .i64 10), .lit (.int .i64 1), .lit (.int .i64 3), .lit (.int .i64 0), .lit (.int .i64 0), .lit (.int .i64 0)], .lit (.int .i64 0)], .agg [.lit (.string [99, 102, 104, 101, 97, 100, 101, 114, 115]), .agg [.lit (.int .i64 10), .lit (.int .i64 3), .lit (.int .i64 4), .lit (.int .i64 5), .lit (.int .i64 0), .lit (.int .i64 0)], .lit (.int .i64 2000)], .agg [.lit (.string [103, 101, 116, 99, 102, 105, 108, 116, 101, 114, 115]), .agg [.lit (.int .i64 10), .lit (.int .i64 1), .lit (.int .i64 3), .lit (.int .i64 0), .lit (.int .i64 0), .lit (.int .i64 0)], .lit (.int .i64 0)], .agg [.lit (.string [99, 102, 105, 108, 116, 101, 114]), .agg [.lit (.int .i64 10), .lit (.int .i64 3), .lit (.int .i64 8), .lit (.int .i64 0), .lit (.int .i64 0), .lit (.int .i64 0)], .lit (.int .i64 199950)], .agg [.lit (.string [103, 101, 116, 100, 97, 116, 97]), .agg [.lit (.int .i64 6), .lit (.int .i64 0), .lit (.int .i64 0), .lit (.int .i64 0), .lit (.int .i64 0), .lit (.int .i64 0)], .lit (.int .i64 1000)], .agg [.lit (.string [98, 108, 111, 99, 107]), .agg [.lit (.int .i64 9), .lit (.int .i64 0), .lit (.int .i64 0), .lit (.int .i64 0), .lit (.int .i64 0), .lit (.int .i64 0)], .lit (.int .i64 0)], .agg [.lit (.string [110, 111, 116, 102, 111, 117, 110, 100]), .agg [.lit (.int .i64 6), .lit (.int .i64 0), .lit (.int .i64 0), .lit (.int .i64 0), .lit (.int .i64 0), .lit (.int .i64 0)], .lit (.int .i64 1000)]]

/-- 'sporranlaw10.MessageBlocks': WHATEVER THE INPUT: true; the input reads as it did. -/
def messageBlocksSpec : ChangeSpec := { name := "messageBlocks", fn := fun _ => fun
  | [d] => { results := [.lit (.bool true)], args := [d] }
  | _ => none }
def messageBlocksRow : OpenClaim := { program := "ytfjpjhhkafkepaadoor", sum := "b27c5e4a2ee6c30aaa95877df0e8bcfc844210fac64df252b04b0948389094b1", func := "sporran/sporranlaw10.MessageBlocks", spec := "messageBlocks", unfollowed := true, recurses := true, named := ["sporran/message.layouts"], apart := false, laid := [("sporran/message.layouts", laid_sporran_message_layouts)] }
def MessageBlocksSaid : Prop := messageBlocksRow.holds Tryd.pinned (OpenSpec.ofChange messageBlocksSpec)

/-- ITS FALSE NEIGHBOUR: 'it returns false'. Refute it at one input. -/
def messageBlocksWrong : ChangeSpec := { name := "messageBlocks", fn := fun _ => fun
  | [d] => { results := [.lit (.bool false)], args := [d] }
  | _ => none }
def MessageBlocksWrongFalsely : Prop := messageBlocksRow.holds Tryd.pinned (OpenSpec.ofChange messageBlocksWrong)

/- THE SECOND FORM. 'bulk': how many values and letters a reading holds, each counted each time it is reached (what is shared counts as often as it is met; a slice's spare places count too). A statement '..UptoSaid' is the law's where the arguments, and the package variables that the reading takes, are together of bulk at most 1048576: NARROWER than '..Said'. Prove '..Said' where nothing that the law and all that it calls make is longer than what came in: it says more and counts as full. Else prove '..UptoSaid'. A law counts once. -/
mutual
def uptoBulk {H : Type} : DataW H → Nat
  | .lit (.string bytes) => bytes.length + 1
  | .lit _ => 1
  | .nil => 1
  | .ptr d => uptoBulk d + 1
  | .slice elems spare => uptoBulkAll elems + uptoBulkAll spare + 1
  | .agg parts => uptoBulkAll parts + 1
  | .iface _ d => uptoBulk d + 1
  | .map entries => uptoBulkEntries entries + 1
  | .held _ => 1
def uptoBulkAll {H : Type} : List (DataW H) → Nat
  | [] => 0
  | d :: r => uptoBulk d + uptoBulkAll r
def uptoBulkEntries {H : Type} : List (Lit × DataW H) → Nat
  | [] => 0
  | x :: r => uptoBulkEntry x + uptoBulkEntries r
def uptoBulkEntry {H : Type} : Lit × DataW H → Nat
  | (.string bytes, d) => bytes.length + uptoBulk d + 1
  | (_, d) => uptoBulk d + 1
 end
def uptoSmall : (H : Type) → List (DataW H) → Bool := fun _ ds => decide (uptoBulkAll ds ≤ 1048576)
def OpenSpec.upto (s : _root_.Go.ChangeSpec) : _root_.Go.OpenSpec := { _root_.Go.OpenSpec.ofChange s with cond := some uptoSmall }

/-- 'sporranlaw10.MessageBlocks', WHERE WHAT IT READS IS OF BULK AT MOST 1048576: true; the input reads as it did. -/
def messageBlocksUptoRow : OpenClaim := { program := "ytfjpjhhkafkepaadoor", sum := "b27c5e4a2ee6c30aaa95877df0e8bcfc844210fac64df252b04b0948389094b1", func := "sporran/sporranlaw10.MessageBlocks", spec := "messageBlocks", unfollowed := true, recurses := true, named := ["sporran/message.layouts"], apart := false, laid := [("sporran/message.layouts", laid_sporran_message_layouts)], narrowed := true }
def MessageBlocksUptoSaid : Prop := messageBlocksUptoRow.holds Tryd.pinned (OpenSpec.upto messageBlocksSpec)

end Rows
end Go.Proofs.YtfjpjhhkafkepaaDoor
