/-
  NARROWER THAN 'FOR EVERY INPUT', by the rows' own cells (each row's printed sentence says how): ExprReads: laid.
  DERIVED. THE GIVEN ROWS OF THIS SEAT. 1 by the template 'for every input the law returns true; each argument reads behind the call as it read before'; 0 by the template 'total and deterministic' (their statements: YtddeoemkjedonaaDoorTotals.lean).
  GIVEN WITH THE SEED: the statements are not yours to turn. If you find one false, say at which input.
  Laid BY PROGRAM, IN A SANDBOX (cutbox-rows.mjs): the forced cells as the released guide's own fill.sh prints them over the translation 039e6e337230692d… (all of the seat's roots in one cut). By AI agents, Wed Nov 11 2026. No macro, syntax, notation, axiom, sorry.
-/
import Derived.Test.YtddeoemkjedonaaDoorChecked
import GoSem.Claim
import GoSem.ClaimJoined
import GoSem.ClaimMapViews
import Derived.JoinedTies
import Derived.KernelRfl
namespace Go.Proofs.YtddeoemkjedonaaDoor
/- THE CELL 'sum', in the pinned program and in every row, IS THE sha256 OF THE DUMP (.gsa) THAT YtddeoemkjedonaaDoorProg.lean LOADS. Nothing in Lean hashes anything: it is a label: what it is worth is what the hold of that sum in a sandbox is worth. -/
noncomputable def Tryd.pinned : Pinned := { name := "ytddeoemkjedonaadoor", sum := "039e6e337230692deb9e4cadf2be1dec274cd3196ce12e3d92337cbd7a8ca3be", checked := Tryd.checked }
namespace Rows
def none {H : Type} : Left H := { results := [], args := [] }

/- WHAT THE LISTED PACKAGE-LEVEL VARIABLES READ AS WHEN THE CALL BEGINS. Each datum BY PROGRAM (the guide's laid-datum.mjs) off the statement by which the dump's own 'gosem.cut.vars' lays the variable. In a bare row this is a premise. The card (YtddeoemkjedonaaDoorCards.lean) ties it to the program's text. -/
def laid_chordmail_expr_shapes {H : Type} : DataW H := .agg [.agg [.lit (.string []), .lit (.int .i64 0), .lit (.int .i64 0)], .agg [.lit (.string []), .lit (.int .i64 7), .lit (.int .i64 0)], .agg [.lit (.string []), .lit (.int .i64 7), .lit (.int .i64 0)], .agg [.lit (.string [45]), .lit (.int .i64 6), .lit (.int .i64 1)], .agg [.lit (.string [33]), .lit (.int .i64 6), .lit (.int .i64 1)], .agg [.lit (.string [43]), .lit (.int .i64 4), .lit (.int .i64 2)], .agg [.lit (.string [45]), .lit (.int .i64 4), .lit (.int .i64 2)], .agg [.lit (.string [42]), .lit (.int .i64 5), .lit (.int .i64 2)], .agg [.lit (.string [47]), .lit (.int .i64 5), .lit (.int .i64 2)], .agg [.lit (.string [37]), .lit (.int .i64 5), .lit (.int .i64 2)], .agg [.lit (.string [61, 61]), .lit (.int .i64 3), .lit (.int .i64 2)], .agg [.lit (.string [33, 61]), .lit (.int .i64 3), .lit (.int .i64 2)], .agg [.lit (.string [60]), .lit (.int .i64 3), .lit (.int .i64 2)], .agg [.lit (.string [60, 61]), .lit (.int .i64 3), .lit (.int .i64 2)], .agg [.lit (.string [62]), .lit (.int .i64 3), .lit (.int .i64 2)], .agg [.lit (.string [62, 61]), .lit (.int .i64 3), .lit (.int .i64 2)], .agg [.lit (.string [38, 38]), .lit (.int .i64 2), .lit (.int .i64 2)], .agg [.lit (.string [124, 124]), .lit (.int .i64 1), .lit (.int .i64 2)], .agg [.lit (.string [114, 101]), .lit (.int .i64 7), .lit (.int .i64 1)], .agg [.lit (.string [105, 109]), .lit (.int .i64 7), .lit (.int .i64 1)], .agg [.lit (.string [115, 105, 122, 101, 50]), .lit (.int .i64 7), .lit (.int .i64 1)], .agg [.lit (.string [99, 111, 109, 112]), .lit (.int .i64 7), .lit (.int .i64 2)], .agg [.lit (.string [114, 101, 97, 108]), .lit (.int .i64 7), .lit (.int .i64 1)], .agg [.lit (.string [108, 101, 110]), .lit (.int .i64 7), .lit (.int .i64 1)], .agg [.lit (.string [97, 116]), .lit (.int .i64 7), .lit (.int .i64 2)], .agg [.lit (.string [99, 97, 116]), .lit (.int .i64 7), .lit (.int .i64 2)], .agg [.lit (.string [115, 116, 114]), .lit (.int .i64 7), .lit (.int .i64 1)]]

/-- 'chordmaillaw05.ExprReads': WHATEVER THE INPUT: true; the input reads as it did. -/
def exprReadsSpec : ChangeSpec := { name := "exprReads", fn := fun _ => fun
  | [d1, d2] => { results := [.lit (.bool true)], args := [d1, d2] }
  | _ => none }
def exprReadsRow : OpenClaim := { program := "ytddeoemkjedonaadoor", sum := "039e6e337230692deb9e4cadf2be1dec274cd3196ce12e3d92337cbd7a8ca3be", func := "chordmail/chordmaillaw05.ExprReads", spec := "exprReads", inPlace := ["math.Float64bits", "math.Float64frombits"], unfollowed := true, recurses := true, named := ["chordmail/expr.shapes"], apart := false, laid := [("chordmail/expr.shapes", laid_chordmail_expr_shapes)] }
def ExprReadsSaid : Prop := exprReadsRow.holds Tryd.pinned (OpenSpec.ofChange exprReadsSpec)

/-- ITS FALSE NEIGHBOUR: 'it returns false'. Refute it at one input. -/
def exprReadsWrong : ChangeSpec := { name := "exprReads", fn := fun _ => fun
  | [d1, d2] => { results := [.lit (.bool false)], args := [d1, d2] }
  | _ => none }
def ExprReadsWrongFalsely : Prop := exprReadsRow.holds Tryd.pinned (OpenSpec.ofChange exprReadsWrong)

/- THE SECOND FORM. 'bulk': how many values and letters a reading holds, each counted each time it is reached (what is shared counts as often as it is met; a slice's spare places count too). A statement '..UptoSaid' is the law's where the arguments, and the package variables that the reading takes, are together of bulk at most 1048576: NARROWER than '..Said'. Prove '..Said' where nothing that the law and all that it calls make is longer than what came in: it says more and counts as full. Else prove '..UptoSaid'. A law counts once. -/
mutual
def uptoBulk {H : Type} : DataW H → Nat
  | .lit (.string bytes) => bytes.length + 1
  | .lit _ => 1
  | .nil => 1
  | .ptr d => uptoBulk d + 1
  | .slice elems spare => uptoBulkAll elems + uptoBulkAll spare + 1
  | .agg parts => uptoBulkAll parts + 1
  | .iface _ d => uptoBulk d + 1
  | .map entries => uptoBulkEntries entries + 1
  | .held _ => 1
def uptoBulkAll {H : Type} : List (DataW H) → Nat
  | [] => 0
  | d :: r => uptoBulk d + uptoBulkAll r
def uptoBulkEntries {H : Type} : List (Lit × DataW H) → Nat
  | [] => 0
  | x :: r => uptoBulkEntry x + uptoBulkEntries r
def uptoBulkEntry {H : Type} : Lit × DataW H → Nat
  | (.string bytes, d) => bytes.length + uptoBulk d + 1
  | (_, d) => uptoBulk d + 1
 end
def uptoSmall : (H : Type) → List (DataW H) → Bool := fun _ ds => decide (uptoBulkAll ds ≤ 1048576)
def OpenSpec.upto (s : _root_.Go.ChangeSpec) : _root_.Go.OpenSpec := { _root_.Go.OpenSpec.ofChange s with cond := some uptoSmall }

/-- 'chordmaillaw05.ExprReads', WHERE WHAT IT READS IS OF BULK AT MOST 1048576: true; the input reads as it did. -/
def exprReadsUptoRow : OpenClaim := { program := "ytddeoemkjedonaadoor", sum := "039e6e337230692deb9e4cadf2be1dec274cd3196ce12e3d92337cbd7a8ca3be", func := "chordmail/chordmaillaw05.ExprReads", spec := "exprReads", inPlace := ["math.Float64bits", "math.Float64frombits"], unfollowed := true, recurses := true, named := ["chordmail/expr.shapes"], apart := false, laid := [("chordmail/expr.shapes", laid_chordmail_expr_shapes)], narrowed := true }
def ExprReadsUptoSaid : Prop := exprReadsUptoRow.holds Tryd.pinned (OpenSpec.upto exprReadsSpec)

end Rows
end Go.Proofs.YtddeoemkjedonaaDoor
