/-
  NARROWER THAN 'FOR EVERY INPUT', by the rows' own cells (each row's printed sentence says how): DeclReads: laid · DeclChords: laid · DeclJoins: laid · DeclBlanks: laid · DeclOwn: laid · PrintOne: laid.
  DERIVED. THE GIVEN ROWS OF THIS SEAT. 6 by the template 'for every input the law returns true; each argument reads behind the call as it read before'; 0 by the template 'total and deterministic' (their statements: YtenlhcgpajphhaaGreatDoorTotals.lean).
  GIVEN WITH THE SEED: the statements are not yours to turn. If you find one false, say at which input.
  Laid BY PROGRAM, IN A SANDBOX (cutbox-rows.mjs): the forced cells as the released guide's own fill.sh prints them over the translation 907bd7abf9718d95… (all of the seat's roots in one cut). By AI agents, Wed Nov 11 2026. No macro, syntax, notation, axiom, sorry.
-/
import Derived.Test.YtenlhcgpajphhaaGreatDoorChecked
import GoSem.Claim
import GoSem.ClaimJoined
import GoSem.ClaimMapViews
import Derived.JoinedTies
import Derived.KernelRfl
namespace Go.Proofs.YtenlhcgpajphhaaGreatDoor
/- THE CELL 'sum', in the pinned program and in every row, IS THE sha256 OF THE DUMP (.gsa) THAT YtenlhcgpajphhaaGreatDoorProg.lean LOADS. Nothing in Lean hashes anything: it is a label: what it is worth is what the hold of that sum in a sandbox is worth. -/
noncomputable def Tryz.pinned : Pinned := { name := "ytenlhcgpajphhaagreatdoor", sum := "907bd7abf9718d9556b13fda4b715871853dad3fdcd38af7bd7424e172e99fec", checked := Tryz.checked }
namespace Rows
def none {H : Type} : Left H := { results := [], args := [] }

/- WHAT THE LISTED PACKAGE-LEVEL VARIABLES READ AS WHEN THE CALL BEGINS. Each datum BY PROGRAM (the guide's laid-datum.mjs) off the statement by which the dump's own 'gosem.cut.vars' lays the variable. In a bare row this is a premise. The card (YtenlhcgpajphhaaGreatDoorCards.lean) ties it to the program's text. -/
def laid_math_bits_deBruijn32tab {H : Type} : DataW H := .agg [.lit (.int .u8 0), .lit (.int .u8 1), .lit (.int .u8 28), .lit (.int .u8 2), .lit (.int .u8 29), .lit (.int .u8 14), .lit (.int .u8 24), .lit (.int .u8 3), .lit (.int .u8 30), .lit (.int .u8 22), .lit (.int .u8 20), .lit (.int .u8 15), .lit (.int .u8 25), .lit (.int .u8 17), .lit (.int .u8 4), .lit (.int .u8 8), .lit (.int .u8 31), .lit (.int .u8 27), .lit (.int .u8 13), .lit (.int .u8 23), .lit (.int .u8 21), .lit (.int .u8 19), .lit (.int .u8 16), .lit (.int .u8 7), .lit (.int .u8 26), .lit (.int .u8 12), .lit (.int .u8 18), .lit (.int .u8 6), .lit (.int .u8 11), .lit (.int .u8 5), .lit (.int .u8 10), .lit (.int .u8 9)]
def laid_math_bits_deBruijn64tab {H : Type} : DataW H := .agg [.lit (.int .u8 0), .lit (.int .u8 1), .lit (.int .u8 56), .lit (.int .u8 2), .lit (.int .u8 57), .lit (.int .u8 49), .lit (.int .u8 28), .lit (.int .u8 3), .lit (.int .u8 61), .lit (.int .u8 58), .lit (.int .u8 42), .lit (.int .u8 50), .lit (.int .u8 38), .lit (.int .u8 29), .lit (.int .u8 17), .lit (.int .u8 4), .lit (.int .u8 62), .lit (.int .u8 47), .lit (.int .u8 59), .lit (.int .u8 36), .lit (.int .u8 45), .lit (.int .u8 43), .lit (.int .u8 51), .lit (.int .u8 22), .lit (.int .u8 53), .lit (.int .u8 39), .lit (.int .u8 33), .lit (.int .u8 30), .lit (.int .u8 24), .lit (.int .u8 18), .lit (.int .u8 12), .lit (.int .u8 5), .lit (.int .u8 63), .lit (.int .u8 55), .lit (.int .u8 48), .lit (.int .u8 27), .lit (.int .u8 60), .lit (.int .u8 41), .lit (.int .u8 37), .lit (.int .u8 16), .lit (.int .u8 46), .lit (.int .u8 35), .lit (.int .u8 44), .lit (.int .u8 21), .lit (.int .u8 52), .lit (.int .u8 32), .lit (.int .u8 23), .lit (.int .u8 11), .lit (.int .u8 54), .lit (.int .u8 26), .lit (.int .u8 40), .lit (.int .u8 15), .lit (.int .u8 34), .lit (.int .u8 20), .lit (.int .u8 31), .lit (.int .u8 10), .lit (.int .u8 25), .lit (.int .u8 14), .lit (.int .u8 19), .lit (.int .u8 9), .lit (.int .u8 13), .lit (.int .u8 8), .lit (.int .u8 7), .lit (.int .u8 6)]
def laid_internal_strconv_uint64pow10 {H : Type} : DataW H := .agg [.lit (.int .u64 1), .lit (.int .u64 10), .lit (.int .u64 100), .lit (.int .u64 1000), .lit (.int .u64 10000), .lit (.int .u64 100000), .lit (.int .u64 1000000), .lit (.int .u64 10000000), .lit (.int .u64 100000000), .lit (.int .u64 1000000000), .lit (.int .u64 10000000000), .lit (.int .u64 100000000000), .lit (.int .u64 1000000000000), .lit (.int .u64 10000000000000), .lit (.int .u64 100000000000000), .lit (.int .u64 1000000000000000), .lit (.int .u64 10000000000000000), .lit (.int .u64 100000000000000000), .lit (.int .u64 1000000000000000000), .lit (.int .u64 10000000000000000000)]
def laid_strconv_ErrRange {H : Type} : DataW H := .iface "*errors.errorString" (.ptr (.agg [.lit (.string [118, 97, 108, 117, 101, 32, 111, 117, 116, 32, 111, 102, 32, 114, 97, 110, 103, 101])]))
def laid_strconv_ErrSyntax {H : Type} : DataW H := .iface "*errors.errorString" (.ptr (.agg [.lit (.string [105, 110, 118, 97, 108, 105, 100, 32, 115, 121, 110, 116, 97, 120])]))
def laid_chordmail_expr_shapes {H : Type} : DataW H := .agg [.agg [.lit (.string []), .lit (.int .i64 0), .lit (.int .i64 0)], .agg [.lit (.string []), .lit (.int .i64 7), .lit (.int .i64 0)], .agg [.lit (.string []), .lit (.int .i64 7), .lit (.int .i64 0)], .agg [.lit (.string [45]), .lit (.int .i64 6), .lit (.int .i64 1)], .agg [.lit (.string [33]), .lit (.int .i64 6), .lit (.int .i64 1)], .agg [.lit (.string [43]), .lit (.int .i64 4), .lit (.int .i64 2)], .agg [.lit (.string [45]), .lit (.int .i64 4), .lit (.int .i64 2)], .agg [.lit (.string [42]), .lit (.int .i64 5), .lit (.int .i64 2)], .agg [.lit (.string [47]), .lit (.int .i64 5), .lit (.int .i64 2)], .agg [.lit (.string [37]), .lit (.int .i64 5), .lit (.int .i64 2)], .agg [.lit (.string [61, 61]), .lit (.int .i64 3), .lit (.int .i64 2)], .agg [.lit (.string [33, 61]), .lit (.int .i64 3), .lit (.int .i64 2)], .agg [.lit (.string [60]), .lit (.int .i64 3), .lit (.int .i64 2)], .agg [.lit (.string [60, 61]), .lit (.int .i64 3), .lit (.int .i64 2)], .agg [.lit (.string [62]), .lit (.int .i64 3), .lit (.int .i64 2)], .agg [.lit (.string [62, 61]), .lit (.int .i64 3), .lit (.int .i64 2)], .agg [.lit (.string [38, 38]), .lit (.int .i64 2), .lit (.int .i64 2)], .agg [.lit (.string [124, 124]), .lit (.int .i64 1), .lit (.int .i64 2)], .agg [.lit (.string [114, 101]), .lit (.int .i64 7), .lit (.int .i64 1)], .agg [.lit (.string [105, 109]), .lit (.int .i64 7), .lit (.int .i64 1)], .agg [.lit (.string [115, 105, 122, 101, 50]), .lit (.int .i64 7), .lit (.int .i64 1)], .agg [.lit (.string [99, 111, 109, 112]), .lit (.int .i64 7), .lit (.int .i64 2)], .agg [.lit (.string [114, 101, 97, 108]), .lit (.int .i64 7), .lit (.int .i64 1)], .agg [.lit (.string [108, 101, 110]), .lit (.int .i64 7), .lit (.int .i64 1)], .agg [.lit (.string [97, 116]), .lit (.int .i64 7), .lit (.int .i64 2)], .agg [.lit (.string [99, 97, 116]), .lit (.int .i64 7), .lit (.int .i64 2)], .agg [.lit (.string [115, 116, 114]), .lit (.int .i64 7), .lit (.int .i64 1)]]

/-- 'chordmaillaw08.DeclReads': WHATEVER THE INPUT: true; the input reads as it did. -/
def declReadsSpec : ChangeSpec := { name := "declReads", fn := fun _ => fun
  | [d] => { results := [.lit (.bool true)], args := [d] }
  | _ => none }
def declReadsRow : OpenClaim := { program := "ytenlhcgpajphhaagreatdoor", sum := "907bd7abf9718d9556b13fda4b715871853dad3fdcd38af7bd7424e172e99fec", func := "chordmail/chordmaillaw08.DeclReads", spec := "declReads", inPlace := ["internal/bytealg.IndexByteString", "internal/bytealg.IndexByte", "internal/bytealg.Index", "math.Float64bits", "math.Float64frombits"], unfollowed := true, recurses := true, named := ["strconv.ErrSyntax", "strconv.ErrRange", "internal/strconv.uint64pow10", "math/bits.deBruijn32tab", "math/bits.deBruijn64tab", "internal/bytealg.MaxLen", "chordmail/expr.shapes"], apart := false, laid := [("math/bits.deBruijn32tab", laid_math_bits_deBruijn32tab), ("math/bits.deBruijn64tab", laid_math_bits_deBruijn64tab), ("internal/strconv.uint64pow10", laid_internal_strconv_uint64pow10), ("strconv.ErrRange", laid_strconv_ErrRange), ("strconv.ErrSyntax", laid_strconv_ErrSyntax), ("chordmail/expr.shapes", laid_chordmail_expr_shapes)] }
def DeclReadsSaid : Prop := declReadsRow.holds Tryz.pinned (OpenSpec.ofChange declReadsSpec)

/-- ITS FALSE NEIGHBOUR: 'it returns false'. Refute it at one input. -/
def declReadsWrong : ChangeSpec := { name := "declReads", fn := fun _ => fun
  | [d] => { results := [.lit (.bool false)], args := [d] }
  | _ => none }
def DeclReadsWrongFalsely : Prop := declReadsRow.holds Tryz.pinned (OpenSpec.ofChange declReadsWrong)

/-- 'chordmaillaw08.DeclChords': WHATEVER THE INPUT: true; the input reads as it did. -/
def declChordsSpec : ChangeSpec := { name := "declChords", fn := fun _ => fun
  | [d1, d2] => { results := [.lit (.bool true)], args := [d1, d2] }
  | _ => none }
def declChordsRow : OpenClaim := { program := "ytenlhcgpajphhaagreatdoor", sum := "907bd7abf9718d9556b13fda4b715871853dad3fdcd38af7bd7424e172e99fec", func := "chordmail/chordmaillaw08.DeclChords", spec := "declChords", inPlace := ["internal/bytealg.IndexByteString", "internal/bytealg.IndexByte", "internal/bytealg.Index", "math.Float64bits", "math.Float64frombits"], unfollowed := true, recurses := true, named := ["strconv.ErrSyntax", "strconv.ErrRange", "internal/strconv.uint64pow10", "math/bits.deBruijn32tab", "math/bits.deBruijn64tab", "internal/bytealg.MaxLen", "chordmail/expr.shapes"], apart := false, laid := [("math/bits.deBruijn32tab", laid_math_bits_deBruijn32tab), ("math/bits.deBruijn64tab", laid_math_bits_deBruijn64tab), ("internal/strconv.uint64pow10", laid_internal_strconv_uint64pow10), ("strconv.ErrRange", laid_strconv_ErrRange), ("strconv.ErrSyntax", laid_strconv_ErrSyntax), ("chordmail/expr.shapes", laid_chordmail_expr_shapes)] }
def DeclChordsSaid : Prop := declChordsRow.holds Tryz.pinned (OpenSpec.ofChange declChordsSpec)

/-- ITS FALSE NEIGHBOUR: 'it returns false'. Refute it at one input. -/
def declChordsWrong : ChangeSpec := { name := "declChords", fn := fun _ => fun
  | [d1, d2] => { results := [.lit (.bool false)], args := [d1, d2] }
  | _ => none }
def DeclChordsWrongFalsely : Prop := declChordsRow.holds Tryz.pinned (OpenSpec.ofChange declChordsWrong)

/-- 'chordmaillaw08.DeclJoins': WHATEVER THE INPUT: true; the input reads as it did. -/
def declJoinsSpec : ChangeSpec := { name := "declJoins", fn := fun _ => fun
  | [d1, d2] => { results := [.lit (.bool true)], args := [d1, d2] }
  | _ => none }
def declJoinsRow : OpenClaim := { program := "ytenlhcgpajphhaagreatdoor", sum := "907bd7abf9718d9556b13fda4b715871853dad3fdcd38af7bd7424e172e99fec", func := "chordmail/chordmaillaw08.DeclJoins", spec := "declJoins", inPlace := ["internal/bytealg.IndexByteString", "internal/bytealg.IndexByte", "internal/bytealg.Index", "math.Float64bits", "math.Float64frombits"], unfollowed := true, recurses := true, named := ["strconv.ErrSyntax", "strconv.ErrRange", "internal/strconv.uint64pow10", "math/bits.deBruijn32tab", "math/bits.deBruijn64tab", "internal/bytealg.MaxLen", "chordmail/expr.shapes"], apart := false, laid := [("math/bits.deBruijn32tab", laid_math_bits_deBruijn32tab), ("math/bits.deBruijn64tab", laid_math_bits_deBruijn64tab), ("internal/strconv.uint64pow10", laid_internal_strconv_uint64pow10), ("strconv.ErrRange", laid_strconv_ErrRange), ("strconv.ErrSyntax", laid_strconv_ErrSyntax), ("chordmail/expr.shapes", laid_chordmail_expr_shapes)] }
def DeclJoinsSaid : Prop := declJoinsRow.holds Tryz.pinned (OpenSpec.ofChange declJoinsSpec)

/-- ITS FALSE NEIGHBOUR: 'it returns false'. Refute it at one input. -/
def declJoinsWrong : ChangeSpec := { name := "declJoins", fn := fun _ => fun
  | [d1, d2] => { results := [.lit (.bool false)], args := [d1, d2] }
  | _ => none }
def DeclJoinsWrongFalsely : Prop := declJoinsRow.holds Tryz.pinned (OpenSpec.ofChange declJoinsWrong)

/-- 'chordmaillaw08.DeclBlanks': WHATEVER THE INPUT: true; the input reads as it did. -/
def declBlanksSpec : ChangeSpec := { name := "declBlanks", fn := fun _ => fun
  | [d1, d2] => { results := [.lit (.bool true)], args := [d1, d2] }
  | _ => none }
def declBlanksRow : OpenClaim := { program := "ytenlhcgpajphhaagreatdoor", sum := "907bd7abf9718d9556b13fda4b715871853dad3fdcd38af7bd7424e172e99fec", func := "chordmail/chordmaillaw08.DeclBlanks", spec := "declBlanks", inPlace := ["internal/bytealg.IndexByteString", "internal/bytealg.IndexByte", "internal/bytealg.Index", "math.Float64bits", "math.Float64frombits"], unfollowed := true, recurses := true, named := ["strconv.ErrSyntax", "strconv.ErrRange", "internal/strconv.uint64pow10", "math/bits.deBruijn32tab", "math/bits.deBruijn64tab", "internal/bytealg.MaxLen", "chordmail/expr.shapes"], apart := false, laid := [("math/bits.deBruijn32tab", laid_math_bits_deBruijn32tab), ("math/bits.deBruijn64tab", laid_math_bits_deBruijn64tab), ("internal/strconv.uint64pow10", laid_internal_strconv_uint64pow10), ("strconv.ErrRange", laid_strconv_ErrRange), ("strconv.ErrSyntax", laid_strconv_ErrSyntax), ("chordmail/expr.shapes", laid_chordmail_expr_shapes)] }
def DeclBlanksSaid : Prop := declBlanksRow.holds Tryz.pinned (OpenSpec.ofChange declBlanksSpec)

/-- ITS FALSE NEIGHBOUR: 'it returns false'. Refute it at one input. -/
def declBlanksWrong : ChangeSpec := { name := "declBlanks", fn := fun _ => fun
  | [d1, d2] => { results := [.lit (.bool false)], args := [d1, d2] }
  | _ => none }
def DeclBlanksWrongFalsely : Prop := declBlanksRow.holds Tryz.pinned (OpenSpec.ofChange declBlanksWrong)

/-- 'chordmaillaw08.DeclOwn': WHATEVER THE INPUT: true; the input reads as it did. -/
def declOwnSpec : ChangeSpec := { name := "declOwn", fn := fun _ => fun
  | [d1, d2] => { results := [.lit (.bool true)], args := [d1, d2] }
  | _ => none }
def declOwnRow : OpenClaim := { program := "ytenlhcgpajphhaagreatdoor", sum := "907bd7abf9718d9556b13fda4b715871853dad3fdcd38af7bd7424e172e99fec", func := "chordmail/chordmaillaw08.DeclOwn", spec := "declOwn", inPlace := ["internal/bytealg.IndexByteString", "internal/bytealg.IndexByte", "internal/bytealg.Index", "math.Float64bits", "math.Float64frombits"], unfollowed := true, recurses := true, named := ["strconv.ErrSyntax", "strconv.ErrRange", "internal/strconv.uint64pow10", "math/bits.deBruijn32tab", "math/bits.deBruijn64tab", "internal/bytealg.MaxLen", "chordmail/expr.shapes"], apart := false, laid := [("math/bits.deBruijn32tab", laid_math_bits_deBruijn32tab), ("math/bits.deBruijn64tab", laid_math_bits_deBruijn64tab), ("internal/strconv.uint64pow10", laid_internal_strconv_uint64pow10), ("strconv.ErrRange", laid_strconv_ErrRange), ("strconv.ErrSyntax", laid_strconv_ErrSyntax), ("chordmail/expr.shapes", laid_chordmail_expr_shapes)] }
def DeclOwnSaid : Prop := declOwnRow.holds Tryz.pinned (OpenSpec.ofChange declOwnSpec)

/-- ITS FALSE NEIGHBOUR: 'it returns false'. Refute it at one input. -/
def declOwnWrong : ChangeSpec := { name := "declOwn", fn := fun _ => fun
  | [d1, d2] => { results := [.lit (.bool false)], args := [d1, d2] }
  | _ => none }
def DeclOwnWrongFalsely : Prop := declOwnRow.holds Tryz.pinned (OpenSpec.ofChange declOwnWrong)

/-- 'chordmaillaw10.PrintOne': WHATEVER THE INPUT: true; the input reads as it did. -/
def printOneSpec : ChangeSpec := { name := "printOne", fn := fun _ => fun
  | [d] => { results := [.lit (.bool true)], args := [d] }
  | _ => none }
def printOneRow : OpenClaim := { program := "ytenlhcgpajphhaagreatdoor", sum := "907bd7abf9718d9556b13fda4b715871853dad3fdcd38af7bd7424e172e99fec", func := "chordmail/chordmaillaw10.PrintOne", spec := "printOne", inPlace := ["math.Float64frombits", "math.Float64bits", "internal/bytealg.IndexByteString", "internal/bytealg.IndexByte", "internal/bytealg.Index"], unfollowed := true, recurses := true, named := ["chordmail/expr.shapes", "internal/strconv.uint64pow10", "math/bits.deBruijn32tab", "math/bits.deBruijn64tab", "strconv.ErrSyntax", "strconv.ErrRange", "internal/bytealg.MaxLen"], apart := false, laid := [("math/bits.deBruijn32tab", laid_math_bits_deBruijn32tab), ("math/bits.deBruijn64tab", laid_math_bits_deBruijn64tab), ("internal/strconv.uint64pow10", laid_internal_strconv_uint64pow10), ("strconv.ErrRange", laid_strconv_ErrRange), ("strconv.ErrSyntax", laid_strconv_ErrSyntax), ("chordmail/expr.shapes", laid_chordmail_expr_shapes)] }
def PrintOneSaid : Prop := printOneRow.holds Tryz.pinned (OpenSpec.ofChange printOneSpec)

/-- ITS FALSE NEIGHBOUR: 'it returns false'. Refute it at one input. -/
def printOneWrong : ChangeSpec := { name := "printOne", fn := fun _ => fun
  | [d] => { results := [.lit (.bool false)], args := [d] }
  | _ => none }
def PrintOneWrongFalsely : Prop := printOneRow.holds Tryz.pinned (OpenSpec.ofChange printOneWrong)

/- THE SECOND FORM. 'bulk': how many values and letters a reading holds, each counted each time it is reached (what is shared counts as often as it is met; a slice's spare places count too). A statement '..UptoSaid' is the law's where the arguments, and the package variables that the reading takes, are together of bulk at most 1048576: NARROWER than '..Said'. Prove '..Said' where nothing that the law and all that it calls make is longer than what came in: it says more and counts as full. Else prove '..UptoSaid'. A law counts once. -/
mutual
def uptoBulk {H : Type} : DataW H → Nat
  | .lit (.string bytes) => bytes.length + 1
  | .lit _ => 1
  | .nil => 1
  | .ptr d => uptoBulk d + 1
  | .slice elems spare => uptoBulkAll elems + uptoBulkAll spare + 1
  | .agg parts => uptoBulkAll parts + 1
  | .iface _ d => uptoBulk d + 1
  | .map entries => uptoBulkEntries entries + 1
  | .held _ => 1
def uptoBulkAll {H : Type} : List (DataW H) → Nat
  | [] => 0
  | d :: r => uptoBulk d + uptoBulkAll r
def uptoBulkEntries {H : Type} : List (Lit × DataW H) → Nat
  | [] => 0
  | x :: r => uptoBulkEntry x + uptoBulkEntries r
def uptoBulkEntry {H : Type} : Lit × DataW H → Nat
  | (.string bytes, d) => bytes.length + uptoBulk d + 1
  | (_, d) => uptoBulk d + 1
 end
def uptoSmall : (H : Type) → List (DataW H) → Bool := fun _ ds => decide (uptoBulkAll ds ≤ 1048576)
def OpenSpec.upto (s : _root_.Go.ChangeSpec) : _root_.Go.OpenSpec := { _root_.Go.OpenSpec.ofChange s with cond := some uptoSmall }

/-- 'chordmaillaw08.DeclReads', WHERE WHAT IT READS IS OF BULK AT MOST 1048576: true; the input reads as it did. -/
def declReadsUptoRow : OpenClaim := { program := "ytenlhcgpajphhaagreatdoor", sum := "907bd7abf9718d9556b13fda4b715871853dad3fdcd38af7bd7424e172e99fec", func := "chordmail/chordmaillaw08.DeclReads", spec := "declReads", inPlace := ["internal/bytealg.IndexByteString", "internal/bytealg.IndexByte", "internal/bytealg.Index", "math.Float64bits", "math.Float64frombits"], unfollowed := true, recurses := true, named := ["strconv.ErrSyntax", "strconv.ErrRange", "internal/strconv.uint64pow10", "math/bits.deBruijn32tab", "math/bits.deBruijn64tab", "internal/bytealg.MaxLen", "chordmail/expr.shapes"], apart := false, laid := [("math/bits.deBruijn32tab", laid_math_bits_deBruijn32tab), ("math/bits.deBruijn64tab", laid_math_bits_deBruijn64tab), ("internal/strconv.uint64pow10", laid_internal_strconv_uint64pow10), ("strconv.ErrRange", laid_strconv_ErrRange), ("strconv.ErrSyntax", laid_strconv_ErrSyntax), ("chordmail/expr.shapes", laid_chordmail_expr_shapes)], narrowed := true }
def DeclReadsUptoSaid : Prop := declReadsUptoRow.holds Tryz.pinned (OpenSpec.upto declReadsSpec)

/-- 'chordmaillaw08.DeclChords', WHERE WHAT IT READS IS OF BULK AT MOST 1048576: true; the input reads as it did. -/
def declChordsUptoRow : OpenClaim := { program := "ytenlhcgpajphhaagreatdoor", sum := "907bd7abf9718d9556b13fda4b715871853dad3fdcd38af7bd7424e172e99fec", func := "chordmail/chordmaillaw08.DeclChords", spec := "declChords", inPlace := ["internal/bytealg.IndexByteString", "internal/bytealg.IndexByte", "internal/bytealg.Index", "math.Float64bits", "math.Float64frombits"], unfollowed := true, recurses := true, named := ["strconv.ErrSyntax", "strconv.ErrRange", "internal/strconv.uint64pow10", "math/bits.deBruijn32tab", "math/bits.deBruijn64tab", "internal/bytealg.MaxLen", "chordmail/expr.shapes"], apart := false, laid := [("math/bits.deBruijn32tab", laid_math_bits_deBruijn32tab), ("math/bits.deBruijn64tab", laid_math_bits_deBruijn64tab), ("internal/strconv.uint64pow10", laid_internal_strconv_uint64pow10), ("strconv.ErrRange", laid_strconv_ErrRange), ("strconv.ErrSyntax", laid_strconv_ErrSyntax), ("chordmail/expr.shapes", laid_chordmail_expr_shapes)], narrowed := true }
def DeclChordsUptoSaid : Prop := declChordsUptoRow.holds Tryz.pinned (OpenSpec.upto declChordsSpec)

/-- 'chordmaillaw08.DeclJoins', WHERE WHAT IT READS IS OF BULK AT MOST 1048576: true; the input reads as it did. -/
def declJoinsUptoRow : OpenClaim := { program := "ytenlhcgpajphhaagreatdoor", sum := "907bd7abf9718d9556b13fda4b715871853dad3fdcd38af7bd7424e172e99fec", func := "chordmail/chordmaillaw08.DeclJoins", spec := "declJoins", inPlace := ["internal/bytealg.IndexByteString", "internal/bytealg.IndexByte", "internal/bytealg.Index", "math.Float64bits", "math.Float64frombits"], unfollowed := true, recurses := true, named := ["strconv.ErrSyntax", "strconv.ErrRange", "internal/strconv.uint64pow10", "math/bits.deBruijn32tab", "math/bits.deBruijn64tab", "internal/bytealg.MaxLen", "chordmail/expr.shapes"], apart := false, laid := [("math/bits.deBruijn32tab", laid_math_bits_deBruijn32tab), ("math/bits.deBruijn64tab", laid_math_bits_deBruijn64tab), ("internal/strconv.uint64pow10", laid_internal_strconv_uint64pow10), ("strconv.ErrRange", laid_strconv_ErrRange), ("strconv.ErrSyntax", laid_strconv_ErrSyntax), ("chordmail/expr.shapes", laid_chordmail_expr_shapes)], narrowed := true }
def DeclJoinsUptoSaid : Prop := declJoinsUptoRow.holds Tryz.pinned (OpenSpec.upto declJoinsSpec)

/-- 'chordmaillaw08.DeclBlanks', WHERE WHAT IT READS IS OF BULK AT MOST 1048576: true; the input reads as it did. -/
def declBlanksUptoRow : OpenClaim := { program := "ytenlhcgpajphhaagreatdoor", sum := "907bd7abf9718d9556b13fda4b715871853dad3fdcd38af7bd7424e172e99fec", func := "chordmail/chordmaillaw08.DeclBlanks", spec := "declBlanks", inPlace := ["internal/bytealg.IndexByteString", "internal/bytealg.IndexByte", "internal/bytealg.Index", "math.Float64bits", "math.Float64frombits"], unfollowed := true, recurses := true, named := ["strconv.ErrSyntax", "strconv.ErrRange", "internal/strconv.uint64pow10", "math/bits.deBruijn32tab", "math/bits.deBruijn64tab", "internal/bytealg.MaxLen", "chordmail/expr.shapes"], apart := false, laid := [("math/bits.deBruijn32tab", laid_math_bits_deBruijn32tab), ("math/bits.deBruijn64tab", laid_math_bits_deBruijn64tab), ("internal/strconv.uint64pow10", laid_internal_strconv_uint64pow10), ("strconv.ErrRange", laid_strconv_ErrRange), ("strconv.ErrSyntax", laid_strconv_ErrSyntax), ("chordmail/expr.shapes", laid_chordmail_expr_shapes)], narrowed := true }
def DeclBlanksUptoSaid : Prop := declBlanksUptoRow.holds Tryz.pinned (OpenSpec.upto declBlanksSpec)

/-- 'chordmaillaw08.DeclOwn', WHERE WHAT IT READS IS OF BULK AT MOST 1048576: true; the input reads as it did. -/
def declOwnUptoRow : OpenClaim := { program := "ytenlhcgpajphhaagreatdoor", sum := "907bd7abf9718d9556b13fda4b715871853dad3fdcd38af7bd7424e172e99fec", func := "chordmail/chordmaillaw08.DeclOwn", spec := "declOwn", inPlace := ["internal/bytealg.IndexByteString", "internal/bytealg.IndexByte", "internal/bytealg.Index", "math.Float64bits", "math.Float64frombits"], unfollowed := true, recurses := true, named := ["strconv.ErrSyntax", "strconv.ErrRange", "internal/strconv.uint64pow10", "math/bits.deBruijn32tab", "math/bits.deBruijn64tab", "internal/bytealg.MaxLen", "chordmail/expr.shapes"], apart := false, laid := [("math/bits.deBruijn32tab", laid_math_bits_deBruijn32tab), ("math/bits.deBruijn64tab", laid_math_bits_deBruijn64tab), ("internal/strconv.uint64pow10", laid_internal_strconv_uint64pow10), ("strconv.ErrRange", laid_strconv_ErrRange), ("strconv.ErrSyntax", laid_strconv_ErrSyntax), ("chordmail/expr.shapes", laid_chordmail_expr_shapes)], narrowed := true }
def DeclOwnUptoSaid : Prop := declOwnUptoRow.holds Tryz.pinned (OpenSpec.upto declOwnSpec)

/-- 'chordmaillaw10.PrintOne', WHERE WHAT IT READS IS OF BULK AT MOST 1048576: true; the input reads as it did. -/
def printOneUptoRow : OpenClaim := { program := "ytenlhcgpajphhaagreatdoor", sum := "907bd7abf9718d9556b13fda4b715871853dad3fdcd38af7bd7424e172e99fec", func := "chordmail/chordmaillaw10.PrintOne", spec := "printOne", inPlace := ["math.Float64frombits", "math.Float64bits", "internal/bytealg.IndexByteString", "internal/bytealg.IndexByte", "internal/bytealg.Index"], unfollowed := true, recurses := true, named := ["chordmail/expr.shapes", "internal/strconv.uint64pow10", "math/bits.deBruijn32tab", "math/bits.deBruijn64tab", "strconv.ErrSyntax", "strconv.ErrRange", "internal/bytealg.MaxLen"], apart := false, laid := [("math/bits.deBruijn32tab", laid_math_bits_deBruijn32tab), ("math/bits.deBruijn64tab", laid_math_bits_deBruijn64tab), ("internal/strconv.uint64pow10", laid_internal_strconv_uint64pow10), ("strconv.ErrRange", laid_strconv_ErrRange), ("strconv.ErrSyntax", laid_strconv_ErrSyntax), ("chordmail/expr.shapes", laid_chordmail_expr_shapes)], narrowed := true }
def PrintOneUptoSaid : Prop := printOneUptoRow.holds Tryz.pinned (OpenSpec.upto printOneSpec)

end Rows
end Go.Proofs.YtenlhcgpajphhaaGreatDoor
