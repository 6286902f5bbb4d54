/-
  NARROWER THAN 'FOR EVERY INPUT', by the rows' own cells (each row's printed sentence says how): ParserNames: laid · ParserValid: laid · ParserBlanks: laid · ParserExact: laid · ParserParts: laid.
  DERIVED. THE GIVEN ROWS OF THIS SEAT. 5 by the template 'for every input the law returns true; each argument reads behind the call as it read before'; 0 by the template 'total and deterministic' (their statements: YtdinaedknlkicaaGreatDoorTotals.lean).
  GIVEN WITH THE SEED: the statements are not yours to turn. If you find one false, say at which input.
  Laid BY PROGRAM, IN A SANDBOX (cutbox-rows.mjs): the forced cells as the released guide's own fill.sh prints them over the translation 604e00ebbb44bdf6… (all of the seat's roots in one cut). By AI agents, Wed Nov 11 2026. No macro, syntax, notation, axiom, sorry.
-/
import Derived.Test.YtdinaedknlkicaaGreatDoorChecked
import GoSem.Claim
import GoSem.ClaimJoined
import GoSem.ClaimMapViews
import Derived.JoinedTies
import Derived.KernelRfl
namespace Go.Proofs.YtdinaedknlkicaaGreatDoor
/- THE CELL 'sum', in the pinned program and in every row, IS THE sha256 OF THE DUMP (.gsa) THAT YtdinaedknlkicaaGreatDoorProg.lean LOADS. Nothing in Lean hashes anything: it is a label: what it is worth is what the hold of that sum in a sandbox is worth. -/
noncomputable def Tryz.pinned : Pinned := { name := "ytdinaedknlkicaagreatdoor", sum := "604e00ebbb44bdf66282de2dd90083e96d68c2f19d12b77634d4878ce14b9be4", checked := Tryz.checked }
namespace Rows
def none {H : Type} : Left H := { results := [], args := [] }

/- WHAT THE LISTED PACKAGE-LEVEL VARIABLES READ AS WHEN THE CALL BEGINS. Each datum BY PROGRAM (the guide's laid-datum.mjs) off the statement by which the dump's own 'gosem.cut.vars' lays the variable. In a bare row this is a premise. The card (YtdinaedknlkicaaGreatDoorCards.lean) ties it to the program's text. -/
def laid_math_bits_deBruijn32tab {H : Type} : DataW H := .agg [.lit (.int .u8 0), .lit (.int .u8 1), .lit (.int .u8 28), .lit (.int .u8 2), .lit (.int .u8 29), .lit (.int .u8 14), .lit (.int .u8 24), .lit (.int .u8 3), .lit (.int .u8 30), .lit (.int .u8 22), .lit (.int .u8 20), .lit (.int .u8 15), .lit (.int .u8 25), .lit (.int .u8 17), .lit (.int .u8 4), .lit (.int .u8 8), .lit (.int .u8 31), .lit (.int .u8 27), .lit (.int .u8 13), .lit (.int .u8 23), .lit (.int .u8 21), .lit (.int .u8 19), .lit (.int .u8 16), .lit (.int .u8 7), .lit (.int .u8 26), .lit (.int .u8 12), .lit (.int .u8 18), .lit (.int .u8 6), .lit (.int .u8 11), .lit (.int .u8 5), .lit (.int .u8 10), .lit (.int .u8 9)]
def laid_math_bits_deBruijn64tab {H : Type} : DataW H := .agg [.lit (.int .u8 0), .lit (.int .u8 1), .lit (.int .u8 56), .lit (.int .u8 2), .lit (.int .u8 57), .lit (.int .u8 49), .lit (.int .u8 28), .lit (.int .u8 3), .lit (.int .u8 61), .lit (.int .u8 58), .lit (.int .u8 42), .lit (.int .u8 50), .lit (.int .u8 38), .lit (.int .u8 29), .lit (.int .u8 17), .lit (.int .u8 4), .lit (.int .u8 62), .lit (.int .u8 47), .lit (.int .u8 59), .lit (.int .u8 36), .lit (.int .u8 45), .lit (.int .u8 43), .lit (.int .u8 51), .lit (.int .u8 22), .lit (.int .u8 53), .lit (.int .u8 39), .lit (.int .u8 33), .lit (.int .u8 30), .lit (.int .u8 24), .lit (.int .u8 18), .lit (.int .u8 12), .lit (.int .u8 5), .lit (.int .u8 63), .lit (.int .u8 55), .lit (.int .u8 48), .lit (.int .u8 27), .lit (.int .u8 60), .lit (.int .u8 41), .lit (.int .u8 37), .lit (.int .u8 16), .lit (.int .u8 46), .lit (.int .u8 35), .lit (.int .u8 44), .lit (.int .u8 21), .lit (.int .u8 52), .lit (.int .u8 32), .lit (.int .u8 23), .lit (.int .u8 11), .lit (.int .u8 54), .lit (.int .u8 26), .lit (.int .u8 40), .lit (.int .u8 15), .lit (.int .u8 34), .lit (.int .u8 20), .lit (.int .u8 31), .lit (.int .u8 10), .lit (.int .u8 25), .lit (.int .u8 14), .lit (.int .u8 19), .lit (.int .u8 9), .lit (.int .u8 13), .lit (.int .u8 8), .lit (.int .u8 7), .lit (.int .u8 6)]
def laid_internal_strconv_uint64pow10 {H : Type} : DataW H := .agg [.lit (.int .u64 1), .lit (.int .u64 10), .lit (.int .u64 100), .lit (.int .u64 1000), .lit (.int .u64 10000), .lit (.int .u64 100000), .lit (.int .u64 1000000), .lit (.int .u64 10000000), .lit (.int .u64 100000000), .lit (.int .u64 1000000000), .lit (.int .u64 10000000000), .lit (.int .u64 100000000000), .lit (.int .u64 1000000000000), .lit (.int .u64 10000000000000), .lit (.int .u64 100000000000000), .lit (.int .u64 1000000000000000), .lit (.int .u64 10000000000000000), .lit (.int .u64 100000000000000000), .lit (.int .u64 1000000000000000000), .lit (.int .u64 10000000000000000000)]
def laid_strconv_ErrRange {H : Type} : DataW H := .iface "*errors.errorString" (.ptr (.agg [.lit (.string [118, 97, 108, 117, 101, 32, 111, 117, 116, 32, 111, 102, 32, 114, 97, 110, 103, 101])]))
def laid_strconv_ErrSyntax {H : Type} : DataW H := .iface "*errors.errorString" (.ptr (.agg [.lit (.string [105, 110, 118, 97, 108, 105, 100, 32, 115, 121, 110, 116, 97, 120])]))
def laid_tailwater_clauses_names {H : Type} : DataW H := .agg [.lit (.string [97]), .lit (.string [98]), .lit (.string [99]), .lit (.string [100])]
def laid_tailwater_chars_symbols {H : Type} : DataW H := .agg [.lit (.string [40]), .lit (.string [41]), .lit (.string [42]), .lit (.string [43]), .lit (.string [45]), .lit (.string [60]), .lit (.string [60, 61]), .lit (.string [60, 60]), .lit (.string [62]), .lit (.string [62, 61]), .lit (.string [62, 62]), .lit (.string [61]), .lit (.string [33, 61])]
def laid_tailwater_chars_words {H : Type} : DataW H := .agg [.lit (.string [115, 101, 108, 101, 99, 116]), .lit (.string [99, 111, 117, 110, 116]), .lit (.string [115, 117, 109]), .lit (.string [109, 105, 110]), .lit (.string [109, 97, 120]), .lit (.string [102, 114, 111, 109]), .lit (.string [117, 110, 105, 111, 110]), .lit (.string [106, 111, 105, 110]), .lit (.string [119, 104, 101, 114, 101]), .lit (.string [119, 105, 110, 100, 111, 119]), .lit (.string [116, 117, 109, 98, 108, 101]), .lit (.string [115, 108, 105, 100, 101]), .lit (.string [101, 118, 101, 114, 121]), .lit (.string [115, 101, 115, 115, 105, 111, 110]), .lit (.string [98, 121]), .lit (.string [107, 101, 121]), .lit (.string [108, 97, 116, 101]), .lit (.string [100, 114, 111, 112]), .lit (.string [115, 105, 100, 101]), .lit (.string [97, 110, 100]), .lit (.string [111, 114]), .lit (.string [110, 111, 116]), .lit (.string [97]), .lit (.string [98]), .lit (.string [99]), .lit (.string [100]), .lit (.string [107]), .lit (.string [116]), .lit (.string [118])]
def laid_tailwater_exprs_operators {H : Type} : DataW H := .agg [.lit (.string [42]), .lit (.string [43]), .lit (.string [45]), .lit (.string [60, 60]), .lit (.string [62, 62]), .lit (.string [60]), .lit (.string [60, 61]), .lit (.string [62]), .lit (.string [62, 61]), .lit (.string [61]), .lit (.string [33, 61]), .lit (.string [97, 110, 100]), .lit (.string [111, 114])]

/-- 'tailwaterlaw09.ParserNames': WHATEVER THE INPUT: true; the input reads as it did. -/
def parserNamesSpec : ChangeSpec := { name := "parserNames", fn := fun _ => fun
  | [] => { results := [.lit (.bool true)], args := [] }
  | _ => none }
def parserNamesRow : OpenClaim := { program := "ytdinaedknlkicaagreatdoor", sum := "604e00ebbb44bdf66282de2dd90083e96d68c2f19d12b77634d4878ce14b9be4", func := "tailwater/tailwaterlaw09.ParserNames", spec := "parserNames", inPlace := ["internal/bytealg.IndexByteString", "internal/abi.NoEscape"], unfollowed := true, recurses := true, named := ["tailwater/chars.symbols", "strconv.ErrSyntax", "strconv.ErrRange", "internal/strconv.uint64pow10", "math/bits.deBruijn32tab", "math/bits.deBruijn64tab", "tailwater/chars.words", "tailwater/exprs.operators", "tailwater/clauses.names"], apart := false, laid := [("math/bits.deBruijn32tab", laid_math_bits_deBruijn32tab), ("math/bits.deBruijn64tab", laid_math_bits_deBruijn64tab), ("internal/strconv.uint64pow10", laid_internal_strconv_uint64pow10), ("strconv.ErrRange", laid_strconv_ErrRange), ("strconv.ErrSyntax", laid_strconv_ErrSyntax), ("tailwater/clauses.names", laid_tailwater_clauses_names), ("tailwater/chars.symbols", laid_tailwater_chars_symbols), ("tailwater/chars.words", laid_tailwater_chars_words), ("tailwater/exprs.operators", laid_tailwater_exprs_operators)] }
def ParserNamesSaid : Prop := parserNamesRow.holds Tryz.pinned (OpenSpec.ofChange parserNamesSpec)

/-- ITS FALSE NEIGHBOUR: 'it returns false'. Refute it at one input. -/
def parserNamesWrong : ChangeSpec := { name := "parserNames", fn := fun _ => fun
  | [] => { results := [.lit (.bool false)], args := [] }
  | _ => none }
def ParserNamesWrongFalsely : Prop := parserNamesRow.holds Tryz.pinned (OpenSpec.ofChange parserNamesWrong)

/-- 'tailwaterlaw09.ParserValid': WHATEVER THE INPUT: true; the input reads as it did. -/
def parserValidSpec : ChangeSpec := { name := "parserValid", fn := fun _ => fun
  | [d] => { results := [.lit (.bool true)], args := [d] }
  | _ => none }
def parserValidRow : OpenClaim := { program := "ytdinaedknlkicaagreatdoor", sum := "604e00ebbb44bdf66282de2dd90083e96d68c2f19d12b77634d4878ce14b9be4", func := "tailwater/tailwaterlaw09.ParserValid", spec := "parserValid", inPlace := ["internal/bytealg.IndexByteString", "internal/abi.NoEscape"], unfollowed := true, recurses := true, named := ["tailwater/chars.symbols", "strconv.ErrSyntax", "strconv.ErrRange", "internal/strconv.uint64pow10", "math/bits.deBruijn32tab", "math/bits.deBruijn64tab", "tailwater/chars.words", "tailwater/exprs.operators", "tailwater/clauses.names"], apart := false, laid := [("math/bits.deBruijn32tab", laid_math_bits_deBruijn32tab), ("math/bits.deBruijn64tab", laid_math_bits_deBruijn64tab), ("internal/strconv.uint64pow10", laid_internal_strconv_uint64pow10), ("strconv.ErrRange", laid_strconv_ErrRange), ("strconv.ErrSyntax", laid_strconv_ErrSyntax), ("tailwater/clauses.names", laid_tailwater_clauses_names), ("tailwater/chars.symbols", laid_tailwater_chars_symbols), ("tailwater/chars.words", laid_tailwater_chars_words), ("tailwater/exprs.operators", laid_tailwater_exprs_operators)] }
def ParserValidSaid : Prop := parserValidRow.holds Tryz.pinned (OpenSpec.ofChange parserValidSpec)

/-- ITS FALSE NEIGHBOUR: 'it returns false'. Refute it at one input. -/
def parserValidWrong : ChangeSpec := { name := "parserValid", fn := fun _ => fun
  | [d] => { results := [.lit (.bool false)], args := [d] }
  | _ => none }
def ParserValidWrongFalsely : Prop := parserValidRow.holds Tryz.pinned (OpenSpec.ofChange parserValidWrong)

/-- 'tailwaterlaw09.ParserBlanks': WHATEVER THE INPUT: true; the input reads as it did. -/
def parserBlanksSpec : ChangeSpec := { name := "parserBlanks", fn := fun _ => fun
  | [d] => { results := [.lit (.bool true)], args := [d] }
  | _ => none }
def parserBlanksRow : OpenClaim := { program := "ytdinaedknlkicaagreatdoor", sum := "604e00ebbb44bdf66282de2dd90083e96d68c2f19d12b77634d4878ce14b9be4", func := "tailwater/tailwaterlaw09.ParserBlanks", spec := "parserBlanks", inPlace := ["internal/bytealg.IndexByteString", "internal/abi.NoEscape"], unfollowed := true, recurses := true, named := ["tailwater/chars.symbols", "strconv.ErrSyntax", "strconv.ErrRange", "internal/strconv.uint64pow10", "math/bits.deBruijn32tab", "math/bits.deBruijn64tab", "tailwater/chars.words", "tailwater/exprs.operators", "tailwater/clauses.names"], apart := false, laid := [("math/bits.deBruijn32tab", laid_math_bits_deBruijn32tab), ("math/bits.deBruijn64tab", laid_math_bits_deBruijn64tab), ("internal/strconv.uint64pow10", laid_internal_strconv_uint64pow10), ("strconv.ErrRange", laid_strconv_ErrRange), ("strconv.ErrSyntax", laid_strconv_ErrSyntax), ("tailwater/clauses.names", laid_tailwater_clauses_names), ("tailwater/chars.symbols", laid_tailwater_chars_symbols), ("tailwater/chars.words", laid_tailwater_chars_words), ("tailwater/exprs.operators", laid_tailwater_exprs_operators)] }
def ParserBlanksSaid : Prop := parserBlanksRow.holds Tryz.pinned (OpenSpec.ofChange parserBlanksSpec)

/-- ITS FALSE NEIGHBOUR: 'it returns false'. Refute it at one input. -/
def parserBlanksWrong : ChangeSpec := { name := "parserBlanks", fn := fun _ => fun
  | [d] => { results := [.lit (.bool false)], args := [d] }
  | _ => none }
def ParserBlanksWrongFalsely : Prop := parserBlanksRow.holds Tryz.pinned (OpenSpec.ofChange parserBlanksWrong)

/-- 'tailwaterlaw09.ParserExact': WHATEVER THE INPUT: true; the input reads as it did. -/
def parserExactSpec : ChangeSpec := { name := "parserExact", fn := fun _ => fun
  | [d1, d2] => { results := [.lit (.bool true)], args := [d1, d2] }
  | _ => none }
def parserExactRow : OpenClaim := { program := "ytdinaedknlkicaagreatdoor", sum := "604e00ebbb44bdf66282de2dd90083e96d68c2f19d12b77634d4878ce14b9be4", func := "tailwater/tailwaterlaw09.ParserExact", spec := "parserExact", inPlace := ["internal/bytealg.IndexByteString", "internal/abi.NoEscape"], unfollowed := true, recurses := true, named := ["tailwater/chars.symbols", "strconv.ErrSyntax", "strconv.ErrRange", "internal/strconv.uint64pow10", "math/bits.deBruijn32tab", "math/bits.deBruijn64tab", "tailwater/chars.words", "tailwater/exprs.operators", "tailwater/clauses.names"], apart := false, laid := [("math/bits.deBruijn32tab", laid_math_bits_deBruijn32tab), ("math/bits.deBruijn64tab", laid_math_bits_deBruijn64tab), ("internal/strconv.uint64pow10", laid_internal_strconv_uint64pow10), ("strconv.ErrRange", laid_strconv_ErrRange), ("strconv.ErrSyntax", laid_strconv_ErrSyntax), ("tailwater/clauses.names", laid_tailwater_clauses_names), ("tailwater/chars.symbols", laid_tailwater_chars_symbols), ("tailwater/chars.words", laid_tailwater_chars_words), ("tailwater/exprs.operators", laid_tailwater_exprs_operators)] }
def ParserExactSaid : Prop := parserExactRow.holds Tryz.pinned (OpenSpec.ofChange parserExactSpec)

/-- ITS FALSE NEIGHBOUR: 'it returns false'. Refute it at one input. -/
def parserExactWrong : ChangeSpec := { name := "parserExact", fn := fun _ => fun
  | [d1, d2] => { results := [.lit (.bool false)], args := [d1, d2] }
  | _ => none }
def ParserExactWrongFalsely : Prop := parserExactRow.holds Tryz.pinned (OpenSpec.ofChange parserExactWrong)

/-- 'tailwaterlaw09.ParserParts': WHATEVER THE INPUT: true; the input reads as it did. -/
def parserPartsSpec : ChangeSpec := { name := "parserParts", fn := fun _ => fun
  | [d] => { results := [.lit (.bool true)], args := [d] }
  | _ => none }
def parserPartsRow : OpenClaim := { program := "ytdinaedknlkicaagreatdoor", sum := "604e00ebbb44bdf66282de2dd90083e96d68c2f19d12b77634d4878ce14b9be4", func := "tailwater/tailwaterlaw09.ParserParts", spec := "parserParts", inPlace := ["internal/bytealg.IndexByteString", "internal/abi.NoEscape"], unfollowed := true, recurses := true, named := ["tailwater/chars.symbols", "strconv.ErrSyntax", "strconv.ErrRange", "internal/strconv.uint64pow10", "math/bits.deBruijn32tab", "math/bits.deBruijn64tab", "tailwater/chars.words", "tailwater/exprs.operators", "tailwater/clauses.names"], apart := false, laid := [("math/bits.deBruijn32tab", laid_math_bits_deBruijn32tab), ("math/bits.deBruijn64tab", laid_math_bits_deBruijn64tab), ("internal/strconv.uint64pow10", laid_internal_strconv_uint64pow10), ("strconv.ErrRange", laid_strconv_ErrRange), ("strconv.ErrSyntax", laid_strconv_ErrSyntax), ("tailwater/clauses.names", laid_tailwater_clauses_names), ("tailwater/chars.symbols", laid_tailwater_chars_symbols), ("tailwater/chars.words", laid_tailwater_chars_words), ("tailwater/exprs.operators", laid_tailwater_exprs_operators)] }
def ParserPartsSaid : Prop := parserPartsRow.holds Tryz.pinned (OpenSpec.ofChange parserPartsSpec)

/-- ITS FALSE NEIGHBOUR: 'it returns false'. Refute it at one input. -/
def parserPartsWrong : ChangeSpec := { name := "parserParts", fn := fun _ => fun
  | [d] => { results := [.lit (.bool false)], args := [d] }
  | _ => none }
def ParserPartsWrongFalsely : Prop := parserPartsRow.holds Tryz.pinned (OpenSpec.ofChange parserPartsWrong)

/- THE SECOND FORM. 'bulk': how many values and letters a reading holds, each counted each time it is reached (what is shared counts as often as it is met; a slice's spare places count too). A statement '..UptoSaid' is the law's where the arguments, and the package variables that the reading takes, are together of bulk at most 1048576: NARROWER than '..Said'. Prove '..Said' where nothing that the law and all that it calls make is longer than what came in: it says more and counts as full. Else prove '..UptoSaid'. A law counts once. -/
mutual
def uptoBulk {H : Type} : DataW H → Nat
  | .lit (.string bytes) => bytes.length + 1
  | .lit _ => 1
  | .nil => 1
  | .ptr d => uptoBulk d + 1
  | .slice elems spare => uptoBulkAll elems + uptoBulkAll spare + 1
  | .agg parts => uptoBulkAll parts + 1
  | .iface _ d => uptoBulk d + 1
  | .map entries => uptoBulkEntries entries + 1
  | .held _ => 1
def uptoBulkAll {H : Type} : List (DataW H) → Nat
  | [] => 0
  | d :: r => uptoBulk d + uptoBulkAll r
def uptoBulkEntries {H : Type} : List (Lit × DataW H) → Nat
  | [] => 0
  | x :: r => uptoBulkEntry x + uptoBulkEntries r
def uptoBulkEntry {H : Type} : Lit × DataW H → Nat
  | (.string bytes, d) => bytes.length + uptoBulk d + 1
  | (_, d) => uptoBulk d + 1
 end
def uptoSmall : (H : Type) → List (DataW H) → Bool := fun _ ds => decide (uptoBulkAll ds ≤ 1048576)
def OpenSpec.upto (s : _root_.Go.ChangeSpec) : _root_.Go.OpenSpec := { _root_.Go.OpenSpec.ofChange s with cond := some uptoSmall }

/-- 'tailwaterlaw09.ParserNames', WHERE WHAT IT READS IS OF BULK AT MOST 1048576: true; the input reads as it did. -/
def parserNamesUptoRow : OpenClaim := { program := "ytdinaedknlkicaagreatdoor", sum := "604e00ebbb44bdf66282de2dd90083e96d68c2f19d12b77634d4878ce14b9be4", func := "tailwater/tailwaterlaw09.ParserNames", spec := "parserNames", inPlace := ["internal/bytealg.IndexByteString", "internal/abi.NoEscape"], unfollowed := true, recurses := true, named := ["tailwater/chars.symbols", "strconv.ErrSyntax", "strconv.ErrRange", "internal/strconv.uint64pow10", "math/bits.deBruijn32tab", "math/bits.deBruijn64tab", "tailwater/chars.words", "tailwater/exprs.operators", "tailwater/clauses.names"], apart := false, laid := [("math/bits.deBruijn32tab", laid_math_bits_deBruijn32tab), ("math/bits.deBruijn64tab", laid_math_bits_deBruijn64tab), ("internal/strconv.uint64pow10", laid_internal_strconv_uint64pow10), ("strconv.ErrRange", laid_strconv_ErrRange), ("strconv.ErrSyntax", laid_strconv_ErrSyntax), ("tailwater/clauses.names", laid_tailwater_clauses_names), ("tailwater/chars.symbols", laid_tailwater_chars_symbols), ("tailwater/chars.words", laid_tailwater_chars_words), ("tailwater/exprs.operators", laid_tailwater_exprs_operators)], narrowed := true }
def ParserNamesUptoSaid : Prop := parserNamesUptoRow.holds Tryz.pinned (OpenSpec.upto parserNamesSpec)

/-- 'tailwaterlaw09.ParserValid', WHERE WHAT IT READS IS OF BULK AT MOST 1048576: true; the input reads as it did. -/
def parserValidUptoRow : OpenClaim := { program := "ytdinaedknlkicaagreatdoor", sum := "604e00ebbb44bdf66282de2dd90083e96d68c2f19d12b77634d4878ce14b9be4", func := "tailwater/tailwaterlaw09.ParserValid", spec := "parserValid", inPlace := ["internal/bytealg.IndexByteString", "internal/abi.NoEscape"], unfollowed := true, recurses := true, named := ["tailwater/chars.symbols", "strconv.ErrSyntax", "strconv.ErrRange", "internal/strconv.uint64pow10", "math/bits.deBruijn32tab", "math/bits.deBruijn64tab", "tailwater/chars.words", "tailwater/exprs.operators", "tailwater/clauses.names"], apart := false, laid := [("math/bits.deBruijn32tab", laid_math_bits_deBruijn32tab), ("math/bits.deBruijn64tab", laid_math_bits_deBruijn64tab), ("internal/strconv.uint64pow10", laid_internal_strconv_uint64pow10), ("strconv.ErrRange", laid_strconv_ErrRange), ("strconv.ErrSyntax", laid_strconv_ErrSyntax), ("tailwater/clauses.names", laid_tailwater_clauses_names), ("tailwater/chars.symbols", laid_tailwater_chars_symbols), ("tailwater/chars.words", laid_tailwater_chars_words), ("tailwater/exprs.operators", laid_tailwater_exprs_operators)], narrowed := true }
def ParserValidUptoSaid : Prop := parserValidUptoRow.holds Tryz.pinned (OpenSpec.upto parserValidSpec)

/-- 'tailwaterlaw09.ParserBlanks', WHERE WHAT IT READS IS OF BULK AT MOST 1048576: true; the input reads as it did. -/
def parserBlanksUptoRow : OpenClaim := { program := "ytdinaedknlkicaagreatdoor", sum := "604e00ebbb44bdf66282de2dd90083e96d68c2f19d12b77634d4878ce14b9be4", func := "tailwater/tailwaterlaw09.ParserBlanks", spec := "parserBlanks", inPlace := ["internal/bytealg.IndexByteString", "internal/abi.NoEscape"], unfollowed := true, recurses := true, named := ["tailwater/chars.symbols", "strconv.ErrSyntax", "strconv.ErrRange", "internal/strconv.uint64pow10", "math/bits.deBruijn32tab", "math/bits.deBruijn64tab", "tailwater/chars.words", "tailwater/exprs.operators", "tailwater/clauses.names"], apart := false, laid := [("math/bits.deBruijn32tab", laid_math_bits_deBruijn32tab), ("math/bits.deBruijn64tab", laid_math_bits_deBruijn64tab), ("internal/strconv.uint64pow10", laid_internal_strconv_uint64pow10), ("strconv.ErrRange", laid_strconv_ErrRange), ("strconv.ErrSyntax", laid_strconv_ErrSyntax), ("tailwater/clauses.names", laid_tailwater_clauses_names), ("tailwater/chars.symbols", laid_tailwater_chars_symbols), ("tailwater/chars.words", laid_tailwater_chars_words), ("tailwater/exprs.operators", laid_tailwater_exprs_operators)], narrowed := true }
def ParserBlanksUptoSaid : Prop := parserBlanksUptoRow.holds Tryz.pinned (OpenSpec.upto parserBlanksSpec)

/-- 'tailwaterlaw09.ParserExact', WHERE WHAT IT READS IS OF BULK AT MOST 1048576: true; the input reads as it did. -/
def parserExactUptoRow : OpenClaim := { program := "ytdinaedknlkicaagreatdoor", sum := "604e00ebbb44bdf66282de2dd90083e96d68c2f19d12b77634d4878ce14b9be4", func := "tailwater/tailwaterlaw09.ParserExact", spec := "parserExact", inPlace := ["internal/bytealg.IndexByteString", "internal/abi.NoEscape"], unfollowed := true, recurses := true, named := ["tailwater/chars.symbols", "strconv.ErrSyntax", "strconv.ErrRange", "internal/strconv.uint64pow10", "math/bits.deBruijn32tab", "math/bits.deBruijn64tab", "tailwater/chars.words", "tailwater/exprs.operators", "tailwater/clauses.names"], apart := false, laid := [("math/bits.deBruijn32tab", laid_math_bits_deBruijn32tab), ("math/bits.deBruijn64tab", laid_math_bits_deBruijn64tab), ("internal/strconv.uint64pow10", laid_internal_strconv_uint64pow10), ("strconv.ErrRange", laid_strconv_ErrRange), ("strconv.ErrSyntax", laid_strconv_ErrSyntax), ("tailwater/clauses.names", laid_tailwater_clauses_names), ("tailwater/chars.symbols", laid_tailwater_chars_symbols), ("tailwater/chars.words", laid_tailwater_chars_words), ("tailwater/exprs.operators", laid_tailwater_exprs_operators)], narrowed := true }
def ParserExactUptoSaid : Prop := parserExactUptoRow.holds Tryz.pinned (OpenSpec.upto parserExactSpec)

/-- 'tailwaterlaw09.ParserParts', WHERE WHAT IT READS IS OF BULK AT MOST 1048576: true; the input reads as it did. -/
def parserPartsUptoRow : OpenClaim := { program := "ytdinaedknlkicaagreatdoor", sum := "604e00ebbb44bdf66282de2dd90083e96d68c2f19d12b77634d4878ce14b9be4", func := "tailwater/tailwaterlaw09.ParserParts", spec := "parserParts", inPlace := ["internal/bytealg.IndexByteString", "internal/abi.NoEscape"], unfollowed := true, recurses := true, named := ["tailwater/chars.symbols", "strconv.ErrSyntax", "strconv.ErrRange", "internal/strconv.uint64pow10", "math/bits.deBruijn32tab", "math/bits.deBruijn64tab", "tailwater/chars.words", "tailwater/exprs.operators", "tailwater/clauses.names"], apart := false, laid := [("math/bits.deBruijn32tab", laid_math_bits_deBruijn32tab), ("math/bits.deBruijn64tab", laid_math_bits_deBruijn64tab), ("internal/strconv.uint64pow10", laid_internal_strconv_uint64pow10), ("strconv.ErrRange", laid_strconv_ErrRange), ("strconv.ErrSyntax", laid_strconv_ErrSyntax), ("tailwater/clauses.names", laid_tailwater_clauses_names), ("tailwater/chars.symbols", laid_tailwater_chars_symbols), ("tailwater/chars.words", laid_tailwater_chars_words), ("tailwater/exprs.operators", laid_tailwater_exprs_operators)], narrowed := true }
def ParserPartsUptoSaid : Prop := parserPartsUptoRow.holds Tryz.pinned (OpenSpec.upto parserPartsSpec)

end Rows
end Go.Proofs.YtdinaedknlkicaaGreatDoor
