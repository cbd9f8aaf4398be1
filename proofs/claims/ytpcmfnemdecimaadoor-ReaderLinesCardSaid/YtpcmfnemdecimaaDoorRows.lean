/-
  NARROWER THAN 'FOR EVERY INPUT', by the rows' own cells (each row's printed sentence says how): ReaderAny: laid · ReaderSmall: laid · ReaderDeep: laid · ReaderTwo: laid · ReaderLines: laid · ReaderNumbers: laid · ReaderRepeats: laid.
  DERIVED. THE GIVEN ROWS OF THIS SEAT. 7 by the template 'for every input the law returns true; each argument reads behind the call as it read before'; 0 by the template 'total and deterministic' (their statements: YtpcmfnemdecimaaDoorTotals.lean).
  GIVEN WITH THE SEED: the statements are not yours to turn. If you find one false, say at which input.
  Laid BY PROGRAM, IN A SANDBOX (cutbox-rows.mjs): the forced cells as the released guide's own fill.sh prints them over the translation ece7b792e2cb5e38… (all of the seat's roots in one cut). By AI agents, Wed Nov 11 2026. No macro, syntax, notation, axiom, sorry.
-/
import Derived.Test.YtpcmfnemdecimaaDoorChecked
import GoSem.PinnedTables
import GoSem.Claim
import GoSem.ClaimJoined
import GoSem.ClaimMapViews
import Derived.JoinedTies
import Derived.KernelRfl
namespace Go.Proofs.YtpcmfnemdecimaaDoor
/- THE CELL 'sum', in the pinned program and in every row, IS THE sha256 OF THE DUMP (.gsa) THAT YtpcmfnemdecimaaDoorProg.lean LOADS. Nothing in Lean hashes anything: it is a label: what it is worth is what the hold of that sum in a sandbox is worth. -/
noncomputable def Tryd.pinned : Pinned := { name := "ytpcmfnemdecimaadoor", sum := "ece7b792e2cb5e389db4d69256f61be60eabe907d51423e60f46d3ed991f1d49", checked := Tryd.checked }
namespace Rows
def none {H : Type} : Left H := { results := [], args := [] }

/- WHAT THE LISTED PACKAGE-LEVEL VARIABLES READ AS WHEN THE CALL BEGINS. Each datum BY PROGRAM (the guide's laid-datum.mjs) off the statement by which the dump's own 'gosem.cut.vars' lays the variable. In a bare row this is a premise. The card (YtpcmfnemdecimaaDoorCards.lean) ties it to the program's text. -/
def laid_unicode_utf8_acceptRanges {H : Type} : DataW H := .agg [.agg [.lit (.int .u8 128), .lit (.int .u8 191)], .agg [.lit (.int .u8 160), .lit (.int .u8 191)], .agg [.lit (.int .u8 128), .lit (.int .u8 159)], .agg [.lit (.int .u8 144), .lit (.int .u8 191)], .agg [.lit (.int .u8 128), .lit (.int .u8 143)], .agg [.lit (.int .u8 0), .lit (.int .u8 0)], .agg [.lit (.int .u8 0), .lit (.int .u8 0)], .agg [.lit (.int .u8 0), .lit (.int .u8 0)], .agg [.lit (.int .u8 0), .lit (.int .u8 0)], .agg [.lit (.int .u8 0), .lit (.int .u8 0)], .agg [.lit (.int .u8 0), .lit (.int .u8 0)], .agg [.lit (.int .u8 0), .lit (.int .u8 0)], .agg [.lit (.int .u8 0), .lit (.int .u8 0)], .agg [.lit (.int .u8 0), .lit (.int .u8 0)], .agg [.lit (.int .u8 0), .lit (.int .u8 0)], .agg [.lit (.int .u8 0), .lit (.int .u8 0)]]
/-- One of Go's own tables, pinned by name: the form's constant. -/
def laid_unicode_CaseRanges : DataW Unit := Go.Pinned.caseRanges
/-- One of Go's own tables, pinned by name: the form's constant. -/
def laid_unicode_utf8_first : DataW Unit := Go.Pinned.utf8First

/-- 'regletlaw03.ReaderAny': WHATEVER THE INPUT: true; the input reads as it did. -/
def readerAnySpec : ChangeSpec := { name := "readerAny", fn := fun _ => fun
  | [d] => { results := [.lit (.bool true)], args := [d] }
  | _ => none }
def readerAnyRow : OpenClaim := { program := "ytpcmfnemdecimaadoor", sum := "ece7b792e2cb5e389db4d69256f61be60eabe907d51423e60f46d3ed991f1d49", func := "reglet/regletlaw03.ReaderAny", spec := "readerAny", inPlace := ["internal/abi.NoEscape", "internal/bytealg.MakeNoZero"], unfollowed := true, recurses := true, named := ["unicode/utf8.first", "unicode/utf8.acceptRanges", "unicode.CaseRanges"], apart := false, laid := [("unicode/utf8.acceptRanges", laid_unicode_utf8_acceptRanges), ("unicode.CaseRanges", laid_unicode_CaseRanges), ("unicode/utf8.first", laid_unicode_utf8_first)] }
def ReaderAnySaid : Prop := readerAnyRow.holds Tryd.pinned (OpenSpec.ofChange readerAnySpec)

/-- ITS FALSE NEIGHBOUR: 'it returns false'. Refute it at one input. -/
def readerAnyWrong : ChangeSpec := { name := "readerAny", fn := fun _ => fun
  | [d] => { results := [.lit (.bool false)], args := [d] }
  | _ => none }
def ReaderAnyWrongFalsely : Prop := readerAnyRow.holds Tryd.pinned (OpenSpec.ofChange readerAnyWrong)

/-- 'regletlaw03.ReaderSmall': WHATEVER THE INPUT: true; the input reads as it did. -/
def readerSmallSpec : ChangeSpec := { name := "readerSmall", fn := fun _ => fun
  | [d] => { results := [.lit (.bool true)], args := [d] }
  | _ => none }
def readerSmallRow : OpenClaim := { program := "ytpcmfnemdecimaadoor", sum := "ece7b792e2cb5e389db4d69256f61be60eabe907d51423e60f46d3ed991f1d49", func := "reglet/regletlaw03.ReaderSmall", spec := "readerSmall", inPlace := ["internal/abi.NoEscape", "internal/bytealg.MakeNoZero"], unfollowed := true, recurses := true, named := ["unicode/utf8.first", "unicode/utf8.acceptRanges", "unicode.CaseRanges"], apart := false, laid := [("unicode/utf8.acceptRanges", laid_unicode_utf8_acceptRanges), ("unicode.CaseRanges", laid_unicode_CaseRanges), ("unicode/utf8.first", laid_unicode_utf8_first)] }
def ReaderSmallSaid : Prop := readerSmallRow.holds Tryd.pinned (OpenSpec.ofChange readerSmallSpec)

/-- ITS FALSE NEIGHBOUR: 'it returns false'. Refute it at one input. -/
def readerSmallWrong : ChangeSpec := { name := "readerSmall", fn := fun _ => fun
  | [d] => { results := [.lit (.bool false)], args := [d] }
  | _ => none }
def ReaderSmallWrongFalsely : Prop := readerSmallRow.holds Tryd.pinned (OpenSpec.ofChange readerSmallWrong)

/-- 'regletlaw03.ReaderDeep': WHATEVER THE INPUT: true; the input reads as it did. -/
def readerDeepSpec : ChangeSpec := { name := "readerDeep", fn := fun _ => fun
  | [d1, d2] => { results := [.lit (.bool true)], args := [d1, d2] }
  | _ => none }
def readerDeepRow : OpenClaim := { program := "ytpcmfnemdecimaadoor", sum := "ece7b792e2cb5e389db4d69256f61be60eabe907d51423e60f46d3ed991f1d49", func := "reglet/regletlaw03.ReaderDeep", spec := "readerDeep", inPlace := ["internal/abi.NoEscape", "internal/bytealg.MakeNoZero"], unfollowed := true, recurses := true, named := ["unicode/utf8.first", "unicode/utf8.acceptRanges", "unicode.CaseRanges"], apart := false, laid := [("unicode/utf8.acceptRanges", laid_unicode_utf8_acceptRanges), ("unicode.CaseRanges", laid_unicode_CaseRanges), ("unicode/utf8.first", laid_unicode_utf8_first)] }
def ReaderDeepSaid : Prop := readerDeepRow.holds Tryd.pinned (OpenSpec.ofChange readerDeepSpec)

/-- ITS FALSE NEIGHBOUR: 'it returns false'. Refute it at one input. -/
def readerDeepWrong : ChangeSpec := { name := "readerDeep", fn := fun _ => fun
  | [d1, d2] => { results := [.lit (.bool false)], args := [d1, d2] }
  | _ => none }
def ReaderDeepWrongFalsely : Prop := readerDeepRow.holds Tryd.pinned (OpenSpec.ofChange readerDeepWrong)

/-- 'regletlaw03.ReaderTwo': WHATEVER THE INPUT: true; the input reads as it did. -/
def readerTwoSpec : ChangeSpec := { name := "readerTwo", fn := fun _ => fun
  | [d1, d2, d3, d4, d5] => { results := [.lit (.bool true)], args := [d1, d2, d3, d4, d5] }
  | _ => none }
def readerTwoRow : OpenClaim := { program := "ytpcmfnemdecimaadoor", sum := "ece7b792e2cb5e389db4d69256f61be60eabe907d51423e60f46d3ed991f1d49", func := "reglet/regletlaw03.ReaderTwo", spec := "readerTwo", inPlace := ["internal/abi.NoEscape", "internal/bytealg.MakeNoZero"], unfollowed := true, recurses := true, named := ["unicode/utf8.first", "unicode/utf8.acceptRanges", "unicode.CaseRanges"], apart := false, laid := [("unicode/utf8.acceptRanges", laid_unicode_utf8_acceptRanges), ("unicode.CaseRanges", laid_unicode_CaseRanges), ("unicode/utf8.first", laid_unicode_utf8_first)] }
def ReaderTwoSaid : Prop := readerTwoRow.holds Tryd.pinned (OpenSpec.ofChange readerTwoSpec)

/-- ITS FALSE NEIGHBOUR: 'it returns false'. Refute it at one input. -/
def readerTwoWrong : ChangeSpec := { name := "readerTwo", fn := fun _ => fun
  | [d1, d2, d3, d4, d5] => { results := [.lit (.bool false)], args := [d1, d2, d3, d4, d5] }
  | _ => none }
def ReaderTwoWrongFalsely : Prop := readerTwoRow.holds Tryd.pinned (OpenSpec.ofChange readerTwoWrong)

/-- 'regletlaw03.ReaderLines': WHATEVER THE INPUT: true; the input reads as it did. -/
def readerLinesSpec : ChangeSpec := { name := "readerLines", fn := fun _ => fun
  | [d1, d2, d3] => { results := [.lit (.bool true)], args := [d1, d2, d3] }
  | _ => none }
def readerLinesRow : OpenClaim := { program := "ytpcmfnemdecimaadoor", sum := "ece7b792e2cb5e389db4d69256f61be60eabe907d51423e60f46d3ed991f1d49", func := "reglet/regletlaw03.ReaderLines", spec := "readerLines", inPlace := ["internal/abi.NoEscape", "internal/bytealg.MakeNoZero"], unfollowed := true, recurses := true, named := ["unicode/utf8.first", "unicode/utf8.acceptRanges", "unicode.CaseRanges"], apart := false, laid := [("unicode/utf8.acceptRanges", laid_unicode_utf8_acceptRanges), ("unicode.CaseRanges", laid_unicode_CaseRanges), ("unicode/utf8.first", laid_unicode_utf8_first)] }
def ReaderLinesSaid : Prop := readerLinesRow.holds Tryd.pinned (OpenSpec.ofChange readerLinesSpec)

/-- ITS FALSE NEIGHBOUR: 'it returns false'. Refute it at one input. -/
def readerLinesWrong : ChangeSpec := { name := "readerLines", fn := fun _ => fun
  | [d1, d2, d3] => { results := [.lit (.bool false)], args := [d1, d2, d3] }
  | _ => none }
def ReaderLinesWrongFalsely : Prop := readerLinesRow.holds Tryd.pinned (OpenSpec.ofChange readerLinesWrong)

/-- 'regletlaw03.ReaderNumbers': WHATEVER THE INPUT: true; the input reads as it did. -/
def readerNumbersSpec : ChangeSpec := { name := "readerNumbers", fn := fun _ => fun
  | [d1, d2, d3] => { results := [.lit (.bool true)], args := [d1, d2, d3] }
  | _ => none }
def readerNumbersRow : OpenClaim := { program := "ytpcmfnemdecimaadoor", sum := "ece7b792e2cb5e389db4d69256f61be60eabe907d51423e60f46d3ed991f1d49", func := "reglet/regletlaw03.ReaderNumbers", spec := "readerNumbers", inPlace := ["internal/abi.NoEscape", "internal/bytealg.MakeNoZero"], unfollowed := true, recurses := true, named := ["unicode/utf8.first", "unicode/utf8.acceptRanges", "unicode.CaseRanges"], apart := false, laid := [("unicode/utf8.acceptRanges", laid_unicode_utf8_acceptRanges), ("unicode.CaseRanges", laid_unicode_CaseRanges), ("unicode/utf8.first", laid_unicode_utf8_first)] }
def ReaderNumbersSaid : Prop := readerNumbersRow.holds Tryd.pinned (OpenSpec.ofChange readerNumbersSpec)

/-- ITS FALSE NEIGHBOUR: 'it returns false'. Refute it at one input. -/
def readerNumbersWrong : ChangeSpec := { name := "readerNumbers", fn := fun _ => fun
  | [d1, d2, d3] => { results := [.lit (.bool false)], args := [d1, d2, d3] }
  | _ => none }
def ReaderNumbersWrongFalsely : Prop := readerNumbersRow.holds Tryd.pinned (OpenSpec.ofChange readerNumbersWrong)

/-- 'regletlaw03.ReaderRepeats': WHATEVER THE INPUT: true; the input reads as it did. -/
def readerRepeatsSpec : ChangeSpec := { name := "readerRepeats", fn := fun _ => fun
  | [d1, d2, d3] => { results := [.lit (.bool true)], args := [d1, d2, d3] }
  | _ => none }
def readerRepeatsRow : OpenClaim := { program := "ytpcmfnemdecimaadoor", sum := "ece7b792e2cb5e389db4d69256f61be60eabe907d51423e60f46d3ed991f1d49", func := "reglet/regletlaw03.ReaderRepeats", spec := "readerRepeats", inPlace := ["internal/abi.NoEscape", "internal/bytealg.MakeNoZero"], unfollowed := true, recurses := true, named := ["unicode/utf8.first", "unicode/utf8.acceptRanges", "unicode.CaseRanges"], apart := false, laid := [("unicode/utf8.acceptRanges", laid_unicode_utf8_acceptRanges), ("unicode.CaseRanges", laid_unicode_CaseRanges), ("unicode/utf8.first", laid_unicode_utf8_first)] }
def ReaderRepeatsSaid : Prop := readerRepeatsRow.holds Tryd.pinned (OpenSpec.ofChange readerRepeatsSpec)

/-- ITS FALSE NEIGHBOUR: 'it returns false'. Refute it at one input. -/
def readerRepeatsWrong : ChangeSpec := { name := "readerRepeats", fn := fun _ => fun
  | [d1, d2, d3] => { results := [.lit (.bool false)], args := [d1, d2, d3] }
  | _ => none }
def ReaderRepeatsWrongFalsely : Prop := readerRepeatsRow.holds Tryd.pinned (OpenSpec.ofChange readerRepeatsWrong)

/- THE SECOND FORM. 'bulk': how many values and letters a reading holds, each counted each time it is reached (what is shared counts as often as it is met; a slice's spare places count too). A statement '..UptoSaid' is the law's where the arguments, and the package variables that the reading takes, are together of bulk at most 1048576: NARROWER than '..Said'. Prove '..Said' where nothing that the law and all that it calls make is longer than what came in: it says more and counts as full. Else prove '..UptoSaid'. A law counts once. -/
mutual
def uptoBulk {H : Type} : DataW H → Nat
  | .lit (.string bytes) => bytes.length + 1
  | .lit _ => 1
  | .nil => 1
  | .ptr d => uptoBulk d + 1
  | .slice elems spare => uptoBulkAll elems + uptoBulkAll spare + 1
  | .agg parts => uptoBulkAll parts + 1
  | .iface _ d => uptoBulk d + 1
  | .map entries => uptoBulkEntries entries + 1
  | .held _ => 1
def uptoBulkAll {H : Type} : List (DataW H) → Nat
  | [] => 0
  | d :: r => uptoBulk d + uptoBulkAll r
def uptoBulkEntries {H : Type} : List (Lit × DataW H) → Nat
  | [] => 0
  | x :: r => uptoBulkEntry x + uptoBulkEntries r
def uptoBulkEntry {H : Type} : Lit × DataW H → Nat
  | (.string bytes, d) => bytes.length + uptoBulk d + 1
  | (_, d) => uptoBulk d + 1
 end
def uptoSmall : (H : Type) → List (DataW H) → Bool := fun _ ds => decide (uptoBulkAll ds ≤ 1048576)
def OpenSpec.upto (s : _root_.Go.ChangeSpec) : _root_.Go.OpenSpec := { _root_.Go.OpenSpec.ofChange s with cond := some uptoSmall }

/-- 'regletlaw03.ReaderAny', WHERE WHAT IT READS IS OF BULK AT MOST 1048576: true; the input reads as it did. -/
def readerAnyUptoRow : OpenClaim := { program := "ytpcmfnemdecimaadoor", sum := "ece7b792e2cb5e389db4d69256f61be60eabe907d51423e60f46d3ed991f1d49", func := "reglet/regletlaw03.ReaderAny", spec := "readerAny", inPlace := ["internal/abi.NoEscape", "internal/bytealg.MakeNoZero"], unfollowed := true, recurses := true, named := ["unicode/utf8.first", "unicode/utf8.acceptRanges", "unicode.CaseRanges"], apart := false, laid := [("unicode/utf8.acceptRanges", laid_unicode_utf8_acceptRanges), ("unicode.CaseRanges", laid_unicode_CaseRanges), ("unicode/utf8.first", laid_unicode_utf8_first)], narrowed := true }
def ReaderAnyUptoSaid : Prop := readerAnyUptoRow.holds Tryd.pinned (OpenSpec.upto readerAnySpec)

/-- 'regletlaw03.ReaderSmall', WHERE WHAT IT READS IS OF BULK AT MOST 1048576: true; the input reads as it did. -/
def readerSmallUptoRow : OpenClaim := { program := "ytpcmfnemdecimaadoor", sum := "ece7b792e2cb5e389db4d69256f61be60eabe907d51423e60f46d3ed991f1d49", func := "reglet/regletlaw03.ReaderSmall", spec := "readerSmall", inPlace := ["internal/abi.NoEscape", "internal/bytealg.MakeNoZero"], unfollowed := true, recurses := true, named := ["unicode/utf8.first", "unicode/utf8.acceptRanges", "unicode.CaseRanges"], apart := false, laid := [("unicode/utf8.acceptRanges", laid_unicode_utf8_acceptRanges), ("unicode.CaseRanges", laid_unicode_CaseRanges), ("unicode/utf8.first", laid_unicode_utf8_first)], narrowed := true }
def ReaderSmallUptoSaid : Prop := readerSmallUptoRow.holds Tryd.pinned (OpenSpec.upto readerSmallSpec)

/-- 'regletlaw03.ReaderDeep', WHERE WHAT IT READS IS OF BULK AT MOST 1048576: true; the input reads as it did. -/
def readerDeepUptoRow : OpenClaim := { program := "ytpcmfnemdecimaadoor", sum := "ece7b792e2cb5e389db4d69256f61be60eabe907d51423e60f46d3ed991f1d49", func := "reglet/regletlaw03.ReaderDeep", spec := "readerDeep", inPlace := ["internal/abi.NoEscape", "internal/bytealg.MakeNoZero"], unfollowed := true, recurses := true, named := ["unicode/utf8.first", "unicode/utf8.acceptRanges", "unicode.CaseRanges"], apart := false, laid := [("unicode/utf8.acceptRanges", laid_unicode_utf8_acceptRanges), ("unicode.CaseRanges", laid_unicode_CaseRanges), ("unicode/utf8.first", laid_unicode_utf8_first)], narrowed := true }
def ReaderDeepUptoSaid : Prop := readerDeepUptoRow.holds Tryd.pinned (OpenSpec.upto readerDeepSpec)

/-- 'regletlaw03.ReaderTwo', WHERE WHAT IT READS IS OF BULK AT MOST 1048576: true; the input reads as it did. -/
def readerTwoUptoRow : OpenClaim := { program := "ytpcmfnemdecimaadoor", sum := "ece7b792e2cb5e389db4d69256f61be60eabe907d51423e60f46d3ed991f1d49", func := "reglet/regletlaw03.ReaderTwo", spec := "readerTwo", inPlace := ["internal/abi.NoEscape", "internal/bytealg.MakeNoZero"], unfollowed := true, recurses := true, named := ["unicode/utf8.first", "unicode/utf8.acceptRanges", "unicode.CaseRanges"], apart := false, laid := [("unicode/utf8.acceptRanges", laid_unicode_utf8_acceptRanges), ("unicode.CaseRanges", laid_unicode_CaseRanges), ("unicode/utf8.first", laid_unicode_utf8_first)], narrowed := true }
def ReaderTwoUptoSaid : Prop := readerTwoUptoRow.holds Tryd.pinned (OpenSpec.upto readerTwoSpec)

/-- 'regletlaw03.ReaderLines', WHERE WHAT IT READS IS OF BULK AT MOST 1048576: true; the input reads as it did. -/
def readerLinesUptoRow : OpenClaim := { program := "ytpcmfnemdecimaadoor", sum := "ece7b792e2cb5e389db4d69256f61be60eabe907d51423e60f46d3ed991f1d49", func := "reglet/regletlaw03.ReaderLines", spec := "readerLines", inPlace := ["internal/abi.NoEscape", "internal/bytealg.MakeNoZero"], unfollowed := true, recurses := true, named := ["unicode/utf8.first", "unicode/utf8.acceptRanges", "unicode.CaseRanges"], apart := false, laid := [("unicode/utf8.acceptRanges", laid_unicode_utf8_acceptRanges), ("unicode.CaseRanges", laid_unicode_CaseRanges), ("unicode/utf8.first", laid_unicode_utf8_first)], narrowed := true }
def ReaderLinesUptoSaid : Prop := readerLinesUptoRow.holds Tryd.pinned (OpenSpec.upto readerLinesSpec)

/-- 'regletlaw03.ReaderNumbers', WHERE WHAT IT READS IS OF BULK AT MOST 1048576: true; the input reads as it did. -/
def readerNumbersUptoRow : OpenClaim := { program := "ytpcmfnemdecimaadoor", sum := "ece7b792e2cb5e389db4d69256f61be60eabe907d51423e60f46d3ed991f1d49", func := "reglet/regletlaw03.ReaderNumbers", spec := "readerNumbers", inPlace := ["internal/abi.NoEscape", "internal/bytealg.MakeNoZero"], unfollowed := true, recurses := true, named := ["unicode/utf8.first", "unicode/utf8.acceptRanges", "unicode.CaseRanges"], apart := false, laid := [("unicode/utf8.acceptRanges", laid_unicode_utf8_acceptRanges), ("unicode.CaseRanges", laid_unicode_CaseRanges), ("unicode/utf8.first", laid_unicode_utf8_first)], narrowed := true }
def ReaderNumbersUptoSaid : Prop := readerNumbersUptoRow.holds Tryd.pinned (OpenSpec.upto readerNumbersSpec)

/-- 'regletlaw03.ReaderRepeats', WHERE WHAT IT READS IS OF BULK AT MOST 1048576: true; the input reads as it did. -/
def readerRepeatsUptoRow : OpenClaim := { program := "ytpcmfnemdecimaadoor", sum := "ece7b792e2cb5e389db4d69256f61be60eabe907d51423e60f46d3ed991f1d49", func := "reglet/regletlaw03.ReaderRepeats", spec := "readerRepeats", inPlace := ["internal/abi.NoEscape", "internal/bytealg.MakeNoZero"], unfollowed := true, recurses := true, named := ["unicode/utf8.first", "unicode/utf8.acceptRanges", "unicode.CaseRanges"], apart := false, laid := [("unicode/utf8.acceptRanges", laid_unicode_utf8_acceptRanges), ("unicode.CaseRanges", laid_unicode_CaseRanges), ("unicode/utf8.first", laid_unicode_utf8_first)], narrowed := true }
def ReaderRepeatsUptoSaid : Prop := readerRepeatsUptoRow.holds Tryd.pinned (OpenSpec.upto readerRepeatsSpec)

end Rows
end Go.Proofs.YtpcmfnemdecimaaDoor
