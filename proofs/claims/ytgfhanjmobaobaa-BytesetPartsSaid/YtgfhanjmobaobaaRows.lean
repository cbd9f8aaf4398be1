/-
  No cell of these rows narrows 'for every input' (looked for: loops, veiled, ifaces, maps, wideKeys, modest, calm, conditions, laid).
  DERIVED. THE GIVEN ROWS OF THIS SEAT. 9 by the template 'for every input the law returns true; each argument reads behind the call as it read before'; 0 by the template 'total and deterministic' (their statements: YtgfhanjmobaobaaTotals.lean).
  GIVEN WITH THE SEED: the statements are not yours to turn. If you find one false, say at which input.
  Laid BY PROGRAM, IN A SANDBOX (cutbox-rows.mjs): the forced cells as the released guide's own fill.sh prints them over the translation 255a0982dbb3176e… (all of the seat's roots in one cut). By AI agents, Wed Nov 11 2026. No macro, syntax, notation, axiom, sorry.
-/
import Derived.Test.YtgfhanjmobaobaaChecked
import GoSem.Claim
import GoSem.ClaimJoined
import GoSem.ClaimMapViews
import Derived.JoinedTies
import Derived.KernelRfl
namespace Go.Proofs.Ytgfhanjmobaobaa
/- THE CELL 'sum', in the pinned program and in every row, IS THE sha256 OF THE DUMP (.gsa) THAT YtgfhanjmobaobaaProg.lean LOADS. Nothing in Lean hashes anything: it is a label: what it is worth is what the hold of that sum in a sandbox is worth. -/
noncomputable def Try.pinned : Pinned := { name := "ytgfhanjmobaobaa", sum := "255a0982dbb3176e3918ab6d6a31591f18f93c58caf6257767f52596b688ed2e", checked := Try.checked }
namespace Rows
def none {H : Type} : Left H := { results := [], args := [] }

/-- 'regletlaw01.BytesetSets': WHATEVER THE INPUT: true; the input reads as it did. -/
def bytesetSetsSpec : ChangeSpec := { name := "bytesetSets", fn := fun _ => fun
  | [d1, d2, d3] => { results := [.lit (.bool true)], args := [d1, d2, d3] }
  | _ => none }
def bytesetSetsRow : OpenClaim := { program := "ytgfhanjmobaobaa", sum := "255a0982dbb3176e3918ab6d6a31591f18f93c58caf6257767f52596b688ed2e", func := "reglet/regletlaw01.BytesetSets", spec := "bytesetSets", unfollowed := true, recurses := true, apart := false }
def BytesetSetsSaid : Prop := bytesetSetsRow.holds Try.pinned (OpenSpec.ofChange bytesetSetsSpec)

/-- ITS FALSE NEIGHBOUR: 'it returns false'. Refute it at one input. -/
def bytesetSetsWrong : ChangeSpec := { name := "bytesetSets", fn := fun _ => fun
  | [d1, d2, d3] => { results := [.lit (.bool false)], args := [d1, d2, d3] }
  | _ => none }
def BytesetSetsWrongFalsely : Prop := bytesetSetsRow.holds Try.pinned (OpenSpec.ofChange bytesetSetsWrong)

/-- 'regletlaw01.BytesetRanges': WHATEVER THE INPUT: true; the input reads as it did. -/
def bytesetRangesSpec : ChangeSpec := { name := "bytesetRanges", fn := fun _ => fun
  | [d1, d2, d3] => { results := [.lit (.bool true)], args := [d1, d2, d3] }
  | _ => none }
def bytesetRangesRow : OpenClaim := { program := "ytgfhanjmobaobaa", sum := "255a0982dbb3176e3918ab6d6a31591f18f93c58caf6257767f52596b688ed2e", func := "reglet/regletlaw01.BytesetRanges", spec := "bytesetRanges", unfollowed := true, recurses := true, apart := false }
def BytesetRangesSaid : Prop := bytesetRangesRow.holds Try.pinned (OpenSpec.ofChange bytesetRangesSpec)

/-- ITS FALSE NEIGHBOUR: 'it returns false'. Refute it at one input. -/
def bytesetRangesWrong : ChangeSpec := { name := "bytesetRanges", fn := fun _ => fun
  | [d1, d2, d3] => { results := [.lit (.bool false)], args := [d1, d2, d3] }
  | _ => none }
def BytesetRangesWrongFalsely : Prop := bytesetRangesRow.holds Try.pinned (OpenSpec.ofChange bytesetRangesWrong)

/-- 'regletlaw01.BytesetSmall': WHATEVER THE INPUT: true; the input reads as it did. -/
def bytesetSmallSpec : ChangeSpec := { name := "bytesetSmall", fn := fun _ => fun
  | [d1, d2, d3, d4] => { results := [.lit (.bool true)], args := [d1, d2, d3, d4] }
  | _ => none }
def bytesetSmallRow : OpenClaim := { program := "ytgfhanjmobaobaa", sum := "255a0982dbb3176e3918ab6d6a31591f18f93c58caf6257767f52596b688ed2e", func := "reglet/regletlaw01.BytesetSmall", spec := "bytesetSmall", unfollowed := true, recurses := true, apart := false }
def BytesetSmallSaid : Prop := bytesetSmallRow.holds Try.pinned (OpenSpec.ofChange bytesetSmallSpec)

/-- ITS FALSE NEIGHBOUR: 'it returns false'. Refute it at one input. -/
def bytesetSmallWrong : ChangeSpec := { name := "bytesetSmall", fn := fun _ => fun
  | [d1, d2, d3, d4] => { results := [.lit (.bool false)], args := [d1, d2, d3, d4] }
  | _ => none }
def BytesetSmallWrongFalsely : Prop := bytesetSmallRow.holds Try.pinned (OpenSpec.ofChange bytesetSmallWrong)

/-- 'regletlaw01.BytesetClasses': WHATEVER THE INPUT: true; the input reads as it did. -/
def bytesetClassesSpec : ChangeSpec := { name := "bytesetClasses", fn := fun _ => fun
  | [d] => { results := [.lit (.bool true)], args := [d] }
  | _ => none }
def bytesetClassesRow : OpenClaim := { program := "ytgfhanjmobaobaa", sum := "255a0982dbb3176e3918ab6d6a31591f18f93c58caf6257767f52596b688ed2e", func := "reglet/regletlaw01.BytesetClasses", spec := "bytesetClasses", unfollowed := true, recurses := true, apart := false }
def BytesetClassesSaid : Prop := bytesetClassesRow.holds Try.pinned (OpenSpec.ofChange bytesetClassesSpec)

/-- ITS FALSE NEIGHBOUR: 'it returns false'. Refute it at one input. -/
def bytesetClassesWrong : ChangeSpec := { name := "bytesetClasses", fn := fun _ => fun
  | [d] => { results := [.lit (.bool false)], args := [d] }
  | _ => none }
def BytesetClassesWrongFalsely : Prop := bytesetClassesRow.holds Try.pinned (OpenSpec.ofChange bytesetClassesWrong)

/-- 'regletlaw01.BytesetTurned': WHATEVER THE INPUT: true; the input reads as it did. -/
def bytesetTurnedSpec : ChangeSpec := { name := "bytesetTurned", fn := fun _ => fun
  | [d1, d2] => { results := [.lit (.bool true)], args := [d1, d2] }
  | _ => none }
def bytesetTurnedRow : OpenClaim := { program := "ytgfhanjmobaobaa", sum := "255a0982dbb3176e3918ab6d6a31591f18f93c58caf6257767f52596b688ed2e", func := "reglet/regletlaw01.BytesetTurned", spec := "bytesetTurned", unfollowed := true, recurses := true, apart := false }
def BytesetTurnedSaid : Prop := bytesetTurnedRow.holds Try.pinned (OpenSpec.ofChange bytesetTurnedSpec)

/-- ITS FALSE NEIGHBOUR: 'it returns false'. Refute it at one input. -/
def bytesetTurnedWrong : ChangeSpec := { name := "bytesetTurned", fn := fun _ => fun
  | [d1, d2] => { results := [.lit (.bool false)], args := [d1, d2] }
  | _ => none }
def BytesetTurnedWrongFalsely : Prop := bytesetTurnedRow.holds Try.pinned (OpenSpec.ofChange bytesetTurnedWrong)

/-- 'regletlaw01.BytesetBack': WHATEVER THE INPUT: true; the input reads as it did. -/
def bytesetBackSpec : ChangeSpec := { name := "bytesetBack", fn := fun _ => fun
  | [d] => { results := [.lit (.bool true)], args := [d] }
  | _ => none }
def bytesetBackRow : OpenClaim := { program := "ytgfhanjmobaobaa", sum := "255a0982dbb3176e3918ab6d6a31591f18f93c58caf6257767f52596b688ed2e", func := "reglet/regletlaw01.BytesetBack", spec := "bytesetBack", unfollowed := true, recurses := true, apart := false }
def BytesetBackSaid : Prop := bytesetBackRow.holds Try.pinned (OpenSpec.ofChange bytesetBackSpec)

/-- ITS FALSE NEIGHBOUR: 'it returns false'. Refute it at one input. -/
def bytesetBackWrong : ChangeSpec := { name := "bytesetBack", fn := fun _ => fun
  | [d] => { results := [.lit (.bool false)], args := [d] }
  | _ => none }
def BytesetBackWrongFalsely : Prop := bytesetBackRow.holds Try.pinned (OpenSpec.ofChange bytesetBackWrong)

/-- 'regletlaw01.BytesetParts': WHATEVER THE INPUT: true; the input reads as it did. -/
def bytesetPartsSpec : ChangeSpec := { name := "bytesetParts", fn := fun _ => fun
  | [d] => { results := [.lit (.bool true)], args := [d] }
  | _ => none }
def bytesetPartsRow : OpenClaim := { program := "ytgfhanjmobaobaa", sum := "255a0982dbb3176e3918ab6d6a31591f18f93c58caf6257767f52596b688ed2e", func := "reglet/regletlaw01.BytesetParts", spec := "bytesetParts", unfollowed := true, recurses := true, apart := false }
def BytesetPartsSaid : Prop := bytesetPartsRow.holds Try.pinned (OpenSpec.ofChange bytesetPartsSpec)

/-- ITS FALSE NEIGHBOUR: 'it returns false'. Refute it at one input. -/
def bytesetPartsWrong : ChangeSpec := { name := "bytesetParts", fn := fun _ => fun
  | [d] => { results := [.lit (.bool false)], args := [d] }
  | _ => none }
def BytesetPartsWrongFalsely : Prop := bytesetPartsRow.holds Try.pinned (OpenSpec.ofChange bytesetPartsWrong)

/-- 'regletlaw01.BytesetRules': WHATEVER THE INPUT: true; the input reads as it did. -/
def bytesetRulesSpec : ChangeSpec := { name := "bytesetRules", fn := fun _ => fun
  | [d1, d2, d3] => { results := [.lit (.bool true)], args := [d1, d2, d3] }
  | _ => none }
def bytesetRulesRow : OpenClaim := { program := "ytgfhanjmobaobaa", sum := "255a0982dbb3176e3918ab6d6a31591f18f93c58caf6257767f52596b688ed2e", func := "reglet/regletlaw01.BytesetRules", spec := "bytesetRules", unfollowed := true, recurses := true, apart := false }
def BytesetRulesSaid : Prop := bytesetRulesRow.holds Try.pinned (OpenSpec.ofChange bytesetRulesSpec)

/-- ITS FALSE NEIGHBOUR: 'it returns false'. Refute it at one input. -/
def bytesetRulesWrong : ChangeSpec := { name := "bytesetRules", fn := fun _ => fun
  | [d1, d2, d3] => { results := [.lit (.bool false)], args := [d1, d2, d3] }
  | _ => none }
def BytesetRulesWrongFalsely : Prop := bytesetRulesRow.holds Try.pinned (OpenSpec.ofChange bytesetRulesWrong)

/-- 'regletlaw01.BytesetOf': WHATEVER THE INPUT: true; the input reads as it did. -/
def bytesetOfSpec : ChangeSpec := { name := "bytesetOf", fn := fun _ => fun
  | [d1, d2, d3] => { results := [.lit (.bool true)], args := [d1, d2, d3] }
  | _ => none }
def bytesetOfRow : OpenClaim := { program := "ytgfhanjmobaobaa", sum := "255a0982dbb3176e3918ab6d6a31591f18f93c58caf6257767f52596b688ed2e", func := "reglet/regletlaw01.BytesetOf", spec := "bytesetOf", unfollowed := true, recurses := true, apart := false }
def BytesetOfSaid : Prop := bytesetOfRow.holds Try.pinned (OpenSpec.ofChange bytesetOfSpec)

/-- ITS FALSE NEIGHBOUR: 'it returns false'. Refute it at one input. -/
def bytesetOfWrong : ChangeSpec := { name := "bytesetOf", fn := fun _ => fun
  | [d1, d2, d3] => { results := [.lit (.bool false)], args := [d1, d2, d3] }
  | _ => none }
def BytesetOfWrongFalsely : Prop := bytesetOfRow.holds Try.pinned (OpenSpec.ofChange bytesetOfWrong)

/- THE SECOND FORM. 'bulk': how many values and letters a reading holds, each counted each time it is reached (what is shared counts as often as it is met; a slice's spare places count too). A statement '..UptoSaid' is the law's where the arguments, and the package variables that the reading takes, are together of bulk at most 1048576: NARROWER than '..Said'. Prove '..Said' where nothing that the law and all that it calls make is longer than what came in: it says more and counts as full. Else prove '..UptoSaid'. A law counts once. -/
mutual
def uptoBulk {H : Type} : DataW H → Nat
  | .lit (.string bytes) => bytes.length + 1
  | .lit _ => 1
  | .nil => 1
  | .ptr d => uptoBulk d + 1
  | .slice elems spare => uptoBulkAll elems + uptoBulkAll spare + 1
  | .agg parts => uptoBulkAll parts + 1
  | .iface _ d => uptoBulk d + 1
  | .map entries => uptoBulkEntries entries + 1
  | .held _ => 1
def uptoBulkAll {H : Type} : List (DataW H) → Nat
  | [] => 0
  | d :: r => uptoBulk d + uptoBulkAll r
def uptoBulkEntries {H : Type} : List (Lit × DataW H) → Nat
  | [] => 0
  | x :: r => uptoBulkEntry x + uptoBulkEntries r
def uptoBulkEntry {H : Type} : Lit × DataW H → Nat
  | (.string bytes, d) => bytes.length + uptoBulk d + 1
  | (_, d) => uptoBulk d + 1
 end
def uptoSmall : (H : Type) → List (DataW H) → Bool := fun _ ds => decide (uptoBulkAll ds ≤ 1048576)
def OpenSpec.upto (s : _root_.Go.ChangeSpec) : _root_.Go.OpenSpec := { _root_.Go.OpenSpec.ofChange s with cond := some uptoSmall }

/-- 'regletlaw01.BytesetSets', WHERE WHAT IT READS IS OF BULK AT MOST 1048576: true; the input reads as it did. -/
def bytesetSetsUptoRow : OpenClaim := { program := "ytgfhanjmobaobaa", sum := "255a0982dbb3176e3918ab6d6a31591f18f93c58caf6257767f52596b688ed2e", func := "reglet/regletlaw01.BytesetSets", spec := "bytesetSets", unfollowed := true, recurses := true, apart := false, narrowed := true }
def BytesetSetsUptoSaid : Prop := bytesetSetsUptoRow.holds Try.pinned (OpenSpec.upto bytesetSetsSpec)

/-- 'regletlaw01.BytesetRanges', WHERE WHAT IT READS IS OF BULK AT MOST 1048576: true; the input reads as it did. -/
def bytesetRangesUptoRow : OpenClaim := { program := "ytgfhanjmobaobaa", sum := "255a0982dbb3176e3918ab6d6a31591f18f93c58caf6257767f52596b688ed2e", func := "reglet/regletlaw01.BytesetRanges", spec := "bytesetRanges", unfollowed := true, recurses := true, apart := false, narrowed := true }
def BytesetRangesUptoSaid : Prop := bytesetRangesUptoRow.holds Try.pinned (OpenSpec.upto bytesetRangesSpec)

/-- 'regletlaw01.BytesetSmall', WHERE WHAT IT READS IS OF BULK AT MOST 1048576: true; the input reads as it did. -/
def bytesetSmallUptoRow : OpenClaim := { program := "ytgfhanjmobaobaa", sum := "255a0982dbb3176e3918ab6d6a31591f18f93c58caf6257767f52596b688ed2e", func := "reglet/regletlaw01.BytesetSmall", spec := "bytesetSmall", unfollowed := true, recurses := true, apart := false, narrowed := true }
def BytesetSmallUptoSaid : Prop := bytesetSmallUptoRow.holds Try.pinned (OpenSpec.upto bytesetSmallSpec)

/-- 'regletlaw01.BytesetClasses', WHERE WHAT IT READS IS OF BULK AT MOST 1048576: true; the input reads as it did. -/
def bytesetClassesUptoRow : OpenClaim := { program := "ytgfhanjmobaobaa", sum := "255a0982dbb3176e3918ab6d6a31591f18f93c58caf6257767f52596b688ed2e", func := "reglet/regletlaw01.BytesetClasses", spec := "bytesetClasses", unfollowed := true, recurses := true, apart := false, narrowed := true }
def BytesetClassesUptoSaid : Prop := bytesetClassesUptoRow.holds Try.pinned (OpenSpec.upto bytesetClassesSpec)

/-- 'regletlaw01.BytesetTurned', WHERE WHAT IT READS IS OF BULK AT MOST 1048576: true; the input reads as it did. -/
def bytesetTurnedUptoRow : OpenClaim := { program := "ytgfhanjmobaobaa", sum := "255a0982dbb3176e3918ab6d6a31591f18f93c58caf6257767f52596b688ed2e", func := "reglet/regletlaw01.BytesetTurned", spec := "bytesetTurned", unfollowed := true, recurses := true, apart := false, narrowed := true }
def BytesetTurnedUptoSaid : Prop := bytesetTurnedUptoRow.holds Try.pinned (OpenSpec.upto bytesetTurnedSpec)

/-- 'regletlaw01.BytesetBack', WHERE WHAT IT READS IS OF BULK AT MOST 1048576: true; the input reads as it did. -/
def bytesetBackUptoRow : OpenClaim := { program := "ytgfhanjmobaobaa", sum := "255a0982dbb3176e3918ab6d6a31591f18f93c58caf6257767f52596b688ed2e", func := "reglet/regletlaw01.BytesetBack", spec := "bytesetBack", unfollowed := true, recurses := true, apart := false, narrowed := true }
def BytesetBackUptoSaid : Prop := bytesetBackUptoRow.holds Try.pinned (OpenSpec.upto bytesetBackSpec)

/-- 'regletlaw01.BytesetParts', WHERE WHAT IT READS IS OF BULK AT MOST 1048576: true; the input reads as it did. -/
def bytesetPartsUptoRow : OpenClaim := { program := "ytgfhanjmobaobaa", sum := "255a0982dbb3176e3918ab6d6a31591f18f93c58caf6257767f52596b688ed2e", func := "reglet/regletlaw01.BytesetParts", spec := "bytesetParts", unfollowed := true, recurses := true, apart := false, narrowed := true }
def BytesetPartsUptoSaid : Prop := bytesetPartsUptoRow.holds Try.pinned (OpenSpec.upto bytesetPartsSpec)

/-- 'regletlaw01.BytesetRules', WHERE WHAT IT READS IS OF BULK AT MOST 1048576: true; the input reads as it did. -/
def bytesetRulesUptoRow : OpenClaim := { program := "ytgfhanjmobaobaa", sum := "255a0982dbb3176e3918ab6d6a31591f18f93c58caf6257767f52596b688ed2e", func := "reglet/regletlaw01.BytesetRules", spec := "bytesetRules", unfollowed := true, recurses := true, apart := false, narrowed := true }
def BytesetRulesUptoSaid : Prop := bytesetRulesUptoRow.holds Try.pinned (OpenSpec.upto bytesetRulesSpec)

/-- 'regletlaw01.BytesetOf', WHERE WHAT IT READS IS OF BULK AT MOST 1048576: true; the input reads as it did. -/
def bytesetOfUptoRow : OpenClaim := { program := "ytgfhanjmobaobaa", sum := "255a0982dbb3176e3918ab6d6a31591f18f93c58caf6257767f52596b688ed2e", func := "reglet/regletlaw01.BytesetOf", spec := "bytesetOf", unfollowed := true, recurses := true, apart := false, narrowed := true }
def BytesetOfUptoSaid : Prop := bytesetOfUptoRow.holds Try.pinned (OpenSpec.upto bytesetOfSpec)

end Rows
end Go.Proofs.Ytgfhanjmobaobaa
