/-
  DERIVED. GIVEN WITH THE SEED: THE CARDS: each row of YtchicecmoknkjabDoorRows.lean that lists a variable, with what it lists TIED to the program's text (the seventh form; the later family's looks); each row that meets fmt, with fmt's text TOLD by the authors' own Lean function (tested against real Go, not proved from fmt's source: count such statements apart). THE CARD IS WHAT COUNTS. Prove the row's statement (the work); the ties are given (YtchicecmoknkjabDoorTie.lean); close each card by the builder's one call (the guide's Derived/Test/ToyasCard.lean, 'card_holds'). Laid BY PROGRAM, IN A SANDBOX (cutbox-door.mjs). By AI agents, Wed Nov 11 2026. No macro, syntax, notation, axiom, sorry.
-/
import Derived.Test.YtchicecmoknkjabDoorRows
import GoSem.ClaimSeven
namespace Go.Proofs.YtchicecmoknkjabDoor
namespace Rows

/-- THE TIED CARD OF 'regletlaw07.RegexBrackets'. -/
def regexBracketsCard : Claim7 := { stood := { row := regexBracketsRow, standIns := [], harness := (true, "c21ac8933b73a65d20c664791472c65a3f0dbcb304ab1e8ed035cfc06d3c4682"), looks := false }, kinds := [], alts := [], laidByText := true, laidKinds := [.data, .data, .data], laidTests := true, laidLooks := .later }
def RegexBracketsCardSaid : Prop := Claim7.holds Tryd.pinned (.plain (OpenSpec.ofChange regexBracketsSpec)) regexBracketsCard

/-- THE TIED CARD OF 'regletlaw07.RegexUnits'. -/
def regexUnitsCard : Claim7 := { stood := { row := regexUnitsRow, standIns := [], harness := (true, "c21ac8933b73a65d20c664791472c65a3f0dbcb304ab1e8ed035cfc06d3c4682"), looks := false }, kinds := [], alts := [], laidByText := true, laidKinds := [.data, .data, .data], laidTests := true, laidLooks := .later }
def RegexUnitsCardSaid : Prop := Claim7.holds Tryd.pinned (.plain (OpenSpec.ofChange regexUnitsSpec)) regexUnitsCard

/-- THE SECOND FORM's CARD OF 'regletlaw07.RegexBrackets'. -/
def regexBracketsUptoCard : Claim7 := { stood := { row := regexBracketsUptoRow, standIns := [], harness := (true, "c21ac8933b73a65d20c664791472c65a3f0dbcb304ab1e8ed035cfc06d3c4682"), looks := false }, kinds := [], alts := [], laidByText := true, laidKinds := [.data, .data, .data], laidTests := true, laidLooks := .later }
def RegexBracketsUptoCardSaid : Prop := Claim7.holds Tryd.pinned (.plain (OpenSpec.upto regexBracketsSpec)) regexBracketsUptoCard

/-- THE SECOND FORM's CARD OF 'regletlaw07.RegexUnits'. -/
def regexUnitsUptoCard : Claim7 := { stood := { row := regexUnitsUptoRow, standIns := [], harness := (true, "c21ac8933b73a65d20c664791472c65a3f0dbcb304ab1e8ed035cfc06d3c4682"), looks := false }, kinds := [], alts := [], laidByText := true, laidKinds := [.data, .data, .data], laidTests := true, laidLooks := .later }
def RegexUnitsUptoCardSaid : Prop := Claim7.holds Tryd.pinned (.plain (OpenSpec.upto regexUnitsSpec)) regexUnitsUptoCard
end Rows
end Go.Proofs.YtchicecmoknkjabDoor
