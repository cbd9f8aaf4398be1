/-
  DERIVED. GIVEN WITH THE SEED: THE CARDS: each row of YtekjnfldgjcgeaaGreatDoorRows.lean that lists a variable, with what it lists TIED to the program's text (the seventh form; the later family's looks); each row that meets fmt, with fmt's text TOLD by the authors' own Lean function (tested against real Go, not proved from fmt's source: count such statements apart). THE CARD IS WHAT COUNTS. Prove the row's statement (the work); the ties are given (YtekjnfldgjcgeaaGreatDoorTie.lean); close each card by the builder's one call (the guide's Derived/Test/ToyasCard.lean, 'card_holds'). Laid BY PROGRAM, IN A SANDBOX (cutbox-door.mjs). By AI agents, Wed Nov 11 2026. No macro, syntax, notation, axiom, sorry.
-/
import Derived.Test.YtekjnfldgjcgeaaGreatDoorRows
import GoSem.ClaimSeven
namespace Go.Proofs.YtekjnfldgjcgeaaGreatDoor
namespace Rows

/-- THE TIED CARD OF 'regletlaw05.GrammarAny'. -/
def grammarAnyCard : Claim7 := { stood := { row := grammarAnyRow, standIns := [], harness := (true, "0b681e6a78ca25972ce1b55294fc04e406828ca565e04023d884a41653283a93"), looks := true }, kinds := [], alts := [], laidByText := true, laidKinds := [.data, .data, .data, .data, .pinned, .pinned], laidTests := true, laidLooks := .later }
def GrammarAnyCardSaid : Prop := Claim7.holds Tryz.pinned (.plain (OpenSpec.ofChange grammarAnySpec)) grammarAnyCard

/-- THE SECOND FORM's CARD OF 'regletlaw05.GrammarAny'. -/
def grammarAnyUptoCard : Claim7 := { stood := { row := grammarAnyUptoRow, standIns := [], harness := (true, "0b681e6a78ca25972ce1b55294fc04e406828ca565e04023d884a41653283a93"), looks := true }, kinds := [], alts := [], laidByText := true, laidKinds := [.data, .data, .data, .data, .pinned, .pinned], laidTests := true, laidLooks := .later }
def GrammarAnyUptoCardSaid : Prop := Claim7.holds Tryz.pinned (.plain (OpenSpec.upto grammarAnySpec)) grammarAnyUptoCard
end Rows
end Go.Proofs.YtekjnfldgjcgeaaGreatDoor
