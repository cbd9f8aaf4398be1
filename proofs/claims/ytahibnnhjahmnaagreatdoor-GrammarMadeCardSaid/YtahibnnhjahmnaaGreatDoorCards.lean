/-
  DERIVED. GIVEN WITH THE SEED: THE CARDS: each row of YtahibnnhjahmnaaGreatDoorRows.lean that lists a variable, with what it lists TIED to the program's text (the seventh form; the later family's looks); each row that meets fmt, with fmt's text TOLD by the authors' own Lean function (tested against real Go, not proved from fmt's source: count such statements apart). THE CARD IS WHAT COUNTS. Prove the row's statement (the work); the ties are given (YtahibnnhjahmnaaGreatDoorTie.lean); close each card by the builder's one call (the guide's Derived/Test/ToyasCard.lean, 'card_holds'). Laid BY PROGRAM, IN A SANDBOX (cutbox-door.mjs). By AI agents, Wed Nov 11 2026. No macro, syntax, notation, axiom, sorry.
-/
import Derived.Test.YtahibnnhjahmnaaGreatDoorRows
import GoSem.ClaimSeven
namespace Go.Proofs.YtahibnnhjahmnaaGreatDoor
namespace Rows

/-- THE TIED CARD OF 'regletlaw05.GrammarMade'. -/
def grammarMadeCard : Claim7 := { stood := { row := grammarMadeRow, standIns := [], harness := (true, "d0c8e2618c632cbc594ed9449055cad9b1fd852581b1b8345b4da8c6114940c4"), looks := true }, kinds := [], alts := [], laidByText := true, laidKinds := [.data, .data, .data, .data, .pinned, .pinned], laidTests := true, laidLooks := .later }
def GrammarMadeCardSaid : Prop := Claim7.holds Tryz.pinned (.plain (OpenSpec.ofChange grammarMadeSpec)) grammarMadeCard

/-- THE SECOND FORM's CARD OF 'regletlaw05.GrammarMade'. -/
def grammarMadeUptoCard : Claim7 := { stood := { row := grammarMadeUptoRow, standIns := [], harness := (true, "d0c8e2618c632cbc594ed9449055cad9b1fd852581b1b8345b4da8c6114940c4"), looks := true }, kinds := [], alts := [], laidByText := true, laidKinds := [.data, .data, .data, .data, .pinned, .pinned], laidTests := true, laidLooks := .later }
def GrammarMadeUptoCardSaid : Prop := Claim7.holds Tryz.pinned (.plain (OpenSpec.upto grammarMadeSpec)) grammarMadeUptoCard
end Rows
end Go.Proofs.YtahibnnhjahmnaaGreatDoor
