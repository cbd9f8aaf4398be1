/-
  DERIVED. GIVEN WITH THE SEED: THE CARDS: each row of YtddbaacibdmnaaaGreatDoorRows.lean that lists a variable, with what it lists TIED to the program's text (the seventh form; the later family's looks); each row that meets fmt, with fmt's text TOLD by the authors' own Lean function (tested against real Go, not proved from fmt's source: count such statements apart). THE CARD IS WHAT COUNTS. Prove the row's statement (the work); the ties are given (YtddbaacibdmnaaaGreatDoorTie.lean); close each card by the builder's one call (the guide's Derived/Test/ToyasCard.lean, 'card_holds'). Laid BY PROGRAM, IN A SANDBOX (cutbox-door.mjs). By AI agents, Wed Nov 11 2026. No macro, syntax, notation, axiom, sorry.
-/
import Derived.Test.YtddbaacibdmnaaaGreatDoorRows
import GoSem.ClaimSeven
namespace Go.Proofs.YtddbaacibdmnaaaGreatDoor
namespace Rows

/-- THE TIED CARD OF 'regletlaw04.TellerBack'. -/
def tellerBackCard : Claim7 := { stood := { row := tellerBackRow, standIns := [], harness := (true, "ce011140060f10d3f439c006d12f8eb50910ee5460bd3465aac404b125a8aa6e"), looks := false }, kinds := [], alts := [], laidByText := true, laidKinds := [.data, .data, .data, .data, .pinned, .pinned], laidTests := true, laidLooks := .later }
def TellerBackCardSaid : Prop := Claim7.holds Tryz.pinned (.plain (OpenSpec.ofChange tellerBackSpec)) tellerBackCard

/-- THE SECOND FORM's CARD OF 'regletlaw04.TellerBack'. -/
def tellerBackUptoCard : Claim7 := { stood := { row := tellerBackUptoRow, standIns := [], harness := (true, "ce011140060f10d3f439c006d12f8eb50910ee5460bd3465aac404b125a8aa6e"), looks := false }, kinds := [], alts := [], laidByText := true, laidKinds := [.data, .data, .data, .data, .pinned, .pinned], laidTests := true, laidLooks := .later }
def TellerBackUptoCardSaid : Prop := Claim7.holds Tryz.pinned (.plain (OpenSpec.upto tellerBackSpec)) tellerBackUptoCard
end Rows
end Go.Proofs.YtddbaacibdmnaaaGreatDoor
