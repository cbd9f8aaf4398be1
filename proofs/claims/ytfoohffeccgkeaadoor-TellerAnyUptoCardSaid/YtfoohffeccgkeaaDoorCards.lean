/-
  DERIVED. GIVEN WITH THE SEED: THE CARDS: each row of YtfoohffeccgkeaaDoorRows.lean that lists a variable, with what it lists TIED to the program's text (the seventh form; the later family's looks); each row that meets fmt, with fmt's text TOLD by the authors' own Lean function (tested against real Go, not proved from fmt's source: count such statements apart). THE CARD IS WHAT COUNTS. Prove the row's statement (the work); the ties are given (YtfoohffeccgkeaaDoorTie.lean); close each card by the builder's one call (the guide's Derived/Test/ToyasCard.lean, 'card_holds'). Laid BY PROGRAM, IN A SANDBOX (cutbox-door.mjs). By AI agents, Wed Nov 11 2026. No macro, syntax, notation, axiom, sorry.
-/
import Derived.Test.YtfoohffeccgkeaaDoorRows
import GoSem.ClaimSeven
namespace Go.Proofs.YtfoohffeccgkeaaDoor
namespace Rows

/-- THE TIED CARD OF 'regletlaw04.TellerAny'. -/
def tellerAnyCard : Claim7 := { stood := { row := tellerAnyRow, standIns := [], harness := (true, "d3da63df6e87271d654084e953504156ce88f8ace52c9da4245425b03e61f5fc"), looks := false }, kinds := [], alts := [], laidByText := true, laidKinds := [.data, .data, .data, .data, .pinned, .pinned], laidTests := true, laidLooks := .later }
def TellerAnyCardSaid : Prop := Claim7.holds Tryd.pinned (.plain (OpenSpec.ofChange tellerAnySpec)) tellerAnyCard

/-- THE SECOND FORM's CARD OF 'regletlaw04.TellerAny'. -/
def tellerAnyUptoCard : Claim7 := { stood := { row := tellerAnyUptoRow, standIns := [], harness := (true, "d3da63df6e87271d654084e953504156ce88f8ace52c9da4245425b03e61f5fc"), looks := false }, kinds := [], alts := [], laidByText := true, laidKinds := [.data, .data, .data, .data, .pinned, .pinned], laidTests := true, laidLooks := .later }
def TellerAnyUptoCardSaid : Prop := Claim7.holds Tryd.pinned (.plain (OpenSpec.upto tellerAnySpec)) tellerAnyUptoCard
end Rows
end Go.Proofs.YtfoohffeccgkeaaDoor
