/-
  DERIVED. GIVEN WITH THE SEED: THE CARDS: each row of YtjeplmnjgdpgbaaGreatDoorRows.lean that lists a variable, with what it lists TIED to the program's text (the seventh form; the later family's looks); each row that meets fmt, with fmt's text TOLD by the authors' own Lean function (tested against real Go, not proved from fmt's source: count such statements apart). THE CARD IS WHAT COUNTS. Prove the row's statement (the work); the ties are given (YtjeplmnjgdpgbaaGreatDoorTie.lean); close each card by the builder's one call (the guide's Derived/Test/ToyasCard.lean, 'card_holds'). Laid BY PROGRAM, IN A SANDBOX (cutbox-door.mjs). By AI agents, Wed Nov 11 2026. No macro, syntax, notation, axiom, sorry.
-/
import Derived.Test.YtjeplmnjgdpgbaaGreatDoorRows
import GoSem.ClaimSeven
namespace Go.Proofs.YtjeplmnjgdpgbaaGreatDoor
namespace Rows

/-- THE TIED CARD OF 'regletlaw08.DerivAhead'. -/
def derivAheadCard : Claim7 := { stood := { row := derivAheadRow, standIns := [], harness := (true, "7a42c5745f54203a410506262762ddcdf862120332d774e319400e738c8c0992"), looks := false }, kinds := [], alts := [], laidByText := true, laidKinds := [.data, .data, .data], laidTests := true, laidLooks := .later }
def DerivAheadCardSaid : Prop := Claim7.holds Tryz.pinned (.plain (OpenSpec.ofChange derivAheadSpec)) derivAheadCard

/-- THE TIED CARD OF 'regletlaw08.DerivRight'. -/
def derivRightCard : Claim7 := { stood := { row := derivRightRow, standIns := [], harness := (true, "7a42c5745f54203a410506262762ddcdf862120332d774e319400e738c8c0992"), looks := false }, kinds := [], alts := [], laidByText := true, laidKinds := [.data, .data, .data], laidTests := true, laidLooks := .later }
def DerivRightCardSaid : Prop := Claim7.holds Tryz.pinned (.plain (OpenSpec.ofChange derivRightSpec)) derivRightCard

/-- THE SECOND FORM's CARD OF 'regletlaw08.DerivAhead'. -/
def derivAheadUptoCard : Claim7 := { stood := { row := derivAheadUptoRow, standIns := [], harness := (true, "7a42c5745f54203a410506262762ddcdf862120332d774e319400e738c8c0992"), looks := false }, kinds := [], alts := [], laidByText := true, laidKinds := [.data, .data, .data], laidTests := true, laidLooks := .later }
def DerivAheadUptoCardSaid : Prop := Claim7.holds Tryz.pinned (.plain (OpenSpec.upto derivAheadSpec)) derivAheadUptoCard

/-- THE SECOND FORM's CARD OF 'regletlaw08.DerivRight'. -/
def derivRightUptoCard : Claim7 := { stood := { row := derivRightUptoRow, standIns := [], harness := (true, "7a42c5745f54203a410506262762ddcdf862120332d774e319400e738c8c0992"), looks := false }, kinds := [], alts := [], laidByText := true, laidKinds := [.data, .data, .data], laidTests := true, laidLooks := .later }
def DerivRightUptoCardSaid : Prop := Claim7.holds Tryz.pinned (.plain (OpenSpec.upto derivRightSpec)) derivRightUptoCard
end Rows
end Go.Proofs.YtjeplmnjgdpgbaaGreatDoor
