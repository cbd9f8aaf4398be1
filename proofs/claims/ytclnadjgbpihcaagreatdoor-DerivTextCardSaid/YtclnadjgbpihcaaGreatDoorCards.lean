/-
  DERIVED. GIVEN WITH THE SEED: THE CARDS: each row of YtclnadjgbpihcaaGreatDoorRows.lean that lists a variable, with what it lists TIED to the program's text (the seventh form; the later family's looks); each row that meets fmt, with fmt's text TOLD by the authors' own Lean function (tested against real Go, not proved from fmt's source: count such statements apart). THE CARD IS WHAT COUNTS. Prove the row's statement (the work); the ties are given (YtclnadjgbpihcaaGreatDoorTie.lean); close each card by the builder's one call (the guide's Derived/Test/ToyasCard.lean, 'card_holds'). Laid BY PROGRAM, IN A SANDBOX (cutbox-door.mjs). By AI agents, Wed Nov 11 2026. No macro, syntax, notation, axiom, sorry.
-/
import Derived.Test.YtclnadjgbpihcaaGreatDoorRows
import GoSem.ClaimSeven
namespace Go.Proofs.YtclnadjgbpihcaaGreatDoor
namespace Rows

/-- THE TIED CARD OF 'regletlaw08.DerivMatch'. -/
def derivMatchCard : Claim7 := { stood := { row := derivMatchRow, standIns := [], harness := (true, "5ec12d814eac03558458b8376606e64e4f8e93df4bbd9e173c0245570ad900a6"), looks := false }, kinds := [], alts := [], laidByText := true, laidKinds := [.data, .data, .data], laidTests := true, laidLooks := .later }
def DerivMatchCardSaid : Prop := Claim7.holds Tryz.pinned (.plain (OpenSpec.ofChange derivMatchSpec)) derivMatchCard

/-- THE TIED CARD OF 'regletlaw08.DerivText'. -/
def derivTextCard : Claim7 := { stood := { row := derivTextRow, standIns := [], harness := (true, "5ec12d814eac03558458b8376606e64e4f8e93df4bbd9e173c0245570ad900a6"), looks := false }, kinds := [], alts := [], laidByText := true, laidKinds := [.data, .data, .data], laidTests := true, laidLooks := .later }
def DerivTextCardSaid : Prop := Claim7.holds Tryz.pinned (.plain (OpenSpec.ofChange derivTextSpec)) derivTextCard

/-- THE SECOND FORM's CARD OF 'regletlaw08.DerivMatch'. -/
def derivMatchUptoCard : Claim7 := { stood := { row := derivMatchUptoRow, standIns := [], harness := (true, "5ec12d814eac03558458b8376606e64e4f8e93df4bbd9e173c0245570ad900a6"), looks := false }, kinds := [], alts := [], laidByText := true, laidKinds := [.data, .data, .data], laidTests := true, laidLooks := .later }
def DerivMatchUptoCardSaid : Prop := Claim7.holds Tryz.pinned (.plain (OpenSpec.upto derivMatchSpec)) derivMatchUptoCard

/-- THE SECOND FORM's CARD OF 'regletlaw08.DerivText'. -/
def derivTextUptoCard : Claim7 := { stood := { row := derivTextUptoRow, standIns := [], harness := (true, "5ec12d814eac03558458b8376606e64e4f8e93df4bbd9e173c0245570ad900a6"), looks := false }, kinds := [], alts := [], laidByText := true, laidKinds := [.data, .data, .data], laidTests := true, laidLooks := .later }
def DerivTextUptoCardSaid : Prop := Claim7.holds Tryz.pinned (.plain (OpenSpec.upto derivTextSpec)) derivTextUptoCard
end Rows
end Go.Proofs.YtclnadjgbpihcaaGreatDoor
