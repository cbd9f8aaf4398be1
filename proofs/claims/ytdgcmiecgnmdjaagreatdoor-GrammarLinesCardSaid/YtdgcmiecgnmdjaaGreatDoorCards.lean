/-
  DERIVED. GIVEN WITH THE SEED: THE CARDS: each row of YtdgcmiecgnmdjaaGreatDoorRows.lean that lists a variable, with what it lists TIED to the program's text (the seventh form; the later family's looks); each row that meets fmt, with fmt's text TOLD by the authors' own Lean function (tested against real Go, not proved from fmt's source: count such statements apart). THE CARD IS WHAT COUNTS. Prove the row's statement (the work); the ties are given (YtdgcmiecgnmdjaaGreatDoorTie.lean); close each card by the builder's one call (the guide's Derived/Test/ToyasCard.lean, 'card_holds'). Laid BY PROGRAM, IN A SANDBOX (cutbox-door.mjs). By AI agents, Wed Nov 11 2026. No macro, syntax, notation, axiom, sorry.
-/
import Derived.Test.YtdgcmiecgnmdjaaGreatDoorRows
import GoSem.ClaimSeven
namespace Go.Proofs.YtdgcmiecgnmdjaaGreatDoor
namespace Rows

/-- THE TIED CARD OF 'regletlaw05.GrammarCore'. -/
def grammarCoreCard : Claim7 := { stood := { row := grammarCoreRow, standIns := [], harness := (true, "adf75a9761c51e54e7856487489c789dbbc8d7df221d32d159657957b592ad3e"), looks := true }, kinds := [], alts := [], laidByText := true, laidKinds := [.data, .data, .data, .data, .pinned, .pinned], laidTests := true, laidLooks := .later }
def GrammarCoreCardSaid : Prop := Claim7.holds Tryz.pinned (.plain (OpenSpec.ofChange grammarCoreSpec)) grammarCoreCard

/-- THE TIED CARD OF 'regletlaw05.GrammarAny'. -/
def grammarAnyCard : Claim7 := { stood := { row := grammarAnyRow, standIns := [], harness := (true, "adf75a9761c51e54e7856487489c789dbbc8d7df221d32d159657957b592ad3e"), looks := true }, kinds := [], alts := [], laidByText := true, laidKinds := [.data, .data, .data, .data, .pinned, .pinned], laidTests := true, laidLooks := .later }
def GrammarAnyCardSaid : Prop := Claim7.holds Tryz.pinned (.plain (OpenSpec.ofChange grammarAnySpec)) grammarAnyCard

/-- THE TIED CARD OF 'regletlaw05.GrammarLines'. -/
def grammarLinesCard : Claim7 := { stood := { row := grammarLinesRow, standIns := [], harness := (true, "adf75a9761c51e54e7856487489c789dbbc8d7df221d32d159657957b592ad3e"), looks := true }, kinds := [], alts := [], laidByText := true, laidKinds := [.data, .data, .data, .data, .pinned, .pinned], laidTests := true, laidLooks := .later }
def GrammarLinesCardSaid : Prop := Claim7.holds Tryz.pinned (.plain (OpenSpec.ofChange grammarLinesSpec)) grammarLinesCard

/-- THE TIED CARD OF 'regletlaw05.GrammarMade'. -/
def grammarMadeCard : Claim7 := { stood := { row := grammarMadeRow, standIns := [], harness := (true, "adf75a9761c51e54e7856487489c789dbbc8d7df221d32d159657957b592ad3e"), looks := true }, kinds := [], alts := [], laidByText := true, laidKinds := [.data, .data, .data, .data, .pinned, .pinned], laidTests := true, laidLooks := .later }
def GrammarMadeCardSaid : Prop := Claim7.holds Tryz.pinned (.plain (OpenSpec.ofChange grammarMadeSpec)) grammarMadeCard

/-- THE TIED CARD OF 'regletlaw05.GrammarWhole'. -/
def grammarWholeCard : Claim7 := { stood := { row := grammarWholeRow, standIns := [], harness := (true, "adf75a9761c51e54e7856487489c789dbbc8d7df221d32d159657957b592ad3e"), looks := true }, kinds := [], alts := [], laidByText := true, laidKinds := [.data, .data, .data, .data, .pinned, .pinned], laidTests := true, laidLooks := .later }
def GrammarWholeCardSaid : Prop := Claim7.holds Tryz.pinned (.plain (OpenSpec.ofChange grammarWholeSpec)) grammarWholeCard

/-- THE TIED CARD OF 'regletlaw05.GrammarReach'. -/
def grammarReachCard : Claim7 := { stood := { row := grammarReachRow, standIns := [], harness := (true, "adf75a9761c51e54e7856487489c789dbbc8d7df221d32d159657957b592ad3e"), looks := true }, kinds := [], alts := [], laidByText := true, laidKinds := [.data, .data, .data, .data, .pinned, .pinned], laidTests := true, laidLooks := .later }
def GrammarReachCardSaid : Prop := Claim7.holds Tryz.pinned (.plain (OpenSpec.ofChange grammarReachSpec)) grammarReachCard

/-- THE TIED CARD OF 'regletlaw05.GrammarJoins'. -/
def grammarJoinsCard : Claim7 := { stood := { row := grammarJoinsRow, standIns := [], harness := (true, "adf75a9761c51e54e7856487489c789dbbc8d7df221d32d159657957b592ad3e"), looks := true }, kinds := [], alts := [], laidByText := true, laidKinds := [.data, .data, .data, .data, .pinned, .pinned], laidTests := true, laidLooks := .later }
def GrammarJoinsCardSaid : Prop := Claim7.holds Tryz.pinned (.plain (OpenSpec.ofChange grammarJoinsSpec)) grammarJoinsCard

/-- THE SECOND FORM's CARD OF 'regletlaw05.GrammarCore'. -/
def grammarCoreUptoCard : Claim7 := { stood := { row := grammarCoreUptoRow, standIns := [], harness := (true, "adf75a9761c51e54e7856487489c789dbbc8d7df221d32d159657957b592ad3e"), looks := true }, kinds := [], alts := [], laidByText := true, laidKinds := [.data, .data, .data, .data, .pinned, .pinned], laidTests := true, laidLooks := .later }
def GrammarCoreUptoCardSaid : Prop := Claim7.holds Tryz.pinned (.plain (OpenSpec.upto grammarCoreSpec)) grammarCoreUptoCard

/-- THE SECOND FORM's CARD OF 'regletlaw05.GrammarAny'. -/
def grammarAnyUptoCard : Claim7 := { stood := { row := grammarAnyUptoRow, standIns := [], harness := (true, "adf75a9761c51e54e7856487489c789dbbc8d7df221d32d159657957b592ad3e"), looks := true }, kinds := [], alts := [], laidByText := true, laidKinds := [.data, .data, .data, .data, .pinned, .pinned], laidTests := true, laidLooks := .later }
def GrammarAnyUptoCardSaid : Prop := Claim7.holds Tryz.pinned (.plain (OpenSpec.upto grammarAnySpec)) grammarAnyUptoCard

/-- THE SECOND FORM's CARD OF 'regletlaw05.GrammarLines'. -/
def grammarLinesUptoCard : Claim7 := { stood := { row := grammarLinesUptoRow, standIns := [], harness := (true, "adf75a9761c51e54e7856487489c789dbbc8d7df221d32d159657957b592ad3e"), looks := true }, kinds := [], alts := [], laidByText := true, laidKinds := [.data, .data, .data, .data, .pinned, .pinned], laidTests := true, laidLooks := .later }
def GrammarLinesUptoCardSaid : Prop := Claim7.holds Tryz.pinned (.plain (OpenSpec.upto grammarLinesSpec)) grammarLinesUptoCard

/-- THE SECOND FORM's CARD OF 'regletlaw05.GrammarMade'. -/
def grammarMadeUptoCard : Claim7 := { stood := { row := grammarMadeUptoRow, standIns := [], harness := (true, "adf75a9761c51e54e7856487489c789dbbc8d7df221d32d159657957b592ad3e"), looks := true }, kinds := [], alts := [], laidByText := true, laidKinds := [.data, .data, .data, .data, .pinned, .pinned], laidTests := true, laidLooks := .later }
def GrammarMadeUptoCardSaid : Prop := Claim7.holds Tryz.pinned (.plain (OpenSpec.upto grammarMadeSpec)) grammarMadeUptoCard

/-- THE SECOND FORM's CARD OF 'regletlaw05.GrammarWhole'. -/
def grammarWholeUptoCard : Claim7 := { stood := { row := grammarWholeUptoRow, standIns := [], harness := (true, "adf75a9761c51e54e7856487489c789dbbc8d7df221d32d159657957b592ad3e"), looks := true }, kinds := [], alts := [], laidByText := true, laidKinds := [.data, .data, .data, .data, .pinned, .pinned], laidTests := true, laidLooks := .later }
def GrammarWholeUptoCardSaid : Prop := Claim7.holds Tryz.pinned (.plain (OpenSpec.upto grammarWholeSpec)) grammarWholeUptoCard

/-- THE SECOND FORM's CARD OF 'regletlaw05.GrammarReach'. -/
def grammarReachUptoCard : Claim7 := { stood := { row := grammarReachUptoRow, standIns := [], harness := (true, "adf75a9761c51e54e7856487489c789dbbc8d7df221d32d159657957b592ad3e"), looks := true }, kinds := [], alts := [], laidByText := true, laidKinds := [.data, .data, .data, .data, .pinned, .pinned], laidTests := true, laidLooks := .later }
def GrammarReachUptoCardSaid : Prop := Claim7.holds Tryz.pinned (.plain (OpenSpec.upto grammarReachSpec)) grammarReachUptoCard

/-- THE SECOND FORM's CARD OF 'regletlaw05.GrammarJoins'. -/
def grammarJoinsUptoCard : Claim7 := { stood := { row := grammarJoinsUptoRow, standIns := [], harness := (true, "adf75a9761c51e54e7856487489c789dbbc8d7df221d32d159657957b592ad3e"), looks := true }, kinds := [], alts := [], laidByText := true, laidKinds := [.data, .data, .data, .data, .pinned, .pinned], laidTests := true, laidLooks := .later }
def GrammarJoinsUptoCardSaid : Prop := Claim7.holds Tryz.pinned (.plain (OpenSpec.upto grammarJoinsSpec)) grammarJoinsUptoCard
end Rows
end Go.Proofs.YtdgcmiecgnmdjaaGreatDoor
