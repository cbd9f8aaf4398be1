/-
  DERIVED. GIVEN WITH THE SEED: THE CARDS: each row of YtlaglkbcladfbaaDoorRows.lean that lists a variable, with what it lists TIED to the program's text (the seventh form; the later family's looks); each row that meets fmt, with fmt's text TOLD by the authors' own Lean function (tested against real Go, not proved from fmt's source: count such statements apart). THE CARD IS WHAT COUNTS. Prove the row's statement (the work); the ties are given (YtlaglkbcladfbaaDoorTie.lean); close each card by the builder's one call (the guide's Derived/Test/ToyasCard.lean, 'card_holds'). Laid BY PROGRAM, IN A SANDBOX (cutbox-door.mjs). By AI agents, Wed Nov 11 2026. No macro, syntax, notation, axiom, sorry.
-/
import Derived.Test.YtlaglkbcladfbaaDoorRows
import GoSem.ClaimSeven
namespace Go.Proofs.YtlaglkbcladfbaaDoor
namespace Rows

/-- THE TIED CARD OF 'regletlaw03.ReaderAny'. -/
def readerAnyCard : Claim7 := { stood := { row := readerAnyRow, standIns := [], harness := (true, "c6ad3155a82e9e5f351194110e33dafe8c03eaa23f037a04a17ee526fc066b78"), looks := true }, kinds := [], alts := [], laidByText := true, laidKinds := [.data, .pinned, .pinned], laidTests := true, laidLooks := .later }
def ReaderAnyCardSaid : Prop := Claim7.holds Tryd.pinned (.plain (OpenSpec.ofChange readerAnySpec)) readerAnyCard

/-- THE TIED CARD OF 'regletlaw03.ReaderSmall'. -/
def readerSmallCard : Claim7 := { stood := { row := readerSmallRow, standIns := [], harness := (true, "c6ad3155a82e9e5f351194110e33dafe8c03eaa23f037a04a17ee526fc066b78"), looks := true }, kinds := [], alts := [], laidByText := true, laidKinds := [.data, .pinned, .pinned], laidTests := true, laidLooks := .later }
def ReaderSmallCardSaid : Prop := Claim7.holds Tryd.pinned (.plain (OpenSpec.ofChange readerSmallSpec)) readerSmallCard

/-- THE TIED CARD OF 'regletlaw03.ReaderDeep'. -/
def readerDeepCard : Claim7 := { stood := { row := readerDeepRow, standIns := [], harness := (true, "c6ad3155a82e9e5f351194110e33dafe8c03eaa23f037a04a17ee526fc066b78"), looks := true }, kinds := [], alts := [], laidByText := true, laidKinds := [.data, .pinned, .pinned], laidTests := true, laidLooks := .later }
def ReaderDeepCardSaid : Prop := Claim7.holds Tryd.pinned (.plain (OpenSpec.ofChange readerDeepSpec)) readerDeepCard

/-- THE TIED CARD OF 'regletlaw03.ReaderNumbers'. -/
def readerNumbersCard : Claim7 := { stood := { row := readerNumbersRow, standIns := [], harness := (true, "c6ad3155a82e9e5f351194110e33dafe8c03eaa23f037a04a17ee526fc066b78"), looks := true }, kinds := [], alts := [], laidByText := true, laidKinds := [.data, .pinned, .pinned], laidTests := true, laidLooks := .later }
def ReaderNumbersCardSaid : Prop := Claim7.holds Tryd.pinned (.plain (OpenSpec.ofChange readerNumbersSpec)) readerNumbersCard

/-- THE TIED CARD OF 'regletlaw03.ReaderRepeats'. -/
def readerRepeatsCard : Claim7 := { stood := { row := readerRepeatsRow, standIns := [], harness := (true, "c6ad3155a82e9e5f351194110e33dafe8c03eaa23f037a04a17ee526fc066b78"), looks := true }, kinds := [], alts := [], laidByText := true, laidKinds := [.data, .pinned, .pinned], laidTests := true, laidLooks := .later }
def ReaderRepeatsCardSaid : Prop := Claim7.holds Tryd.pinned (.plain (OpenSpec.ofChange readerRepeatsSpec)) readerRepeatsCard

/-- THE TIED CARD OF 'regletlaw04.TellerAny'. -/
def tellerAnyCard : Claim7 := { stood := { row := tellerAnyRow, standIns := [], harness := (true, "c6ad3155a82e9e5f351194110e33dafe8c03eaa23f037a04a17ee526fc066b78"), looks := true }, kinds := [], alts := [], laidByText := true, laidKinds := [.data, .data, .data, .data, .pinned, .pinned], laidTests := true, laidLooks := .later }
def TellerAnyCardSaid : Prop := Claim7.holds Tryd.pinned (.plain (OpenSpec.ofChange tellerAnySpec)) tellerAnyCard

/-- THE TIED CARD OF 'regletlaw04.TellerMade'. -/
def tellerMadeCard : Claim7 := { stood := { row := tellerMadeRow, standIns := [], harness := (true, "c6ad3155a82e9e5f351194110e33dafe8c03eaa23f037a04a17ee526fc066b78"), looks := true }, kinds := [], alts := [], laidByText := true, laidKinds := [.data, .data, .data, .data, .pinned, .pinned], laidTests := true, laidLooks := .later }
def TellerMadeCardSaid : Prop := Claim7.holds Tryd.pinned (.plain (OpenSpec.ofChange tellerMadeSpec)) tellerMadeCard

/-- THE TIED CARD OF 'regletlaw04.TellerDeep'. -/
def tellerDeepCard : Claim7 := { stood := { row := tellerDeepRow, standIns := [], harness := (true, "c6ad3155a82e9e5f351194110e33dafe8c03eaa23f037a04a17ee526fc066b78"), looks := true }, kinds := [], alts := [], laidByText := true, laidKinds := [.data, .data, .data, .data, .pinned, .pinned], laidTests := true, laidLooks := .later }
def TellerDeepCardSaid : Prop := Claim7.holds Tryd.pinned (.plain (OpenSpec.ofChange tellerDeepSpec)) tellerDeepCard

/-- THE TIED CARD OF 'regletlaw04.TellerNames'. -/
def tellerNamesCard : Claim7 := { stood := { row := tellerNamesRow, standIns := [], harness := (true, "c6ad3155a82e9e5f351194110e33dafe8c03eaa23f037a04a17ee526fc066b78"), looks := true }, kinds := [], alts := [], laidByText := true, laidKinds := [.data, .data, .data, .data, .pinned, .pinned], laidTests := true, laidLooks := .later }
def TellerNamesCardSaid : Prop := Claim7.holds Tryd.pinned (.plain (OpenSpec.ofChange tellerNamesSpec)) tellerNamesCard

/-- THE TIED CARD OF 'regletlaw04.TellerRepeats'. -/
def tellerRepeatsCard : Claim7 := { stood := { row := tellerRepeatsRow, standIns := [], harness := (true, "c6ad3155a82e9e5f351194110e33dafe8c03eaa23f037a04a17ee526fc066b78"), looks := true }, kinds := [], alts := [], laidByText := true, laidKinds := [.data, .data, .data, .data, .pinned, .pinned], laidTests := true, laidLooks := .later }
def TellerRepeatsCardSaid : Prop := Claim7.holds Tryd.pinned (.plain (OpenSpec.ofChange tellerRepeatsSpec)) tellerRepeatsCard

/-- THE SECOND FORM's CARD OF 'regletlaw03.ReaderAny'. -/
def readerAnyUptoCard : Claim7 := { stood := { row := readerAnyUptoRow, standIns := [], harness := (true, "c6ad3155a82e9e5f351194110e33dafe8c03eaa23f037a04a17ee526fc066b78"), looks := true }, kinds := [], alts := [], laidByText := true, laidKinds := [.data, .pinned, .pinned], laidTests := true, laidLooks := .later }
def ReaderAnyUptoCardSaid : Prop := Claim7.holds Tryd.pinned (.plain (OpenSpec.upto readerAnySpec)) readerAnyUptoCard

/-- THE SECOND FORM's CARD OF 'regletlaw03.ReaderSmall'. -/
def readerSmallUptoCard : Claim7 := { stood := { row := readerSmallUptoRow, standIns := [], harness := (true, "c6ad3155a82e9e5f351194110e33dafe8c03eaa23f037a04a17ee526fc066b78"), looks := true }, kinds := [], alts := [], laidByText := true, laidKinds := [.data, .pinned, .pinned], laidTests := true, laidLooks := .later }
def ReaderSmallUptoCardSaid : Prop := Claim7.holds Tryd.pinned (.plain (OpenSpec.upto readerSmallSpec)) readerSmallUptoCard

/-- THE SECOND FORM's CARD OF 'regletlaw03.ReaderDeep'. -/
def readerDeepUptoCard : Claim7 := { stood := { row := readerDeepUptoRow, standIns := [], harness := (true, "c6ad3155a82e9e5f351194110e33dafe8c03eaa23f037a04a17ee526fc066b78"), looks := true }, kinds := [], alts := [], laidByText := true, laidKinds := [.data, .pinned, .pinned], laidTests := true, laidLooks := .later }
def ReaderDeepUptoCardSaid : Prop := Claim7.holds Tryd.pinned (.plain (OpenSpec.upto readerDeepSpec)) readerDeepUptoCard

/-- THE SECOND FORM's CARD OF 'regletlaw03.ReaderNumbers'. -/
def readerNumbersUptoCard : Claim7 := { stood := { row := readerNumbersUptoRow, standIns := [], harness := (true, "c6ad3155a82e9e5f351194110e33dafe8c03eaa23f037a04a17ee526fc066b78"), looks := true }, kinds := [], alts := [], laidByText := true, laidKinds := [.data, .pinned, .pinned], laidTests := true, laidLooks := .later }
def ReaderNumbersUptoCardSaid : Prop := Claim7.holds Tryd.pinned (.plain (OpenSpec.upto readerNumbersSpec)) readerNumbersUptoCard

/-- THE SECOND FORM's CARD OF 'regletlaw03.ReaderRepeats'. -/
def readerRepeatsUptoCard : Claim7 := { stood := { row := readerRepeatsUptoRow, standIns := [], harness := (true, "c6ad3155a82e9e5f351194110e33dafe8c03eaa23f037a04a17ee526fc066b78"), looks := true }, kinds := [], alts := [], laidByText := true, laidKinds := [.data, .pinned, .pinned], laidTests := true, laidLooks := .later }
def ReaderRepeatsUptoCardSaid : Prop := Claim7.holds Tryd.pinned (.plain (OpenSpec.upto readerRepeatsSpec)) readerRepeatsUptoCard

/-- THE SECOND FORM's CARD OF 'regletlaw04.TellerAny'. -/
def tellerAnyUptoCard : Claim7 := { stood := { row := tellerAnyUptoRow, standIns := [], harness := (true, "c6ad3155a82e9e5f351194110e33dafe8c03eaa23f037a04a17ee526fc066b78"), looks := true }, kinds := [], alts := [], laidByText := true, laidKinds := [.data, .data, .data, .data, .pinned, .pinned], laidTests := true, laidLooks := .later }
def TellerAnyUptoCardSaid : Prop := Claim7.holds Tryd.pinned (.plain (OpenSpec.upto tellerAnySpec)) tellerAnyUptoCard

/-- THE SECOND FORM's CARD OF 'regletlaw04.TellerMade'. -/
def tellerMadeUptoCard : Claim7 := { stood := { row := tellerMadeUptoRow, standIns := [], harness := (true, "c6ad3155a82e9e5f351194110e33dafe8c03eaa23f037a04a17ee526fc066b78"), looks := true }, kinds := [], alts := [], laidByText := true, laidKinds := [.data, .data, .data, .data, .pinned, .pinned], laidTests := true, laidLooks := .later }
def TellerMadeUptoCardSaid : Prop := Claim7.holds Tryd.pinned (.plain (OpenSpec.upto tellerMadeSpec)) tellerMadeUptoCard

/-- THE SECOND FORM's CARD OF 'regletlaw04.TellerDeep'. -/
def tellerDeepUptoCard : Claim7 := { stood := { row := tellerDeepUptoRow, standIns := [], harness := (true, "c6ad3155a82e9e5f351194110e33dafe8c03eaa23f037a04a17ee526fc066b78"), looks := true }, kinds := [], alts := [], laidByText := true, laidKinds := [.data, .data, .data, .data, .pinned, .pinned], laidTests := true, laidLooks := .later }
def TellerDeepUptoCardSaid : Prop := Claim7.holds Tryd.pinned (.plain (OpenSpec.upto tellerDeepSpec)) tellerDeepUptoCard

/-- THE SECOND FORM's CARD OF 'regletlaw04.TellerNames'. -/
def tellerNamesUptoCard : Claim7 := { stood := { row := tellerNamesUptoRow, standIns := [], harness := (true, "c6ad3155a82e9e5f351194110e33dafe8c03eaa23f037a04a17ee526fc066b78"), looks := true }, kinds := [], alts := [], laidByText := true, laidKinds := [.data, .data, .data, .data, .pinned, .pinned], laidTests := true, laidLooks := .later }
def TellerNamesUptoCardSaid : Prop := Claim7.holds Tryd.pinned (.plain (OpenSpec.upto tellerNamesSpec)) tellerNamesUptoCard

/-- THE SECOND FORM's CARD OF 'regletlaw04.TellerRepeats'. -/
def tellerRepeatsUptoCard : Claim7 := { stood := { row := tellerRepeatsUptoRow, standIns := [], harness := (true, "c6ad3155a82e9e5f351194110e33dafe8c03eaa23f037a04a17ee526fc066b78"), looks := true }, kinds := [], alts := [], laidByText := true, laidKinds := [.data, .data, .data, .data, .pinned, .pinned], laidTests := true, laidLooks := .later }
def TellerRepeatsUptoCardSaid : Prop := Claim7.holds Tryd.pinned (.plain (OpenSpec.upto tellerRepeatsSpec)) tellerRepeatsUptoCard
end Rows
end Go.Proofs.YtlaglkbcladfbaaDoor
