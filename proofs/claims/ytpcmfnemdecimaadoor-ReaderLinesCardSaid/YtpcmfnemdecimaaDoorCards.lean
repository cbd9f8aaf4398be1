/-
  DERIVED. GIVEN WITH THE SEED: THE CARDS: each row of YtpcmfnemdecimaaDoorRows.lean that lists a variable, with what it lists TIED to the program's text (the seventh form; the later family's looks); each row that meets fmt, with fmt's text TOLD by the authors' own Lean function (tested against real Go, not proved from fmt's source: count such statements apart). THE CARD IS WHAT COUNTS. Prove the row's statement (the work); the ties are given (YtpcmfnemdecimaaDoorTie.lean); close each card by the builder's one call (the guide's Derived/Test/ToyasCard.lean, 'card_holds'). Laid BY PROGRAM, IN A SANDBOX (cutbox-door.mjs). By AI agents, Wed Nov 11 2026. No macro, syntax, notation, axiom, sorry.
-/
import Derived.Test.YtpcmfnemdecimaaDoorRows
import GoSem.ClaimSeven
namespace Go.Proofs.YtpcmfnemdecimaaDoor
namespace Rows

/-- THE TIED CARD OF 'regletlaw03.ReaderAny'. -/
def readerAnyCard : Claim7 := { stood := { row := readerAnyRow, standIns := [], harness := (true, "395b98135be429846e0f74a12c4e093433302f9aaf6e7293ffded3b9fd460ed1"), looks := true }, kinds := [], alts := [], laidByText := true, laidKinds := [.data, .pinned, .pinned], laidTests := true, laidLooks := .later }
def ReaderAnyCardSaid : Prop := Claim7.holds Tryd.pinned (.plain (OpenSpec.ofChange readerAnySpec)) readerAnyCard

/-- THE TIED CARD OF 'regletlaw03.ReaderSmall'. -/
def readerSmallCard : Claim7 := { stood := { row := readerSmallRow, standIns := [], harness := (true, "395b98135be429846e0f74a12c4e093433302f9aaf6e7293ffded3b9fd460ed1"), looks := true }, kinds := [], alts := [], laidByText := true, laidKinds := [.data, .pinned, .pinned], laidTests := true, laidLooks := .later }
def ReaderSmallCardSaid : Prop := Claim7.holds Tryd.pinned (.plain (OpenSpec.ofChange readerSmallSpec)) readerSmallCard

/-- THE TIED CARD OF 'regletlaw03.ReaderDeep'. -/
def readerDeepCard : Claim7 := { stood := { row := readerDeepRow, standIns := [], harness := (true, "395b98135be429846e0f74a12c4e093433302f9aaf6e7293ffded3b9fd460ed1"), looks := true }, kinds := [], alts := [], laidByText := true, laidKinds := [.data, .pinned, .pinned], laidTests := true, laidLooks := .later }
def ReaderDeepCardSaid : Prop := Claim7.holds Tryd.pinned (.plain (OpenSpec.ofChange readerDeepSpec)) readerDeepCard

/-- THE TIED CARD OF 'regletlaw03.ReaderTwo'. -/
def readerTwoCard : Claim7 := { stood := { row := readerTwoRow, standIns := [], harness := (true, "395b98135be429846e0f74a12c4e093433302f9aaf6e7293ffded3b9fd460ed1"), looks := true }, kinds := [], alts := [], laidByText := true, laidKinds := [.data, .pinned, .pinned], laidTests := true, laidLooks := .later }
def ReaderTwoCardSaid : Prop := Claim7.holds Tryd.pinned (.plain (OpenSpec.ofChange readerTwoSpec)) readerTwoCard

/-- THE TIED CARD OF 'regletlaw03.ReaderLines'. -/
def readerLinesCard : Claim7 := { stood := { row := readerLinesRow, standIns := [], harness := (true, "395b98135be429846e0f74a12c4e093433302f9aaf6e7293ffded3b9fd460ed1"), looks := true }, kinds := [], alts := [], laidByText := true, laidKinds := [.data, .pinned, .pinned], laidTests := true, laidLooks := .later }
def ReaderLinesCardSaid : Prop := Claim7.holds Tryd.pinned (.plain (OpenSpec.ofChange readerLinesSpec)) readerLinesCard

/-- THE TIED CARD OF 'regletlaw03.ReaderNumbers'. -/
def readerNumbersCard : Claim7 := { stood := { row := readerNumbersRow, standIns := [], harness := (true, "395b98135be429846e0f74a12c4e093433302f9aaf6e7293ffded3b9fd460ed1"), looks := true }, kinds := [], alts := [], laidByText := true, laidKinds := [.data, .pinned, .pinned], laidTests := true, laidLooks := .later }
def ReaderNumbersCardSaid : Prop := Claim7.holds Tryd.pinned (.plain (OpenSpec.ofChange readerNumbersSpec)) readerNumbersCard

/-- THE TIED CARD OF 'regletlaw03.ReaderRepeats'. -/
def readerRepeatsCard : Claim7 := { stood := { row := readerRepeatsRow, standIns := [], harness := (true, "395b98135be429846e0f74a12c4e093433302f9aaf6e7293ffded3b9fd460ed1"), looks := true }, kinds := [], alts := [], laidByText := true, laidKinds := [.data, .pinned, .pinned], laidTests := true, laidLooks := .later }
def ReaderRepeatsCardSaid : Prop := Claim7.holds Tryd.pinned (.plain (OpenSpec.ofChange readerRepeatsSpec)) readerRepeatsCard

/-- THE SECOND FORM's CARD OF 'regletlaw03.ReaderAny'. -/
def readerAnyUptoCard : Claim7 := { stood := { row := readerAnyUptoRow, standIns := [], harness := (true, "395b98135be429846e0f74a12c4e093433302f9aaf6e7293ffded3b9fd460ed1"), looks := true }, kinds := [], alts := [], laidByText := true, laidKinds := [.data, .pinned, .pinned], laidTests := true, laidLooks := .later }
def ReaderAnyUptoCardSaid : Prop := Claim7.holds Tryd.pinned (.plain (OpenSpec.upto readerAnySpec)) readerAnyUptoCard

/-- THE SECOND FORM's CARD OF 'regletlaw03.ReaderSmall'. -/
def readerSmallUptoCard : Claim7 := { stood := { row := readerSmallUptoRow, standIns := [], harness := (true, "395b98135be429846e0f74a12c4e093433302f9aaf6e7293ffded3b9fd460ed1"), looks := true }, kinds := [], alts := [], laidByText := true, laidKinds := [.data, .pinned, .pinned], laidTests := true, laidLooks := .later }
def ReaderSmallUptoCardSaid : Prop := Claim7.holds Tryd.pinned (.plain (OpenSpec.upto readerSmallSpec)) readerSmallUptoCard

/-- THE SECOND FORM's CARD OF 'regletlaw03.ReaderDeep'. -/
def readerDeepUptoCard : Claim7 := { stood := { row := readerDeepUptoRow, standIns := [], harness := (true, "395b98135be429846e0f74a12c4e093433302f9aaf6e7293ffded3b9fd460ed1"), looks := true }, kinds := [], alts := [], laidByText := true, laidKinds := [.data, .pinned, .pinned], laidTests := true, laidLooks := .later }
def ReaderDeepUptoCardSaid : Prop := Claim7.holds Tryd.pinned (.plain (OpenSpec.upto readerDeepSpec)) readerDeepUptoCard

/-- THE SECOND FORM's CARD OF 'regletlaw03.ReaderTwo'. -/
def readerTwoUptoCard : Claim7 := { stood := { row := readerTwoUptoRow, standIns := [], harness := (true, "395b98135be429846e0f74a12c4e093433302f9aaf6e7293ffded3b9fd460ed1"), looks := true }, kinds := [], alts := [], laidByText := true, laidKinds := [.data, .pinned, .pinned], laidTests := true, laidLooks := .later }
def ReaderTwoUptoCardSaid : Prop := Claim7.holds Tryd.pinned (.plain (OpenSpec.upto readerTwoSpec)) readerTwoUptoCard

/-- THE SECOND FORM's CARD OF 'regletlaw03.ReaderLines'. -/
def readerLinesUptoCard : Claim7 := { stood := { row := readerLinesUptoRow, standIns := [], harness := (true, "395b98135be429846e0f74a12c4e093433302f9aaf6e7293ffded3b9fd460ed1"), looks := true }, kinds := [], alts := [], laidByText := true, laidKinds := [.data, .pinned, .pinned], laidTests := true, laidLooks := .later }
def ReaderLinesUptoCardSaid : Prop := Claim7.holds Tryd.pinned (.plain (OpenSpec.upto readerLinesSpec)) readerLinesUptoCard

/-- THE SECOND FORM's CARD OF 'regletlaw03.ReaderNumbers'. -/
def readerNumbersUptoCard : Claim7 := { stood := { row := readerNumbersUptoRow, standIns := [], harness := (true, "395b98135be429846e0f74a12c4e093433302f9aaf6e7293ffded3b9fd460ed1"), looks := true }, kinds := [], alts := [], laidByText := true, laidKinds := [.data, .pinned, .pinned], laidTests := true, laidLooks := .later }
def ReaderNumbersUptoCardSaid : Prop := Claim7.holds Tryd.pinned (.plain (OpenSpec.upto readerNumbersSpec)) readerNumbersUptoCard

/-- THE SECOND FORM's CARD OF 'regletlaw03.ReaderRepeats'. -/
def readerRepeatsUptoCard : Claim7 := { stood := { row := readerRepeatsUptoRow, standIns := [], harness := (true, "395b98135be429846e0f74a12c4e093433302f9aaf6e7293ffded3b9fd460ed1"), looks := true }, kinds := [], alts := [], laidByText := true, laidKinds := [.data, .pinned, .pinned], laidTests := true, laidLooks := .later }
def ReaderRepeatsUptoCardSaid : Prop := Claim7.holds Tryd.pinned (.plain (OpenSpec.upto readerRepeatsSpec)) readerRepeatsUptoCard
end Rows
end Go.Proofs.YtpcmfnemdecimaaDoor
