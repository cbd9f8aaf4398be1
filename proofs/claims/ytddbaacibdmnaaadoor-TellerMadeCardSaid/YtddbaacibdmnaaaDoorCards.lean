/-
  DERIVED. GIVEN WITH THE SEED: THE CARDS: each row of YtddbaacibdmnaaaDoorRows.lean that lists a variable, with what it lists TIED to the program's text (the seventh form; the later family's looks); each row that meets fmt, with fmt's text TOLD by the authors' own Lean function (tested against real Go, not proved from fmt's source: count such statements apart). THE CARD IS WHAT COUNTS. Prove the row's statement (the work); the ties are given (YtddbaacibdmnaaaDoorTie.lean); close each card by the builder's one call (the guide's Derived/Test/ToyasCard.lean, 'card_holds'). Laid BY PROGRAM, IN A SANDBOX (cutbox-door.mjs). By AI agents, Wed Nov 11 2026. No macro, syntax, notation, axiom, sorry.
-/
import Derived.Test.YtddbaacibdmnaaaDoorRows
import GoSem.ClaimSeven
namespace Go.Proofs.YtddbaacibdmnaaaDoor
namespace Rows

/-- THE TIED CARD OF 'regletlaw04.TellerAny'. -/
def tellerAnyCard : Claim7 := { stood := { row := tellerAnyRow, standIns := [], harness := (true, "c25f64007b2e10afe765fafc13ad8391e2fa4e83e101a55373446f1ebf133ea3"), looks := false }, kinds := [], alts := [], laidByText := true, laidKinds := [.data, .data, .data, .data, .pinned, .pinned], laidTests := true, laidLooks := .later }
def TellerAnyCardSaid : Prop := Claim7.holds Tryd.pinned (.plain (OpenSpec.ofChange tellerAnySpec)) tellerAnyCard

/-- THE TIED CARD OF 'regletlaw04.TellerMade'. -/
def tellerMadeCard : Claim7 := { stood := { row := tellerMadeRow, standIns := [], harness := (true, "c25f64007b2e10afe765fafc13ad8391e2fa4e83e101a55373446f1ebf133ea3"), looks := false }, kinds := [], alts := [], laidByText := true, laidKinds := [.data, .data, .data, .data, .pinned, .pinned], laidTests := true, laidLooks := .later }
def TellerMadeCardSaid : Prop := Claim7.holds Tryd.pinned (.plain (OpenSpec.ofChange tellerMadeSpec)) tellerMadeCard

/-- THE TIED CARD OF 'regletlaw04.TellerDeep'. -/
def tellerDeepCard : Claim7 := { stood := { row := tellerDeepRow, standIns := [], harness := (true, "c25f64007b2e10afe765fafc13ad8391e2fa4e83e101a55373446f1ebf133ea3"), looks := false }, kinds := [], alts := [], laidByText := true, laidKinds := [.data, .data, .data, .data, .pinned, .pinned], laidTests := true, laidLooks := .later }
def TellerDeepCardSaid : Prop := Claim7.holds Tryd.pinned (.plain (OpenSpec.ofChange tellerDeepSpec)) tellerDeepCard

/-- THE SECOND FORM's CARD OF 'regletlaw04.TellerAny'. -/
def tellerAnyUptoCard : Claim7 := { stood := { row := tellerAnyUptoRow, standIns := [], harness := (true, "c25f64007b2e10afe765fafc13ad8391e2fa4e83e101a55373446f1ebf133ea3"), looks := false }, kinds := [], alts := [], laidByText := true, laidKinds := [.data, .data, .data, .data, .pinned, .pinned], laidTests := true, laidLooks := .later }
def TellerAnyUptoCardSaid : Prop := Claim7.holds Tryd.pinned (.plain (OpenSpec.upto tellerAnySpec)) tellerAnyUptoCard

/-- THE SECOND FORM's CARD OF 'regletlaw04.TellerMade'. -/
def tellerMadeUptoCard : Claim7 := { stood := { row := tellerMadeUptoRow, standIns := [], harness := (true, "c25f64007b2e10afe765fafc13ad8391e2fa4e83e101a55373446f1ebf133ea3"), looks := false }, kinds := [], alts := [], laidByText := true, laidKinds := [.data, .data, .data, .data, .pinned, .pinned], laidTests := true, laidLooks := .later }
def TellerMadeUptoCardSaid : Prop := Claim7.holds Tryd.pinned (.plain (OpenSpec.upto tellerMadeSpec)) tellerMadeUptoCard

/-- THE SECOND FORM's CARD OF 'regletlaw04.TellerDeep'. -/
def tellerDeepUptoCard : Claim7 := { stood := { row := tellerDeepUptoRow, standIns := [], harness := (true, "c25f64007b2e10afe765fafc13ad8391e2fa4e83e101a55373446f1ebf133ea3"), looks := false }, kinds := [], alts := [], laidByText := true, laidKinds := [.data, .data, .data, .data, .pinned, .pinned], laidTests := true, laidLooks := .later }
def TellerDeepUptoCardSaid : Prop := Claim7.holds Tryd.pinned (.plain (OpenSpec.upto tellerDeepSpec)) tellerDeepUptoCard
end Rows
end Go.Proofs.YtddbaacibdmnaaaDoor
