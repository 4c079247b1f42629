/-
  DERIVED. GIVEN WITH THE SEED: THE CARDS: each row of YtjbgnlnchchgcaaDoorRows.lean that lists a variable, with what it lists TIED to the program's text (the seventh form; the later family's looks); each row that meets fmt, with fmt's text TOLD by the authors' own Lean function (tested against real Go, not proved from fmt's source: count such statements apart). THE CARD IS WHAT COUNTS. Prove the row's statement (the work); the ties are given (YtjbgnlnchchgcaaDoorTie.lean); close each card by the builder's one call (the guide's Derived/Test/ToyasCard.lean, 'card_holds'). Laid BY PROGRAM, IN A SANDBOX (cutbox-door.mjs). By AI agents, Wed Nov 11 2026. No macro, syntax, notation, axiom, sorry.
-/
import Derived.Test.YtjbgnlnchchgcaaDoorRows
import GoSem.ClaimSeven
namespace Go.Proofs.YtjbgnlnchchgcaaDoor
namespace Rows

/-- THE TIED CARD OF 'polyglotlaw16.AmqprimNames'. -/
def amqprimNamesCard : Claim7 := { stood := { row := amqprimNamesRow, standIns := [], harness := (true, "5e19afd31397a6087797c858ac2b7b0dc71950c43c2e7bf9daf2d859f4cfdeee"), looks := false }, kinds := [], alts := [], laidByText := true, laidKinds := [.data, .pinned], laidTests := true, laidLooks := .later }
def AmqprimNamesCardSaid : Prop := Claim7.holds Tryd.pinned (.plain (OpenSpec.ofChange amqprimNamesSpec)) amqprimNamesCard

/-- THE TIED CARD OF 'polyglotlaw16.AmqprimCalls'. -/
def amqprimCallsCard : Claim7 := { stood := { row := amqprimCallsRow, standIns := [], harness := (true, "5e19afd31397a6087797c858ac2b7b0dc71950c43c2e7bf9daf2d859f4cfdeee"), looks := false }, kinds := [], alts := [], laidByText := true, laidKinds := [.data, .pinned], laidTests := true, laidLooks := .later }
def AmqprimCallsCardSaid : Prop := Claim7.holds Tryd.pinned (.plain (OpenSpec.ofChange amqprimCallsSpec)) amqprimCallsCard

/-- THE TIED CARD OF 'polyglotlaw16.AmqprimBack'. -/
def amqprimBackCard : Claim7 := { stood := { row := amqprimBackRow, standIns := [], harness := (true, "5e19afd31397a6087797c858ac2b7b0dc71950c43c2e7bf9daf2d859f4cfdeee"), looks := false }, kinds := [], alts := [], laidByText := true, laidKinds := [.data, .pinned], laidTests := true, laidLooks := .later }
def AmqprimBackCardSaid : Prop := Claim7.holds Tryd.pinned (.plain (OpenSpec.ofChange amqprimBackSpec)) amqprimBackCard

/-- THE TIED CARD OF 'polyglotlaw16.AmqprimShort'. -/
def amqprimShortCard : Claim7 := { stood := { row := amqprimShortRow, standIns := [], harness := (true, "5e19afd31397a6087797c858ac2b7b0dc71950c43c2e7bf9daf2d859f4cfdeee"), looks := false }, kinds := [], alts := [], laidByText := true, laidKinds := [.data, .pinned], laidTests := true, laidLooks := .later }
def AmqprimShortCardSaid : Prop := Claim7.holds Tryd.pinned (.plain (OpenSpec.ofChange amqprimShortSpec)) amqprimShortCard

/-- THE TIED CARD OF 'polyglotlaw16.AmqprimWidths'. -/
def amqprimWidthsCard : Claim7 := { stood := { row := amqprimWidthsRow, standIns := [], harness := (true, "5e19afd31397a6087797c858ac2b7b0dc71950c43c2e7bf9daf2d859f4cfdeee"), looks := false }, kinds := [], alts := [], laidByText := true, laidKinds := [.data, .pinned], laidTests := true, laidLooks := .later }
def AmqprimWidthsCardSaid : Prop := Claim7.holds Tryd.pinned (.plain (OpenSpec.ofChange amqprimWidthsSpec)) amqprimWidthsCard

/-- THE TIED CARD OF 'polyglotlaw16.AmqprimCodes'. -/
def amqprimCodesCard : Claim7 := { stood := { row := amqprimCodesRow, standIns := [], harness := (true, "5e19afd31397a6087797c858ac2b7b0dc71950c43c2e7bf9daf2d859f4cfdeee"), looks := false }, kinds := [], alts := [], laidByText := true, laidKinds := [.data, .pinned], laidTests := true, laidLooks := .later }
def AmqprimCodesCardSaid : Prop := Claim7.holds Tryd.pinned (.plain (OpenSpec.ofChange amqprimCodesSpec)) amqprimCodesCard

/-- THE SECOND FORM's CARD OF 'polyglotlaw16.AmqprimNames'. -/
def amqprimNamesUptoCard : Claim7 := { stood := { row := amqprimNamesUptoRow, standIns := [], harness := (true, "5e19afd31397a6087797c858ac2b7b0dc71950c43c2e7bf9daf2d859f4cfdeee"), looks := false }, kinds := [], alts := [], laidByText := true, laidKinds := [.data, .pinned], laidTests := true, laidLooks := .later }
def AmqprimNamesUptoCardSaid : Prop := Claim7.holds Tryd.pinned (.plain (OpenSpec.upto amqprimNamesSpec)) amqprimNamesUptoCard

/-- THE SECOND FORM's CARD OF 'polyglotlaw16.AmqprimCalls'. -/
def amqprimCallsUptoCard : Claim7 := { stood := { row := amqprimCallsUptoRow, standIns := [], harness := (true, "5e19afd31397a6087797c858ac2b7b0dc71950c43c2e7bf9daf2d859f4cfdeee"), looks := false }, kinds := [], alts := [], laidByText := true, laidKinds := [.data, .pinned], laidTests := true, laidLooks := .later }
def AmqprimCallsUptoCardSaid : Prop := Claim7.holds Tryd.pinned (.plain (OpenSpec.upto amqprimCallsSpec)) amqprimCallsUptoCard

/-- THE SECOND FORM's CARD OF 'polyglotlaw16.AmqprimBack'. -/
def amqprimBackUptoCard : Claim7 := { stood := { row := amqprimBackUptoRow, standIns := [], harness := (true, "5e19afd31397a6087797c858ac2b7b0dc71950c43c2e7bf9daf2d859f4cfdeee"), looks := false }, kinds := [], alts := [], laidByText := true, laidKinds := [.data, .pinned], laidTests := true, laidLooks := .later }
def AmqprimBackUptoCardSaid : Prop := Claim7.holds Tryd.pinned (.plain (OpenSpec.upto amqprimBackSpec)) amqprimBackUptoCard

/-- THE SECOND FORM's CARD OF 'polyglotlaw16.AmqprimShort'. -/
def amqprimShortUptoCard : Claim7 := { stood := { row := amqprimShortUptoRow, standIns := [], harness := (true, "5e19afd31397a6087797c858ac2b7b0dc71950c43c2e7bf9daf2d859f4cfdeee"), looks := false }, kinds := [], alts := [], laidByText := true, laidKinds := [.data, .pinned], laidTests := true, laidLooks := .later }
def AmqprimShortUptoCardSaid : Prop := Claim7.holds Tryd.pinned (.plain (OpenSpec.upto amqprimShortSpec)) amqprimShortUptoCard

/-- THE SECOND FORM's CARD OF 'polyglotlaw16.AmqprimWidths'. -/
def amqprimWidthsUptoCard : Claim7 := { stood := { row := amqprimWidthsUptoRow, standIns := [], harness := (true, "5e19afd31397a6087797c858ac2b7b0dc71950c43c2e7bf9daf2d859f4cfdeee"), looks := false }, kinds := [], alts := [], laidByText := true, laidKinds := [.data, .pinned], laidTests := true, laidLooks := .later }
def AmqprimWidthsUptoCardSaid : Prop := Claim7.holds Tryd.pinned (.plain (OpenSpec.upto amqprimWidthsSpec)) amqprimWidthsUptoCard

/-- THE SECOND FORM's CARD OF 'polyglotlaw16.AmqprimCodes'. -/
def amqprimCodesUptoCard : Claim7 := { stood := { row := amqprimCodesUptoRow, standIns := [], harness := (true, "5e19afd31397a6087797c858ac2b7b0dc71950c43c2e7bf9daf2d859f4cfdeee"), looks := false }, kinds := [], alts := [], laidByText := true, laidKinds := [.data, .pinned], laidTests := true, laidLooks := .later }
def AmqprimCodesUptoCardSaid : Prop := Claim7.holds Tryd.pinned (.plain (OpenSpec.upto amqprimCodesSpec)) amqprimCodesUptoCard
end Rows
end Go.Proofs.YtjbgnlnchchgcaaDoor
