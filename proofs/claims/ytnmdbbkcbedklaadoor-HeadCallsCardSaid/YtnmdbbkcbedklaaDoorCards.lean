/-
  DERIVED. GIVEN WITH THE SEED: THE CARDS: each row of YtnmdbbkcbedklaaDoorRows.lean that lists a variable, with what it lists TIED to the program's text (the seventh form; the later family's looks); each row that meets fmt, with fmt's text TOLD by the authors' own Lean function (tested against real Go, not proved from fmt's source: count such statements apart). THE CARD IS WHAT COUNTS. Prove the row's statement (the work); the ties are given (YtnmdbbkcbedklaaDoorTie.lean); close each card by the builder's one call (the guide's Derived/Test/ToyasCard.lean, 'card_holds'). Laid BY PROGRAM, IN A SANDBOX (cutbox-door.mjs). By AI agents, Wed Nov 11 2026. No macro, syntax, notation, axiom, sorry.
-/
import Derived.Test.YtnmdbbkcbedklaaDoorRows
import GoSem.ClaimSeven
namespace Go.Proofs.YtnmdbbkcbedklaaDoor
namespace Rows

/-- THE TIED CARD OF 'polyglotlaw07.HeadNames'. -/
def headNamesCard : Claim7 := { stood := { row := headNamesRow, standIns := [], harness := (true, "3c7537f09c9302f55991bbbb489f9b094e7ef8a3db47fe71156efe2e9111a0ba"), looks := false }, kinds := [], alts := [], laidByText := true, laidKinds := [.data], laidTests := true, laidLooks := .later }
def HeadNamesCardSaid : Prop := Claim7.holds Tryd.pinned (.plain (OpenSpec.ofChange headNamesSpec)) headNamesCard

/-- THE TIED CARD OF 'polyglotlaw07.HeadCalls'. -/
def headCallsCard : Claim7 := { stood := { row := headCallsRow, standIns := [], harness := (true, "3c7537f09c9302f55991bbbb489f9b094e7ef8a3db47fe71156efe2e9111a0ba"), looks := false }, kinds := [], alts := [], laidByText := true, laidKinds := [.data], laidTests := true, laidLooks := .later }
def HeadCallsCardSaid : Prop := Claim7.holds Tryd.pinned (.plain (OpenSpec.ofChange headCallsSpec)) headCallsCard

/-- THE SECOND FORM's CARD OF 'polyglotlaw07.HeadNames'. -/
def headNamesUptoCard : Claim7 := { stood := { row := headNamesUptoRow, standIns := [], harness := (true, "3c7537f09c9302f55991bbbb489f9b094e7ef8a3db47fe71156efe2e9111a0ba"), looks := false }, kinds := [], alts := [], laidByText := true, laidKinds := [.data], laidTests := true, laidLooks := .later }
def HeadNamesUptoCardSaid : Prop := Claim7.holds Tryd.pinned (.plain (OpenSpec.upto headNamesSpec)) headNamesUptoCard

/-- THE SECOND FORM's CARD OF 'polyglotlaw07.HeadCalls'. -/
def headCallsUptoCard : Claim7 := { stood := { row := headCallsUptoRow, standIns := [], harness := (true, "3c7537f09c9302f55991bbbb489f9b094e7ef8a3db47fe71156efe2e9111a0ba"), looks := false }, kinds := [], alts := [], laidByText := true, laidKinds := [.data], laidTests := true, laidLooks := .later }
def HeadCallsUptoCardSaid : Prop := Claim7.holds Tryd.pinned (.plain (OpenSpec.upto headCallsSpec)) headCallsUptoCard
end Rows
end Go.Proofs.YtnmdbbkcbedklaaDoor
