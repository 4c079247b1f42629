/-
  DERIVED. GIVEN WITH THE SEED: THE CARDS: each row of YtefmhbioggcfaaaGreatDoorRows.lean that lists a variable, with what it lists TIED to the program's text (the seventh form; the later family's looks); each row that meets fmt, with fmt's text TOLD by the authors' own Lean function (tested against real Go, not proved from fmt's source: count such statements apart). THE CARD IS WHAT COUNTS. Prove the row's statement (the work); the ties are given (YtefmhbioggcfaaaGreatDoorTie.lean); close each card by the builder's one call (the guide's Derived/Test/ToyasCard.lean, 'card_holds'). Laid BY PROGRAM, IN A SANDBOX (cutbox-door.mjs). By AI agents, Wed Nov 11 2026. No macro, syntax, notation, axiom, sorry.
-/
import Derived.Test.YtefmhbioggcfaaaGreatDoorRows
import GoSem.ClaimSeven
namespace Go.Proofs.YtefmhbioggcfaaaGreatDoor
namespace Rows

/-- THE TIED CARD OF 'polyglotlaw15.LimitsNames'. -/
def limitsNamesCard : Claim7 := { stood := { row := limitsNamesRow, standIns := [], harness := (true, "ac59630c586bc930281f733a67c79c1ac146d919e1801dd500fab8c69b3fa88c"), looks := false }, kinds := [], alts := [], laidByText := true, laidKinds := [.data, .pinned], laidTests := true, laidLooks := .later }
def LimitsNamesCardSaid : Prop := Claim7.holds Tryz.pinned (.plain (OpenSpec.ofChange limitsNamesSpec)) limitsNamesCard

/-- THE TIED CARD OF 'polyglotlaw15.LimitsStream'. -/
def limitsStreamCard : Claim7 := { stood := { row := limitsStreamRow, standIns := [], harness := (true, "ac59630c586bc930281f733a67c79c1ac146d919e1801dd500fab8c69b3fa88c"), looks := false }, kinds := [], alts := [], laidByText := true, laidKinds := [.data, .pinned], laidTests := true, laidLooks := .later }
def LimitsStreamCardSaid : Prop := Claim7.holds Tryz.pinned (.plain (OpenSpec.ofChange limitsStreamSpec)) limitsStreamCard

/-- THE SECOND FORM's CARD OF 'polyglotlaw15.LimitsNames'. -/
def limitsNamesUptoCard : Claim7 := { stood := { row := limitsNamesUptoRow, standIns := [], harness := (true, "ac59630c586bc930281f733a67c79c1ac146d919e1801dd500fab8c69b3fa88c"), looks := false }, kinds := [], alts := [], laidByText := true, laidKinds := [.data, .pinned], laidTests := true, laidLooks := .later }
def LimitsNamesUptoCardSaid : Prop := Claim7.holds Tryz.pinned (.plain (OpenSpec.upto limitsNamesSpec)) limitsNamesUptoCard

/-- THE SECOND FORM's CARD OF 'polyglotlaw15.LimitsStream'. -/
def limitsStreamUptoCard : Claim7 := { stood := { row := limitsStreamUptoRow, standIns := [], harness := (true, "ac59630c586bc930281f733a67c79c1ac146d919e1801dd500fab8c69b3fa88c"), looks := false }, kinds := [], alts := [], laidByText := true, laidKinds := [.data, .pinned], laidTests := true, laidLooks := .later }
def LimitsStreamUptoCardSaid : Prop := Claim7.holds Tryz.pinned (.plain (OpenSpec.upto limitsStreamSpec)) limitsStreamUptoCard
end Rows
end Go.Proofs.YtefmhbioggcfaaaGreatDoor
