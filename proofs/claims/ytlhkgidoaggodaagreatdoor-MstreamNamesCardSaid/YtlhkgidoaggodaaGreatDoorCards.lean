/-
  DERIVED. GIVEN WITH THE SEED: THE CARDS: each row of YtlhkgidoaggodaaGreatDoorRows.lean that lists a variable, with what it lists TIED to the program's text (the seventh form; the later family's looks); each row that meets fmt, with fmt's text TOLD by the authors' own Lean function (tested against real Go, not proved from fmt's source: count such statements apart). THE CARD IS WHAT COUNTS. Prove the row's statement (the work); the ties are given (YtlhkgidoaggodaaGreatDoorTie.lean); close each card by the builder's one call (the guide's Derived/Test/ToyasCard.lean, 'card_holds'). Laid BY PROGRAM, IN A SANDBOX (cutbox-door.mjs). By AI agents, Wed Nov 11 2026. No macro, syntax, notation, axiom, sorry.
-/
import Derived.Test.YtlhkgidoaggodaaGreatDoorRows
import GoSem.ClaimSeven
namespace Go.Proofs.YtlhkgidoaggodaaGreatDoor
namespace Rows

/-- THE TIED CARD OF 'polyglotlaw14.MstreamNames'. -/
def mstreamNamesCard : Claim7 := { stood := { row := mstreamNamesRow, standIns := [], harness := (true, "ff36e37a1fb007a16fb55bbdd703e80132a8a86cb1fe875c7bebf277aa6d5b0e"), looks := false }, kinds := [], alts := [], laidByText := true, laidKinds := [.data, .pinned], laidTests := true, laidLooks := .later }
def MstreamNamesCardSaid : Prop := Claim7.holds Tryz.pinned (.plain (OpenSpec.ofChange mstreamNamesSpec)) mstreamNamesCard

/-- THE TIED CARD OF 'polyglotlaw14.MstreamCuts'. -/
def mstreamCutsCard : Claim7 := { stood := { row := mstreamCutsRow, standIns := [], harness := (true, "ff36e37a1fb007a16fb55bbdd703e80132a8a86cb1fe875c7bebf277aa6d5b0e"), looks := false }, kinds := [], alts := [], laidByText := true, laidKinds := [.data, .pinned], laidTests := true, laidLooks := .later }
def MstreamCutsCardSaid : Prop := Claim7.holds Tryz.pinned (.plain (OpenSpec.ofChange mstreamCutsSpec)) mstreamCutsCard

/-- THE TIED CARD OF 'polyglotlaw14.MstreamNeeds'. -/
def mstreamNeedsCard : Claim7 := { stood := { row := mstreamNeedsRow, standIns := [], harness := (true, "ff36e37a1fb007a16fb55bbdd703e80132a8a86cb1fe875c7bebf277aa6d5b0e"), looks := false }, kinds := [], alts := [], laidByText := true, laidKinds := [.data, .pinned], laidTests := true, laidLooks := .later }
def MstreamNeedsCardSaid : Prop := Claim7.holds Tryz.pinned (.plain (OpenSpec.ofChange mstreamNeedsSpec)) mstreamNeedsCard

/-- THE SECOND FORM's CARD OF 'polyglotlaw14.MstreamNames'. -/
def mstreamNamesUptoCard : Claim7 := { stood := { row := mstreamNamesUptoRow, standIns := [], harness := (true, "ff36e37a1fb007a16fb55bbdd703e80132a8a86cb1fe875c7bebf277aa6d5b0e"), looks := false }, kinds := [], alts := [], laidByText := true, laidKinds := [.data, .pinned], laidTests := true, laidLooks := .later }
def MstreamNamesUptoCardSaid : Prop := Claim7.holds Tryz.pinned (.plain (OpenSpec.upto mstreamNamesSpec)) mstreamNamesUptoCard

/-- THE SECOND FORM's CARD OF 'polyglotlaw14.MstreamCuts'. -/
def mstreamCutsUptoCard : Claim7 := { stood := { row := mstreamCutsUptoRow, standIns := [], harness := (true, "ff36e37a1fb007a16fb55bbdd703e80132a8a86cb1fe875c7bebf277aa6d5b0e"), looks := false }, kinds := [], alts := [], laidByText := true, laidKinds := [.data, .pinned], laidTests := true, laidLooks := .later }
def MstreamCutsUptoCardSaid : Prop := Claim7.holds Tryz.pinned (.plain (OpenSpec.upto mstreamCutsSpec)) mstreamCutsUptoCard

/-- THE SECOND FORM's CARD OF 'polyglotlaw14.MstreamNeeds'. -/
def mstreamNeedsUptoCard : Claim7 := { stood := { row := mstreamNeedsUptoRow, standIns := [], harness := (true, "ff36e37a1fb007a16fb55bbdd703e80132a8a86cb1fe875c7bebf277aa6d5b0e"), looks := false }, kinds := [], alts := [], laidByText := true, laidKinds := [.data, .pinned], laidTests := true, laidLooks := .later }
def MstreamNeedsUptoCardSaid : Prop := Claim7.holds Tryz.pinned (.plain (OpenSpec.upto mstreamNeedsSpec)) mstreamNeedsUptoCard
end Rows
end Go.Proofs.YtlhkgidoaggodaaGreatDoor
