/-
  DERIVED. GIVEN WITH THE SEED: THE CARDS: each row of YtonfkaoobajbkaaDoorRows.lean that lists a variable, with what it lists TIED to the program's text (the seventh form; the later family's looks); each row that meets fmt, with fmt's text TOLD by the authors' own Lean function (tested against real Go, not proved from fmt's source: count such statements apart). THE CARD IS WHAT COUNTS. Prove the row's statement (the work); the ties are given (YtonfkaoobajbkaaDoorTie.lean); close each card by the builder's one call (the guide's Derived/Test/ToyasCard.lean, 'card_holds'). Laid BY PROGRAM, IN A SANDBOX (cutbox-door.mjs). By AI agents, Wed Nov 11 2026. No macro, syntax, notation, axiom, sorry.
-/
import Derived.Test.YtonfkaoobajbkaaDoorRows
import GoSem.ClaimSeven
namespace Go.Proofs.YtonfkaoobajbkaaDoor
namespace Rows

/-- THE TIED CARD OF 'polyglotlaw06.ReasonNames'. -/
def reasonNamesCard : Claim7 := { stood := { row := reasonNamesRow, standIns := [], harness := (true, "9984ae6178156eecae9a08d97f831df200f601c6da6fe300dee4fd04c953ac1b"), looks := false }, kinds := [], alts := [], laidByText := true, laidKinds := [.data, .data, .data, .data], laidTests := true, laidLooks := .later }
def ReasonNamesCardSaid : Prop := Claim7.holds Tryd.pinned (.plain (OpenSpec.ofChange reasonNamesSpec)) reasonNamesCard

/-- THE TIED CARD OF 'polyglotlaw06.ReasonCalls'. -/
def reasonCallsCard : Claim7 := { stood := { row := reasonCallsRow, standIns := [], harness := (true, "9984ae6178156eecae9a08d97f831df200f601c6da6fe300dee4fd04c953ac1b"), looks := false }, kinds := [], alts := [], laidByText := true, laidKinds := [.data, .data, .data, .data], laidTests := true, laidLooks := .later }
def ReasonCallsCardSaid : Prop := Claim7.holds Tryd.pinned (.plain (OpenSpec.ofChange reasonCallsSpec)) reasonCallsCard

/-- THE TIED CARD OF 'polyglotlaw06.ReasonBack'. -/
def reasonBackCard : Claim7 := { stood := { row := reasonBackRow, standIns := [], harness := (true, "9984ae6178156eecae9a08d97f831df200f601c6da6fe300dee4fd04c953ac1b"), looks := false }, kinds := [], alts := [], laidByText := true, laidKinds := [.data, .data, .data, .data], laidTests := true, laidLooks := .later }
def ReasonBackCardSaid : Prop := Claim7.holds Tryd.pinned (.plain (OpenSpec.ofChange reasonBackSpec)) reasonBackCard

/-- THE TIED CARD OF 'polyglotlaw06.ReasonLists'. -/
def reasonListsCard : Claim7 := { stood := { row := reasonListsRow, standIns := [], harness := (true, "9984ae6178156eecae9a08d97f831df200f601c6da6fe300dee4fd04c953ac1b"), looks := false }, kinds := [], alts := [], laidByText := true, laidKinds := [.data, .data, .data, .data], laidTests := true, laidLooks := .later }
def ReasonListsCardSaid : Prop := Claim7.holds Tryd.pinned (.plain (OpenSpec.ofChange reasonListsSpec)) reasonListsCard

/-- THE SECOND FORM's CARD OF 'polyglotlaw06.ReasonNames'. -/
def reasonNamesUptoCard : Claim7 := { stood := { row := reasonNamesUptoRow, standIns := [], harness := (true, "9984ae6178156eecae9a08d97f831df200f601c6da6fe300dee4fd04c953ac1b"), looks := false }, kinds := [], alts := [], laidByText := true, laidKinds := [.data, .data, .data, .data], laidTests := true, laidLooks := .later }
def ReasonNamesUptoCardSaid : Prop := Claim7.holds Tryd.pinned (.plain (OpenSpec.upto reasonNamesSpec)) reasonNamesUptoCard

/-- THE SECOND FORM's CARD OF 'polyglotlaw06.ReasonCalls'. -/
def reasonCallsUptoCard : Claim7 := { stood := { row := reasonCallsUptoRow, standIns := [], harness := (true, "9984ae6178156eecae9a08d97f831df200f601c6da6fe300dee4fd04c953ac1b"), looks := false }, kinds := [], alts := [], laidByText := true, laidKinds := [.data, .data, .data, .data], laidTests := true, laidLooks := .later }
def ReasonCallsUptoCardSaid : Prop := Claim7.holds Tryd.pinned (.plain (OpenSpec.upto reasonCallsSpec)) reasonCallsUptoCard

/-- THE SECOND FORM's CARD OF 'polyglotlaw06.ReasonBack'. -/
def reasonBackUptoCard : Claim7 := { stood := { row := reasonBackUptoRow, standIns := [], harness := (true, "9984ae6178156eecae9a08d97f831df200f601c6da6fe300dee4fd04c953ac1b"), looks := false }, kinds := [], alts := [], laidByText := true, laidKinds := [.data, .data, .data, .data], laidTests := true, laidLooks := .later }
def ReasonBackUptoCardSaid : Prop := Claim7.holds Tryd.pinned (.plain (OpenSpec.upto reasonBackSpec)) reasonBackUptoCard

/-- THE SECOND FORM's CARD OF 'polyglotlaw06.ReasonLists'. -/
def reasonListsUptoCard : Claim7 := { stood := { row := reasonListsUptoRow, standIns := [], harness := (true, "9984ae6178156eecae9a08d97f831df200f601c6da6fe300dee4fd04c953ac1b"), looks := false }, kinds := [], alts := [], laidByText := true, laidKinds := [.data, .data, .data, .data], laidTests := true, laidLooks := .later }
def ReasonListsUptoCardSaid : Prop := Claim7.holds Tryd.pinned (.plain (OpenSpec.upto reasonListsSpec)) reasonListsUptoCard
end Rows
end Go.Proofs.YtonfkaoobajbkaaDoor
