/-
  DERIVED. GIVEN WITH THE SEED: THE CARDS: each row of YtbecggefmbpnoaaGreatDoorRows.lean that lists a variable, with what it lists TIED to the program's text (the seventh form; the later family's looks); each row that meets fmt, with fmt's text TOLD by the authors' own Lean function (tested against real Go, not proved from fmt's source: count such statements apart). THE CARD IS WHAT COUNTS. Prove the row's statement (the work); the ties are given (YtbecggefmbpnoaaGreatDoorTie.lean); close each card by the builder's one call (the guide's Derived/Test/ToyasCard.lean, 'card_holds'). Laid BY PROGRAM, IN A SANDBOX (cutbox-door.mjs). By AI agents, Wed Nov 11 2026. No macro, syntax, notation, axiom, sorry.
-/
import Derived.Test.YtbecggefmbpnoaaGreatDoorRows
import GoSem.ClaimSeven
namespace Go.Proofs.YtbecggefmbpnoaaGreatDoor
namespace Rows

/-- THE TIED CARD OF 'polyglotlaw11.SubscribeNames'. -/
def subscribeNamesCard : Claim7 := { stood := { row := subscribeNamesRow, standIns := [], harness := (true, "766c3e2a37294d6e9d81cf399e4e7eee8bb22920d2a48e85374ac6539d40bf3c"), looks := false }, kinds := [], alts := [], laidByText := true, laidKinds := [.data, .pinned], laidTests := true, laidLooks := .later }
def SubscribeNamesCardSaid : Prop := Claim7.holds Tryz.pinned (.plain (OpenSpec.ofChange subscribeNamesSpec)) subscribeNamesCard

/-- THE TIED CARD OF 'polyglotlaw11.SubscribeCalls'. -/
def subscribeCallsCard : Claim7 := { stood := { row := subscribeCallsRow, standIns := [], harness := (true, "766c3e2a37294d6e9d81cf399e4e7eee8bb22920d2a48e85374ac6539d40bf3c"), looks := false }, kinds := [], alts := [], laidByText := true, laidKinds := [.data, .pinned], laidTests := true, laidLooks := .later }
def SubscribeCallsCardSaid : Prop := Claim7.holds Tryz.pinned (.plain (OpenSpec.ofChange subscribeCallsSpec)) subscribeCallsCard

/-- THE TIED CARD OF 'polyglotlaw11.SubscribeBack'. -/
def subscribeBackCard : Claim7 := { stood := { row := subscribeBackRow, standIns := [], harness := (true, "766c3e2a37294d6e9d81cf399e4e7eee8bb22920d2a48e85374ac6539d40bf3c"), looks := false }, kinds := [], alts := [], laidByText := true, laidKinds := [.data, .pinned], laidTests := true, laidLooks := .later }
def SubscribeBackCardSaid : Prop := Claim7.holds Tryz.pinned (.plain (OpenSpec.ofChange subscribeBackSpec)) subscribeBackCard

/-- THE TIED CARD OF 'polyglotlaw11.SubscribeOptions'. -/
def subscribeOptionsCard : Claim7 := { stood := { row := subscribeOptionsRow, standIns := [], harness := (true, "766c3e2a37294d6e9d81cf399e4e7eee8bb22920d2a48e85374ac6539d40bf3c"), looks := false }, kinds := [], alts := [], laidByText := true, laidKinds := [.data, .pinned], laidTests := true, laidLooks := .later }
def SubscribeOptionsCardSaid : Prop := Claim7.holds Tryz.pinned (.plain (OpenSpec.ofChange subscribeOptionsSpec)) subscribeOptionsCard

/-- THE TIED CARD OF 'polyglotlaw11.SubscribeAnswers'. -/
def subscribeAnswersCard : Claim7 := { stood := { row := subscribeAnswersRow, standIns := [], harness := (true, "766c3e2a37294d6e9d81cf399e4e7eee8bb22920d2a48e85374ac6539d40bf3c"), looks := false }, kinds := [], alts := [], laidByText := true, laidKinds := [.data, .pinned], laidTests := true, laidLooks := .later }
def SubscribeAnswersCardSaid : Prop := Claim7.holds Tryz.pinned (.plain (OpenSpec.ofChange subscribeAnswersSpec)) subscribeAnswersCard

/-- THE SECOND FORM's CARD OF 'polyglotlaw11.SubscribeNames'. -/
def subscribeNamesUptoCard : Claim7 := { stood := { row := subscribeNamesUptoRow, standIns := [], harness := (true, "766c3e2a37294d6e9d81cf399e4e7eee8bb22920d2a48e85374ac6539d40bf3c"), looks := false }, kinds := [], alts := [], laidByText := true, laidKinds := [.data, .pinned], laidTests := true, laidLooks := .later }
def SubscribeNamesUptoCardSaid : Prop := Claim7.holds Tryz.pinned (.plain (OpenSpec.upto subscribeNamesSpec)) subscribeNamesUptoCard

/-- THE SECOND FORM's CARD OF 'polyglotlaw11.SubscribeCalls'. -/
def subscribeCallsUptoCard : Claim7 := { stood := { row := subscribeCallsUptoRow, standIns := [], harness := (true, "766c3e2a37294d6e9d81cf399e4e7eee8bb22920d2a48e85374ac6539d40bf3c"), looks := false }, kinds := [], alts := [], laidByText := true, laidKinds := [.data, .pinned], laidTests := true, laidLooks := .later }
def SubscribeCallsUptoCardSaid : Prop := Claim7.holds Tryz.pinned (.plain (OpenSpec.upto subscribeCallsSpec)) subscribeCallsUptoCard

/-- THE SECOND FORM's CARD OF 'polyglotlaw11.SubscribeBack'. -/
def subscribeBackUptoCard : Claim7 := { stood := { row := subscribeBackUptoRow, standIns := [], harness := (true, "766c3e2a37294d6e9d81cf399e4e7eee8bb22920d2a48e85374ac6539d40bf3c"), looks := false }, kinds := [], alts := [], laidByText := true, laidKinds := [.data, .pinned], laidTests := true, laidLooks := .later }
def SubscribeBackUptoCardSaid : Prop := Claim7.holds Tryz.pinned (.plain (OpenSpec.upto subscribeBackSpec)) subscribeBackUptoCard

/-- THE SECOND FORM's CARD OF 'polyglotlaw11.SubscribeOptions'. -/
def subscribeOptionsUptoCard : Claim7 := { stood := { row := subscribeOptionsUptoRow, standIns := [], harness := (true, "766c3e2a37294d6e9d81cf399e4e7eee8bb22920d2a48e85374ac6539d40bf3c"), looks := false }, kinds := [], alts := [], laidByText := true, laidKinds := [.data, .pinned], laidTests := true, laidLooks := .later }
def SubscribeOptionsUptoCardSaid : Prop := Claim7.holds Tryz.pinned (.plain (OpenSpec.upto subscribeOptionsSpec)) subscribeOptionsUptoCard

/-- THE SECOND FORM's CARD OF 'polyglotlaw11.SubscribeAnswers'. -/
def subscribeAnswersUptoCard : Claim7 := { stood := { row := subscribeAnswersUptoRow, standIns := [], harness := (true, "766c3e2a37294d6e9d81cf399e4e7eee8bb22920d2a48e85374ac6539d40bf3c"), looks := false }, kinds := [], alts := [], laidByText := true, laidKinds := [.data, .pinned], laidTests := true, laidLooks := .later }
def SubscribeAnswersUptoCardSaid : Prop := Claim7.holds Tryz.pinned (.plain (OpenSpec.upto subscribeAnswersSpec)) subscribeAnswersUptoCard
end Rows
end Go.Proofs.YtbecggefmbpnoaaGreatDoor
