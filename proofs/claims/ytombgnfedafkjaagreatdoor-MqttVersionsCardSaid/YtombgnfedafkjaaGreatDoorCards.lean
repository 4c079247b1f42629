/-
  DERIVED. GIVEN WITH THE SEED: THE CARDS: each row of YtombgnfedafkjaaGreatDoorRows.lean that lists a variable, with what it lists TIED to the program's text (the seventh form; the later family's looks); each row that meets fmt, with fmt's text TOLD by the authors' own Lean function (tested against real Go, not proved from fmt's source: count such statements apart). THE CARD IS WHAT COUNTS. Prove the row's statement (the work); the ties are given (YtombgnfedafkjaaGreatDoorTie.lean); close each card by the builder's one call (the guide's Derived/Test/ToyasCard.lean, 'card_holds'). Laid BY PROGRAM, IN A SANDBOX (cutbox-door.mjs). By AI agents, Wed Nov 11 2026. No macro, syntax, notation, axiom, sorry.
-/
import Derived.Test.YtombgnfedafkjaaGreatDoorRows
import GoSem.ClaimSeven
namespace Go.Proofs.YtombgnfedafkjaaGreatDoor
namespace Rows

/-- THE TIED CARD OF 'polyglotlaw13.MqttNames'. -/
def mqttNamesCard : Claim7 := { stood := { row := mqttNamesRow, standIns := [], harness := (true, "b7db0cc9287e233e694a4e6eae9e3b29476724a87ee2e74c014a4d1cc7e38547"), looks := false }, kinds := [], alts := [], laidByText := true, laidKinds := [.data, .pinned], laidTests := true, laidLooks := .later }
def MqttNamesCardSaid : Prop := Claim7.holds Tryz.pinned (.plain (OpenSpec.ofChange mqttNamesSpec)) mqttNamesCard

/-- THE TIED CARD OF 'polyglotlaw13.MqttBack'. -/
def mqttBackCard : Claim7 := { stood := { row := mqttBackRow, standIns := [], harness := (true, "b7db0cc9287e233e694a4e6eae9e3b29476724a87ee2e74c014a4d1cc7e38547"), looks := false }, kinds := [], alts := [], laidByText := true, laidKinds := [.data, .pinned], laidTests := true, laidLooks := .later }
def MqttBackCardSaid : Prop := Claim7.holds Tryz.pinned (.plain (OpenSpec.ofChange mqttBackSpec)) mqttBackCard

/-- THE TIED CARD OF 'polyglotlaw13.MqttFronts'. -/
def mqttFrontsCard : Claim7 := { stood := { row := mqttFrontsRow, standIns := [], harness := (true, "b7db0cc9287e233e694a4e6eae9e3b29476724a87ee2e74c014a4d1cc7e38547"), looks := false }, kinds := [], alts := [], laidByText := true, laidKinds := [.data, .pinned], laidTests := true, laidLooks := .later }
def MqttFrontsCardSaid : Prop := Claim7.holds Tryz.pinned (.plain (OpenSpec.ofChange mqttFrontsSpec)) mqttFrontsCard

/-- THE TIED CARD OF 'polyglotlaw13.MqttAll'. -/
def mqttAllCard : Claim7 := { stood := { row := mqttAllRow, standIns := [], harness := (true, "b7db0cc9287e233e694a4e6eae9e3b29476724a87ee2e74c014a4d1cc7e38547"), looks := false }, kinds := [], alts := [], laidByText := true, laidKinds := [.data, .pinned], laidTests := true, laidLooks := .later }
def MqttAllCardSaid : Prop := Claim7.holds Tryz.pinned (.plain (OpenSpec.ofChange mqttAllSpec)) mqttAllCard

/-- THE TIED CARD OF 'polyglotlaw13.MqttVersions'. -/
def mqttVersionsCard : Claim7 := { stood := { row := mqttVersionsRow, standIns := [], harness := (true, "b7db0cc9287e233e694a4e6eae9e3b29476724a87ee2e74c014a4d1cc7e38547"), looks := false }, kinds := [], alts := [], laidByText := true, laidKinds := [.data, .pinned], laidTests := true, laidLooks := .later }
def MqttVersionsCardSaid : Prop := Claim7.holds Tryz.pinned (.plain (OpenSpec.ofChange mqttVersionsSpec)) mqttVersionsCard

/-- THE SECOND FORM's CARD OF 'polyglotlaw13.MqttNames'. -/
def mqttNamesUptoCard : Claim7 := { stood := { row := mqttNamesUptoRow, standIns := [], harness := (true, "b7db0cc9287e233e694a4e6eae9e3b29476724a87ee2e74c014a4d1cc7e38547"), looks := false }, kinds := [], alts := [], laidByText := true, laidKinds := [.data, .pinned], laidTests := true, laidLooks := .later }
def MqttNamesUptoCardSaid : Prop := Claim7.holds Tryz.pinned (.plain (OpenSpec.upto mqttNamesSpec)) mqttNamesUptoCard

/-- THE SECOND FORM's CARD OF 'polyglotlaw13.MqttBack'. -/
def mqttBackUptoCard : Claim7 := { stood := { row := mqttBackUptoRow, standIns := [], harness := (true, "b7db0cc9287e233e694a4e6eae9e3b29476724a87ee2e74c014a4d1cc7e38547"), looks := false }, kinds := [], alts := [], laidByText := true, laidKinds := [.data, .pinned], laidTests := true, laidLooks := .later }
def MqttBackUptoCardSaid : Prop := Claim7.holds Tryz.pinned (.plain (OpenSpec.upto mqttBackSpec)) mqttBackUptoCard

/-- THE SECOND FORM's CARD OF 'polyglotlaw13.MqttFronts'. -/
def mqttFrontsUptoCard : Claim7 := { stood := { row := mqttFrontsUptoRow, standIns := [], harness := (true, "b7db0cc9287e233e694a4e6eae9e3b29476724a87ee2e74c014a4d1cc7e38547"), looks := false }, kinds := [], alts := [], laidByText := true, laidKinds := [.data, .pinned], laidTests := true, laidLooks := .later }
def MqttFrontsUptoCardSaid : Prop := Claim7.holds Tryz.pinned (.plain (OpenSpec.upto mqttFrontsSpec)) mqttFrontsUptoCard

/-- THE SECOND FORM's CARD OF 'polyglotlaw13.MqttAll'. -/
def mqttAllUptoCard : Claim7 := { stood := { row := mqttAllUptoRow, standIns := [], harness := (true, "b7db0cc9287e233e694a4e6eae9e3b29476724a87ee2e74c014a4d1cc7e38547"), looks := false }, kinds := [], alts := [], laidByText := true, laidKinds := [.data, .pinned], laidTests := true, laidLooks := .later }
def MqttAllUptoCardSaid : Prop := Claim7.holds Tryz.pinned (.plain (OpenSpec.upto mqttAllSpec)) mqttAllUptoCard

/-- THE SECOND FORM's CARD OF 'polyglotlaw13.MqttVersions'. -/
def mqttVersionsUptoCard : Claim7 := { stood := { row := mqttVersionsUptoRow, standIns := [], harness := (true, "b7db0cc9287e233e694a4e6eae9e3b29476724a87ee2e74c014a4d1cc7e38547"), looks := false }, kinds := [], alts := [], laidByText := true, laidKinds := [.data, .pinned], laidTests := true, laidLooks := .later }
def MqttVersionsUptoCardSaid : Prop := Claim7.holds Tryz.pinned (.plain (OpenSpec.upto mqttVersionsSpec)) mqttVersionsUptoCard
end Rows
end Go.Proofs.YtombgnfedafkjaaGreatDoor
