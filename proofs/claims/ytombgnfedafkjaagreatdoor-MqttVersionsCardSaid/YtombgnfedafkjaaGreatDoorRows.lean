/-
  NARROWER THAN 'FOR EVERY INPUT', by the rows' own cells (each row's printed sentence says how): MqttNames: laid · MqttBack: laid · MqttFronts: laid · MqttAll: laid · MqttVersions: laid.
  DERIVED. THE GIVEN ROWS OF THIS SEAT. 5 by the template 'for every input the law returns true; each argument reads behind the call as it read before'; 0 by the template 'total and deterministic' (their statements: YtombgnfedafkjaaGreatDoorTotals.lean).
  GIVEN WITH THE SEED: the statements are not yours to turn. If you find one false, say at which input.
  Laid BY PROGRAM, IN A SANDBOX (cutbox-rows.mjs): the forced cells as the released guide's own fill.sh prints them over the translation 324a254393ca74ac… (all of the seat's roots in one cut). By AI agents, Wed Nov 11 2026. No macro, syntax, notation, axiom, sorry.
-/
import Derived.Test.YtombgnfedafkjaaGreatDoorChecked
import GoSem.PinnedTables
import GoSem.Claim
import GoSem.ClaimJoined
import GoSem.ClaimMapViews
import Derived.JoinedTies
import Derived.KernelRfl
namespace Go.Proofs.YtombgnfedafkjaaGreatDoor
/- THE CELL 'sum', in the pinned program and in every row, IS THE sha256 OF THE DUMP (.gsa) THAT YtombgnfedafkjaaGreatDoorProg.lean LOADS. Nothing in Lean hashes anything: it is a label: what it is worth is what the hold of that sum in a sandbox is worth. -/
noncomputable def Tryz.pinned : Pinned := { name := "ytombgnfedafkjaagreatdoor", sum := "324a254393ca74acd29516be624bdcb102337efa1a667eb73c286f22fcfaa53d", checked := Tryz.checked }
namespace Rows
def none {H : Type} : Left H := { results := [], args := [] }

/- WHAT THE LISTED PACKAGE-LEVEL VARIABLES READ AS WHEN THE CALL BEGINS. Each datum BY PROGRAM (the guide's laid-datum.mjs) off the statement by which the dump's own 'gosem.cut.vars' lays the variable. In a bare row this is a premise. The card (YtombgnfedafkjaaGreatDoorCards.lean) ties it to the program's text. -/
def laid_unicode_utf8_acceptRanges {H : Type} : DataW H := .agg [.agg [.lit (.int .u8 128), .lit (.int .u8 191)], .agg [.lit (.int .u8 160), .lit (.int .u8 191)], .agg [.lit (.int .u8 128), .lit (.int .u8 159)], .agg [.lit (.int .u8 144), .lit (.int .u8 191)], .agg [.lit (.int .u8 128), .lit (.int .u8 143)], .agg [.lit (.int .u8 0), .lit (.int .u8 0)], .agg [.lit (.int .u8 0), .lit (.int .u8 0)], .agg [.lit (.int .u8 0), .lit (.int .u8 0)], .agg [.lit (.int .u8 0), .lit (.int .u8 0)], .agg [.lit (.int .u8 0), .lit (.int .u8 0)], .agg [.lit (.int .u8 0), .lit (.int .u8 0)], .agg [.lit (.int .u8 0), .lit (.int .u8 0)], .agg [.lit (.int .u8 0), .lit (.int .u8 0)], .agg [.lit (.int .u8 0), .lit (.int .u8 0)], .agg [.lit (.int .u8 0), .lit (.int .u8 0)], .agg [.lit (.int .u8 0), .lit (.int .u8 0)]]
/-- One of Go's own tables, pinned by name: the form's constant. -/
def laid_unicode_utf8_first : DataW Unit := Go.Pinned.utf8First

/-- 'polyglotlaw13.MqttNames': WHATEVER THE INPUT: true; the input reads as it did. -/
def mqttNamesSpec : ChangeSpec := { name := "mqttNames", fn := fun _ => fun
  | [] => { results := [.lit (.bool true)], args := [] }
  | _ => none }
def mqttNamesRow : OpenClaim := { program := "ytombgnfedafkjaagreatdoor", sum := "324a254393ca74acd29516be624bdcb102337efa1a667eb73c286f22fcfaa53d", func := "polyglot/polyglotlaw13.MqttNames", spec := "mqttNames", inPlace := ["internal/bytealg.IndexByteString", "internal/bytealg.IndexString", "internal/abi.NoEscape", "internal/bytealg.MakeNoZero", "internal/bytealg.CountString"], unfollowed := true, recurses := true, named := ["unicode/utf8.first", "unicode/utf8.acceptRanges", "internal/bytealg.MaxLen"], apart := false, laid := [("unicode/utf8.acceptRanges", laid_unicode_utf8_acceptRanges), ("unicode/utf8.first", laid_unicode_utf8_first)] }
def MqttNamesSaid : Prop := mqttNamesRow.holds Tryz.pinned (OpenSpec.ofChange mqttNamesSpec)

/-- ITS FALSE NEIGHBOUR: 'it returns false'. Refute it at one input. -/
def mqttNamesWrong : ChangeSpec := { name := "mqttNames", fn := fun _ => fun
  | [] => { results := [.lit (.bool false)], args := [] }
  | _ => none }
def MqttNamesWrongFalsely : Prop := mqttNamesRow.holds Tryz.pinned (OpenSpec.ofChange mqttNamesWrong)

/-- 'polyglotlaw13.MqttBack': WHATEVER THE INPUT: true; the input reads as it did. -/
def mqttBackSpec : ChangeSpec := { name := "mqttBack", fn := fun _ => fun
  | [d1, d2, d3, d4] => { results := [.lit (.bool true)], args := [d1, d2, d3, d4] }
  | _ => none }
def mqttBackRow : OpenClaim := { program := "ytombgnfedafkjaagreatdoor", sum := "324a254393ca74acd29516be624bdcb102337efa1a667eb73c286f22fcfaa53d", func := "polyglot/polyglotlaw13.MqttBack", spec := "mqttBack", inPlace := ["internal/bytealg.IndexByteString", "internal/bytealg.IndexString", "internal/abi.NoEscape", "internal/bytealg.MakeNoZero", "internal/bytealg.CountString"], unfollowed := true, recurses := true, named := ["unicode/utf8.first", "unicode/utf8.acceptRanges", "internal/bytealg.MaxLen"], apart := false, laid := [("unicode/utf8.acceptRanges", laid_unicode_utf8_acceptRanges), ("unicode/utf8.first", laid_unicode_utf8_first)] }
def MqttBackSaid : Prop := mqttBackRow.holds Tryz.pinned (OpenSpec.ofChange mqttBackSpec)

/-- ITS FALSE NEIGHBOUR: 'it returns false'. Refute it at one input. -/
def mqttBackWrong : ChangeSpec := { name := "mqttBack", fn := fun _ => fun
  | [d1, d2, d3, d4] => { results := [.lit (.bool false)], args := [d1, d2, d3, d4] }
  | _ => none }
def MqttBackWrongFalsely : Prop := mqttBackRow.holds Tryz.pinned (OpenSpec.ofChange mqttBackWrong)

/-- 'polyglotlaw13.MqttFronts': WHATEVER THE INPUT: true; the input reads as it did. -/
def mqttFrontsSpec : ChangeSpec := { name := "mqttFronts", fn := fun _ => fun
  | [d1, d2, d3, d4] => { results := [.lit (.bool true)], args := [d1, d2, d3, d4] }
  | _ => none }
def mqttFrontsRow : OpenClaim := { program := "ytombgnfedafkjaagreatdoor", sum := "324a254393ca74acd29516be624bdcb102337efa1a667eb73c286f22fcfaa53d", func := "polyglot/polyglotlaw13.MqttFronts", spec := "mqttFronts", inPlace := ["internal/bytealg.IndexByteString", "internal/bytealg.IndexString", "internal/abi.NoEscape", "internal/bytealg.MakeNoZero", "internal/bytealg.CountString"], unfollowed := true, recurses := true, named := ["unicode/utf8.first", "unicode/utf8.acceptRanges", "internal/bytealg.MaxLen"], apart := false, laid := [("unicode/utf8.acceptRanges", laid_unicode_utf8_acceptRanges), ("unicode/utf8.first", laid_unicode_utf8_first)] }
def MqttFrontsSaid : Prop := mqttFrontsRow.holds Tryz.pinned (OpenSpec.ofChange mqttFrontsSpec)

/-- ITS FALSE NEIGHBOUR: 'it returns false'. Refute it at one input. -/
def mqttFrontsWrong : ChangeSpec := { name := "mqttFronts", fn := fun _ => fun
  | [d1, d2, d3, d4] => { results := [.lit (.bool false)], args := [d1, d2, d3, d4] }
  | _ => none }
def MqttFrontsWrongFalsely : Prop := mqttFrontsRow.holds Tryz.pinned (OpenSpec.ofChange mqttFrontsWrong)

/-- 'polyglotlaw13.MqttAll': WHATEVER THE INPUT: true; the input reads as it did. -/
def mqttAllSpec : ChangeSpec := { name := "mqttAll", fn := fun _ => fun
  | [d1, d2, d3] => { results := [.lit (.bool true)], args := [d1, d2, d3] }
  | _ => none }
def mqttAllRow : OpenClaim := { program := "ytombgnfedafkjaagreatdoor", sum := "324a254393ca74acd29516be624bdcb102337efa1a667eb73c286f22fcfaa53d", func := "polyglot/polyglotlaw13.MqttAll", spec := "mqttAll", inPlace := ["internal/bytealg.IndexByteString", "internal/bytealg.IndexString", "internal/abi.NoEscape", "internal/bytealg.MakeNoZero", "internal/bytealg.CountString"], unfollowed := true, recurses := true, named := ["unicode/utf8.first", "unicode/utf8.acceptRanges", "internal/bytealg.MaxLen"], apart := false, laid := [("unicode/utf8.acceptRanges", laid_unicode_utf8_acceptRanges), ("unicode/utf8.first", laid_unicode_utf8_first)] }
def MqttAllSaid : Prop := mqttAllRow.holds Tryz.pinned (OpenSpec.ofChange mqttAllSpec)

/-- ITS FALSE NEIGHBOUR: 'it returns false'. Refute it at one input. -/
def mqttAllWrong : ChangeSpec := { name := "mqttAll", fn := fun _ => fun
  | [d1, d2, d3] => { results := [.lit (.bool false)], args := [d1, d2, d3] }
  | _ => none }
def MqttAllWrongFalsely : Prop := mqttAllRow.holds Tryz.pinned (OpenSpec.ofChange mqttAllWrong)

/-- 'polyglotlaw13.MqttVersions': WHATEVER THE INPUT: true; the input reads as it did. -/
def mqttVersionsSpec : ChangeSpec := { name := "mqttVersions", fn := fun _ => fun
  | [d] => { results := [.lit (.bool true)], args := [d] }
  | _ => none }
def mqttVersionsRow : OpenClaim := { program := "ytombgnfedafkjaagreatdoor", sum := "324a254393ca74acd29516be624bdcb102337efa1a667eb73c286f22fcfaa53d", func := "polyglot/polyglotlaw13.MqttVersions", spec := "mqttVersions", inPlace := ["internal/bytealg.IndexByteString", "internal/bytealg.IndexString", "internal/abi.NoEscape", "internal/bytealg.MakeNoZero", "internal/bytealg.CountString"], unfollowed := true, recurses := true, named := ["unicode/utf8.first", "unicode/utf8.acceptRanges", "internal/bytealg.MaxLen"], apart := false, laid := [("unicode/utf8.acceptRanges", laid_unicode_utf8_acceptRanges), ("unicode/utf8.first", laid_unicode_utf8_first)] }
def MqttVersionsSaid : Prop := mqttVersionsRow.holds Tryz.pinned (OpenSpec.ofChange mqttVersionsSpec)

/-- ITS FALSE NEIGHBOUR: 'it returns false'. Refute it at one input. -/
def mqttVersionsWrong : ChangeSpec := { name := "mqttVersions", fn := fun _ => fun
  | [d] => { results := [.lit (.bool false)], args := [d] }
  | _ => none }
def MqttVersionsWrongFalsely : Prop := mqttVersionsRow.holds Tryz.pinned (OpenSpec.ofChange mqttVersionsWrong)

/- THE SECOND FORM. 'bulk': how many values and letters a reading holds, each counted each time it is reached (what is shared counts as often as it is met; a slice's spare places count too). A statement '..UptoSaid' is the law's where the arguments, and the package variables that the reading takes, are together of bulk at most 1048576: NARROWER than '..Said'. Prove '..Said' where nothing that the law and all that it calls make is longer than what came in: it says more and counts as full. Else prove '..UptoSaid'. A law counts once. -/
mutual
def uptoBulk {H : Type} : DataW H → Nat
  | .lit (.string bytes) => bytes.length + 1
  | .lit _ => 1
  | .nil => 1
  | .ptr d => uptoBulk d + 1
  | .slice elems spare => uptoBulkAll elems + uptoBulkAll spare + 1
  | .agg parts => uptoBulkAll parts + 1
  | .iface _ d => uptoBulk d + 1
  | .map entries => uptoBulkEntries entries + 1
  | .held _ => 1
def uptoBulkAll {H : Type} : List (DataW H) → Nat
  | [] => 0
  | d :: r => uptoBulk d + uptoBulkAll r
def uptoBulkEntries {H : Type} : List (Lit × DataW H) → Nat
  | [] => 0
  | x :: r => uptoBulkEntry x + uptoBulkEntries r
def uptoBulkEntry {H : Type} : Lit × DataW H → Nat
  | (.string bytes, d) => bytes.length + uptoBulk d + 1
  | (_, d) => uptoBulk d + 1
 end
def uptoSmall : (H : Type) → List (DataW H) → Bool := fun _ ds => decide (uptoBulkAll ds ≤ 1048576)
def OpenSpec.upto (s : _root_.Go.ChangeSpec) : _root_.Go.OpenSpec := { _root_.Go.OpenSpec.ofChange s with cond := some uptoSmall }

/-- 'polyglotlaw13.MqttNames', WHERE WHAT IT READS IS OF BULK AT MOST 1048576: true; the input reads as it did. -/
def mqttNamesUptoRow : OpenClaim := { program := "ytombgnfedafkjaagreatdoor", sum := "324a254393ca74acd29516be624bdcb102337efa1a667eb73c286f22fcfaa53d", func := "polyglot/polyglotlaw13.MqttNames", spec := "mqttNames", inPlace := ["internal/bytealg.IndexByteString", "internal/bytealg.IndexString", "internal/abi.NoEscape", "internal/bytealg.MakeNoZero", "internal/bytealg.CountString"], unfollowed := true, recurses := true, named := ["unicode/utf8.first", "unicode/utf8.acceptRanges", "internal/bytealg.MaxLen"], apart := false, laid := [("unicode/utf8.acceptRanges", laid_unicode_utf8_acceptRanges), ("unicode/utf8.first", laid_unicode_utf8_first)], narrowed := true }
def MqttNamesUptoSaid : Prop := mqttNamesUptoRow.holds Tryz.pinned (OpenSpec.upto mqttNamesSpec)

/-- 'polyglotlaw13.MqttBack', WHERE WHAT IT READS IS OF BULK AT MOST 1048576: true; the input reads as it did. -/
def mqttBackUptoRow : OpenClaim := { program := "ytombgnfedafkjaagreatdoor", sum := "324a254393ca74acd29516be624bdcb102337efa1a667eb73c286f22fcfaa53d", func := "polyglot/polyglotlaw13.MqttBack", spec := "mqttBack", inPlace := ["internal/bytealg.IndexByteString", "internal/bytealg.IndexString", "internal/abi.NoEscape", "internal/bytealg.MakeNoZero", "internal/bytealg.CountString"], unfollowed := true, recurses := true, named := ["unicode/utf8.first", "unicode/utf8.acceptRanges", "internal/bytealg.MaxLen"], apart := false, laid := [("unicode/utf8.acceptRanges", laid_unicode_utf8_acceptRanges), ("unicode/utf8.first", laid_unicode_utf8_first)], narrowed := true }
def MqttBackUptoSaid : Prop := mqttBackUptoRow.holds Tryz.pinned (OpenSpec.upto mqttBackSpec)

/-- 'polyglotlaw13.MqttFronts', WHERE WHAT IT READS IS OF BULK AT MOST 1048576: true; the input reads as it did. -/
def mqttFrontsUptoRow : OpenClaim := { program := "ytombgnfedafkjaagreatdoor", sum := "324a254393ca74acd29516be624bdcb102337efa1a667eb73c286f22fcfaa53d", func := "polyglot/polyglotlaw13.MqttFronts", spec := "mqttFronts", inPlace := ["internal/bytealg.IndexByteString", "internal/bytealg.IndexString", "internal/abi.NoEscape", "internal/bytealg.MakeNoZero", "internal/bytealg.CountString"], unfollowed := true, recurses := true, named := ["unicode/utf8.first", "unicode/utf8.acceptRanges", "internal/bytealg.MaxLen"], apart := false, laid := [("unicode/utf8.acceptRanges", laid_unicode_utf8_acceptRanges), ("unicode/utf8.first", laid_unicode_utf8_first)], narrowed := true }
def MqttFrontsUptoSaid : Prop := mqttFrontsUptoRow.holds Tryz.pinned (OpenSpec.upto mqttFrontsSpec)

/-- 'polyglotlaw13.MqttAll', WHERE WHAT IT READS IS OF BULK AT MOST 1048576: true; the input reads as it did. -/
def mqttAllUptoRow : OpenClaim := { program := "ytombgnfedafkjaagreatdoor", sum := "324a254393ca74acd29516be624bdcb102337efa1a667eb73c286f22fcfaa53d", func := "polyglot/polyglotlaw13.MqttAll", spec := "mqttAll", inPlace := ["internal/bytealg.IndexByteString", "internal/bytealg.IndexString", "internal/abi.NoEscape", "internal/bytealg.MakeNoZero", "internal/bytealg.CountString"], unfollowed := true, recurses := true, named := ["unicode/utf8.first", "unicode/utf8.acceptRanges", "internal/bytealg.MaxLen"], apart := false, laid := [("unicode/utf8.acceptRanges", laid_unicode_utf8_acceptRanges), ("unicode/utf8.first", laid_unicode_utf8_first)], narrowed := true }
def MqttAllUptoSaid : Prop := mqttAllUptoRow.holds Tryz.pinned (OpenSpec.upto mqttAllSpec)

/-- 'polyglotlaw13.MqttVersions', WHERE WHAT IT READS IS OF BULK AT MOST 1048576: true; the input reads as it did. -/
def mqttVersionsUptoRow : OpenClaim := { program := "ytombgnfedafkjaagreatdoor", sum := "324a254393ca74acd29516be624bdcb102337efa1a667eb73c286f22fcfaa53d", func := "polyglot/polyglotlaw13.MqttVersions", spec := "mqttVersions", inPlace := ["internal/bytealg.IndexByteString", "internal/bytealg.IndexString", "internal/abi.NoEscape", "internal/bytealg.MakeNoZero", "internal/bytealg.CountString"], unfollowed := true, recurses := true, named := ["unicode/utf8.first", "unicode/utf8.acceptRanges", "internal/bytealg.MaxLen"], apart := false, laid := [("unicode/utf8.acceptRanges", laid_unicode_utf8_acceptRanges), ("unicode/utf8.first", laid_unicode_utf8_first)], narrowed := true }
def MqttVersionsUptoSaid : Prop := mqttVersionsUptoRow.holds Tryz.pinned (OpenSpec.upto mqttVersionsSpec)

end Rows
end Go.Proofs.YtombgnfedafkjaaGreatDoor
