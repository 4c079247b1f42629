/-
  NARROWER THAN 'FOR EVERY INPUT', by the rows' own cells (each row's printed sentence says how): AmqprimNames: laid · AmqprimCalls: loops, laid · AmqprimBack: loops, laid · AmqprimShort: loops, laid · AmqprimWidths: loops, laid · AmqprimCodes: laid.
  DERIVED. THE GIVEN ROWS OF THIS SEAT. 6 by the template 'for every input the law returns true; each argument reads behind the call as it read before'; 0 by the template 'total and deterministic' (their statements: YtjbgnlnchchgcaaDoorTotals.lean).
  GIVEN WITH THE SEED: the statements are not yours to turn. If you find one false, say at which input.
  Laid BY PROGRAM, IN A SANDBOX (cutbox-rows.mjs): the forced cells as the released guide's own fill.sh prints them over the translation a7bee407c7e56d0f… (all of the seat's roots in one cut). By AI agents, Wed Nov 11 2026. No macro, syntax, notation, axiom, sorry.
-/
import Derived.Test.YtjbgnlnchchgcaaDoorChecked
import GoSem.PinnedTables
import GoSem.Claim
import GoSem.ClaimJoined
import GoSem.ClaimMapViews
import Derived.JoinedTies
import Derived.KernelRfl
namespace Go.Proofs.YtjbgnlnchchgcaaDoor
/- THE CELL 'sum', in the pinned program and in every row, IS THE sha256 OF THE DUMP (.gsa) THAT YtjbgnlnchchgcaaDoorProg.lean LOADS. Nothing in Lean hashes anything: it is a label: what it is worth is what the hold of that sum in a sandbox is worth. -/
noncomputable def Tryd.pinned : Pinned := { name := "ytjbgnlnchchgcaadoor", sum := "a7bee407c7e56d0f62ca72590850b70401f5a5c815a02da06f052c16754a2733", checked := Tryd.checked }
namespace Rows
def none {H : Type} : Left H := { results := [], args := [] }

/- WHAT THE LISTED PACKAGE-LEVEL VARIABLES READ AS WHEN THE CALL BEGINS. Each datum BY PROGRAM (the guide's laid-datum.mjs) off the statement by which the dump's own 'gosem.cut.vars' lays the variable. In a bare row this is a premise. The card (YtjbgnlnchchgcaaDoorCards.lean) ties it to the program's text. -/
def laid_unicode_utf8_acceptRanges {H : Type} : DataW H := .agg [.agg [.lit (.int .u8 128), .lit (.int .u8 191)], .agg [.lit (.int .u8 160), .lit (.int .u8 191)], .agg [.lit (.int .u8 128), .lit (.int .u8 159)], .agg [.lit (.int .u8 144), .lit (.int .u8 191)], .agg [.lit (.int .u8 128), .lit (.int .u8 143)], .agg [.lit (.int .u8 0), .lit (.int .u8 0)], .agg [.lit (.int .u8 0), .lit (.int .u8 0)], .agg [.lit (.int .u8 0), .lit (.int .u8 0)], .agg [.lit (.int .u8 0), .lit (.int .u8 0)], .agg [.lit (.int .u8 0), .lit (.int .u8 0)], .agg [.lit (.int .u8 0), .lit (.int .u8 0)], .agg [.lit (.int .u8 0), .lit (.int .u8 0)], .agg [.lit (.int .u8 0), .lit (.int .u8 0)], .agg [.lit (.int .u8 0), .lit (.int .u8 0)], .agg [.lit (.int .u8 0), .lit (.int .u8 0)], .agg [.lit (.int .u8 0), .lit (.int .u8 0)]]
/-- One of Go's own tables, pinned by name: the form's constant. -/
def laid_unicode_utf8_first : DataW Unit := Go.Pinned.utf8First

/-- 'polyglotlaw16.AmqprimNames': WHATEVER THE INPUT: true; the input reads as it did. -/
def amqprimNamesSpec : ChangeSpec := { name := "amqprimNames", fn := fun _ => fun
  | [] => { results := [.lit (.bool true)], args := [] }
  | _ => none }
def amqprimNamesRow : OpenClaim := { program := "ytjbgnlnchchgcaadoor", sum := "a7bee407c7e56d0f62ca72590850b70401f5a5c815a02da06f052c16754a2733", func := "polyglot/polyglotlaw16.AmqprimNames", spec := "amqprimNames", inPlace := ["internal/bytealg.IndexByteString", "internal/bytealg.IndexString"], unfollowed := true, recurses := true, named := ["unicode/utf8.first", "unicode/utf8.acceptRanges", "internal/bytealg.MaxLen"], apart := false, laid := [("unicode/utf8.acceptRanges", laid_unicode_utf8_acceptRanges), ("unicode/utf8.first", laid_unicode_utf8_first)] }
def AmqprimNamesSaid : Prop := amqprimNamesRow.holds Tryd.pinned (OpenSpec.ofChange amqprimNamesSpec)

/-- ITS FALSE NEIGHBOUR: 'it returns false'. Refute it at one input. -/
def amqprimNamesWrong : ChangeSpec := { name := "amqprimNames", fn := fun _ => fun
  | [] => { results := [.lit (.bool false)], args := [] }
  | _ => none }
def AmqprimNamesWrongFalsely : Prop := amqprimNamesRow.holds Tryd.pinned (OpenSpec.ofChange amqprimNamesWrong)

/-- 'polyglotlaw16.AmqprimCalls': WHATEVER THE INPUT: true; the input reads as it did. -/
def amqprimCallsSpec : ChangeSpec := { name := "amqprimCalls", fn := fun _ => fun
  | [d1, d2, d3, d4] => { results := [.lit (.bool true)], args := [d1, d2, d3, d4] }
  | _ => none }
def amqprimCallsRow : OpenClaim := { program := "ytjbgnlnchchgcaadoor", sum := "a7bee407c7e56d0f62ca72590850b70401f5a5c815a02da06f052c16754a2733", func := "polyglot/polyglotlaw16.AmqprimCalls", spec := "amqprimCalls", inPlace := ["internal/bytealg.IndexByteString", "internal/bytealg.IndexString"], unfollowed := true, recurses := true, named := ["unicode/utf8.first", "unicode/utf8.acceptRanges", "internal/bytealg.MaxLen"], loops := true, apart := false, laid := [("unicode/utf8.acceptRanges", laid_unicode_utf8_acceptRanges), ("unicode/utf8.first", laid_unicode_utf8_first)] }
def AmqprimCallsSaid : Prop := amqprimCallsRow.holds Tryd.pinned (OpenSpec.ofChange amqprimCallsSpec)

/-- ITS FALSE NEIGHBOUR: 'it returns false'. Refute it at one input. -/
def amqprimCallsWrong : ChangeSpec := { name := "amqprimCalls", fn := fun _ => fun
  | [d1, d2, d3, d4] => { results := [.lit (.bool false)], args := [d1, d2, d3, d4] }
  | _ => none }
def AmqprimCallsWrongFalsely : Prop := amqprimCallsRow.holds Tryd.pinned (OpenSpec.ofChange amqprimCallsWrong)

/-- 'polyglotlaw16.AmqprimBack': WHATEVER THE INPUT: true; the input reads as it did. -/
def amqprimBackSpec : ChangeSpec := { name := "amqprimBack", fn := fun _ => fun
  | [d1, d2, d3] => { results := [.lit (.bool true)], args := [d1, d2, d3] }
  | _ => none }
def amqprimBackRow : OpenClaim := { program := "ytjbgnlnchchgcaadoor", sum := "a7bee407c7e56d0f62ca72590850b70401f5a5c815a02da06f052c16754a2733", func := "polyglot/polyglotlaw16.AmqprimBack", spec := "amqprimBack", inPlace := ["internal/bytealg.IndexByteString", "internal/bytealg.IndexString"], unfollowed := true, recurses := true, named := ["unicode/utf8.first", "unicode/utf8.acceptRanges", "internal/bytealg.MaxLen"], loops := true, apart := false, laid := [("unicode/utf8.acceptRanges", laid_unicode_utf8_acceptRanges), ("unicode/utf8.first", laid_unicode_utf8_first)] }
def AmqprimBackSaid : Prop := amqprimBackRow.holds Tryd.pinned (OpenSpec.ofChange amqprimBackSpec)

/-- ITS FALSE NEIGHBOUR: 'it returns false'. Refute it at one input. -/
def amqprimBackWrong : ChangeSpec := { name := "amqprimBack", fn := fun _ => fun
  | [d1, d2, d3] => { results := [.lit (.bool false)], args := [d1, d2, d3] }
  | _ => none }
def AmqprimBackWrongFalsely : Prop := amqprimBackRow.holds Tryd.pinned (OpenSpec.ofChange amqprimBackWrong)

/-- 'polyglotlaw16.AmqprimShort': WHATEVER THE INPUT: true; the input reads as it did. -/
def amqprimShortSpec : ChangeSpec := { name := "amqprimShort", fn := fun _ => fun
  | [d1, d2] => { results := [.lit (.bool true)], args := [d1, d2] }
  | _ => none }
def amqprimShortRow : OpenClaim := { program := "ytjbgnlnchchgcaadoor", sum := "a7bee407c7e56d0f62ca72590850b70401f5a5c815a02da06f052c16754a2733", func := "polyglot/polyglotlaw16.AmqprimShort", spec := "amqprimShort", inPlace := ["internal/bytealg.IndexByteString", "internal/bytealg.IndexString"], unfollowed := true, recurses := true, named := ["unicode/utf8.first", "unicode/utf8.acceptRanges", "internal/bytealg.MaxLen"], loops := true, apart := false, laid := [("unicode/utf8.acceptRanges", laid_unicode_utf8_acceptRanges), ("unicode/utf8.first", laid_unicode_utf8_first)] }
def AmqprimShortSaid : Prop := amqprimShortRow.holds Tryd.pinned (OpenSpec.ofChange amqprimShortSpec)

/-- ITS FALSE NEIGHBOUR: 'it returns false'. Refute it at one input. -/
def amqprimShortWrong : ChangeSpec := { name := "amqprimShort", fn := fun _ => fun
  | [d1, d2] => { results := [.lit (.bool false)], args := [d1, d2] }
  | _ => none }
def AmqprimShortWrongFalsely : Prop := amqprimShortRow.holds Tryd.pinned (OpenSpec.ofChange amqprimShortWrong)

/-- 'polyglotlaw16.AmqprimWidths': WHATEVER THE INPUT: true; the input reads as it did. -/
def amqprimWidthsSpec : ChangeSpec := { name := "amqprimWidths", fn := fun _ => fun
  | [d1, d2, d3, d4] => { results := [.lit (.bool true)], args := [d1, d2, d3, d4] }
  | _ => none }
def amqprimWidthsRow : OpenClaim := { program := "ytjbgnlnchchgcaadoor", sum := "a7bee407c7e56d0f62ca72590850b70401f5a5c815a02da06f052c16754a2733", func := "polyglot/polyglotlaw16.AmqprimWidths", spec := "amqprimWidths", inPlace := ["internal/bytealg.IndexByteString", "internal/bytealg.IndexString"], unfollowed := true, recurses := true, named := ["unicode/utf8.first", "unicode/utf8.acceptRanges", "internal/bytealg.MaxLen"], loops := true, apart := false, laid := [("unicode/utf8.acceptRanges", laid_unicode_utf8_acceptRanges), ("unicode/utf8.first", laid_unicode_utf8_first)] }
def AmqprimWidthsSaid : Prop := amqprimWidthsRow.holds Tryd.pinned (OpenSpec.ofChange amqprimWidthsSpec)

/-- ITS FALSE NEIGHBOUR: 'it returns false'. Refute it at one input. -/
def amqprimWidthsWrong : ChangeSpec := { name := "amqprimWidths", fn := fun _ => fun
  | [d1, d2, d3, d4] => { results := [.lit (.bool false)], args := [d1, d2, d3, d4] }
  | _ => none }
def AmqprimWidthsWrongFalsely : Prop := amqprimWidthsRow.holds Tryd.pinned (OpenSpec.ofChange amqprimWidthsWrong)

/-- 'polyglotlaw16.AmqprimCodes': WHATEVER THE INPUT: true; the input reads as it did. -/
def amqprimCodesSpec : ChangeSpec := { name := "amqprimCodes", fn := fun _ => fun
  | [d1, d2] => { results := [.lit (.bool true)], args := [d1, d2] }
  | _ => none }
def amqprimCodesRow : OpenClaim := { program := "ytjbgnlnchchgcaadoor", sum := "a7bee407c7e56d0f62ca72590850b70401f5a5c815a02da06f052c16754a2733", func := "polyglot/polyglotlaw16.AmqprimCodes", spec := "amqprimCodes", inPlace := ["internal/bytealg.IndexByteString", "internal/bytealg.IndexString"], unfollowed := true, recurses := true, named := ["unicode/utf8.first", "unicode/utf8.acceptRanges", "internal/bytealg.MaxLen"], apart := false, laid := [("unicode/utf8.acceptRanges", laid_unicode_utf8_acceptRanges), ("unicode/utf8.first", laid_unicode_utf8_first)] }
def AmqprimCodesSaid : Prop := amqprimCodesRow.holds Tryd.pinned (OpenSpec.ofChange amqprimCodesSpec)

/-- ITS FALSE NEIGHBOUR: 'it returns false'. Refute it at one input. -/
def amqprimCodesWrong : ChangeSpec := { name := "amqprimCodes", fn := fun _ => fun
  | [d1, d2] => { results := [.lit (.bool false)], args := [d1, d2] }
  | _ => none }
def AmqprimCodesWrongFalsely : Prop := amqprimCodesRow.holds Tryd.pinned (OpenSpec.ofChange amqprimCodesWrong)

/- THE SECOND FORM. 'bulk': how many values and letters a reading holds, each counted each time it is reached (what is shared counts as often as it is met; a slice's spare places count too). A statement '..UptoSaid' is the law's where the arguments, and the package variables that the reading takes, are together of bulk at most 1048576: NARROWER than '..Said'. Prove '..Said' where nothing that the law and all that it calls make is longer than what came in: it says more and counts as full. Else prove '..UptoSaid'. A law counts once. -/
mutual
def uptoBulk {H : Type} : DataW H → Nat
  | .lit (.string bytes) => bytes.length + 1
  | .lit _ => 1
  | .nil => 1
  | .ptr d => uptoBulk d + 1
  | .slice elems spare => uptoBulkAll elems + uptoBulkAll spare + 1
  | .agg parts => uptoBulkAll parts + 1
  | .iface _ d => uptoBulk d + 1
  | .map entries => uptoBulkEntries entries + 1
  | .held _ => 1
def uptoBulkAll {H : Type} : List (DataW H) → Nat
  | [] => 0
  | d :: r => uptoBulk d + uptoBulkAll r
def uptoBulkEntries {H : Type} : List (Lit × DataW H) → Nat
  | [] => 0
  | x :: r => uptoBulkEntry x + uptoBulkEntries r
def uptoBulkEntry {H : Type} : Lit × DataW H → Nat
  | (.string bytes, d) => bytes.length + uptoBulk d + 1
  | (_, d) => uptoBulk d + 1
 end
def uptoSmall : (H : Type) → List (DataW H) → Bool := fun _ ds => decide (uptoBulkAll ds ≤ 1048576)
def OpenSpec.upto (s : _root_.Go.ChangeSpec) : _root_.Go.OpenSpec := { _root_.Go.OpenSpec.ofChange s with cond := some uptoSmall }

/-- 'polyglotlaw16.AmqprimNames', WHERE WHAT IT READS IS OF BULK AT MOST 1048576: true; the input reads as it did. -/
def amqprimNamesUptoRow : OpenClaim := { program := "ytjbgnlnchchgcaadoor", sum := "a7bee407c7e56d0f62ca72590850b70401f5a5c815a02da06f052c16754a2733", func := "polyglot/polyglotlaw16.AmqprimNames", spec := "amqprimNames", inPlace := ["internal/bytealg.IndexByteString", "internal/bytealg.IndexString"], unfollowed := true, recurses := true, named := ["unicode/utf8.first", "unicode/utf8.acceptRanges", "internal/bytealg.MaxLen"], apart := false, laid := [("unicode/utf8.acceptRanges", laid_unicode_utf8_acceptRanges), ("unicode/utf8.first", laid_unicode_utf8_first)], narrowed := true }
def AmqprimNamesUptoSaid : Prop := amqprimNamesUptoRow.holds Tryd.pinned (OpenSpec.upto amqprimNamesSpec)

/-- 'polyglotlaw16.AmqprimCalls', WHERE WHAT IT READS IS OF BULK AT MOST 1048576: true; the input reads as it did. -/
def amqprimCallsUptoRow : OpenClaim := { program := "ytjbgnlnchchgcaadoor", sum := "a7bee407c7e56d0f62ca72590850b70401f5a5c815a02da06f052c16754a2733", func := "polyglot/polyglotlaw16.AmqprimCalls", spec := "amqprimCalls", inPlace := ["internal/bytealg.IndexByteString", "internal/bytealg.IndexString"], unfollowed := true, recurses := true, named := ["unicode/utf8.first", "unicode/utf8.acceptRanges", "internal/bytealg.MaxLen"], loops := true, apart := false, laid := [("unicode/utf8.acceptRanges", laid_unicode_utf8_acceptRanges), ("unicode/utf8.first", laid_unicode_utf8_first)], narrowed := true }
def AmqprimCallsUptoSaid : Prop := amqprimCallsUptoRow.holds Tryd.pinned (OpenSpec.upto amqprimCallsSpec)

/-- 'polyglotlaw16.AmqprimBack', WHERE WHAT IT READS IS OF BULK AT MOST 1048576: true; the input reads as it did. -/
def amqprimBackUptoRow : OpenClaim := { program := "ytjbgnlnchchgcaadoor", sum := "a7bee407c7e56d0f62ca72590850b70401f5a5c815a02da06f052c16754a2733", func := "polyglot/polyglotlaw16.AmqprimBack", spec := "amqprimBack", inPlace := ["internal/bytealg.IndexByteString", "internal/bytealg.IndexString"], unfollowed := true, recurses := true, named := ["unicode/utf8.first", "unicode/utf8.acceptRanges", "internal/bytealg.MaxLen"], loops := true, apart := false, laid := [("unicode/utf8.acceptRanges", laid_unicode_utf8_acceptRanges), ("unicode/utf8.first", laid_unicode_utf8_first)], narrowed := true }
def AmqprimBackUptoSaid : Prop := amqprimBackUptoRow.holds Tryd.pinned (OpenSpec.upto amqprimBackSpec)

/-- 'polyglotlaw16.AmqprimShort', WHERE WHAT IT READS IS OF BULK AT MOST 1048576: true; the input reads as it did. -/
def amqprimShortUptoRow : OpenClaim := { program := "ytjbgnlnchchgcaadoor", sum := "a7bee407c7e56d0f62ca72590850b70401f5a5c815a02da06f052c16754a2733", func := "polyglot/polyglotlaw16.AmqprimShort", spec := "amqprimShort", inPlace := ["internal/bytealg.IndexByteString", "internal/bytealg.IndexString"], unfollowed := true, recurses := true, named := ["unicode/utf8.first", "unicode/utf8.acceptRanges", "internal/bytealg.MaxLen"], loops := true, apart := false, laid := [("unicode/utf8.acceptRanges", laid_unicode_utf8_acceptRanges), ("unicode/utf8.first", laid_unicode_utf8_first)], narrowed := true }
def AmqprimShortUptoSaid : Prop := amqprimShortUptoRow.holds Tryd.pinned (OpenSpec.upto amqprimShortSpec)

/-- 'polyglotlaw16.AmqprimWidths', WHERE WHAT IT READS IS OF BULK AT MOST 1048576: true; the input reads as it did. -/
def amqprimWidthsUptoRow : OpenClaim := { program := "ytjbgnlnchchgcaadoor", sum := "a7bee407c7e56d0f62ca72590850b70401f5a5c815a02da06f052c16754a2733", func := "polyglot/polyglotlaw16.AmqprimWidths", spec := "amqprimWidths", inPlace := ["internal/bytealg.IndexByteString", "internal/bytealg.IndexString"], unfollowed := true, recurses := true, named := ["unicode/utf8.first", "unicode/utf8.acceptRanges", "internal/bytealg.MaxLen"], loops := true, apart := false, laid := [("unicode/utf8.acceptRanges", laid_unicode_utf8_acceptRanges), ("unicode/utf8.first", laid_unicode_utf8_first)], narrowed := true }
def AmqprimWidthsUptoSaid : Prop := amqprimWidthsUptoRow.holds Tryd.pinned (OpenSpec.upto amqprimWidthsSpec)

/-- 'polyglotlaw16.AmqprimCodes', WHERE WHAT IT READS IS OF BULK AT MOST 1048576: true; the input reads as it did. -/
def amqprimCodesUptoRow : OpenClaim := { program := "ytjbgnlnchchgcaadoor", sum := "a7bee407c7e56d0f62ca72590850b70401f5a5c815a02da06f052c16754a2733", func := "polyglot/polyglotlaw16.AmqprimCodes", spec := "amqprimCodes", inPlace := ["internal/bytealg.IndexByteString", "internal/bytealg.IndexString"], unfollowed := true, recurses := true, named := ["unicode/utf8.first", "unicode/utf8.acceptRanges", "internal/bytealg.MaxLen"], apart := false, laid := [("unicode/utf8.acceptRanges", laid_unicode_utf8_acceptRanges), ("unicode/utf8.first", laid_unicode_utf8_first)], narrowed := true }
def AmqprimCodesUptoSaid : Prop := amqprimCodesUptoRow.holds Tryd.pinned (OpenSpec.upto amqprimCodesSpec)

end Rows
end Go.Proofs.YtjbgnlnchchgcaaDoor
