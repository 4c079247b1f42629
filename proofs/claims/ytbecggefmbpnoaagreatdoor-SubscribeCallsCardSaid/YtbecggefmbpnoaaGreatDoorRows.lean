/-
  NARROWER THAN 'FOR EVERY INPUT', by the rows' own cells (each row's printed sentence says how): SubscribeNames: laid · SubscribeCalls: laid · SubscribeBack: laid · SubscribeOptions: laid · SubscribeAnswers: laid.
  DERIVED. THE GIVEN ROWS OF THIS SEAT. 5 by the template 'for every input the law returns true; each argument reads behind the call as it read before'; 0 by the template 'total and deterministic' (their statements: YtbecggefmbpnoaaGreatDoorTotals.lean).
  GIVEN WITH THE SEED: the statements are not yours to turn. If you find one false, say at which input.
  Laid BY PROGRAM, IN A SANDBOX (cutbox-rows.mjs): the forced cells as the released guide's own fill.sh prints them over the translation ef5754662316aeb4… (all of the seat's roots in one cut). By AI agents, Wed Nov 11 2026. No macro, syntax, notation, axiom, sorry.
-/
import Derived.Test.YtbecggefmbpnoaaGreatDoorChecked
import GoSem.PinnedTables
import GoSem.Claim
import GoSem.ClaimJoined
import GoSem.ClaimMapViews
import Derived.JoinedTies
import Derived.KernelRfl
namespace Go.Proofs.YtbecggefmbpnoaaGreatDoor
/- THE CELL 'sum', in the pinned program and in every row, IS THE sha256 OF THE DUMP (.gsa) THAT YtbecggefmbpnoaaGreatDoorProg.lean LOADS. Nothing in Lean hashes anything: it is a label: what it is worth is what the hold of that sum in a sandbox is worth. -/
noncomputable def Tryz.pinned : Pinned := { name := "ytbecggefmbpnoaagreatdoor", sum := "ef5754662316aeb4a47824849f5ec662045930c06a10d89a9b0d7056ef8cc290", checked := Tryz.checked }
namespace Rows
def none {H : Type} : Left H := { results := [], args := [] }

/- WHAT THE LISTED PACKAGE-LEVEL VARIABLES READ AS WHEN THE CALL BEGINS. Each datum BY PROGRAM (the guide's laid-datum.mjs) off the statement by which the dump's own 'gosem.cut.vars' lays the variable. In a bare row this is a premise. The card (YtbecggefmbpnoaaGreatDoorCards.lean) ties it to the program's text. -/
def laid_unicode_utf8_acceptRanges {H : Type} : DataW H := .agg [.agg [.lit (.int .u8 128), .lit (.int .u8 191)], .agg [.lit (.int .u8 160), .lit (.int .u8 191)], .agg [.lit (.int .u8 128), .lit (.int .u8 159)], .agg [.lit (.int .u8 144), .lit (.int .u8 191)], .agg [.lit (.int .u8 128), .lit (.int .u8 143)], .agg [.lit (.int .u8 0), .lit (.int .u8 0)], .agg [.lit (.int .u8 0), .lit (.int .u8 0)], .agg [.lit (.int .u8 0), .lit (.int .u8 0)], .agg [.lit (.int .u8 0), .lit (.int .u8 0)], .agg [.lit (.int .u8 0), .lit (.int .u8 0)], .agg [.lit (.int .u8 0), .lit (.int .u8 0)], .agg [.lit (.int .u8 0), .lit (.int .u8 0)], .agg [.lit (.int .u8 0), .lit (.int .u8 0)], .agg [.lit (.int .u8 0), .lit (.int .u8 0)], .agg [.lit (.int .u8 0), .lit (.int .u8 0)], .agg [.lit (.int .u8 0), .lit (.int .u8 0)]]
/-- One of Go's own tables, pinned by name: the form's constant. -/
def laid_unicode_utf8_first : DataW Unit := Go.Pinned.utf8First

/-- 'polyglotlaw11.SubscribeNames': WHATEVER THE INPUT: true; the input reads as it did. -/
def subscribeNamesSpec : ChangeSpec := { name := "subscribeNames", fn := fun _ => fun
  | [] => { results := [.lit (.bool true)], args := [] }
  | _ => none }
def subscribeNamesRow : OpenClaim := { program := "ytbecggefmbpnoaagreatdoor", sum := "ef5754662316aeb4a47824849f5ec662045930c06a10d89a9b0d7056ef8cc290", func := "polyglot/polyglotlaw11.SubscribeNames", spec := "subscribeNames", inPlace := ["internal/bytealg.IndexByteString", "internal/bytealg.IndexString", "internal/bytealg.CountString", "internal/abi.NoEscape", "internal/bytealg.MakeNoZero"], unfollowed := true, recurses := true, named := ["unicode/utf8.first", "unicode/utf8.acceptRanges", "internal/bytealg.MaxLen"], apart := false, laid := [("unicode/utf8.acceptRanges", laid_unicode_utf8_acceptRanges), ("unicode/utf8.first", laid_unicode_utf8_first)] }
def SubscribeNamesSaid : Prop := subscribeNamesRow.holds Tryz.pinned (OpenSpec.ofChange subscribeNamesSpec)

/-- ITS FALSE NEIGHBOUR: 'it returns false'. Refute it at one input. -/
def subscribeNamesWrong : ChangeSpec := { name := "subscribeNames", fn := fun _ => fun
  | [] => { results := [.lit (.bool false)], args := [] }
  | _ => none }
def SubscribeNamesWrongFalsely : Prop := subscribeNamesRow.holds Tryz.pinned (OpenSpec.ofChange subscribeNamesWrong)

/-- 'polyglotlaw11.SubscribeCalls': WHATEVER THE INPUT: true; the input reads as it did. -/
def subscribeCallsSpec : ChangeSpec := { name := "subscribeCalls", fn := fun _ => fun
  | [d1, d2, d3, d4, d5] => { results := [.lit (.bool true)], args := [d1, d2, d3, d4, d5] }
  | _ => none }
def subscribeCallsRow : OpenClaim := { program := "ytbecggefmbpnoaagreatdoor", sum := "ef5754662316aeb4a47824849f5ec662045930c06a10d89a9b0d7056ef8cc290", func := "polyglot/polyglotlaw11.SubscribeCalls", spec := "subscribeCalls", inPlace := ["internal/bytealg.IndexByteString", "internal/bytealg.IndexString", "internal/bytealg.CountString", "internal/abi.NoEscape", "internal/bytealg.MakeNoZero"], unfollowed := true, recurses := true, named := ["unicode/utf8.first", "unicode/utf8.acceptRanges", "internal/bytealg.MaxLen"], apart := false, laid := [("unicode/utf8.acceptRanges", laid_unicode_utf8_acceptRanges), ("unicode/utf8.first", laid_unicode_utf8_first)] }
def SubscribeCallsSaid : Prop := subscribeCallsRow.holds Tryz.pinned (OpenSpec.ofChange subscribeCallsSpec)

/-- ITS FALSE NEIGHBOUR: 'it returns false'. Refute it at one input. -/
def subscribeCallsWrong : ChangeSpec := { name := "subscribeCalls", fn := fun _ => fun
  | [d1, d2, d3, d4, d5] => { results := [.lit (.bool false)], args := [d1, d2, d3, d4, d5] }
  | _ => none }
def SubscribeCallsWrongFalsely : Prop := subscribeCallsRow.holds Tryz.pinned (OpenSpec.ofChange subscribeCallsWrong)

/-- 'polyglotlaw11.SubscribeBack': WHATEVER THE INPUT: true; the input reads as it did. -/
def subscribeBackSpec : ChangeSpec := { name := "subscribeBack", fn := fun _ => fun
  | [d1, d2, d3, d4] => { results := [.lit (.bool true)], args := [d1, d2, d3, d4] }
  | _ => none }
def subscribeBackRow : OpenClaim := { program := "ytbecggefmbpnoaagreatdoor", sum := "ef5754662316aeb4a47824849f5ec662045930c06a10d89a9b0d7056ef8cc290", func := "polyglot/polyglotlaw11.SubscribeBack", spec := "subscribeBack", inPlace := ["internal/bytealg.IndexByteString", "internal/bytealg.IndexString", "internal/bytealg.CountString", "internal/abi.NoEscape", "internal/bytealg.MakeNoZero"], unfollowed := true, recurses := true, named := ["unicode/utf8.first", "unicode/utf8.acceptRanges", "internal/bytealg.MaxLen"], apart := false, laid := [("unicode/utf8.acceptRanges", laid_unicode_utf8_acceptRanges), ("unicode/utf8.first", laid_unicode_utf8_first)] }
def SubscribeBackSaid : Prop := subscribeBackRow.holds Tryz.pinned (OpenSpec.ofChange subscribeBackSpec)

/-- ITS FALSE NEIGHBOUR: 'it returns false'. Refute it at one input. -/
def subscribeBackWrong : ChangeSpec := { name := "subscribeBack", fn := fun _ => fun
  | [d1, d2, d3, d4] => { results := [.lit (.bool false)], args := [d1, d2, d3, d4] }
  | _ => none }
def SubscribeBackWrongFalsely : Prop := subscribeBackRow.holds Tryz.pinned (OpenSpec.ofChange subscribeBackWrong)

/-- 'polyglotlaw11.SubscribeOptions': WHATEVER THE INPUT: true; the input reads as it did. -/
def subscribeOptionsSpec : ChangeSpec := { name := "subscribeOptions", fn := fun _ => fun
  | [d1, d2] => { results := [.lit (.bool true)], args := [d1, d2] }
  | _ => none }
def subscribeOptionsRow : OpenClaim := { program := "ytbecggefmbpnoaagreatdoor", sum := "ef5754662316aeb4a47824849f5ec662045930c06a10d89a9b0d7056ef8cc290", func := "polyglot/polyglotlaw11.SubscribeOptions", spec := "subscribeOptions", inPlace := ["internal/bytealg.IndexByteString", "internal/bytealg.IndexString", "internal/bytealg.CountString", "internal/abi.NoEscape", "internal/bytealg.MakeNoZero"], unfollowed := true, recurses := true, named := ["unicode/utf8.first", "unicode/utf8.acceptRanges", "internal/bytealg.MaxLen"], apart := false, laid := [("unicode/utf8.acceptRanges", laid_unicode_utf8_acceptRanges), ("unicode/utf8.first", laid_unicode_utf8_first)] }
def SubscribeOptionsSaid : Prop := subscribeOptionsRow.holds Tryz.pinned (OpenSpec.ofChange subscribeOptionsSpec)

/-- ITS FALSE NEIGHBOUR: 'it returns false'. Refute it at one input. -/
def subscribeOptionsWrong : ChangeSpec := { name := "subscribeOptions", fn := fun _ => fun
  | [d1, d2] => { results := [.lit (.bool false)], args := [d1, d2] }
  | _ => none }
def SubscribeOptionsWrongFalsely : Prop := subscribeOptionsRow.holds Tryz.pinned (OpenSpec.ofChange subscribeOptionsWrong)

/-- 'polyglotlaw11.SubscribeAnswers': WHATEVER THE INPUT: true; the input reads as it did. -/
def subscribeAnswersSpec : ChangeSpec := { name := "subscribeAnswers", fn := fun _ => fun
  | [d1, d2, d3, d4] => { results := [.lit (.bool true)], args := [d1, d2, d3, d4] }
  | _ => none }
def subscribeAnswersRow : OpenClaim := { program := "ytbecggefmbpnoaagreatdoor", sum := "ef5754662316aeb4a47824849f5ec662045930c06a10d89a9b0d7056ef8cc290", func := "polyglot/polyglotlaw11.SubscribeAnswers", spec := "subscribeAnswers", inPlace := ["internal/bytealg.IndexByteString", "internal/bytealg.IndexString", "internal/bytealg.CountString", "internal/abi.NoEscape", "internal/bytealg.MakeNoZero"], unfollowed := true, recurses := true, named := ["unicode/utf8.first", "unicode/utf8.acceptRanges", "internal/bytealg.MaxLen"], apart := false, laid := [("unicode/utf8.acceptRanges", laid_unicode_utf8_acceptRanges), ("unicode/utf8.first", laid_unicode_utf8_first)] }
def SubscribeAnswersSaid : Prop := subscribeAnswersRow.holds Tryz.pinned (OpenSpec.ofChange subscribeAnswersSpec)

/-- ITS FALSE NEIGHBOUR: 'it returns false'. Refute it at one input. -/
def subscribeAnswersWrong : ChangeSpec := { name := "subscribeAnswers", fn := fun _ => fun
  | [d1, d2, d3, d4] => { results := [.lit (.bool false)], args := [d1, d2, d3, d4] }
  | _ => none }
def SubscribeAnswersWrongFalsely : Prop := subscribeAnswersRow.holds Tryz.pinned (OpenSpec.ofChange subscribeAnswersWrong)

/- THE SECOND FORM. 'bulk': how many values and letters a reading holds, each counted each time it is reached (what is shared counts as often as it is met; a slice's spare places count too). A statement '..UptoSaid' is the law's where the arguments, and the package variables that the reading takes, are together of bulk at most 1048576: NARROWER than '..Said'. Prove '..Said' where nothing that the law and all that it calls make is longer than what came in: it says more and counts as full. Else prove '..UptoSaid'. A law counts once. -/
mutual
def uptoBulk {H : Type} : DataW H → Nat
  | .lit (.string bytes) => bytes.length + 1
  | .lit _ => 1
  | .nil => 1
  | .ptr d => uptoBulk d + 1
  | .slice elems spare => uptoBulkAll elems + uptoBulkAll spare + 1
  | .agg parts => uptoBulkAll parts + 1
  | .iface _ d => uptoBulk d + 1
  | .map entries => uptoBulkEntries entries + 1
  | .held _ => 1
def uptoBulkAll {H : Type} : List (DataW H) → Nat
  | [] => 0
  | d :: r => uptoBulk d + uptoBulkAll r
def uptoBulkEntries {H : Type} : List (Lit × DataW H) → Nat
  | [] => 0
  | x :: r => uptoBulkEntry x + uptoBulkEntries r
def uptoBulkEntry {H : Type} : Lit × DataW H → Nat
  | (.string bytes, d) => bytes.length + uptoBulk d + 1
  | (_, d) => uptoBulk d + 1
 end
def uptoSmall : (H : Type) → List (DataW H) → Bool := fun _ ds => decide (uptoBulkAll ds ≤ 1048576)
def OpenSpec.upto (s : _root_.Go.ChangeSpec) : _root_.Go.OpenSpec := { _root_.Go.OpenSpec.ofChange s with cond := some uptoSmall }

/-- 'polyglotlaw11.SubscribeNames', WHERE WHAT IT READS IS OF BULK AT MOST 1048576: true; the input reads as it did. -/
def subscribeNamesUptoRow : OpenClaim := { program := "ytbecggefmbpnoaagreatdoor", sum := "ef5754662316aeb4a47824849f5ec662045930c06a10d89a9b0d7056ef8cc290", func := "polyglot/polyglotlaw11.SubscribeNames", spec := "subscribeNames", inPlace := ["internal/bytealg.IndexByteString", "internal/bytealg.IndexString", "internal/bytealg.CountString", "internal/abi.NoEscape", "internal/bytealg.MakeNoZero"], unfollowed := true, recurses := true, named := ["unicode/utf8.first", "unicode/utf8.acceptRanges", "internal/bytealg.MaxLen"], apart := false, laid := [("unicode/utf8.acceptRanges", laid_unicode_utf8_acceptRanges), ("unicode/utf8.first", laid_unicode_utf8_first)], narrowed := true }
def SubscribeNamesUptoSaid : Prop := subscribeNamesUptoRow.holds Tryz.pinned (OpenSpec.upto subscribeNamesSpec)

/-- 'polyglotlaw11.SubscribeCalls', WHERE WHAT IT READS IS OF BULK AT MOST 1048576: true; the input reads as it did. -/
def subscribeCallsUptoRow : OpenClaim := { program := "ytbecggefmbpnoaagreatdoor", sum := "ef5754662316aeb4a47824849f5ec662045930c06a10d89a9b0d7056ef8cc290", func := "polyglot/polyglotlaw11.SubscribeCalls", spec := "subscribeCalls", inPlace := ["internal/bytealg.IndexByteString", "internal/bytealg.IndexString", "internal/bytealg.CountString", "internal/abi.NoEscape", "internal/bytealg.MakeNoZero"], unfollowed := true, recurses := true, named := ["unicode/utf8.first", "unicode/utf8.acceptRanges", "internal/bytealg.MaxLen"], apart := false, laid := [("unicode/utf8.acceptRanges", laid_unicode_utf8_acceptRanges), ("unicode/utf8.first", laid_unicode_utf8_first)], narrowed := true }
def SubscribeCallsUptoSaid : Prop := subscribeCallsUptoRow.holds Tryz.pinned (OpenSpec.upto subscribeCallsSpec)

/-- 'polyglotlaw11.SubscribeBack', WHERE WHAT IT READS IS OF BULK AT MOST 1048576: true; the input reads as it did. -/
def subscribeBackUptoRow : OpenClaim := { program := "ytbecggefmbpnoaagreatdoor", sum := "ef5754662316aeb4a47824849f5ec662045930c06a10d89a9b0d7056ef8cc290", func := "polyglot/polyglotlaw11.SubscribeBack", spec := "subscribeBack", inPlace := ["internal/bytealg.IndexByteString", "internal/bytealg.IndexString", "internal/bytealg.CountString", "internal/abi.NoEscape", "internal/bytealg.MakeNoZero"], unfollowed := true, recurses := true, named := ["unicode/utf8.first", "unicode/utf8.acceptRanges", "internal/bytealg.MaxLen"], apart := false, laid := [("unicode/utf8.acceptRanges", laid_unicode_utf8_acceptRanges), ("unicode/utf8.first", laid_unicode_utf8_first)], narrowed := true }
def SubscribeBackUptoSaid : Prop := subscribeBackUptoRow.holds Tryz.pinned (OpenSpec.upto subscribeBackSpec)

/-- 'polyglotlaw11.SubscribeOptions', WHERE WHAT IT READS IS OF BULK AT MOST 1048576: true; the input reads as it did. -/
def subscribeOptionsUptoRow : OpenClaim := { program := "ytbecggefmbpnoaagreatdoor", sum := "ef5754662316aeb4a47824849f5ec662045930c06a10d89a9b0d7056ef8cc290", func := "polyglot/polyglotlaw11.SubscribeOptions", spec := "subscribeOptions", inPlace := ["internal/bytealg.IndexByteString", "internal/bytealg.IndexString", "internal/bytealg.CountString", "internal/abi.NoEscape", "internal/bytealg.MakeNoZero"], unfollowed := true, recurses := true, named := ["unicode/utf8.first", "unicode/utf8.acceptRanges", "internal/bytealg.MaxLen"], apart := false, laid := [("unicode/utf8.acceptRanges", laid_unicode_utf8_acceptRanges), ("unicode/utf8.first", laid_unicode_utf8_first)], narrowed := true }
def SubscribeOptionsUptoSaid : Prop := subscribeOptionsUptoRow.holds Tryz.pinned (OpenSpec.upto subscribeOptionsSpec)

/-- 'polyglotlaw11.SubscribeAnswers', WHERE WHAT IT READS IS OF BULK AT MOST 1048576: true; the input reads as it did. -/
def subscribeAnswersUptoRow : OpenClaim := { program := "ytbecggefmbpnoaagreatdoor", sum := "ef5754662316aeb4a47824849f5ec662045930c06a10d89a9b0d7056ef8cc290", func := "polyglot/polyglotlaw11.SubscribeAnswers", spec := "subscribeAnswers", inPlace := ["internal/bytealg.IndexByteString", "internal/bytealg.IndexString", "internal/bytealg.CountString", "internal/abi.NoEscape", "internal/bytealg.MakeNoZero"], unfollowed := true, recurses := true, named := ["unicode/utf8.first", "unicode/utf8.acceptRanges", "internal/bytealg.MaxLen"], apart := false, laid := [("unicode/utf8.acceptRanges", laid_unicode_utf8_acceptRanges), ("unicode/utf8.first", laid_unicode_utf8_first)], narrowed := true }
def SubscribeAnswersUptoSaid : Prop := subscribeAnswersUptoRow.holds Tryz.pinned (OpenSpec.upto subscribeAnswersSpec)

end Rows
end Go.Proofs.YtbecggefmbpnoaaGreatDoor
