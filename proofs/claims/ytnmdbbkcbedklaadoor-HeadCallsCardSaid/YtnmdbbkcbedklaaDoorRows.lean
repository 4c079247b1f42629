/-
  NARROWER THAN 'FOR EVERY INPUT', by the rows' own cells (each row's printed sentence says how): HeadNames: laid · HeadCalls: laid.
  DERIVED. THE GIVEN ROWS OF THIS SEAT. 2 by the template 'for every input the law returns true; each argument reads behind the call as it read before'; 0 by the template 'total and deterministic' (their statements: YtnmdbbkcbedklaaDoorTotals.lean).
  GIVEN WITH THE SEED: the statements are not yours to turn. If you find one false, say at which input.
  Laid BY PROGRAM, IN A SANDBOX (cutbox-rows.mjs): the forced cells as the released guide's own fill.sh prints them over the translation b6ce729cc67d14fc… (all of the seat's roots in one cut). By AI agents, Wed Nov 11 2026. No macro, syntax, notation, axiom, sorry.
-/
import Derived.Test.YtnmdbbkcbedklaaDoorChecked
import GoSem.Claim
import GoSem.ClaimJoined
import GoSem.ClaimMapViews
import Derived.JoinedTies
import Derived.KernelRfl
namespace Go.Proofs.YtnmdbbkcbedklaaDoor
/- THE CELL 'sum', in the pinned program and in every row, IS THE sha256 OF THE DUMP (.gsa) THAT YtnmdbbkcbedklaaDoorProg.lean LOADS. Nothing in Lean hashes anything: it is a label: what it is worth is what the hold of that sum in a sandbox is worth. -/
noncomputable def Tryd.pinned : Pinned := { name := "ytnmdbbkcbedklaadoor", sum := "b6ce729cc67d14fcf6d352af9762266bf32926ecf74b8b87c696d1280b3281c2", checked := Tryd.checked }
namespace Rows
def none {H : Type} : Left H := { results := [], args := [] }

/- WHAT THE LISTED PACKAGE-LEVEL VARIABLES READ AS WHEN THE CALL BEGINS. Each datum BY PROGRAM (the guide's laid-datum.mjs) off the statement by which the dump's own 'gosem.cut.vars' lays the variable. In a bare row this is a premise. The card (YtnmdbbkcbedklaaDoorCards.lean) ties it to the program's text. -/
def laid_polyglot_head_names {H : Type} : DataW H := .agg [.lit (.string [99, 111, 110, 110, 101, 99, 116]), .lit (.string [99, 111, 110, 110, 97, 99, 107]), .lit (.string [112, 117, 98, 108, 105, 115, 104]), .lit (.string [112, 117, 98, 97, 99, 107]), .lit (.string [112, 117, 98, 114, 101, 99]), .lit (.string [112, 117, 98, 114, 101, 108]), .lit (.string [112, 117, 98, 99, 111, 109, 112]), .lit (.string [115, 117, 98, 115, 99, 114, 105, 98, 101]), .lit (.string [115, 117, 98, 97, 99, 107]), .lit (.string [117, 110, 115, 117, 98, 115, 99, 114, 105, 98, 101]), .lit (.string [117, 110, 115, 117, 98, 97, 99, 107]), .lit (.string [112, 105, 110, 103, 114, 101, 113]), .lit (.string [112, 105, 110, 103, 114, 101, 115, 112]), .lit (.string [100, 105, 115, 99, 111, 110, 110, 101, 99, 116]), .lit (.string [97, 117, 116, 104])]

/-- 'polyglotlaw07.HeadNames': WHATEVER THE INPUT: true; the input reads as it did. -/
def headNamesSpec : ChangeSpec := { name := "headNames", fn := fun _ => fun
  | [] => { results := [.lit (.bool true)], args := [] }
  | _ => none }
def headNamesRow : OpenClaim := { program := "ytnmdbbkcbedklaadoor", sum := "b6ce729cc67d14fcf6d352af9762266bf32926ecf74b8b87c696d1280b3281c2", func := "polyglot/polyglotlaw07.HeadNames", spec := "headNames", unfollowed := true, recurses := true, named := ["polyglot/head.names"], apart := false, laid := [("polyglot/head.names", laid_polyglot_head_names)] }
def HeadNamesSaid : Prop := headNamesRow.holds Tryd.pinned (OpenSpec.ofChange headNamesSpec)

/-- ITS FALSE NEIGHBOUR: 'it returns false'. Refute it at one input. -/
def headNamesWrong : ChangeSpec := { name := "headNames", fn := fun _ => fun
  | [] => { results := [.lit (.bool false)], args := [] }
  | _ => none }
def HeadNamesWrongFalsely : Prop := headNamesRow.holds Tryd.pinned (OpenSpec.ofChange headNamesWrong)

/-- 'polyglotlaw07.HeadCalls': WHATEVER THE INPUT: true; the input reads as it did. -/
def headCallsSpec : ChangeSpec := { name := "headCalls", fn := fun _ => fun
  | [d1, d2, d3, d4, d5] => { results := [.lit (.bool true)], args := [d1, d2, d3, d4, d5] }
  | _ => none }
def headCallsRow : OpenClaim := { program := "ytnmdbbkcbedklaadoor", sum := "b6ce729cc67d14fcf6d352af9762266bf32926ecf74b8b87c696d1280b3281c2", func := "polyglot/polyglotlaw07.HeadCalls", spec := "headCalls", unfollowed := true, recurses := true, named := ["polyglot/head.names"], apart := false, laid := [("polyglot/head.names", laid_polyglot_head_names)] }
def HeadCallsSaid : Prop := headCallsRow.holds Tryd.pinned (OpenSpec.ofChange headCallsSpec)

/-- ITS FALSE NEIGHBOUR: 'it returns false'. Refute it at one input. -/
def headCallsWrong : ChangeSpec := { name := "headCalls", fn := fun _ => fun
  | [d1, d2, d3, d4, d5] => { results := [.lit (.bool false)], args := [d1, d2, d3, d4, d5] }
  | _ => none }
def HeadCallsWrongFalsely : Prop := headCallsRow.holds Tryd.pinned (OpenSpec.ofChange headCallsWrong)

/- THE SECOND FORM. 'bulk': how many values and letters a reading holds, each counted each time it is reached (what is shared counts as often as it is met; a slice's spare places count too). A statement '..UptoSaid' is the law's where the arguments, and the package variables that the reading takes, are together of bulk at most 1048576: NARROWER than '..Said'. Prove '..Said' where nothing that the law and all that it calls make is longer than what came in: it says more and counts as full. Else prove '..UptoSaid'. A law counts once. -/
mutual
def uptoBulk {H : Type} : DataW H → Nat
  | .lit (.string bytes) => bytes.length + 1
  | .lit _ => 1
  | .nil => 1
  | .ptr d => uptoBulk d + 1
  | .slice elems spare => uptoBulkAll elems + uptoBulkAll spare + 1
  | .agg parts => uptoBulkAll parts + 1
  | .iface _ d => uptoBulk d + 1
  | .map entries => uptoBulkEntries entries + 1
  | .held _ => 1
def uptoBulkAll {H : Type} : List (DataW H) → Nat
  | [] => 0
  | d :: r => uptoBulk d + uptoBulkAll r
def uptoBulkEntries {H : Type} : List (Lit × DataW H) → Nat
  | [] => 0
  | x :: r => uptoBulkEntry x + uptoBulkEntries r
def uptoBulkEntry {H : Type} : Lit × DataW H → Nat
  | (.string bytes, d) => bytes.length + uptoBulk d + 1
  | (_, d) => uptoBulk d + 1
 end
def uptoSmall : (H : Type) → List (DataW H) → Bool := fun _ ds => decide (uptoBulkAll ds ≤ 1048576)
def OpenSpec.upto (s : _root_.Go.ChangeSpec) : _root_.Go.OpenSpec := { _root_.Go.OpenSpec.ofChange s with cond := some uptoSmall }

/-- 'polyglotlaw07.HeadNames', WHERE WHAT IT READS IS OF BULK AT MOST 1048576: true; the input reads as it did. -/
def headNamesUptoRow : OpenClaim := { program := "ytnmdbbkcbedklaadoor", sum := "b6ce729cc67d14fcf6d352af9762266bf32926ecf74b8b87c696d1280b3281c2", func := "polyglot/polyglotlaw07.HeadNames", spec := "headNames", unfollowed := true, recurses := true, named := ["polyglot/head.names"], apart := false, laid := [("polyglot/head.names", laid_polyglot_head_names)], narrowed := true }
def HeadNamesUptoSaid : Prop := headNamesUptoRow.holds Tryd.pinned (OpenSpec.upto headNamesSpec)

/-- 'polyglotlaw07.HeadCalls', WHERE WHAT IT READS IS OF BULK AT MOST 1048576: true; the input reads as it did. -/
def headCallsUptoRow : OpenClaim := { program := "ytnmdbbkcbedklaadoor", sum := "b6ce729cc67d14fcf6d352af9762266bf32926ecf74b8b87c696d1280b3281c2", func := "polyglot/polyglotlaw07.HeadCalls", spec := "headCalls", unfollowed := true, recurses := true, named := ["polyglot/head.names"], apart := false, laid := [("polyglot/head.names", laid_polyglot_head_names)], narrowed := true }
def HeadCallsUptoSaid : Prop := headCallsUptoRow.holds Tryd.pinned (OpenSpec.upto headCallsSpec)

end Rows
end Go.Proofs.YtnmdbbkcbedklaaDoor
