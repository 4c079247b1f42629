/-
  No cell of these rows narrows 'for every input' (looked for: loops, veiled, ifaces, maps, wideKeys, modest, calm, conditions, laid).
  DERIVED. THE GIVEN ROWS OF THIS SEAT. 3 by the template 'for every input the law returns true; each argument reads behind the call as it read before'; 0 by the template 'total and deterministic' (their statements: YtnmdbbkcbedklaaTotals.lean).
  GIVEN WITH THE SEED: the statements are not yours to turn. If you find one false, say at which input.
  Laid BY PROGRAM, IN A SANDBOX (cutbox-rows.mjs): the forced cells as the released guide's own fill.sh prints them over the translation 92e6076992277da7… (all of the seat's roots in one cut). By AI agents, Wed Nov 11 2026. No macro, syntax, notation, axiom, sorry.
-/
import Derived.Test.YtnmdbbkcbedklaaChecked
import GoSem.Claim
import GoSem.ClaimJoined
import GoSem.ClaimMapViews
import Derived.JoinedTies
import Derived.KernelRfl
namespace Go.Proofs.Ytnmdbbkcbedklaa
/- THE CELL 'sum', in the pinned program and in every row, IS THE sha256 OF THE DUMP (.gsa) THAT YtnmdbbkcbedklaaProg.lean LOADS. Nothing in Lean hashes anything: it is a label: what it is worth is what the hold of that sum in a sandbox is worth. -/
noncomputable def Try.pinned : Pinned := { name := "ytnmdbbkcbedklaa", sum := "92e6076992277da7bda64a6e5d8c32bf915349b4d2fdba07123d91088980f005", checked := Try.checked }
namespace Rows
def none {H : Type} : Left H := { results := [], args := [] }

/-- 'polyglotlaw07.HeadBack': WHATEVER THE INPUT: true; the input reads as it did. -/
def headBackSpec : ChangeSpec := { name := "headBack", fn := fun _ => fun
  | [d1, d2, d3, d4] => { results := [.lit (.bool true)], args := [d1, d2, d3, d4] }
  | _ => none }
def headBackRow : OpenClaim := { program := "ytnmdbbkcbedklaa", sum := "92e6076992277da7bda64a6e5d8c32bf915349b4d2fdba07123d91088980f005", func := "polyglot/polyglotlaw07.HeadBack", spec := "headBack", apart := false }
def HeadBackSaid : Prop := headBackRow.holds Try.pinned (OpenSpec.ofChange headBackSpec)

/-- ITS FALSE NEIGHBOUR: 'it returns false'. Refute it at one input. -/
def headBackWrong : ChangeSpec := { name := "headBack", fn := fun _ => fun
  | [d1, d2, d3, d4] => { results := [.lit (.bool false)], args := [d1, d2, d3, d4] }
  | _ => none }
def HeadBackWrongFalsely : Prop := headBackRow.holds Try.pinned (OpenSpec.ofChange headBackWrong)

/-- 'polyglotlaw07.HeadFlags': WHATEVER THE INPUT: true; the input reads as it did. -/
def headFlagsSpec : ChangeSpec := { name := "headFlags", fn := fun _ => fun
  | [d1, d2, d3, d4, d5, d6] => { results := [.lit (.bool true)], args := [d1, d2, d3, d4, d5, d6] }
  | _ => none }
def headFlagsRow : OpenClaim := { program := "ytnmdbbkcbedklaa", sum := "92e6076992277da7bda64a6e5d8c32bf915349b4d2fdba07123d91088980f005", func := "polyglot/polyglotlaw07.HeadFlags", spec := "headFlags", apart := false }
def HeadFlagsSaid : Prop := headFlagsRow.holds Try.pinned (OpenSpec.ofChange headFlagsSpec)

/-- ITS FALSE NEIGHBOUR: 'it returns false'. Refute it at one input. -/
def headFlagsWrong : ChangeSpec := { name := "headFlags", fn := fun _ => fun
  | [d1, d2, d3, d4, d5, d6] => { results := [.lit (.bool false)], args := [d1, d2, d3, d4, d5, d6] }
  | _ => none }
def HeadFlagsWrongFalsely : Prop := headFlagsRow.holds Try.pinned (OpenSpec.ofChange headFlagsWrong)

/-- 'polyglotlaw07.HeadBoth': WHATEVER THE INPUT: true; the input reads as it did. -/
def headBothSpec : ChangeSpec := { name := "headBoth", fn := fun _ => fun
  | [d] => { results := [.lit (.bool true)], args := [d] }
  | _ => none }
def headBothRow : OpenClaim := { program := "ytnmdbbkcbedklaa", sum := "92e6076992277da7bda64a6e5d8c32bf915349b4d2fdba07123d91088980f005", func := "polyglot/polyglotlaw07.HeadBoth", spec := "headBoth", apart := false }
def HeadBothSaid : Prop := headBothRow.holds Try.pinned (OpenSpec.ofChange headBothSpec)

/-- ITS FALSE NEIGHBOUR: 'it returns false'. Refute it at one input. -/
def headBothWrong : ChangeSpec := { name := "headBoth", fn := fun _ => fun
  | [d] => { results := [.lit (.bool false)], args := [d] }
  | _ => none }
def HeadBothWrongFalsely : Prop := headBothRow.holds Try.pinned (OpenSpec.ofChange headBothWrong)

/- THE SECOND FORM. 'bulk': how many values and letters a reading holds, each counted each time it is reached (what is shared counts as often as it is met; a slice's spare places count too). A statement '..UptoSaid' is the law's where the arguments, and the package variables that the reading takes, are together of bulk at most 1048576: NARROWER than '..Said'. Prove '..Said' where nothing that the law and all that it calls make is longer than what came in: it says more and counts as full. Else prove '..UptoSaid'. A law counts once. -/
mutual
def uptoBulk {H : Type} : DataW H → Nat
  | .lit (.string bytes) => bytes.length + 1
  | .lit _ => 1
  | .nil => 1
  | .ptr d => uptoBulk d + 1
  | .slice elems spare => uptoBulkAll elems + uptoBulkAll spare + 1
  | .agg parts => uptoBulkAll parts + 1
  | .iface _ d => uptoBulk d + 1
  | .map entries => uptoBulkEntries entries + 1
  | .held _ => 1
def uptoBulkAll {H : Type} : List (DataW H) → Nat
  | [] => 0
  | d :: r => uptoBulk d + uptoBulkAll r
def uptoBulkEntries {H : Type} : List (Lit × DataW H) → Nat
  | [] => 0
  | x :: r => uptoBulkEntry x + uptoBulkEntries r
def uptoBulkEntry {H : Type} : Lit × DataW H → Nat
  | (.string bytes, d) => bytes.length + uptoBulk d + 1
  | (_, d) => uptoBulk d + 1
 end
def uptoSmall : (H : Type) → List (DataW H) → Bool := fun _ ds => decide (uptoBulkAll ds ≤ 1048576)
def OpenSpec.upto (s : _root_.Go.ChangeSpec) : _root_.Go.OpenSpec := { _root_.Go.OpenSpec.ofChange s with cond := some uptoSmall }

/-- 'polyglotlaw07.HeadBack', WHERE WHAT IT READS IS OF BULK AT MOST 1048576: true; the input reads as it did. -/
def headBackUptoRow : OpenClaim := { program := "ytnmdbbkcbedklaa", sum := "92e6076992277da7bda64a6e5d8c32bf915349b4d2fdba07123d91088980f005", func := "polyglot/polyglotlaw07.HeadBack", spec := "headBack", apart := false, narrowed := true }
def HeadBackUptoSaid : Prop := headBackUptoRow.holds Try.pinned (OpenSpec.upto headBackSpec)

/-- 'polyglotlaw07.HeadFlags', WHERE WHAT IT READS IS OF BULK AT MOST 1048576: true; the input reads as it did. -/
def headFlagsUptoRow : OpenClaim := { program := "ytnmdbbkcbedklaa", sum := "92e6076992277da7bda64a6e5d8c32bf915349b4d2fdba07123d91088980f005", func := "polyglot/polyglotlaw07.HeadFlags", spec := "headFlags", apart := false, narrowed := true }
def HeadFlagsUptoSaid : Prop := headFlagsUptoRow.holds Try.pinned (OpenSpec.upto headFlagsSpec)

/-- 'polyglotlaw07.HeadBoth', WHERE WHAT IT READS IS OF BULK AT MOST 1048576: true; the input reads as it did. -/
def headBothUptoRow : OpenClaim := { program := "ytnmdbbkcbedklaa", sum := "92e6076992277da7bda64a6e5d8c32bf915349b4d2fdba07123d91088980f005", func := "polyglot/polyglotlaw07.HeadBoth", spec := "headBoth", apart := false, narrowed := true }
def HeadBothUptoSaid : Prop := headBothUptoRow.holds Try.pinned (OpenSpec.upto headBothSpec)

end Rows
end Go.Proofs.Ytnmdbbkcbedklaa
