/-
  No cell of these rows narrows 'for every input' (looked for: loops, veiled, ifaces, maps, wideKeys, modest, calm, conditions, laid).
  DERIVED. THE GIVEN ROWS OF THIS SEAT. 5 by the template 'for every input the law returns true; each argument reads behind the call as it read before'; 0 by the template 'total and deterministic' (their statements: YtohbhmffgaijgaaTotals.lean).
  GIVEN WITH THE SEED: the statements are not yours to turn. If you find one false, say at which input.
  Laid BY PROGRAM, IN A SANDBOX (cutbox-rows.mjs): the forced cells as the released guide's own fill.sh prints them over the translation 36a50823a97fafe2… (all of the seat's roots in one cut). By AI agents, Wed Nov 11 2026. No macro, syntax, notation, axiom, sorry.
-/
import Derived.Test.YtohbhmffgaijgaaChecked
import GoSem.Claim
import GoSem.ClaimJoined
import GoSem.ClaimMapViews
import Derived.JoinedTies
import Derived.KernelRfl
namespace Go.Proofs.Ytohbhmffgaijgaa
/- THE CELL 'sum', in the pinned program and in every row, IS THE sha256 OF THE DUMP (.gsa) THAT YtohbhmffgaijgaaProg.lean LOADS. Nothing in Lean hashes anything: it is a label: what it is worth is what the hold of that sum in a sandbox is worth. -/
noncomputable def Try.pinned : Pinned := { name := "ytohbhmffgaijgaa", sum := "36a50823a97fafe2faf901a63c9663353aec9ff1635ed2c96bd676e7ae184ce6", checked := Try.checked }
namespace Rows
def none {H : Type} : Left H := { results := [], args := [] }

/-- 'polyglotlaw03.UstringNames': WHATEVER THE INPUT: true; the input reads as it did. -/
def ustringNamesSpec : ChangeSpec := { name := "ustringNames", fn := fun _ => fun
  | [] => { results := [.lit (.bool true)], args := [] }
  | _ => none }
def ustringNamesRow : OpenClaim := { program := "ytohbhmffgaijgaa", sum := "36a50823a97fafe2faf901a63c9663353aec9ff1635ed2c96bd676e7ae184ce6", func := "polyglot/polyglotlaw03.UstringNames", spec := "ustringNames", unfollowed := true, recurses := true, apart := false }
def UstringNamesSaid : Prop := ustringNamesRow.holds Try.pinned (OpenSpec.ofChange ustringNamesSpec)

/-- ITS FALSE NEIGHBOUR: 'it returns false'. Refute it at one input. -/
def ustringNamesWrong : ChangeSpec := { name := "ustringNames", fn := fun _ => fun
  | [] => { results := [.lit (.bool false)], args := [] }
  | _ => none }
def UstringNamesWrongFalsely : Prop := ustringNamesRow.holds Try.pinned (OpenSpec.ofChange ustringNamesWrong)

/-- 'polyglotlaw03.UstringCalls': WHATEVER THE INPUT: true; the input reads as it did. -/
def ustringCallsSpec : ChangeSpec := { name := "ustringCalls", fn := fun _ => fun
  | [d1, d2] => { results := [.lit (.bool true)], args := [d1, d2] }
  | _ => none }
def ustringCallsRow : OpenClaim := { program := "ytohbhmffgaijgaa", sum := "36a50823a97fafe2faf901a63c9663353aec9ff1635ed2c96bd676e7ae184ce6", func := "polyglot/polyglotlaw03.UstringCalls", spec := "ustringCalls", unfollowed := true, recurses := true, apart := false }
def UstringCallsSaid : Prop := ustringCallsRow.holds Try.pinned (OpenSpec.ofChange ustringCallsSpec)

/-- ITS FALSE NEIGHBOUR: 'it returns false'. Refute it at one input. -/
def ustringCallsWrong : ChangeSpec := { name := "ustringCalls", fn := fun _ => fun
  | [d1, d2] => { results := [.lit (.bool false)], args := [d1, d2] }
  | _ => none }
def UstringCallsWrongFalsely : Prop := ustringCallsRow.holds Try.pinned (OpenSpec.ofChange ustringCallsWrong)

/-- 'polyglotlaw03.UstringBack': WHATEVER THE INPUT: true; the input reads as it did. -/
def ustringBackSpec : ChangeSpec := { name := "ustringBack", fn := fun _ => fun
  | [d1, d2, d3] => { results := [.lit (.bool true)], args := [d1, d2, d3] }
  | _ => none }
def ustringBackRow : OpenClaim := { program := "ytohbhmffgaijgaa", sum := "36a50823a97fafe2faf901a63c9663353aec9ff1635ed2c96bd676e7ae184ce6", func := "polyglot/polyglotlaw03.UstringBack", spec := "ustringBack", unfollowed := true, recurses := true, apart := false }
def UstringBackSaid : Prop := ustringBackRow.holds Try.pinned (OpenSpec.ofChange ustringBackSpec)

/-- ITS FALSE NEIGHBOUR: 'it returns false'. Refute it at one input. -/
def ustringBackWrong : ChangeSpec := { name := "ustringBack", fn := fun _ => fun
  | [d1, d2, d3] => { results := [.lit (.bool false)], args := [d1, d2, d3] }
  | _ => none }
def UstringBackWrongFalsely : Prop := ustringBackRow.holds Try.pinned (OpenSpec.ofChange ustringBackWrong)

/-- 'polyglotlaw03.UstringHalves': WHATEVER THE INPUT: true; the input reads as it did. -/
def ustringHalvesSpec : ChangeSpec := { name := "ustringHalves", fn := fun _ => fun
  | [d1, d2] => { results := [.lit (.bool true)], args := [d1, d2] }
  | _ => none }
def ustringHalvesRow : OpenClaim := { program := "ytohbhmffgaijgaa", sum := "36a50823a97fafe2faf901a63c9663353aec9ff1635ed2c96bd676e7ae184ce6", func := "polyglot/polyglotlaw03.UstringHalves", spec := "ustringHalves", unfollowed := true, recurses := true, apart := false }
def UstringHalvesSaid : Prop := ustringHalvesRow.holds Try.pinned (OpenSpec.ofChange ustringHalvesSpec)

/-- ITS FALSE NEIGHBOUR: 'it returns false'. Refute it at one input. -/
def ustringHalvesWrong : ChangeSpec := { name := "ustringHalves", fn := fun _ => fun
  | [d1, d2] => { results := [.lit (.bool false)], args := [d1, d2] }
  | _ => none }
def UstringHalvesWrongFalsely : Prop := ustringHalvesRow.holds Try.pinned (OpenSpec.ofChange ustringHalvesWrong)

/-- 'polyglotlaw03.UstringJoins': WHATEVER THE INPUT: true; the input reads as it did. -/
def ustringJoinsSpec : ChangeSpec := { name := "ustringJoins", fn := fun _ => fun
  | [d1, d2] => { results := [.lit (.bool true)], args := [d1, d2] }
  | _ => none }
def ustringJoinsRow : OpenClaim := { program := "ytohbhmffgaijgaa", sum := "36a50823a97fafe2faf901a63c9663353aec9ff1635ed2c96bd676e7ae184ce6", func := "polyglot/polyglotlaw03.UstringJoins", spec := "ustringJoins", unfollowed := true, recurses := true, apart := false }
def UstringJoinsSaid : Prop := ustringJoinsRow.holds Try.pinned (OpenSpec.ofChange ustringJoinsSpec)

/-- ITS FALSE NEIGHBOUR: 'it returns false'. Refute it at one input. -/
def ustringJoinsWrong : ChangeSpec := { name := "ustringJoins", fn := fun _ => fun
  | [d1, d2] => { results := [.lit (.bool false)], args := [d1, d2] }
  | _ => none }
def UstringJoinsWrongFalsely : Prop := ustringJoinsRow.holds Try.pinned (OpenSpec.ofChange ustringJoinsWrong)

/- THE SECOND FORM. 'bulk': how many values and letters a reading holds, each counted each time it is reached (what is shared counts as often as it is met; a slice's spare places count too). A statement '..UptoSaid' is the law's where the arguments, and the package variables that the reading takes, are together of bulk at most 1048576: NARROWER than '..Said'. Prove '..Said' where nothing that the law and all that it calls make is longer than what came in: it says more and counts as full. Else prove '..UptoSaid'. A law counts once. -/
mutual
def uptoBulk {H : Type} : DataW H → Nat
  | .lit (.string bytes) => bytes.length + 1
  | .lit _ => 1
  | .nil => 1
  | .ptr d => uptoBulk d + 1
  | .slice elems spare => uptoBulkAll elems + uptoBulkAll spare + 1
  | .agg parts => uptoBulkAll parts + 1
  | .iface _ d => uptoBulk d + 1
  | .map entries => uptoBulkEntries entries + 1
  | .held _ => 1
def uptoBulkAll {H : Type} : List (DataW H) → Nat
  | [] => 0
  | d :: r => uptoBulk d + uptoBulkAll r
def uptoBulkEntries {H : Type} : List (Lit × DataW H) → Nat
  | [] => 0
  | x :: r => uptoBulkEntry x + uptoBulkEntries r
def uptoBulkEntry {H : Type} : Lit × DataW H → Nat
  | (.string bytes, d) => bytes.length + uptoBulk d + 1
  | (_, d) => uptoBulk d + 1
 end
def uptoSmall : (H : Type) → List (DataW H) → Bool := fun _ ds => decide (uptoBulkAll ds ≤ 1048576)
def OpenSpec.upto (s : _root_.Go.ChangeSpec) : _root_.Go.OpenSpec := { _root_.Go.OpenSpec.ofChange s with cond := some uptoSmall }

/-- 'polyglotlaw03.UstringNames', WHERE WHAT IT READS IS OF BULK AT MOST 1048576: true; the input reads as it did. -/
def ustringNamesUptoRow : OpenClaim := { program := "ytohbhmffgaijgaa", sum := "36a50823a97fafe2faf901a63c9663353aec9ff1635ed2c96bd676e7ae184ce6", func := "polyglot/polyglotlaw03.UstringNames", spec := "ustringNames", unfollowed := true, recurses := true, apart := false, narrowed := true }
def UstringNamesUptoSaid : Prop := ustringNamesUptoRow.holds Try.pinned (OpenSpec.upto ustringNamesSpec)

/-- 'polyglotlaw03.UstringCalls', WHERE WHAT IT READS IS OF BULK AT MOST 1048576: true; the input reads as it did. -/
def ustringCallsUptoRow : OpenClaim := { program := "ytohbhmffgaijgaa", sum := "36a50823a97fafe2faf901a63c9663353aec9ff1635ed2c96bd676e7ae184ce6", func := "polyglot/polyglotlaw03.UstringCalls", spec := "ustringCalls", unfollowed := true, recurses := true, apart := false, narrowed := true }
def UstringCallsUptoSaid : Prop := ustringCallsUptoRow.holds Try.pinned (OpenSpec.upto ustringCallsSpec)

/-- 'polyglotlaw03.UstringBack', WHERE WHAT IT READS IS OF BULK AT MOST 1048576: true; the input reads as it did. -/
def ustringBackUptoRow : OpenClaim := { program := "ytohbhmffgaijgaa", sum := "36a50823a97fafe2faf901a63c9663353aec9ff1635ed2c96bd676e7ae184ce6", func := "polyglot/polyglotlaw03.UstringBack", spec := "ustringBack", unfollowed := true, recurses := true, apart := false, narrowed := true }
def UstringBackUptoSaid : Prop := ustringBackUptoRow.holds Try.pinned (OpenSpec.upto ustringBackSpec)

/-- 'polyglotlaw03.UstringHalves', WHERE WHAT IT READS IS OF BULK AT MOST 1048576: true; the input reads as it did. -/
def ustringHalvesUptoRow : OpenClaim := { program := "ytohbhmffgaijgaa", sum := "36a50823a97fafe2faf901a63c9663353aec9ff1635ed2c96bd676e7ae184ce6", func := "polyglot/polyglotlaw03.UstringHalves", spec := "ustringHalves", unfollowed := true, recurses := true, apart := false, narrowed := true }
def UstringHalvesUptoSaid : Prop := ustringHalvesUptoRow.holds Try.pinned (OpenSpec.upto ustringHalvesSpec)

/-- 'polyglotlaw03.UstringJoins', WHERE WHAT IT READS IS OF BULK AT MOST 1048576: true; the input reads as it did. -/
def ustringJoinsUptoRow : OpenClaim := { program := "ytohbhmffgaijgaa", sum := "36a50823a97fafe2faf901a63c9663353aec9ff1635ed2c96bd676e7ae184ce6", func := "polyglot/polyglotlaw03.UstringJoins", spec := "ustringJoins", unfollowed := true, recurses := true, apart := false, narrowed := true }
def UstringJoinsUptoSaid : Prop := ustringJoinsUptoRow.holds Try.pinned (OpenSpec.upto ustringJoinsSpec)

end Rows
end Go.Proofs.Ytohbhmffgaijgaa
