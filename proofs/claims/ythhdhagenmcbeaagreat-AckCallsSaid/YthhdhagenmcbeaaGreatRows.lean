/-
  No cell of these rows narrows 'for every input' (looked for: loops, veiled, ifaces, maps, wideKeys, modest, calm, conditions, laid).
  DERIVED. THE GIVEN ROWS OF THIS SEAT. 3 by the template 'for every input the law returns true; each argument reads behind the call as it read before'; 0 by the template 'total and deterministic' (their statements: YthhdhagenmcbeaaGreatTotals.lean).
  GIVEN WITH THE SEED: the statements are not yours to turn. If you find one false, say at which input.
  Laid BY PROGRAM, IN A SANDBOX (cutbox-rows.mjs): the forced cells as the released guide's own fill.sh prints them over the translation 02519de66ae38d08… (all of the seat's roots in one cut). By AI agents, Wed Nov 11 2026. No macro, syntax, notation, axiom, sorry.
-/
import Derived.Test.YthhdhagenmcbeaaGreatChecked
import GoSem.Claim
import GoSem.ClaimJoined
import GoSem.ClaimMapViews
import Derived.JoinedTies
import Derived.KernelRfl
namespace Go.Proofs.YthhdhagenmcbeaaGreat
/- THE CELL 'sum', in the pinned program and in every row, IS THE sha256 OF THE DUMP (.gsa) THAT YthhdhagenmcbeaaGreatProg.lean LOADS. Nothing in Lean hashes anything: it is a label: what it is worth is what the hold of that sum in a sandbox is worth. -/
noncomputable def Tryz.pinned : Pinned := { name := "ythhdhagenmcbeaagreat", sum := "02519de66ae38d08d77d8af575f7db6c3644660fe920395a4b315789df1322f5", checked := Tryz.checked }
namespace Rows
def none {H : Type} : Left H := { results := [], args := [] }

/-- 'polyglotlaw10.AckNames': WHATEVER THE INPUT: true; the input reads as it did. -/
def ackNamesSpec : ChangeSpec := { name := "ackNames", fn := fun _ => fun
  | [] => { results := [.lit (.bool true)], args := [] }
  | _ => none }
def ackNamesRow : OpenClaim := { program := "ythhdhagenmcbeaagreat", sum := "02519de66ae38d08d77d8af575f7db6c3644660fe920395a4b315789df1322f5", func := "polyglot/polyglotlaw10.AckNames", spec := "ackNames", inPlace := ["internal/bytealg.IndexByteString", "internal/bytealg.IndexString", "internal/abi.NoEscape", "internal/bytealg.MakeNoZero"], unfollowed := true, recurses := true, named := ["internal/bytealg.MaxLen"], apart := false }
def AckNamesSaid : Prop := ackNamesRow.holds Tryz.pinned (OpenSpec.ofChange ackNamesSpec)

/-- ITS FALSE NEIGHBOUR: 'it returns false'. Refute it at one input. -/
def ackNamesWrong : ChangeSpec := { name := "ackNames", fn := fun _ => fun
  | [] => { results := [.lit (.bool false)], args := [] }
  | _ => none }
def AckNamesWrongFalsely : Prop := ackNamesRow.holds Tryz.pinned (OpenSpec.ofChange ackNamesWrong)

/-- 'polyglotlaw10.AckCalls': WHATEVER THE INPUT: true; the input reads as it did. -/
def ackCallsSpec : ChangeSpec := { name := "ackCalls", fn := fun _ => fun
  | [d1, d2, d3, d4] => { results := [.lit (.bool true)], args := [d1, d2, d3, d4] }
  | _ => none }
def ackCallsRow : OpenClaim := { program := "ythhdhagenmcbeaagreat", sum := "02519de66ae38d08d77d8af575f7db6c3644660fe920395a4b315789df1322f5", func := "polyglot/polyglotlaw10.AckCalls", spec := "ackCalls", inPlace := ["internal/bytealg.IndexByteString", "internal/bytealg.IndexString", "internal/abi.NoEscape", "internal/bytealg.MakeNoZero"], unfollowed := true, recurses := true, named := ["internal/bytealg.MaxLen"], apart := false }
def AckCallsSaid : Prop := ackCallsRow.holds Tryz.pinned (OpenSpec.ofChange ackCallsSpec)

/-- ITS FALSE NEIGHBOUR: 'it returns false'. Refute it at one input. -/
def ackCallsWrong : ChangeSpec := { name := "ackCalls", fn := fun _ => fun
  | [d1, d2, d3, d4] => { results := [.lit (.bool false)], args := [d1, d2, d3, d4] }
  | _ => none }
def AckCallsWrongFalsely : Prop := ackCallsRow.holds Tryz.pinned (OpenSpec.ofChange ackCallsWrong)

/-- 'polyglotlaw10.AckBack': WHATEVER THE INPUT: true; the input reads as it did. -/
def ackBackSpec : ChangeSpec := { name := "ackBack", fn := fun _ => fun
  | [d1, d2, d3, d4] => { results := [.lit (.bool true)], args := [d1, d2, d3, d4] }
  | _ => none }
def ackBackRow : OpenClaim := { program := "ythhdhagenmcbeaagreat", sum := "02519de66ae38d08d77d8af575f7db6c3644660fe920395a4b315789df1322f5", func := "polyglot/polyglotlaw10.AckBack", spec := "ackBack", inPlace := ["internal/bytealg.IndexByteString", "internal/bytealg.IndexString", "internal/abi.NoEscape", "internal/bytealg.MakeNoZero"], unfollowed := true, recurses := true, named := ["internal/bytealg.MaxLen"], apart := false }
def AckBackSaid : Prop := ackBackRow.holds Tryz.pinned (OpenSpec.ofChange ackBackSpec)

/-- ITS FALSE NEIGHBOUR: 'it returns false'. Refute it at one input. -/
def ackBackWrong : ChangeSpec := { name := "ackBack", fn := fun _ => fun
  | [d1, d2, d3, d4] => { results := [.lit (.bool false)], args := [d1, d2, d3, d4] }
  | _ => none }
def AckBackWrongFalsely : Prop := ackBackRow.holds Tryz.pinned (OpenSpec.ofChange ackBackWrong)

/- THE SECOND FORM. 'bulk': how many values and letters a reading holds, each counted each time it is reached (what is shared counts as often as it is met; a slice's spare places count too). A statement '..UptoSaid' is the law's where the arguments, and the package variables that the reading takes, are together of bulk at most 1048576: NARROWER than '..Said'. Prove '..Said' where nothing that the law and all that it calls make is longer than what came in: it says more and counts as full. Else prove '..UptoSaid'. A law counts once. -/
mutual
def uptoBulk {H : Type} : DataW H → Nat
  | .lit (.string bytes) => bytes.length + 1
  | .lit _ => 1
  | .nil => 1
  | .ptr d => uptoBulk d + 1
  | .slice elems spare => uptoBulkAll elems + uptoBulkAll spare + 1
  | .agg parts => uptoBulkAll parts + 1
  | .iface _ d => uptoBulk d + 1
  | .map entries => uptoBulkEntries entries + 1
  | .held _ => 1
def uptoBulkAll {H : Type} : List (DataW H) → Nat
  | [] => 0
  | d :: r => uptoBulk d + uptoBulkAll r
def uptoBulkEntries {H : Type} : List (Lit × DataW H) → Nat
  | [] => 0
  | x :: r => uptoBulkEntry x + uptoBulkEntries r
def uptoBulkEntry {H : Type} : Lit × DataW H → Nat
  | (.string bytes, d) => bytes.length + uptoBulk d + 1
  | (_, d) => uptoBulk d + 1
 end
def uptoSmall : (H : Type) → List (DataW H) → Bool := fun _ ds => decide (uptoBulkAll ds ≤ 1048576)
def OpenSpec.upto (s : _root_.Go.ChangeSpec) : _root_.Go.OpenSpec := { _root_.Go.OpenSpec.ofChange s with cond := some uptoSmall }

/-- 'polyglotlaw10.AckNames', WHERE WHAT IT READS IS OF BULK AT MOST 1048576: true; the input reads as it did. -/
def ackNamesUptoRow : OpenClaim := { program := "ythhdhagenmcbeaagreat", sum := "02519de66ae38d08d77d8af575f7db6c3644660fe920395a4b315789df1322f5", func := "polyglot/polyglotlaw10.AckNames", spec := "ackNames", inPlace := ["internal/bytealg.IndexByteString", "internal/bytealg.IndexString", "internal/abi.NoEscape", "internal/bytealg.MakeNoZero"], unfollowed := true, recurses := true, named := ["internal/bytealg.MaxLen"], apart := false, narrowed := true }
def AckNamesUptoSaid : Prop := ackNamesUptoRow.holds Tryz.pinned (OpenSpec.upto ackNamesSpec)

/-- 'polyglotlaw10.AckCalls', WHERE WHAT IT READS IS OF BULK AT MOST 1048576: true; the input reads as it did. -/
def ackCallsUptoRow : OpenClaim := { program := "ythhdhagenmcbeaagreat", sum := "02519de66ae38d08d77d8af575f7db6c3644660fe920395a4b315789df1322f5", func := "polyglot/polyglotlaw10.AckCalls", spec := "ackCalls", inPlace := ["internal/bytealg.IndexByteString", "internal/bytealg.IndexString", "internal/abi.NoEscape", "internal/bytealg.MakeNoZero"], unfollowed := true, recurses := true, named := ["internal/bytealg.MaxLen"], apart := false, narrowed := true }
def AckCallsUptoSaid : Prop := ackCallsUptoRow.holds Tryz.pinned (OpenSpec.upto ackCallsSpec)

/-- 'polyglotlaw10.AckBack', WHERE WHAT IT READS IS OF BULK AT MOST 1048576: true; the input reads as it did. -/
def ackBackUptoRow : OpenClaim := { program := "ythhdhagenmcbeaagreat", sum := "02519de66ae38d08d77d8af575f7db6c3644660fe920395a4b315789df1322f5", func := "polyglot/polyglotlaw10.AckBack", spec := "ackBack", inPlace := ["internal/bytealg.IndexByteString", "internal/bytealg.IndexString", "internal/abi.NoEscape", "internal/bytealg.MakeNoZero"], unfollowed := true, recurses := true, named := ["internal/bytealg.MaxLen"], apart := false, narrowed := true }
def AckBackUptoSaid : Prop := ackBackUptoRow.holds Tryz.pinned (OpenSpec.upto ackBackSpec)

end Rows
end Go.Proofs.YthhdhagenmcbeaaGreat
