/-
  The contract of prop.rules: a map in which the rules of the document's table stand. No condition.
-/
import Derived.Test.YtaahhbjnflimnaaGreatK13
import Derived.Test.YtaahhbjnflimnaaGreatK12
namespace Go.Proofs.YtaahhbjnflimnaaGreat
open Go.RowKit

/-- A rule: shape, kinds as bits, the least number. -/
def ruleV (s k l : Nat) : Value := .agg #[.int .i64 s, .int .u32 k, .int .u32 l]
def zeroRule : Value := .agg #[.int .i64 0, .int .u32 0, .int .u32 0]
/-- The pairs that prop.rules puts, the last one first. -/
def rulesL : List (Int × Value) := [(42, ruleV 1 4 0), (41, ruleV 1 4 0), (40, ruleV 1 4 0), (39, ruleV 3 6 1), (38, ruleV 7 118782 0), (37, ruleV 1 4 0), (36, ruleV 1 4 0), (35, ruleV 2 8 1), (34, ruleV 2 6 0), (33, ruleV 2 6 1), (31, ruleV 5 51956 0), (28, ruleV 5 16388 0), (26, ruleV 5 4 0), (25, ruleV 1 2 0), (24, ruleV 3 65536 0), (23, ruleV 1 2 0), (22, ruleV 6 32774 0), (21, ruleV 5 32774 0), (19, ruleV 2 4 0), (18, ruleV 5 4 0), (17, ruleV 3 16390 0), (11, ruleV 4 264 1), (9, ruleV 6 65544 0), (8, ruleV 5 65544 0), (3, ruleV 5 65544 0), (2, ruleV 3 65544 0), (1, ruleV 1 65544 0)]
/-- Block b is the map of the rules. -/
def Rules (w : World) (b : Nat) : Prop := MapAt Tryz.prog 3 w b zeroRule rulesL
theorem Rules.of_block {w w' : World} {b : Nat} (h : Rules w b) (hb : w'.heap[b]? = w.heap[b]?) : Rules w' b := MapAt.of_block h hb

set_option maxHeartbeats 4000000 in
set_option maxRecDepth 100000 in
theorem rules_any (w : World) : Calls Tryz.prog 189 #[] w fun e w' => e = .returned (.map (some w.heap.size)) ∧ Rules w' w.heap.size ∧ Below w.heap.size w w' := by
  have hmm := @run_makeMap Tryz.prog
  have hG : MapG Tryz.prog 3 w (w.alloc (.map #[] 0)) w.heap.size zeroRule [] := ⟨MapAt.made _ _ _ _, (Below.refl _ _).alloc (Nat.le_refl _) _, Nat.le_refl _⟩
  go_enter Tryz.func189, Tryz.ntmps189
  go_wp2_with (refine wpList_insert_g rfl _ _ _ 158 rfl 3 157 Tryz.underlying3 Tryz.underlying158 _ _ _ rfl hG (by simp [maxLen]) _ _ rfl rfl (by decide) ?_; clear hG; intro w1 hG)

  go_ret
  exact ⟨rfl, hG.1, hG.2.1⟩
end Go.Proofs.YtaahhbjnflimnaaGreat
