/- The contract of prop.rules: a map in which the rules of the document's table stand. No condition. -/
import Derived.Test.YtbklidpadffpgaaGreatK02
import Derived.Test.YtbklidpadffpgaaGreatK15
set_option maxHeartbeats 4000000
set_option maxRecDepth 100000
namespace Go.Proofs.YtbklidpadffpgaaGreat
open Go.RowKit
def q3al(s k l:Nat):Value := .agg #[.int .i64 s,.int .u32 k,.int .u32 l]
def q32g:Value := .agg #[.int .i64 0,.int .u32 0,.int .u32 0]
def rulesL:List (Int×Value):=[(42,q3al 1 4 0),(41,q3al 1 4 0),(40,q3al 1 4 0),(39,q3al 3 6 1),(38,q3al 7 118782 0),(37,q3al 1 4 0),(36,q3al 1 4 0),(35,q3al 2 8 1),(34,q3al 2 6 0),(33,q3al 2 6 1),(31,q3al 5 51956 0),(28,q3al 5 16388 0),(26,q3al 5 4 0),(25,q3al 1 2 0),(24,q3al 3 65536 0),(23,q3al 1 2 0),(22,q3al 6 32774 0),(21,q3al 5 32774 0),(19,q3al 2 4 0),(18,q3al 5 4 0),(17,q3al 3 16390 0),(11,q3al 4 264 1),(9,q3al 6 65544 0),(8,q3al 5 65544 0),(3,q3al 5 65544 0),(2,q3al 3 65544 0),(1,q3al 1 65544 0)]
def q88l(w:World)(b:Nat):Prop:=qmfc Tryz.prog 3 w b q32g rulesL
theorem q88l.of_block{w w':World}{b:Nat}(h:q88l w b)(hb:w'.heap[b]? = w.heap[b]?):q88l w' b:=qmfc.of_block h hb
theorem qwvk(w:World):Calls Tryz.prog 95 #[] w fun e w'=>e = .returned (.map (some w.heap.size))∧q88l w' w.heap.size∧Below w.heap.size w w':=by
 have hmm:=@run_makeMap Tryz.prog
 have hG:MapG Tryz.prog 3 w (w.alloc (.map #[] 0)) w.heap.size q32g []:=⟨qmfc.made _ _ _ _,(Below.refl _ _).alloc (Nat.le_refl _) _,Nat.le_refl _⟩
 go_enter Tryz.func95,Tryz.ntmps95
 go_wp2_with (refine q32q rfl _ _ _ 93 rfl 3 92 Tryz.underlying3 Tryz.underlying93 _ _ _ rfl hG (by simp[maxLen]) _ _ rfl rfl (by decide) ?_;clear hG;intro w1 hG)
 go_ret
 exact⟨rfl,hG.1,hG.2.1⟩
end Go.Proofs.YtbklidpadffpgaaGreat
