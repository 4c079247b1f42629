/-
  The contract of amqprim.table: an array of constructors, by value. No condition.
-/
import Derived.Deep.DeepCutAuto
import Derived.Deep.WholeRow
import Derived.Great.Frames
import Derived.Test.YtjbgnlnchchgcaaDoorKit
import Derived.Test.YtjbgnlnchchgcaaDoorRow
import Derived.Test.YtjbgnlnchchgcaaDoorAmTab
namespace Go.Proofs.YtjbgnlnchchgcaaDoor
open Go.RowKit

theorem info_tab : (Tryd.prog.info? 59).map (·.size) = some 200 := by kernel_rfl
theorem info_ct : (Tryd.prog.info? 32).map (·.size) = some 5 := by kernel_rfl
theorem wpList_built {P : Program} {ops : Array Oper} {rest : List Oper} {o : Oper} {a : Act} {w : World} {Q : Exit → Act → World → Prop} (V : Array Value) (hg : o.guard = none) (t : TypeId) (parts : Array (Nat × Operand)) (ho : o.op = .build t parts)
    (hf : P.built t (parts.map fun (i, x) => (i, a.eval x)).toList = some V) (h : wpList P ops Q rest (a.put o.dst (.agg V)) w) : wpList P ops Q (o :: rest) a w := by
  refine wpList_build hg t parts ho (by rw [hf]; rfl) ?_
  rw [hf]; exact h
theorem tabS_cells : (ctCs tabS).size = 200 ∧ (ctCs tabS).all (·.oneCell') = true := ⟨by kernel_rfl, by kernel_rfl⟩
theorem zero_tab : Tryd.zeroCells59.size = 200 := by kernel_rfl
/-- A region's end: what its last frame holds. -/
theorem tab_end {P : Program} {ops : Array Oper} {Q : Exit → Act → World → Prop} {a : Act} {w W : World} (hW : w = W) (V : Value) (h1 : a.defers = []) (h2 : a.tmps.getD 0 undef = V) (hK : ∀ a', a'.defers = [] → a'.tmps.getD 0 undef = V → Q .normal a' W) : wpList P ops Q [] a w := by
  subst hW; unfold wpList; exact hK a h1 h2
set_option maxRecDepth 100000 in
set_option maxHeartbeats 1000000 in
theorem table_any (w : World) : Calls Tryd.prog 36 #[] w fun e W => e = .returned (.agg (ctCs tabS)) ∧ Below w.heap.size w W := by
  have H1 := Lib.hid tabS_cells
  go_enter Tryd.func36, Tryd.ntmps36
  go_upto_region 1 with fail
  go_wp2_with (
    iterate 40 refine wpList_build rfl _ _ rfl (by kernel_rfl) ?_
    refine wpList_built (ctCs tabS) rfl _ _ rfl (by kernel_rfl) ?_
    refine wpList_store_row rfl _ _ _ rfl w.heap.size (ctCs tabS) (by kernel_rfl) (by kernel_rfl) 59 Tryd.zeroCells59 (heap_alloc_new w _) (by rw [H1.out.1]; exact info_tab) (by rw [H1.out.1]; exact zero_tab) H1.out.2 ?_
    refine tab_end (World.setRow_alloc_new ..) (.pointer (some ⟨w.heap.size, 0, none⟩)) (by kernel_rfl) (by kernel_rfl) fun a h1 h2 => ?_)
  exact ret_row (cs := ctCs tabS) rfl h2 h1 Tryd.underlying59 rfl (by rw [H1.out.1]; exact info_tab) (heap_alloc_new w _) ⟨rfl, below_box _⟩
end Go.Proofs.YtjbgnlnchchgcaaDoor
