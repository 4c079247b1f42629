/-
  Structs and arrays by value, their cells behind a letter: results that lie in memory, what a store of a whole row keeps. No program. Condition: none.
-/
import Derived.Lib.Hide
import Derived.WalkKit
import Derived.Lib.Walk
import Derived.Lib.Tables
import Derived.Laws.ResultCell
namespace Go.Proofs.YtjbgnlnchchgcaaDoor
open Go.RowKit

theorem results_row3 {fn : Func} {p u v : Tmp} {ty : TypeId} (h : fn.results = #[.cell p ty, .tmp u, .tmp v]) (tmps : Array Value) (P : Program) (w : World) :
    (results fn tmps).run P w =
      ((asAddr (tmps.getD p undef)).run P w).andThen fun a w₁ => ((loadVar ty a).run P w₁).andThen fun x w₂ => .ok (.tuple #[x, tmps.getD u undef, tmps.getD v undef]) w₂ := by
  simp only [results, h]
  simp [Sem.run_bind, Result.andThen]
section
variable {P : Program} {fn : Func} {R : Ending → World → Prop} {a : Act} {W : World} {p u v : Tmp} {ty t : TypeId} {B : Nat} {cs : Array Value} {x y : Value} {d : TypeDesc}
theorem ret_row (h : fn.results = #[.cell p ty]) (hp : a.tmps.getD p undef = .pointer (some ⟨B, 0, none⟩)) (hd : a.defers = [])
    (hu : P.underlying ty = some d) (hs : (match d with | .struct _ | .array _ _ => true | _ => false) = true) (hi : (P.info? ty).map (·.size) = some cs.size)
    (hg : W.heap[B]? = some (.cells cs t (0, 0))) (hR : R (.returned (.agg cs)) W) : bodyPost P fn R .ret a W :=
  bodyPost_ret (results_cell_row h a.tmps W B t cs (0, 0) _ hp hg hu hs hi) hd hR
theorem ret_row2 (h : fn.results = #[.cell p ty, .tmp u]) (hp : a.tmps.getD p undef = .pointer (some ⟨B, 0, none⟩)) (h1 : a.tmps.getD u undef = x) (hd : a.defers = [])
    (hu : P.underlying ty = some d) (hs : (match d with | .struct _ | .array _ _ => true | _ => false) = true) (hi : (P.info? ty).map (·.size) = some cs.size)
    (hg : W.heap[B]? = some (.cells cs t (0, 0))) (hR : R (.returned (.tuple #[.agg cs, x])) W) : bodyPost P fn R .ret a W := by
  refine bodyPost_ret (v := .tuple #[.agg cs, x]) ?_ hd hR
  rw [results_cell_tmp h, hp, h1]
  have := run_loadVar_row (P := P) W B t ty cs (0, 0) _ hg hu hs hi
  simp [asAddr, this, Result.andThen]
theorem ret_row3 (h : fn.results = #[.cell p ty, .tmp u, .tmp v]) (hp : a.tmps.getD p undef = .pointer (some ⟨B, 0, none⟩)) (h1 : a.tmps.getD u undef = x) (h2 : a.tmps.getD v undef = y) (hd : a.defers = [])
    (hu : P.underlying ty = some d) (hs : (match d with | .struct _ | .array _ _ => true | _ => false) = true) (hi : (P.info? ty).map (·.size) = some cs.size)
    (hg : W.heap[B]? = some (.cells cs t (0, 0))) (hR : R (.returned (.tuple #[.agg cs, x, y])) W) : bodyPost P fn R .ret a W := by
  refine bodyPost_ret (v := .tuple #[.agg cs, x, y]) ?_ hd hR
  rw [results_row3 h, hp, h1, h2]
  have := run_loadVar_row (P := P) W B t ty cs (0, 0) _ hg hu hs hi
  simp [asAddr, this, Result.andThen]
end
theorem belowRow {w W : World} {B k : Nat} (h : Below B w W) (hB : B ≤ k) (cs : Array Value) : Below B w (W.setRow k cs) :=
  ⟨h.os, h.tape, h.output, by have := h.size; simpa [World.setRow] using this, fun m hm => (setRow_other _ _ _ _ (by omega)).trans (h.block m hm)⟩
/-- A value that has just been boxed. -/
theorem below_box {w : World} (o : Obj) : Below w.heap.size w (w.alloc o) := (Below.refl _ _).alloc (Nat.le_refl _) _
theorem below_then {w a b : World} (h : Below w.heap.size w a) (k : Below a.heap.size a b) : Below w.heap.size w b := h.trans (k.mono h.size)
end Go.Proofs.YtjbgnlnchchgcaaDoor
