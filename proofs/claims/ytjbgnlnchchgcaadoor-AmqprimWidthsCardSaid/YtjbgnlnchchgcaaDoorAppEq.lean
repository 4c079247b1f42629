/-
  An append whose run is known as an equation: at a step of a region that draws, and in a region's list. No condition.
-/
import Derived.Deep.RegionLaw
import Derived.Maps.AppendAt
import Derived.Test.YtjbgnlnchchgcaaDoorKit
namespace Go.Proofs.YtjbgnlnchchgcaaDoor
open Go.RowKit

theorem step_of_app {P : Program} {W : World} {ops : Array Oper} {o : Oper} {a : Act} {K : Act → World → Prop} {Q : Exit → Act → World → Prop} {E : Prop} (hgd : o.guard = none) (s x : Operand) (t u : TypeId)
    (ho : o.op = .call { callee := .builtin .append, args := #[s, x], argTypes := #[t, u] }) {y sl y' : Value} {W' : World} (hs : a.eval s = y) (hx : a.eval x = sl)
    (hr : (Builtin.append_ #[t, u] o.type #[y, sl]).run P W = .ok y' W') (h : K (a.put o.dst y') W') : if Region.wanted o (yielded ops a.tmps) = true then Oper.wp P o a W K Q else E := by
  have hw : Region.wanted o (yielded ops a.tmps) = true := by simp [Region.wanted, hgd]
  rw [if_pos hw]
  unfold Oper.wp execOp
  simp only [ho, resolve, invoke, builtin, Sem.run_bind, Sem.run_pure, Result.andThen_ok, List.map_toArray, List.map_cons, List.map_nil, hs, hx, hr]
  exact h
theorem wpList_of_app {P : Program} {W : World} {ops : Array Oper} {rest : List Oper} {o : Oper} {a : Act} {Q : Exit → Act → World → Prop} (hgd : o.guard = none) (s x : Operand) (t u : TypeId)
    (ho : o.op = .call { callee := .builtin .append, args := #[s, x], argTypes := #[t, u] }) {y sl y' : Value} {W' : World} (hs : a.eval s = y) (hx : a.eval x = sl)
    (hr : (Builtin.append_ #[t, u] o.type #[y, sl]).run P W = .ok y' W') (h : wpList P ops Q rest (a.put o.dst y') W') : wpList P ops Q (o :: rest) a W := by
  refine wpList_plain hgd fun K hK => ?_
  unfold Oper.wp execOp
  simp only [ho, resolve, invoke, builtin, Sem.run_bind, Sem.run_pure, Result.andThen_ok, List.map_toArray, List.map_cons, List.map_nil, hs, hx, hr]
  exact hK _ _ h
end Go.Proofs.YtjbgnlnchchgcaaDoor
