/-
  A map keyed by int that a call has made by a literal: what stands at each key, as a list of pairs; the insert and the look-up at the operation. No condition.
-/
import Derived.Maps.OwnOps
import Derived.Maps.Views
import Derived.Carry
import Derived.WalkKit
namespace Go.Proofs.YtjbgnlnchchgcaaDoor
open Go.Maps (Keyed)
open Go.RowKit

/-- What stands at a key: the last that was put there, or the zero. -/
def lookK (z : Value) : List (Int × Value) → Int → Value
  | [], _ => z
  | p :: l, i => if i = p.1 then p.2 else lookK z l i
/-- An element reads as itself. -/
def selfR (v : Value) : Option (DataW Value × List MemPlace) := some (.held v, [])
/-- Block b is a map in which the pairs l were put, one after the other (the last one first). -/
def MapAt (P : Program) (k : TypeId) (w : World) (b : Nat) (z : Value) (l : List (Int × Value)) : Prop :=
  ∃ D : DataW Value, w.ownsMap P k selfR b l.length D ∧ ∀ i, D.atKey (.int .i64 i) (.held z) = .held (lookK z l i)

section
variable {P : Program} {k e t : TypeId} {w w' : World} {b : Nat} {z : Value} {l : List (Int × Value)}
theorem MapAt.of_block (h : MapAt P k w b z l) (hb : w'.heap[b]? = w.heap[b]?) : MapAt P k w' b z l := by
  obtain ⟨D, ⟨es, c, h1, h2⟩, h3⟩ := h
  exact ⟨D, ⟨es, c, hb.trans h1, h2⟩, h3⟩
theorem MapAt.lt (h : MapAt P k w b z l) : b < w.heap.size := by obtain ⟨D, h1, _⟩ := h; exact h1.lt
theorem MapAt.made (w : World) (P : Program) (k : TypeId) (z : Value) : MapAt P k (w.alloc (.map #[] 0)) w.heap.size z [] :=
  ⟨_, World.ownsMap_made _ _ _ _, fun _ => rfl⟩
theorem MapAt.look (h : MapAt P k w b z l) (hk : P.underlying k = some (.int .i64)) (ht : P.underlying t = some (.map k e)) (hz : (zeroValue e).run P w = .ok z w) {i : Int} (hi : (Lit.int .i64 i).wf = true) :
    (Instr.lookup t (.map (some b)) (.int .i64 i) false).run P w = .ok (lookK z l i) w := by
  obtain ⟨D, h1, h2⟩ := h
  obtain ⟨v, ps, hrun, hv⟩ := h1.lookup (Maps.int_keyed hk) ht hz (show selfR z = some (.held z, []) from rfl) (Maps.keyOf_int_mk hk hi)
  rw [h2] at hv
  have : v = lookK z l i := by
    unfold selfR at hv
    simp only [Option.some.injEq, Prod.mk.injEq, DataW.held.injEq] at hv
    exact hv.1
  rw [hrun, this]
theorem MapAt.put (h : MapAt P k w b z l) (hk : P.underlying k = some (.int .i64)) (ht : P.underlying t = some (.map k e)) (hn : l.length < maxLen) {i : Int} (hi : (Lit.int .i64 i).wf = true) (v : Value) :
    ∃ w', (Instr.mapUpdate t (.map (some b)) (.int .i64 i) v).run P w = .ok () w' ∧ MapAt P k w' b z ((i, v) :: l) ∧ w.grownBy w' (some b) := by
  obtain ⟨D, h1, h2⟩ := h
  have hD : Maps.IsMap D := by obtain ⟨es, c, _, _, _, e⟩ := h1; exact ⟨_, e⟩
  obtain ⟨w', r1, r2, r3⟩ := h1.update (Maps.int_keyed hk) ht hn (Maps.keyOf_int_mk hk hi) (show selfR v = some (.held v, []) from rfl)
  refine ⟨w', r1, ⟨_, r2, fun j => ?_⟩, r3⟩
  show _ = DataW.held (if j = i then v else lookK z l j)
  by_cases e : j = i
  · subst e
    rw [if_pos rfl, Maps.atKey_put_same hD (show WideAt.IsKeyLit (.int .i64 j) from trivial)]
  · rw [if_neg e, Maps.atKey_put_other (fun x => e (by cases x; rfl)), h2]

/-- .. made since w0, which has not turned. -/
def MapG (P : Program) (k : TypeId) (w0 w : World) (b : Nat) (z : Value) (l : List (Int × Value)) : Prop := MapAt P k w b z l ∧ Below w0.heap.size w0 w ∧ w0.heap.size ≤ b
theorem wpList_insert_g {ops : Array Oper} {rest : List Oper} {o : Oper} {a : Act} {Q : Exit → Act → World → Prop} {w0 : World}
    (hg : o.guard = none) (m x v : Operand) (t : TypeId) (hop : o.op = Op.insert t m x v) (k e : TypeId) (hk : P.underlying k = some (.int .i64)) (ht : P.underlying t = some (.map k e))
    (b : Nat) (z : Value) (l : List (Int × Value)) (hm : a.eval m = .map (some b)) (h : MapG P k w0 w b z l) (hn : l.length < maxLen) (i : Int) (val : Value) (hx : a.eval x = .int .i64 i) (hv : a.eval v = val) (hi : (Lit.int .i64 i).wf = true)
    (hK : ∀ w', MapG P k w0 w' b z ((i, val) :: l) → wpList P ops Q rest (a.put o.dst undef) w') :
    wpList P ops Q (o :: rest) a w := by
  refine wpList_plain hg fun K' hK' => ?_
  obtain ⟨h1, h2, h3⟩ := h
  obtain ⟨w', hrun, r1, r2⟩ := h1.put hk ht hn hi val
  unfold Oper.wp
  simp [execOp, hop, hm, hx, hv, hrun, Result.andThen]
  exact hK' _ _ (hK w' ⟨r1, h2.grown r2 h2.size (fun j hj => by cases hj; exact h3), h3⟩)
end
end Go.Proofs.YtjbgnlnchchgcaaDoor
