/-
  Plain facts: AMQP's constructors in the order of their codes. No condition. The contract of amqprim.table: an array of constructors, by value. No condition.
-/
import Derived.Deep.DeepCutAuto
import Derived.Deep.WholeRow
import Derived.Great.Frames
import Derived.Test.YtjbgnlnchchgcaaDoorAmPlain
import Derived.Test.YtjbgnlnchchgcaaDoorKit
import Derived.Test.YtjbgnlnchchgcaaDoorRow
namespace Go.Proofs.YtjbgnlnchchgcaaDoor
open Go.RowKit

/-- All constructors in the order of their codes. -/
def tabS : List Ct :=
  [⟨0, 25, 0, false, true⟩, ⟨64, 1, 0, false, false⟩, ⟨65, 2, 0, false, false⟩, ⟨66, 2, 0, false, false⟩, ⟨67, 5, 0, false, false⟩, ⟨68, 6, 0, false, false⟩, ⟨69, 22, 0, false, true⟩,
   ⟨80, 3, 1, false, false⟩, ⟨81, 7, 1, false, false⟩, ⟨82, 5, 1, false, false⟩, ⟨83, 6, 1, false, false⟩, ⟨84, 9, 1, false, false⟩, ⟨85, 10, 1, false, false⟩, ⟨86, 2, 1, false, false⟩,
   ⟨96, 4, 2, false, false⟩, ⟨97, 8, 2, false, false⟩, ⟨112, 5, 4, false, false⟩, ⟨113, 9, 4, false, false⟩, ⟨114, 11, 4, false, false⟩, ⟨115, 16, 4, false, false⟩, ⟨116, 13, 4, false, false⟩,
   ⟨128, 6, 8, false, false⟩, ⟨129, 10, 8, false, false⟩, ⟨130, 12, 8, false, false⟩, ⟨131, 17, 8, false, false⟩, ⟨132, 14, 8, false, false⟩, ⟨148, 15, 16, false, false⟩, ⟨152, 18, 16, false, false⟩,
   ⟨160, 19, 1, true, false⟩, ⟨161, 20, 1, true, false⟩, ⟨163, 21, 1, true, false⟩, ⟨176, 19, 4, true, false⟩, ⟨177, 20, 4, true, false⟩, ⟨179, 21, 4, true, false⟩,
   ⟨192, 22, 1, true, true⟩, ⟨193, 23, 1, true, true⟩, ⟨208, 22, 4, true, true⟩, ⟨209, 23, 4, true, true⟩, ⟨224, 24, 1, true, true⟩, ⟨240, 24, 4, true, true⟩]
theorem tabS_length : tabS.length = 40 := rfl
/-- A constructor's cells; those of many. -/
def ctC (t : Ct) : Array Value := #[.int .i64 (t.code : Nat), .int .i64 (t.kind : Nat), .int .i64 (t.width : Nat), .bool t.sized, .bool t.items]
def ctCs (l : List Ct) : Array Value := (l.flatMap fun t => (ctC t).toList).toArray
def Ct.zero : Ct := ⟨0, 0, 0, false, false⟩
/-- The constructor with a code, or none. -/
def ofT (c : Int) : Ct × Bool := match ofA c with | some t => (t, true) | none => (Ct.zero, false)
theorem tabS_mem (t : Ct) : t ∈ tabS ↔ t ∈ tabA := by
  constructor
  · exact fun h => (show ∀ t ∈ tabS, t ∈ tabA by decide +kernel) t h
  · exact fun h => (show ∀ t ∈ tabA, t ∈ tabS by decide +kernel) t h
theorem tabS_sorted : tabS.Pairwise fun a b => a.code < b.code := by decide +kernel
theorem tabA_once : ∀ a ∈ tabA, ∀ b ∈ tabA, a.code = b.code → a = b := by decide +kernel
theorem of_some {c : Int} {t : Ct} (h : t ∈ tabA) (hc : (t.code : Int) = c) : ofA c = some t := by
  unfold ofA
  cases hf : tabA.find? fun t => (t.code : Int) == c with
  | none => have := List.find?_eq_none.1 hf t h; simp [hc] at this
  | some u =>
    have hu := List.mem_of_find?_eq_some hf
    have hp := List.find?_some hf
    simp only [beq_iff_eq] at hp
    rw [tabA_once u hu t h (by omega)]
theorem of_none {c : Int} (h : ∀ t ∈ tabA, (t.code : Int) ≠ c) : ofA c = none := by
  unfold ofA
  rw [List.find?_eq_none]
  intro t ht
  simpa using h t ht
/-- The codes of a kind, as both tables have them. -/
theorem codes_same (k : Int) : tabS.filter (fun t => (t.kind : Int) == k) = codesA k := by
  unfold codesA
  have H : ∀ j < 26, tabS.filter (fun t => t.kind == j) = tabA.filter fun t => t.kind == j := by decide +kernel
  by_cases h : 0 ≤ k ∧ k < 26
  · obtain ⟨j, rfl⟩ := Int.eq_ofNat_of_zero_le h.1
    have e := H j (by omega)
    have p : (fun t : Ct => ((t.kind : Int) == (j : Int))) = fun t => t.kind == j := by
      funext t
      rw [Bool.eq_iff_iff, beq_iff_eq, beq_iff_eq]; omega
    rw [p]; exact e
  · have B : ∀ t ∈ tabA, t.kind < 26 := by decide +kernel
    have n1 : ∀ t ∈ tabA, ¬ ((t.kind : Int) == k) = true := fun t ht e => by
      have := B t ht
      rw [beq_iff_eq] at e
      omega
    rw [List.filter_eq_nil_iff.2 n1, List.filter_eq_nil_iff.2 fun t ht => n1 t ((tabS_mem t).1 ht)]
open Go.RowKit

theorem info_tab : (Tryd.prog.info? 59).map (·.size) = some 200 := by kernel_rfl
theorem info_ct : (Tryd.prog.info? 32).map (·.size) = some 5 := by kernel_rfl
theorem wpList_built {P : Program} {ops : Array Oper} {rest : List Oper} {o : Oper} {a : Act} {w : World} {Q : Exit → Act → World → Prop} (V : Array Value) (hg : o.guard = none) (t : TypeId) (parts : Array (Nat × Operand)) (ho : o.op = .build t parts)
    (hf : P.built t (parts.map fun (i, x) => (i, a.eval x)).toList = some V) (h : wpList P ops Q rest (a.put o.dst (.agg V)) w) : wpList P ops Q (o :: rest) a w := by
  refine wpList_build hg t parts ho (by rw [hf]; rfl) ?_
  rw [hf]; exact h
theorem tabS_cells : (ctCs tabS).size = 200 ∧ (ctCs tabS).all (·.oneCell') = true := ⟨by kernel_rfl, by kernel_rfl⟩
theorem zero_tab : Tryd.zeroCells59.size = 200 := by kernel_rfl
/-- A region's end: what its last frame holds. -/
theorem tab_end {P : Program} {ops : Array Oper} {Q : Exit → Act → World → Prop} {a : Act} {w W : World} (hW : w = W) (V : Value) (h1 : a.defers = []) (h2 : a.tmps.getD 0 undef = V) (hK : ∀ a', a'.defers = [] → a'.tmps.getD 0 undef = V → Q .normal a' W) : wpList P ops Q [] a w := by
  subst hW; unfold wpList; exact hK a h1 h2
set_option maxRecDepth 100000 in
set_option maxHeartbeats 1000000 in
theorem table_any (w : World) : Calls Tryd.prog 36 #[] w fun e W => e = .returned (.agg (ctCs tabS)) ∧ Below w.heap.size w W := by
  have H1 := Lib.hid tabS_cells
  go_enter Tryd.func36, Tryd.ntmps36
  go_upto_region 1 with fail
  go_wp2_with (
    iterate 40 refine wpList_build rfl _ _ rfl (by kernel_rfl) ?_
    refine wpList_built (ctCs tabS) rfl _ _ rfl (by kernel_rfl) ?_
    refine wpList_store_row rfl _ _ _ rfl w.heap.size (ctCs tabS) (by kernel_rfl) (by kernel_rfl) 59 Tryd.zeroCells59 (heap_alloc_new w _) (by rw [H1.out.1]; exact info_tab) (by rw [H1.out.1]; exact zero_tab) H1.out.2 ?_
    refine tab_end (World.setRow_alloc_new ..) (.pointer (some ⟨w.heap.size, 0, none⟩)) (by kernel_rfl) (by kernel_rfl) fun a h1 h2 => ?_)
  exact ret_row (cs := ctCs tabS) rfl h2 h1 Tryd.underlying59 rfl (by rw [H1.out.1]; exact info_tab) (heap_alloc_new w _) ⟨rfl, below_box _⟩
end Go.Proofs.YtjbgnlnchchgcaaDoor
