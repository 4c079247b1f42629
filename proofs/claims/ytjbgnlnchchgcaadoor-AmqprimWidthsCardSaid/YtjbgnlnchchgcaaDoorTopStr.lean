/-
  A list of strings as it lies in memory. No condition.
-/
import Derived.Test.YtjbgnlnchchgcaaDoorKit
namespace Go.Proofs.YtjbgnlnchchgcaaDoor
open Go.RowKit

/-- A list of strings as cells. -/
def strs (ls : List (List UInt8)) : List Value := ls.map fun l => .string (bs l)
/-- The list of strings ls lies behind the address A. -/
def SR (W : World) (A : Option Addr) (ls : List (List UInt8)) : Prop :=
  ls ≠ [] → ∃ g i, A = some ⟨g, i, none⟩ ∧ g < W.heap.size ∧ ∀ j, j < ls.length → W.cell? ⟨g, i + j, none⟩ = some (.string (bs (ls.getD j [])))
theorem SR.kept {W W' : World} {A : Option Addr} {ls : List (List UInt8)} (h : SR W A ls) (hb : Below W.heap.size W W') : SR W' A ls := fun hne => by
  obtain ⟨g, i, e, hg, hc⟩ := h hne
  exact ⟨g, i, e, Nat.lt_of_lt_of_le hg hb.size, fun j hj => (hb.cell (p := ⟨g, i + j, none⟩) hg).trans (hc j hj)⟩
theorem SR.draws {W : World} {A : Option Addr} {ls : List (List UInt8)} (h : SR W A ls) (n : Nat) : SR (W.drewN n) A ls := h
theorem SR.nil {W : World} {A : Option Addr} : SR W A [] := fun h => absurd rfl h
theorem strs_get (ls : List (List UInt8)) (j : Nat) (h : j < ls.length) : (strs ls).toArray[j]? = some (.string (bs (ls.getD j []))) := by
  simp [strs, List.getD, List.getElem?_eq_getElem h]
theorem SR.alloc {W : World} {ls : List (List UInt8)} (t : TypeId) : SR (W.alloc (.cells (strs ls).toArray t)) (some ⟨W.heap.size, 0, none⟩) ls := fun _ =>
  ⟨_, _, rfl, by simp, fun j hj => by rw [Nat.zero_add, World.cell?_alloc_at _ _ _ _ rfl]; exact strs_get ls j hj⟩
theorem bs_mk (s : ByteArray) : bs s.data.toList = s := rfl
theorem bs_data (l : List UInt8) : (bs l).data.toList = l := rfl
theorem bs_size (l : List UInt8) : (bs l).size = l.length := by simp [bs, ByteArray.size]
end Go.Proofs.YtjbgnlnchchgcaaDoor
