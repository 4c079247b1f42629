/-
  What all layers share: bytes as cells, and what a world keeps behind a store, a draw or a call. No condition.
-/
import Derived.Test.YtjbgnlnchchgcaaDoorRows
import Derived.WalkKit
import Derived.WalkSpells
import Derived.WalkLawsBesides
import Derived.Lib.Hide
import Derived.LaidEqlPtr
import Derived.BigQuiet
import Derived.Deep.QuietTactic
namespace Go.Proofs.YtjbgnlnchchgcaaDoor
open Go.RowKit

/-- A byte as a cell. -/
def u8v (b : UInt8) : Value := .int .u8 b.toNat

theorem u8v_ofNat (m : Nat) : u8v (UInt8.ofNat m) = .int .u8 ((m : Int) % 256) := by
  simp [u8v]

def bs (l : List UInt8) : ByteArray := ⟨l.toArray⟩
theorem toList_data (s : ByteArray) : s.toList = s.data.toList := ByteArray.toList_eq s
theorem bs_toList (l : List UInt8) : (bs l).toList = l := by rw [toList_data]; rfl

theorem take_bytes (s : ByteArray) (k : Nat) (h : k < s.size) : s.data.toList.take (k + 1) = s.data.toList.take k ++ [s[k]] := by
  rw [List.take_succ_eq_append_getElem (by simpa using h)]; rfl

theorem setCell_block {w : World} {b : Nat} {cs : Array Value} {t : TypeId} (h : w.heap[b]? = some (.cells cs t (0, 0))) (j : Nat) (u : Value) :
    (w.setCell ⟨b, j, none⟩ u).heap[b]? = some (.cells (cs.setIfInBounds j u) t (0, 0)) := by
  simp [World.setCell, Array.getElem?_modify, h]
theorem block_kept (w : World) (b j : Nat) (u : Value) : w.grownBy (w.setCell ⟨b, j, none⟩ u) (some b) :=
  ⟨rfl, rfl, rfl, by simp [World.setCell], fun k _ hne => Below.heap_setCell w ⟨b, j, none⟩ u k (fun e => hne (by rw [e]))⟩
theorem grown_of_draws {w w' : World} {n : Nat} {r : Option Nat} (h : (w.drewN n).grownBy w' r) : w.grownBy w' r := ⟨h.os, h.tape, h.output, h.size, h.block⟩

theorem grown_then {a b c : World} {r : Option Nat} (h : a.grownBy b r) (k : b.grownBy c r) : a.grownBy c r :=
  ⟨k.os.trans h.os, k.tape.trans h.tape, k.output.trans h.output, Nat.le_trans h.size k.size, fun i hi hne => (k.block i (Nat.lt_of_lt_of_le hi h.size) hne).trans (h.block i hi hne)⟩

theorem below_draws {B : Nat} {a b : World} (h : Below B a b) (n : Nat) : Below B a (b.drewN n) := ⟨h.os, h.tape, h.output, h.size, h.block⟩
theorem quiet_same {P : Program} {f : FuncId} {args : Array Value} {w : World} {n : Nat} {v : Value}
    (h : Calls P f args (w.drewN n) fun e w' => e = .returned v ∧ w.drewN n = w') : Calls P f args (w.drewN n) fun e w'' => e = .returned v ∧ ∃ m, w'' = w.drewN m :=
  h.mono fun _ _ ⟨he, hm⟩ => ⟨he, n, hm.symm⟩
section
variable {w W W' : World} {g : FuncId} {args : Array Value} {v v' : Value}
theorem bl_same (h : Below w.heap.size w W) (hv : v = v') (hcall : Calls Tryd.prog g args W fun e' W' => e' = .returned v ∧ W = W') :
    Calls Tryd.prog g args W fun e' W' => e' = .returned v' ∧ Below w.heap.size w W' := hcall.mono fun _ _ ⟨he, hw⟩ => ⟨hv ▸ he, hw ▸ h⟩
theorem bl_made (h : Below w.heap.size w W) (hv : v = v') (hcall : Calls Tryd.prog g args W fun e' W' => e' = .returned v ∧ Below W.heap.size W W') :
    Calls Tryd.prog g args W fun e' W' => e' = .returned v' ∧ Below w.heap.size w W' := hcall.mono fun _ _ ⟨he, hb⟩ => ⟨hv ▸ he, h.trans (hb.mono h.size)⟩
end

end Go.Proofs.YtjbgnlnchchgcaaDoor
