/-
  The contracts of strings.Index at a zero byte, and of strings.SplitSeq at it. Condition: the string is no longer than an int says.
-/
import Derived.Shelf.Abstract
import Derived.Shelf.RegionOpen
import Derived.OwnWalkIn
import Derived.TacticsInMore
import Derived.LoopNIn
import Derived.LoopIn
import Derived.Lib.OthersKept
import Derived.Test.YtjbgnlnchchgcaaDoorKit
import Derived.Test.YtjbgnlnchchgcaaDoorRangeBox
import Derived.Test.YtjbgnlnchchgcaaDoorAmUtf
namespace Go.Proofs.YtjbgnlnchchgcaaDoor
open Go.RowKit

attribute [local go_sem] Oper.semAt_some

set_option maxRecDepth 100000 in
set_option maxHeartbeats 1000000 in
theorem ixb_any (s : ByteArray) (w : World) : Calls Tryd.prog 93 #[.string s, .int .u8 0] w fun e W => e = .returned (.int .i64 (Lib.indexByte s.data.toList 0)) ∧ w = W := by
  go_in
  go_wp2
  rw [run_callFunc_extern Tryd.func98 (by kernel_rfl) (by kernel_rfl) (by kernel_rfl) (e := Extern.BytealgIndexByte.indexByte) (by kernel_rfl), Lib.run_indexByteString]
  simp only [Result.andThen]
  rw [Oper.upon_value]
  go_wp2
  go_ret
  exact ⟨rfl, rfl⟩
/-- A zero byte. -/
def zS : ByteArray := ⟨#[0]⟩
set_option maxRecDepth 100000 in
set_option maxHeartbeats 2000000 in
theorem ixl_any (s : ByteArray) (w : World) : Calls Tryd.prog 91 #[.string s, .string ⟨#[0]⟩] w fun e W => e = .returned (.int .i64 (Lib.indexByte s.data.toList 0)) ∧ w = W := by
  have B := Lib.hid (fun W => ixb_any s W)
  go_in
  go_wp2_with (go_at_call 93; refine (B.out _).mono ?_; rintro e W ⟨rfl, rfl⟩)
  · have h : ([0] == s.toList) = true := by assumption
    go_ret
    refine ⟨?_, rfl⟩
    have e : s.data.toList = [0] := by rw [← Lib.toList_data]; exact (beq_iff_eq.1 h).symm
    rw [e]
    simp [Lib.indexByte]
  · go_ret
    exact ⟨rfl, rfl⟩
theorem ix_any (s : ByteArray) (w : World) : Calls Tryd.prog 87 #[.string s, .string ⟨#[0]⟩] w fun e W => e = .returned (.int .i64 (Lib.indexByte s.data.toList 0)) ∧ w = W := by
  have B := Lib.hid (fun W => ixl_any s W)
  go_in
  go_wp2_with (go_at_call 91; refine (B.out _).mono ?_; rintro e W ⟨rfl, rfl⟩)
  go_ret
  exact ⟨rfl, rfl⟩
/-- strings.SplitSeq: three boxes; the function value captures them. -/
theorem split_any (s : ByteArray) (w : World) : Calls Tryd.prog 73 #[.string s, .string ⟨#[0]⟩] w fun e W =>
    e = .returned (.func (.func 85) #[] #[.pointer (some ⟨w.heap.size + 1, 0, none⟩), .pointer (some ⟨w.heap.size, 0, none⟩), .pointer (some ⟨w.heap.size + 2, 0, none⟩)]) ∧
      W = ((w.alloc (.cells #[.string s] 9)).alloc (.cells #[.string ⟨#[0]⟩] 9)).alloc (.cells #[.int .i64 0] 3) := by
  have S : Calls Tryd.prog 81 #[.string s, .string ⟨#[0]⟩, .int .i64 0] w fun e W =>
    e = .returned (.func (.func 85) #[] #[.pointer (some ⟨w.heap.size + 1, 0, none⟩), .pointer (some ⟨w.heap.size, 0, none⟩), .pointer (some ⟨w.heap.size + 2, 0, none⟩)]) ∧
      W = ((w.alloc (.cells #[.string s] 9)).alloc (.cells #[.string ⟨#[0]⟩] 9)).alloc (.cells #[.int .i64 0] 3) := by
    have hmf : ∀ (fn : Fn) (first cap : Array Value) (w : World), (Instr.makeFunc fn first cap).run Tryd.prog w = .ok (.func fn first cap) w := fun _ _ _ _ => rfl
    go_in
    go_wp2_with fail
    go_ret
    exact ⟨rfl, rfl⟩
  have S := Lib.hid S
  go_in
  go_wp2_with (go_at_call 81; refine (S.out).mono ?_; rintro e W ⟨rfl, rfl⟩)
  go_ret
  exact ⟨rfl, rfl⟩
end Go.Proofs.YtjbgnlnchchgcaaDoor
