/-
  The contract of amqprim.room: can a constructor's data say what is in a value of its kind? Condition: the constructor's width is one of the table's.
-/
import Derived.Test.YtjbgnlnchchgcaaDoorAmNum
import Derived.Test.YtjbgnlnchchgcaaDoorAmTable
namespace Go.Proofs.YtjbgnlnchchgcaaDoor
open Go.RowKit

def roomP (t : Ct) (k : Int) (n : Nat) (l : List UInt8) : Bool :=
  if t.sized = true then n == 0 && saysP k l.length t.width else if t.width = 16 then n == 0 && l.length == 16 else if t.code = 65 then n == 1 && l.isEmpty else saysP k n t.width && l.isEmpty
/-- The widths of the table. -/
def WidOk (t : Ct) (k : Int) : Prop := if t.sized = true then t.width = 1 ∨ t.width = 4 else (t.width = 16 ∨ t.code = 65 ∨ t.width = 0 ∨ t.width = 1 ∨ t.width = 2 ∨ t.width = 4 ∨ t.width = 8) ∧ (sgnK k = true → t.width ≠ 0)
/-- A value's cells, by their fields. -/
def vC (k : Int) (n : Nat) (s : ByteArray) (x : Value) : Array Value := #[.int .i64 k, .int .u64 (n : Nat), .string s, x]
theorem beq_nat (n m : Nat) : ((n : Int) == (m : Int)) = (n == m) := by rw [Bool.eq_iff_iff, beq_iff_eq, beq_iff_eq]; omega
theorem below_two {w : World} (o o' : Obj) : Below w.heap.size w ((w.alloc o).alloc o') := (below_box o).trans ((below_box o').mono (by simp))
theorem empty_of {s : ByteArray} (h : s.data.toList = []) : s = ⟨#[]⟩ := by
  apply ByteArray.ext; apply Array.toList_inj.1; rw [h]
theorem cell_two {w : World} (o : Obj) (cs : Array Value) (t : TypeId) (j : Nat) : ((w.alloc o).alloc (.cells cs t)).cell? ⟨w.heap.size + 1, j, none⟩ = cs[j]? :=
  cell_of_row _ _ _ _ _ _ (by have := heap_alloc_new (w.alloc o) (.cells cs t); rwa [World.size_alloc] at this)
theorem len_z {z : Nat} (h : z ≤ 9223372036854775807) : z < 18446744073709551616 := by omega
/-- What a call of room asks. -/
abbrev RoomC (t : Ct) (k : Int) (n : Nat) (s : ByteArray) (x : Value) (w : World) (b : Bool) : Prop :=
  Calls Tryd.prog 32 #[.agg (ctC t), .agg (vC k n s x)] w fun e W => e = .returned (.bool b) ∧ Below w.heap.size w W
section
variable (code kind width : Nat) (items : Bool) (k : Int) (n : Nat) (s : ByteArray) (x : Value) (w : World)
set_option maxRecDepth 100000 in
set_option maxHeartbeats 1000000 in
theorem room_sized0 (hs : s.size ≤ 9223372036854775807) (hw : width = 1 ∨ width = 4) : RoomC ⟨code, kind, width, true, items⟩ k 0 s x w (saysP k s.size width) := by
  have HB := Lib.hid (below_two (w := w) (.cells (ctC ⟨code, kind, width, true, items⟩) 32) (.cells (vC k 0 s x) 26))
  have S := Lib.hid (fun W => says_any k s.size width W (len_z hs) (by omega) (fun _ => by omega))
  have hz : (s.size : Int) ≤ 9223372036854775807 := by omega
  unfold RoomC
  unfold ctC vC at *
  clear hs hw
  go_in
  go_wp2_with (go_at_call 57; refine (S.out _).mono ?_; rintro e W ⟨rfl, hb⟩)
  go_ret
  exact ⟨by simp, HB.out.trans (hb.mono HB.out.size)⟩
set_option maxHeartbeats 1000000 in
theorem room_sized1 (h0 : ((n : Int) == 0) = false) : RoomC ⟨code, kind, width, true, items⟩ k n s x w false := by
  have HB := Lib.hid (below_two (w := w) (.cells (ctC ⟨code, kind, width, true, items⟩) 32) (.cells (vC k n s x) 26))
  unfold RoomC
  unfold ctC vC at *
  go_in
  go_wp2_with fail
  go_ret
  exact ⟨by simp_all, HB.out⟩
set_option maxHeartbeats 1000000 in
theorem room_wide0 : RoomC ⟨code, kind, 16, false, items⟩ k 0 s x w (s.size == 16) := by
  have HB := Lib.hid (below_two (w := w) (.cells (ctC ⟨code, kind, 16, false, items⟩) 32) (.cells (vC k 0 s x) 26))
  have E := Lib.hid (beq_nat s.size 16)
  unfold RoomC
  unfold ctC vC at *
  go_in
  go_wp2_with fail
  go_ret
  rw [← E.out]
  exact ⟨by simp_all, HB.out⟩
set_option maxHeartbeats 1000000 in
theorem room_wide1 (h0 : ((n : Int) == 0) = false) : RoomC ⟨code, kind, 16, false, items⟩ k n s x w false := by
  have HB := Lib.hid (below_two (w := w) (.cells (ctC ⟨code, kind, 16, false, items⟩) 32) (.cells (vC k n s x) 26))
  unfold RoomC
  unfold ctC vC at *
  go_in
  go_wp2_with fail
  go_ret
  exact ⟨by simp_all, HB.out⟩
set_option maxHeartbeats 1000000 in
theorem room_true (h16 : ((width : Int) == 16) = false) : RoomC ⟨65, kind, width, false, items⟩ k n s x w (n == 1 && s.data.toList.isEmpty) := by
  have HB := Lib.hid (below_two (w := w) (.cells (ctC ⟨65, kind, width, false, items⟩) 32) (.cells (vC k n s x) 26))
  have E := Lib.hid (beq_nat n 1)
  unfold RoomC
  unfold ctC vC at *
  by_cases h1 : n = 1
  · subst h1
    go_in
    go_wp2_with fail
    go_ret
    exact ⟨by simp [toList_data], HB.out⟩
  · have h2 : ((n : Int) == 1) = false := by simp; omega
    rw [← E.out, show ((n : Int) == ((1 : Nat) : Int)) = false from h2]
    clear h1
    go_in
    go_wp2_with fail
    go_ret
    exact ⟨by simp_all, HB.out⟩
set_option maxHeartbeats 1000000 in
theorem room_says (hn : n < 18446744073709551616) (h16 : ((width : Int) == 16) = false) (h65 : ((code : Int) == 65) = false) (hw : width = 0 ∨ width = 1 ∨ width = 2 ∨ width = 4 ∨ width = 8) (hk : sgnK k = true → width ≠ 0) :
    RoomC ⟨code, kind, width, false, items⟩ k n s x w (saysP k n width && s.data.toList.isEmpty) := by
  have HB := Lib.hid (below_two (w := w) (.cells (ctC ⟨code, kind, width, false, items⟩) 32) (.cells (vC k n s x) 26))
  have S := Lib.hid (fun W => says_any k n width W hn hw hk)
  unfold RoomC
  unfold ctC vC at *
  have C2 := Lib.hid (cell_two (w := w) (.cells #[.int .i64 (code : Nat), .int .i64 (kind : Nat), .int .i64 (width : Nat), .bool false, .bool items] 32) #[.int .i64 k, .int .u64 (n : Nat), .string s, x] 26 2)
  clear hn hw hk
  obtain ⟨b, hsp⟩ : ∃ b, saysP k n width = b := ⟨_, rfl⟩
  rw [hsp] at S ⊢
  clear hsp
  cases b
  all_goals
    go_in
    go_wp2_with (go_at_call 57; refine (S.out _).mono ?_; rintro e W ⟨rfl, hb⟩; have c2 : W.cell? ⟨w.heap.size + 1, 2, none⟩ = some (.string s) := (hb.cell (p := ⟨w.heap.size + 1, 2, none⟩) (by simp)).trans C2.out)
    go_ret
    exact ⟨by simp [toList_data], HB.out.trans (hb.mono HB.out.size)⟩
end
theorem room_any (t : Ct) (k : Int) (n : Nat) (s : ByteArray) (x : Value) (w : World) (hn : n < 18446744073709551616) (hs : s.size ≤ 9223372036854775807) (hw : WidOk t k) : RoomC t k n s x w (roomP t k n s.data.toList) := by
  have hl : s.data.toList.length = s.size := by simp
  obtain ⟨code, kind, width, sized, items⟩ := t
  unfold roomP
  unfold WidOk at hw
  simp only at hw ⊢
  rw [hl]
  have hz : n ≠ 0 → ((n : Int) == 0) = false := fun h => by simp; omega
  cases sized
  · simp only [Bool.false_eq_true, if_false] at hw ⊢
    by_cases h16 : width = 16
    · subst h16
      rw [if_pos rfl]
      by_cases h0 : n = 0
      · subst h0
        exact room_wide0 code kind items k s x w
      · rw [show (n == 0) = false by simp [h0], Bool.false_and]
        exact room_wide1 _ _ _ _ _ _ _ _ (hz h0)
    · rw [if_neg h16]
      have e16 : ((width : Int) == 16) = false := by simp; omega
      by_cases h65 : code = 65
      · subst h65
        rw [if_pos rfl]
        exact room_true _ _ _ _ _ _ _ _ e16
      · rw [if_neg h65]
        refine room_says _ _ _ _ _ _ _ _ _ hn e16 (by simp; omega) (by omega) hw.2
  · simp only [if_true] at hw ⊢
    by_cases h0 : n = 0
    · subst h0
      exact room_sized0 _ _ _ _ _ _ _ _ hs hw
    · rw [show (n == 0) = false by simp [h0], Bool.false_and]
      exact room_sized1 _ _ _ _ _ _ _ _ _ (hz h0)
end Go.Proofs.YtjbgnlnchchgcaaDoor
