/-
  The contracts of amqprim.signed, number and says: numbers of so many bytes, in two's complement where their kind is signed. Condition: the bytes are 0, 1, 2, 4 or 8, and of a signed kind not 0. The contract of amqprim.room: can a constructor's data say what is in a value of its kind? Condition: the constructor's width is one of the table's.
-/
import Derived.Test.YtjbgnlnchchgcaaDoorOctGet
import Derived.Test.YtjbgnlnchchgcaaDoorOctPut
import Derived.Test.YtjbgnlnchchgcaaDoorAmPlain
import Derived.Test.YtjbgnlnchchgcaaDoorKit
import Derived.Test.YtjbgnlnchchgcaaDoorAmTable
namespace Go.Proofs.YtjbgnlnchchgcaaDoor
open Go.RowKit

/-- Is a kind's number signed? -/
def sgnK (k : Int) : Bool := k == 7 || k == 8 || k == 9 || k == 10 || k == 17
theorem sgn_cases (k : Int) : ((k = 7 ∨ k = 8 ∨ k = 9 ∨ k = 10 ∨ k = 17) ∧ sgnK k = true) ∨ (((k == 7) = false ∧ (k == 8) = false ∧ (k == 9) = false ∧ (k == 10) = false ∧ (k == 17) = false) ∧ sgnK k = false) := by
  unfold sgnK
  by_cases h : k = 7 ∨ k = 8 ∨ k = 9 ∨ k = 10 ∨ k = 17
  · exact .inl ⟨h, by rcases h with rfl | rfl | rfl | rfl | rfl <;> rfl⟩
  · refine .inr ⟨⟨?_, ?_, ?_, ?_, ?_⟩, ?_⟩ <;> simp <;> omega
set_option maxHeartbeats 1000000 in
theorem sgn_any (k : Int) (w : World) : Calls Tryd.prog 79 #[.int .i64 k] w fun e W => e = .returned (.bool (sgnK k)) ∧ w = W := by
  rcases sgn_cases k with ⟨h, e⟩ | ⟨⟨h1, h2, h3, h4, h5⟩, e⟩
  · rw [e]
    rcases h with rfl | rfl | rfl | rfl | rfl
    all_goals
      go_in
      go_wp2_with fail
      go_ret
      exact ⟨rfl, rfl⟩
  · rw [e]
    clear e
    go_in
    go_wp2_with fail
    go_ret
    exact ⟨rfl, rfl⟩
/-- The number for which a number of w bytes stands in a signed kind. -/
def extW (w n : Nat) : Nat := if 2 ^ (8 * w - 1) ≤ n then n + 18446744073709551616 - 2 ^ (8 * w) else n
def numK (k : Int) (l : List UInt8) : Nat := if sgnK k = true then extW l.length (num l) else num l
theorem wrap_u (z : Int) : IntKind.u64.wrap z = z % 18446744073709551616 := rfl
theorem ext_1 {n : Nat} (h : n < 256 ^ 1) : IntKind.u64.wrap (wrap64 ((n : Int) * 72057594037927936) / 72057594037927936) = ((extW 1 n : Nat) : Int) := by
  rw [wrap_u]; unfold wrap64 extW; split <;> omega
theorem ext_2 {n : Nat} (h : n < 256 ^ 2) : IntKind.u64.wrap (wrap64 ((n : Int) * 281474976710656) / 281474976710656) = ((extW 2 n : Nat) : Int) := by
  rw [wrap_u]; unfold wrap64 extW; split <;> omega
theorem ext_4 {n : Nat} (h : n < 256 ^ 4) : IntKind.u64.wrap (wrap64 ((n : Int) * 4294967296) / 4294967296) = ((extW 4 n : Nat) : Int) := by
  rw [wrap_u]; unfold wrap64 extW; split <;> omega
theorem ext_8 {n : Nat} (h : n < 256 ^ 8) : IntKind.u64.wrap (wrap64 (n : Int)) = ((extW 8 n : Nat) : Int) := by
  rw [wrap_u]; unfold wrap64 extW; split <;> omega
set_option maxHeartbeats 2000000 in
theorem numk_any (k : Int) (s : ByteArray) (w : World) (hs : s.size = 0 ∨ s.size = 1 ∨ s.size = 2 ∨ s.size = 4 ∨ s.size = 8) (hk : sgnK k = true → s.size ≠ 0) :
    Calls Tryd.prog 64 #[.int .i64 k, .string s] w fun e W => e = .returned (.int .u64 (numK k s.data.toList : Nat)) ∧ w = W := by
  have G := get_any s w (by omega)
  rw [show s.size - 8 = 0 by omega, List.drop_zero] at G
  have SG := Lib.hid (fun W => sgn_any k W)
  unfold numK
  cases hc : sgnK k
  · rw [hc] at SG
    rw [if_neg (by simp)]
    generalize num s.data.toList = n at *
    clear hk hc
    have G := Lib.hid G
    go_in
    go_wp2_with (first
      | (go_at_call 78; refine (G.out).mono ?_; rintro e W ⟨rfl, rfl⟩)
      | (go_at_call 79; refine (SG.out _).mono ?_; rintro e W ⟨rfl, rfl⟩))
    go_ret
    exact ⟨rfl, rfl⟩
  · rw [hc] at SG
    rw [if_pos rfl]
    have hl : s.data.toList.length = s.size := by simp
    have hb := num_lt s.data.toList
    rw [hl] at hb ⊢
    have h0 := hk hc
    generalize num s.data.toList = n at *
    clear hk hc hl
    have G := Lib.hid G
    rcases hs with h | h | h | h | h
    · exact absurd h h0
    · rw [h] at hb ⊢
      clear h0
      have X := Lib.hid (ext_1 hb)
      go_in
      go_wp2_with (first
        | (go_at_call 78; refine (G.out).mono ?_; rintro e W ⟨rfl, rfl⟩)
        | (go_at_call 79; refine (SG.out _).mono ?_; rintro e W ⟨rfl, rfl⟩))
      go_ret
      exact ⟨congrArg Ending.returned (congrArg (Value.int IntKind.u64) X.out), rfl⟩
    · rw [h] at hb ⊢
      clear h0
      have X := Lib.hid (ext_2 hb)
      go_in
      go_wp2_with (first
        | (go_at_call 78; refine (G.out).mono ?_; rintro e W ⟨rfl, rfl⟩)
        | (go_at_call 79; refine (SG.out _).mono ?_; rintro e W ⟨rfl, rfl⟩))
      go_ret
      exact ⟨congrArg Ending.returned (congrArg (Value.int IntKind.u64) X.out), rfl⟩
    · rw [h] at hb ⊢
      clear h0
      have X := Lib.hid (ext_4 hb)
      go_in
      go_wp2_with (first
        | (go_at_call 78; refine (G.out).mono ?_; rintro e W ⟨rfl, rfl⟩)
        | (go_at_call 79; refine (SG.out _).mono ?_; rintro e W ⟨rfl, rfl⟩))
      go_ret
      exact ⟨congrArg Ending.returned (congrArg (Value.int IntKind.u64) X.out), rfl⟩
    · rw [h] at hb ⊢
      clear h0
      have X := Lib.hid (ext_8 hb)
      go_in
      go_wp2_with (first
        | (go_at_call 78; refine (G.out).mono ?_; rintro e W ⟨rfl, rfl⟩)
        | (go_at_call 79; refine (SG.out _).mono ?_; rintro e W ⟨rfl, rfl⟩))
      go_ret
      exact ⟨congrArg Ending.returned (congrArg (Value.int IntKind.u64) X.out), rfl⟩
/-- Can w bytes say n? -/
def saysP (k : Int) (n w : Nat) : Bool := if sgnK k = true then signedA n (8 * w) else decide (n < 256 ^ w)
theorem says_eq (k : Int) (n w : Nat) (hn : n < 18446744073709551616) (hw : w = 0 ∨ w = 1 ∨ w = 2 ∨ w = 4 ∨ w = 8) (hk : sgnK k = true → w ≠ 0) :
    (((numK k (be n w) : Nat) : Int) == (n : Int)) = saysP k n w := by
  have e : (((numK k (be n w) : Nat) : Int) == (n : Int)) = decide (numK k (be n w) = n) := by rw [Bool.eq_iff_iff]; simp; omega
  rw [e]
  unfold numK saysP signedA
  rw [num_be, be_length]
  cases hc : sgnK k
  · simp only [Bool.false_eq_true, if_false]
    rw [decide_eq_decide]
    rcases hw with rfl | rfl | rfl | rfl | rfl
    all_goals omega
  · simp only [if_true]
    have h0 := hk hc
    rw [← Bool.decide_or, decide_eq_decide]
    unfold extW
    rcases hw with rfl | rfl | rfl | rfl | rfl
    · exact absurd rfl h0
    all_goals
      split <;> omega
theorem says_any (k : Int) (n : Nat) (z : Nat) (w : World) (hn : n < 18446744073709551616) (hw : z = 0 ∨ z = 1 ∨ z = 2 ∨ z = 4 ∨ z = 8) (hk : sgnK k = true → z ≠ 0) :
    Calls Tryd.prog 57 #[.int .i64 k, .int .u64 (n : Nat), .int .i64 (z : Nat)] w fun e W => e = .returned (.bool (saysP k n z)) ∧ Below w.heap.size w W := by
  have P := put_any n z w hn
  rw [show (min (z : Int) 16).toNat = z by omega] at P
  have hl : (bs (be n z)).size = z := by simp [bs, ByteArray.size, be_length]
  have N := fun W => numk_any k (bs (be n z)) W (by omega) (by rw [hl]; exact hk)
  rw [show (bs (be n z)).data.toList = be n z from rfl] at N
  have E := Lib.hid (says_eq k n z hn hw hk)
  generalize numK k (be n z) = x at *
  have P := Lib.hid P
  have N := Lib.hid N
  clear hn hw hk hl
  go_in
  go_wp2_with (first
    | (go_at_call 72; refine (P.out).mono ?_; rintro e W ⟨rfl, hb⟩)
    | (go_at_call 64; refine (N.out _).mono ?_; rintro e W' ⟨rfl, rfl⟩))
  go_ret
  rw [← E.out]
  exact ⟨rfl, hb⟩
open Go.RowKit

def roomP (t : Ct) (k : Int) (n : Nat) (l : List UInt8) : Bool :=
  if t.sized = true then n == 0 && saysP k l.length t.width else if t.width = 16 then n == 0 && l.length == 16 else if t.code = 65 then n == 1 && l.isEmpty else saysP k n t.width && l.isEmpty
/-- The widths of the table. -/
def WidOk (t : Ct) (k : Int) : Prop := if t.sized = true then t.width = 1 ∨ t.width = 4 else (t.width = 16 ∨ t.code = 65 ∨ t.width = 0 ∨ t.width = 1 ∨ t.width = 2 ∨ t.width = 4 ∨ t.width = 8) ∧ (sgnK k = true → t.width ≠ 0)
/-- A value's cells, by their fields. -/
def vC (k : Int) (n : Nat) (s : ByteArray) (x : Value) : Array Value := #[.int .i64 k, .int .u64 (n : Nat), .string s, x]
theorem beq_nat (n m : Nat) : ((n : Int) == (m : Int)) = (n == m) := by rw [Bool.eq_iff_iff, beq_iff_eq, beq_iff_eq]; omega
theorem below_two {w : World} (o o' : Obj) : Below w.heap.size w ((w.alloc o).alloc o') := (below_box o).trans ((below_box o').mono (by simp))
theorem empty_of {s : ByteArray} (h : s.data.toList = []) : s = ⟨#[]⟩ := by
  apply ByteArray.ext; apply Array.toList_inj.1; rw [h]
theorem cell_two {w : World} (o : Obj) (cs : Array Value) (t : TypeId) (j : Nat) : ((w.alloc o).alloc (.cells cs t)).cell? ⟨w.heap.size + 1, j, none⟩ = cs[j]? :=
  cell_of_row _ _ _ _ _ _ (by have := heap_alloc_new (w.alloc o) (.cells cs t); rwa [World.size_alloc] at this)
theorem len_z {z : Nat} (h : z ≤ 9223372036854775807) : z < 18446744073709551616 := by omega
/-- What a call of room asks. -/
abbrev RoomC (t : Ct) (k : Int) (n : Nat) (s : ByteArray) (x : Value) (w : World) (b : Bool) : Prop :=
  Calls Tryd.prog 32 #[.agg (ctC t), .agg (vC k n s x)] w fun e W => e = .returned (.bool b) ∧ Below w.heap.size w W
section
variable (code kind width : Nat) (items : Bool) (k : Int) (n : Nat) (s : ByteArray) (x : Value) (w : World)
set_option maxRecDepth 100000 in
set_option maxHeartbeats 1000000 in
theorem room_sized0 (hs : s.size ≤ 9223372036854775807) (hw : width = 1 ∨ width = 4) : RoomC ⟨code, kind, width, true, items⟩ k 0 s x w (saysP k s.size width) := by
  have HB := Lib.hid (below_two (w := w) (.cells (ctC ⟨code, kind, width, true, items⟩) 32) (.cells (vC k 0 s x) 26))
  have S := Lib.hid (fun W => says_any k s.size width W (len_z hs) (by omega) (fun _ => by omega))
  have hz : (s.size : Int) ≤ 9223372036854775807 := by omega
  unfold RoomC
  unfold ctC vC at *
  clear hs hw
  go_in
  go_wp2_with (go_at_call 57; refine (S.out _).mono ?_; rintro e W ⟨rfl, hb⟩)
  go_ret
  exact ⟨by simp, HB.out.trans (hb.mono HB.out.size)⟩
set_option maxHeartbeats 1000000 in
theorem room_sized1 (h0 : ((n : Int) == 0) = false) : RoomC ⟨code, kind, width, true, items⟩ k n s x w false := by
  have HB := Lib.hid (below_two (w := w) (.cells (ctC ⟨code, kind, width, true, items⟩) 32) (.cells (vC k n s x) 26))
  unfold RoomC
  unfold ctC vC at *
  go_in
  go_wp2_with fail
  go_ret
  exact ⟨by simp_all, HB.out⟩
set_option maxHeartbeats 1000000 in
theorem room_wide0 : RoomC ⟨code, kind, 16, false, items⟩ k 0 s x w (s.size == 16) := by
  have HB := Lib.hid (below_two (w := w) (.cells (ctC ⟨code, kind, 16, false, items⟩) 32) (.cells (vC k 0 s x) 26))
  have E := Lib.hid (beq_nat s.size 16)
  unfold RoomC
  unfold ctC vC at *
  go_in
  go_wp2_with fail
  go_ret
  rw [← E.out]
  exact ⟨by simp_all, HB.out⟩
set_option maxHeartbeats 1000000 in
theorem room_wide1 (h0 : ((n : Int) == 0) = false) : RoomC ⟨code, kind, 16, false, items⟩ k n s x w false := by
  have HB := Lib.hid (below_two (w := w) (.cells (ctC ⟨code, kind, 16, false, items⟩) 32) (.cells (vC k n s x) 26))
  unfold RoomC
  unfold ctC vC at *
  go_in
  go_wp2_with fail
  go_ret
  exact ⟨by simp_all, HB.out⟩
set_option maxHeartbeats 1000000 in
theorem room_true (h16 : ((width : Int) == 16) = false) : RoomC ⟨65, kind, width, false, items⟩ k n s x w (n == 1 && s.data.toList.isEmpty) := by
  have HB := Lib.hid (below_two (w := w) (.cells (ctC ⟨65, kind, width, false, items⟩) 32) (.cells (vC k n s x) 26))
  have E := Lib.hid (beq_nat n 1)
  unfold RoomC
  unfold ctC vC at *
  by_cases h1 : n = 1
  · subst h1
    go_in
    go_wp2_with fail
    go_ret
    exact ⟨by simp [toList_data], HB.out⟩
  · have h2 : ((n : Int) == 1) = false := by simp; omega
    rw [← E.out, show ((n : Int) == ((1 : Nat) : Int)) = false from h2]
    clear h1
    go_in
    go_wp2_with fail
    go_ret
    exact ⟨by simp_all, HB.out⟩
set_option maxHeartbeats 1000000 in
theorem room_says (hn : n < 18446744073709551616) (h16 : ((width : Int) == 16) = false) (h65 : ((code : Int) == 65) = false) (hw : width = 0 ∨ width = 1 ∨ width = 2 ∨ width = 4 ∨ width = 8) (hk : sgnK k = true → width ≠ 0) :
    RoomC ⟨code, kind, width, false, items⟩ k n s x w (saysP k n width && s.data.toList.isEmpty) := by
  have HB := Lib.hid (below_two (w := w) (.cells (ctC ⟨code, kind, width, false, items⟩) 32) (.cells (vC k n s x) 26))
  have S := Lib.hid (fun W => says_any k n width W hn hw hk)
  unfold RoomC
  unfold ctC vC at *
  have C2 := Lib.hid (cell_two (w := w) (.cells #[.int .i64 (code : Nat), .int .i64 (kind : Nat), .int .i64 (width : Nat), .bool false, .bool items] 32) #[.int .i64 k, .int .u64 (n : Nat), .string s, x] 26 2)
  clear hn hw hk
  obtain ⟨b, hsp⟩ : ∃ b, saysP k n width = b := ⟨_, rfl⟩
  rw [hsp] at S ⊢
  clear hsp
  cases b
  all_goals
    go_in
    go_wp2_with (go_at_call 57; refine (S.out _).mono ?_; rintro e W ⟨rfl, hb⟩; have c2 : W.cell? ⟨w.heap.size + 1, 2, none⟩ = some (.string s) := (hb.cell (p := ⟨w.heap.size + 1, 2, none⟩) (by simp)).trans C2.out)
    go_ret
    exact ⟨by simp [toList_data], HB.out.trans (hb.mono HB.out.size)⟩
end
theorem room_any (t : Ct) (k : Int) (n : Nat) (s : ByteArray) (x : Value) (w : World) (hn : n < 18446744073709551616) (hs : s.size ≤ 9223372036854775807) (hw : WidOk t k) : RoomC t k n s x w (roomP t k n s.data.toList) := by
  have hl : s.data.toList.length = s.size := by simp
  obtain ⟨code, kind, width, sized, items⟩ := t
  unfold roomP
  unfold WidOk at hw
  simp only at hw ⊢
  rw [hl]
  have hz : n ≠ 0 → ((n : Int) == 0) = false := fun h => by simp; omega
  cases sized
  · simp only [Bool.false_eq_true, if_false] at hw ⊢
    by_cases h16 : width = 16
    · subst h16
      rw [if_pos rfl]
      by_cases h0 : n = 0
      · subst h0
        exact room_wide0 code kind items k s x w
      · rw [show (n == 0) = false by simp [h0], Bool.false_and]
        exact room_wide1 _ _ _ _ _ _ _ _ (hz h0)
    · rw [if_neg h16]
      have e16 : ((width : Int) == 16) = false := by simp; omega
      by_cases h65 : code = 65
      · subst h65
        rw [if_pos rfl]
        exact room_true _ _ _ _ _ _ _ _ e16
      · rw [if_neg h65]
        refine room_says _ _ _ _ _ _ _ _ _ hn e16 (by simp; omega) (by omega) hw.2
  · simp only [if_true] at hw ⊢
    by_cases h0 : n = 0
    · subst h0
      exact room_sized0 _ _ _ _ _ _ _ _ hs hw
    · rw [show (n == 0) = false by simp [h0], Bool.false_and]
      exact room_sized1 _ _ _ _ _ _ _ _ _ (hz h0)
end Go.Proofs.YtjbgnlnchchgcaaDoor
