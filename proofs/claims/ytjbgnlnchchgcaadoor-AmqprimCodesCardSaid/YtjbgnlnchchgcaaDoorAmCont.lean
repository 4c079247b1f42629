/-
  The contracts of amqprim.content's methods, and of the map from widths to them. Condition: a text is no longer than an int says, a number what its type holds.
-/
import Derived.Deep.RegionHeld3
import Derived.Test.YtjbgnlnchchgcaaDoorOctPut
import Derived.Test.YtjbgnlnchchgcaaDoorMapAt
import Derived.Test.YtjbgnlnchchgcaaDoorAmFits
namespace Go.Proofs.YtjbgnlnchchgcaaDoor
open Go.RowKit

/-- A constructor and a value, as cells. -/
def coC (t : Ct) (k : Int) (n : Nat) (s : ByteArray) (x : Value) : Array Value := #[.int .i64 (t.code : Nat), .int .i64 (t.kind : Nat), .int .i64 (t.width : Nat), .bool t.sized, .bool t.items, .int .i64 k, .int .u64 (n : Nat), .string s, x]
theorem info_co : (Tryd.prog.info? 74).map (·.size) = some 9 := by kernel_rfl
theorem bs_plus (a b : List UInt8) : bs a ++ bs b = bs (a ++ b) := by
  apply ByteArray.ext; simp [bs]
section
variable (t : Ct) (k : Int) (n : Nat) (s : ByteArray) (x : Value) (w : World)
theorem nothing_any : Calls Tryd.prog 66 #[.agg (coC t k n s x)] w fun e W => e = .returned (.string ⟨#[]⟩) ∧ Below w.heap.size w W := by
  have HB := Lib.hid (below_box (w := w) (.cells (coC t k n s x) 74))
  unfold coC at *
  go_in
  go_wp2_with fail
  go_ret
  exact ⟨rfl, HB.out⟩
theorem ctext_any : Calls Tryd.prog 68 #[.agg (coC t k n s x)] w fun e W => e = .returned (.string s) ∧ Below w.heap.size w W := by
  have HB := Lib.hid (below_box (w := w) (.cells (coC t k n s x) 74))
  unfold coC at *
  go_in
  go_wp2_with fail
  go_ret
  exact ⟨rfl, HB.out⟩
end
/-- A content in its box: its width and its text, as every world since has them. -/
abbrev CoS (w : World) (C : Array Value) (z : Int) (s : ByteArray) (W : World) : Prop :=
  W.cell? ⟨w.heap.size, 2, none⟩ = some (.int .i64 z) ∧ W.cell? ⟨w.heap.size, 7, none⟩ = some (.string s) ∧ (Below w.heap.size w W ∧ W.heap[w.heap.size]? = some (.cells C 74 (0, 0)) ∧ C[2]? = some (.int .i64 z) ∧ C[7]? = some (.string s))
theorem CoS.of {w W : World} {C : Array Value} {z : Int} {s : ByteArray} (hb : Below w.heap.size w W) (h : W.heap[w.heap.size]? = some (.cells C 74 (0, 0))) (h2 : C[2]? = some (.int .i64 z)) (h7 : C[7]? = some (.string s)) : CoS w C z s W :=
  ⟨(cell_of_row _ _ 2 _ _ _ h).trans h2, (cell_of_row _ _ 7 _ _ _ h).trans h7, hb, h, h2, h7⟩
theorem CoS.call {w W W' : World} {C : Array Value} {z : Int} {s : ByteArray} (h : CoS w C z s W) (hb : Below W.heap.size W W') : CoS w C z s W' :=
  CoS.of (h.2.2.1.trans (hb.mono h.2.2.1.size)) ((hb.block _ (lt_of_block h.2.2.2.1)).trans h.2.2.2.1) h.2.2.2.2.1 h.2.2.2.2.2
/-- The bytes that content.number puts. -/
def conN (t : Ct) (n : Nat) (l : List UInt8) : List UInt8 := be (if t.sized = true then l.length else n) t.width ++ l
set_option maxHeartbeats 2000000 in
theorem cnum_any (t : Ct) (k : Int) (n : Nat) (s : ByteArray) (x : Value) (w : World) (hn : n < 18446744073709551616) (hs : s.size ≤ 1048576) (hw : t.width ≤ 16) :
    Calls Tryd.prog 67 #[.agg (coC t k n s x)] w fun e W => e = .returned (.string (bs (conN t n s.data.toList))) ∧ Below w.heap.size w W := by
  have H0 := below_box (w := w) (.cells (coC t k n s x) 74)
  have hl : s.data.toList.length = s.size := by simp
  have hz : (s.size : Int) ≤ 1048576 := by omega
  unfold conN
  rw [hl]
  obtain ⟨code, kind, width, sized, items⟩ := t
  simp only at hw ⊢
  obtain ⟨N, hN⟩ : ∃ N, (if sized = true then s.size else n) = N := ⟨_, rfl⟩
  have P := fun W => put_any N width W (by rw [← hN]; split <;> omega)
  rw [show (min (width : Int) 16).toNat = width by omega] at P
  rw [hN]
  have E := Lib.hid (show bs (be N width) ++ s = bs (be N width ++ s.data.toList) from by rw [← bs_plus]; rfl)
  have hb9 : ¬ 9223372036854775807 < (bs (be N width)).size + s.size := by rw [show (bs (be N width)).size = width by simp [bs, ByteArray.size, be_length]]; omega
  replace P := Lib.hid P
  obtain ⟨C, hC⟩ : ∃ C, coC ⟨code, kind, width, sized, items⟩ k n s x = C := ⟨_, rfl⟩
  have S0 := Lib.hid (CoS.of (C := C) (z := width) (s := s) H0.drew (by rw [hC]; exact heap_alloc_new w _) (by rw [← hC]; rfl) (by rw [← hC]; rfl))
  clear hn hs hl hw hC
  unfold coC at *
  cases sized
  all_goals
    simp only [Bool.false_eq_true, if_false, if_true] at hN
    subst hN
    go_in
    go_wp2_with fail
    have hS := S0.out
    go_region_held3 (fun W => CoS w C width s W) (exact hS)
      (first
        | (go_at_call 72; with_reducible refine (P.out _).mono ?_; rintro e w1 ⟨rfl, hb⟩; have hS := hS.call hb; clear hb))
    all_goals
      have hB := Lib.hid hS.2.2.1
      clear hS
      go_wp2_with fail
      go_ret
      exact ⟨by rw [← E.out]; rfl, hB.out⟩
end Go.Proofs.YtjbgnlnchchgcaaDoor
