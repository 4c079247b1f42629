/-
  The contracts of octet's cursor. No condition but the length of its string.
-/
import Derived.Test.YtjbgnlnchchgcaaDoorOctGet
import Derived.LaidEqlPtr
import Derived.BigQuiet
import Derived.Deep.QuietTactic
namespace Go.Proofs.YtjbgnlnchchgcaaDoor
open Go.RowKit

/-- The cells of a cursor that lies in block b. -/
def curCells (b : Nat) (s : ByteArray) (i : Nat) (e : Int) : Array Value := #[.pointer (some ⟨b, 0, none⟩), .string s, .int .i64 i, .int .i64 e]
/-- Block b is a cursor with string s, position i and error e. -/
def Cur (w : World) (b : Nat) (s : ByteArray) (i : Nat) (e : Int) : Prop := w.heap[b]? = some (.cells (curCells b s i e) 88 (0, 0))

section
variable {w w' : World} {b : Nat} {s : ByteArray} {i : Nat} {e : Int}
theorem Cur.lt (h : Cur w b s i e) : b < w.heap.size := lt_of_block h
theorem Cur.cell (h : Cur w b s i e) (j : Nat) : w.cell? ⟨b, j, none⟩ = (curCells b s i e)[j]? := cell_of_row w b j _ _ (0, 0) h
theorem Cur.c0 (h : Cur w b s i e) : w.cell? ⟨b, 0, none⟩ = some (.pointer (some ⟨b, 0, none⟩)) := h.cell 0
theorem Cur.c1 (h : Cur w b s i e) : w.cell? ⟨b, 1, none⟩ = some (.string s) := h.cell 1
theorem Cur.c2 (h : Cur w b s i e) : w.cell? ⟨b, 2, none⟩ = some (.int .i64 i) := h.cell 2
theorem Cur.c3 (h : Cur w b s i e) : w.cell? ⟨b, 3, none⟩ = some (.int .i64 e) := h.cell 3
theorem Cur.fr (h : Cur w b s i e) (j : Nat) : w.frozen? ⟨b, j, none⟩ = false := by unfold Cur at h; simp [World.frozen?, h]
theorem Cur.draws (h : Cur w b s i e) (n : Nat) : Cur (w.drewN n) b s i e := h
theorem Cur.of_block (h : Cur w b s i e) (hb : w'.heap[b]? = w.heap[b]?) : Cur w' b s i e := hb.trans h
theorem Cur.to (h : Cur w b s i e) (k : Nat) : Cur (w.setCell ⟨b, 2, none⟩ (.int .i64 k)) b s k e := setCell_block h 2 _
theorem Cur.fail (h : Cur w b s i e) (f : Int) : Cur (w.setCell ⟨b, 3, none⟩ (.int .i64 f)) b s i f := setCell_block h 3 _
end

theorem cur_info : ∃ j, Tryd.prog.info? 88 = some j := Option.isSome_iff_exists.1 (by kernel_rfl)

set_option maxHeartbeats 400000 in
theorem valid_yes {w : World} {b : Nat} {s : ByteArray} {i : Nat} {e : Int} (hc : Cur w b s i e) :
    Calls Tryd.prog 65 #[.pointer (some ⟨b, 0, none⟩)] w fun e w' => e = .returned (.bool true) ∧ w = w' := by
  obtain ⟨j, hj⟩ := cur_info
  have heq := fun W : World => run_eql_ptr_same (P := Tryd.prog) W ⟨b, 0, none⟩ Tryd.underlying65 hj
  have h0 := hc.c0
  clear hj
  go_enter Tryd.func65, Tryd.ntmps65
  go_wp2
  go_ret
  exact ⟨rfl, rfl⟩
theorem valid_nil (w : World) :
    Calls Tryd.prog 65 #[.pointer none] w fun e w' => e = .returned (.bool false) ∧ w = w' := by
  go_enter Tryd.func65, Tryd.ntmps65
  go_wp2
  go_ret
  exact ⟨rfl, rfl⟩

/-- octet.New. -/
theorem new_any (s : ByteArray) (w : World) :
    Calls Tryd.prog 39 #[.string s] w fun e w' => e = .returned (.pointer (some ⟨w.heap.size, 0, none⟩)) ∧ Cur w' w.heap.size s 0 0 ∧ Below w.heap.size w w' ∧ w'.heap.size = w.heap.size + 1 := by
  go_enter Tryd.func39, Tryd.ntmps39
  go_wp2
  go_ret
  exact ⟨rfl, heap_alloc_new w _, (Below.refl _ _).alloc (Nat.le_refl _) _, by simp⟩

theorem err_yes {w : World} {b : Nat} {s : ByteArray} {i : Nat} {e : Int} (hc : Cur w b s i e) :
    Calls Tryd.prog 41 #[.pointer (some ⟨b, 0, none⟩)] w fun e' w' => e' = .returned (.int .i64 e) ∧ w = w' := by
  have h3 := hc.c3
  go_enter Tryd.func41, Tryd.ntmps41
  go_wp2_with (go_at_call 65; refine (valid_yes hc).mono ?_; rintro e' w' ⟨rfl, rfl⟩)
  go_ret
  exact ⟨rfl, rfl⟩
theorem err_nil (w : World) :
    Calls Tryd.prog 41 #[.pointer none] w fun e' w' => e' = .returned (.int .i64 1) ∧ w = w' := by
  go_enter Tryd.func41, Tryd.ntmps41
  go_wp2_with (go_at_call 65; refine (valid_nil _).mono ?_; rintro e' w' ⟨rfl, rfl⟩)
  go_ret
  exact ⟨rfl, rfl⟩

/-- The rest of a cursor's string. -/
theorem rest_yes {w : World} {b : Nat} {s : ByteArray} {i : Nat} {e : Int} (hc : Cur w b s i e) (hi : i ≤ s.size) (_ : s.size ≤ 9223372036854775807) :
    Calls Tryd.prog 84 #[.pointer (some ⟨b, 0, none⟩)] w fun e' w' => e' = .returned (.string (s.extract i s.size)) ∧ ∃ n, w' = w.drewN n := by
  have h1 := hc.c1
  have h2 := hc.c2
  go_enter Tryd.func84, Tryd.ntmps84
  go_wp2_with (go_at_call 65; refine (valid_yes hc).mono ?_; rintro e' w' ⟨rfl, rfl⟩)
  go_quiet (fail)
  go_wp2
  go_ret
  exact ⟨rfl, _, rfl⟩
theorem rest_nil (w : World) :
    Calls Tryd.prog 84 #[.pointer none] w fun e' w' => e' = .returned (.string ⟨#[]⟩) ∧ w = w' := by
  go_enter Tryd.func84, Tryd.ntmps84
  go_wp2_with (go_at_call 65; refine (valid_nil _).mono ?_; rintro e' w' ⟨rfl, rfl⟩)
  go_ret
  exact ⟨rfl, rfl⟩

theorem fail_yes {w : World} {b : Nat} {s : ByteArray} {i : Nat} (f : Int) (hc : Cur w b s i 0) :
    Calls Tryd.prog 77 #[.pointer (some ⟨b, 0, none⟩), .int .i64 f] w fun e' w' => e' = .returned (.tuple #[]) ∧ Cur w' b s i f ∧ w.grownBy w' (some b) := by
  have h3 := hc.c3
  have f3 := hc.fr 3
  go_enter Tryd.func77, Tryd.ntmps77
  go_wp2_with (go_at_call 65; refine (valid_yes hc).mono ?_; rintro e' w' ⟨rfl, rfl⟩)
  go_end0
  exact ⟨rfl, hc.fail f, block_kept _ _ _ _⟩
theorem fail_no {w : World} {b : Nat} {s : ByteArray} {i : Nat} {e : Int} (f : Int) (hc : Cur w b s i e) (he : (e == 0) = false) :
    Calls Tryd.prog 77 #[.pointer (some ⟨b, 0, none⟩), .int .i64 f] w fun e' w' => e' = .returned (.tuple #[]) ∧ w = w' := by
  have h3 := hc.c3
  go_enter Tryd.func77, Tryd.ntmps77
  go_wp2_with (go_at_call 65; refine (valid_yes hc).mono ?_; rintro e' w' ⟨rfl, rfl⟩)
  go_end0
  exact ⟨rfl, rfl⟩
theorem fail_nil (f : Int) (w : World) :
    Calls Tryd.prog 77 #[.pointer none, .int .i64 f] w fun e' w' => e' = .returned (.tuple #[]) ∧ w = w' := by
  go_enter Tryd.func77, Tryd.ntmps77
  go_wp2_with (go_at_call 65; refine (valid_nil _).mono ?_; rintro e' w' ⟨rfl, rfl⟩)
  go_end0
  exact ⟨rfl, rfl⟩

theorem left_yes {w : World} {b : Nat} {s : ByteArray} {i : Nat} {e : Int} (hc : Cur w b s i e) (hi : i ≤ s.size) (hm : s.size ≤ 9223372036854775807) :
    Calls Tryd.prog 76 #[.pointer (some ⟨b, 0, none⟩)] w fun e' w' => e' = .returned (.int .i64 ((s.size - i : Nat) : Int)) ∧ ∃ n, w' = w.drewN n := by
  go_enter Tryd.func76, Tryd.ntmps76
  go_wp2_with (go_at_call 84; refine (rest_yes hc hi hm).mono ?_; rintro e' w' ⟨rfl, n, rfl⟩)
  go_ret
  exact ⟨by congr 2, _, rfl⟩
theorem left_nil (w : World) :
    Calls Tryd.prog 76 #[.pointer none] w fun e' w' => e' = .returned (.int .i64 0) ∧ w = w' := by
  go_enter Tryd.func76, Tryd.ntmps76
  go_wp2_with (go_at_call 84; refine (rest_nil _).mono ?_; rintro e' w' ⟨rfl, rfl⟩)
  go_ret
  exact ⟨rfl, rfl⟩

theorem take_err {w : World} {b : Nat} {s : ByteArray} {i : Nat} {e : Int} (n : Int) (hc : Cur w b s i e) (he : (e == 0) = false) :
    Calls Tryd.prog 62 #[.pointer (some ⟨b, 0, none⟩), .int .i64 n] w fun e' w' => e' = .returned (.string ⟨#[]⟩) ∧ w = w' := by
  have he' : (e != 0) = true := by simp_all
  go_enter Tryd.func62, Tryd.ntmps62
  go_wp2_with (go_at_call 41; refine (err_yes hc).mono ?_; rintro e' w' ⟨rfl, rfl⟩)
  go_ret
  exact ⟨rfl, rfl⟩
theorem take_nil (n : Int) (w : World) :
    Calls Tryd.prog 62 #[.pointer none, .int .i64 n] w fun e' w' => e' = .returned (.string ⟨#[]⟩) ∧ w = w' := by
  go_enter Tryd.func62, Tryd.ntmps62
  go_wp2_with (go_at_call 41; refine (err_nil _).mono ?_; rintro e' w' ⟨rfl, rfl⟩)
  go_ret
  exact ⟨rfl, rfl⟩
theorem take_neg {w : World} {b : Nat} {s : ByteArray} {i : Nat} (n : Int) (hc : Cur w b s i 0) (hn : n < 0) :
    Calls Tryd.prog 62 #[.pointer (some ⟨b, 0, none⟩), .int .i64 n] w fun e' w' => e' = .returned (.string ⟨#[]⟩) ∧ Cur w' b s i 3 ∧ w.grownBy w' (some b) := by
  go_enter Tryd.func62, Tryd.ntmps62
  go_wp2_with (first
    | (go_at_call 41; refine (err_yes hc).mono ?_; rintro e' w' ⟨rfl, rfl⟩)
    | (go_at_call 77; refine (fail_yes _ hc).mono ?_; rintro e' w' ⟨rfl, hc', hg⟩))
  go_ret
  exact ⟨rfl, hc', hg⟩
theorem take_past {w : World} {b : Nat} {s : ByteArray} {i : Nat} (n : Int) (hc : Cur w b s i 0) (hi : i ≤ s.size) (hm : s.size ≤ 9223372036854775807) (hn : ((s.size - i : Nat) : Int) < n) :
    Calls Tryd.prog 62 #[.pointer (some ⟨b, 0, none⟩), .int .i64 n] w fun e' w' => e' = .returned (.string ⟨#[]⟩) ∧ Cur w' b s i 3 ∧ w.grownBy w' (some b) := by
  have h0 : ¬ n < 0 := by omega
  go_enter Tryd.func62, Tryd.ntmps62
  go_wp2_with (first
    | (go_at_call 41; refine (err_yes hc).mono ?_; rintro e' w' ⟨rfl, rfl⟩)
    | (go_at_call 76; refine (left_yes hc hi hm).mono ?_; rintro e' w' ⟨rfl, nq, rfl⟩)
    | (go_at_call 77; refine (fail_yes _ (hc.draws nq)).mono ?_; rintro e' w' ⟨rfl, hc', hg⟩))
  go_ret
  exact ⟨rfl, hc', grown_of_draws hg⟩
theorem take_ok {w : World} {b : Nat} {s : ByteArray} {i : Nat} (n : Nat) (hc : Cur w b s i 0) (hi : i + n ≤ s.size) (hm : s.size ≤ 9223372036854775807) :
    Calls Tryd.prog 62 #[.pointer (some ⟨b, 0, none⟩), .int .i64 n] w fun e' w' => e' = .returned (.string (s.extract i (i + n))) ∧ Cur w' b s (i + n) 0 ∧ w.grownBy w' (some b) := by
  have hn : ¬ ((s.size - i : Nat) : Int) < (n : Int) := by omega
  have h1 := hc.c1
  have h2 := hc.c2
  have f2 := hc.fr 2
  go_enter Tryd.func62, Tryd.ntmps62
  go_wp2_with (first
    | (go_at_call 41; refine (err_yes hc).mono ?_; rintro e' w' ⟨rfl, rfl⟩)
    | (go_at_call 76; refine (left_yes hc (by omega) hm).mono ?_; rintro e' w' ⟨rfl, nq, rfl⟩))
  go_quiet (fail)
  go_wp2
  go_ret
  exact ⟨rfl, (hc.draws _).to (i + n), grown_of_draws (block_kept _ _ _ _)⟩

/-- The number of a string's last eight bytes. -/
def numOf (s : ByteArray) : Nat := num (s.data.toList.drop (s.size - 8))
theorem get_of (s : ByteArray) (w : World) (hm : s.size ≤ 9223372036854775807) :
    Calls Tryd.prog 78 #[.string s] w fun e w' => e = .returned (.int .u64 (numOf s)) ∧ w = w' := get_any s w hm
theorem numOf_nil : numOf ⟨#[]⟩ = 0 := by decide

theorem number_ok {w : World} {b : Nat} {s : ByteArray} {i : Nat} (n : Nat) (hc : Cur w b s i 0) (hi : i + n ≤ s.size) (hm : s.size ≤ 9223372036854775807) :
    Calls Tryd.prog 63 #[.pointer (some ⟨b, 0, none⟩), .int .i64 n] w fun e' w' => e' = .returned (.int .u64 (numOf (s.extract i (i + n)))) ∧ Cur w' b s (i + n) 0 ∧ w.grownBy w' (some b) := by
  go_enter Tryd.func63, Tryd.ntmps63
  go_wp2_with (first
    | (go_at_call 62; refine (take_ok n hc hi hm).mono ?_; rintro e' w' ⟨rfl, hc', hg⟩)
    | (go_at_call 78; refine (get_of _ _ (by simp; omega)).mono ?_; rintro e' w' ⟨rfl, rfl⟩))
  go_ret
  exact ⟨rfl, hc', hg⟩
theorem number_err {w : World} {b : Nat} {s : ByteArray} {i : Nat} {e : Int} (n : Int) (hc : Cur w b s i e) (he : (e == 0) = false) :
    Calls Tryd.prog 63 #[.pointer (some ⟨b, 0, none⟩), .int .i64 n] w fun e' w' => e' = .returned (.int .u64 0) ∧ w = w' := by
  go_enter Tryd.func63, Tryd.ntmps63
  go_wp2_with (first
    | (go_at_call 62; refine (take_err n hc he).mono ?_; rintro e' w' ⟨rfl, rfl⟩)
    | (go_at_call 78; refine (get_of _ _ (by decide)).mono ?_; rw [numOf_nil]; rintro e' w' ⟨rfl, rfl⟩))
  go_ret
  exact ⟨rfl, rfl⟩
theorem number_nil (n : Int) (w : World) :
    Calls Tryd.prog 63 #[.pointer none, .int .i64 n] w fun e' w' => e' = .returned (.int .u64 0) ∧ w = w' := by
  go_enter Tryd.func63, Tryd.ntmps63
  go_wp2_with (first
    | (go_at_call 62; refine (take_nil n _).mono ?_; rintro e' w' ⟨rfl, rfl⟩)
    | (go_at_call 78; refine (get_of _ _ (by decide)).mono ?_; rw [numOf_nil]; rintro e' w' ⟨rfl, rfl⟩))
  go_ret
  exact ⟨rfl, rfl⟩
theorem number_neg {w : World} {b : Nat} {s : ByteArray} {i : Nat} (n : Int) (hc : Cur w b s i 0) (hn : n < 0) :
    Calls Tryd.prog 63 #[.pointer (some ⟨b, 0, none⟩), .int .i64 n] w fun e' w' => e' = .returned (.int .u64 0) ∧ Cur w' b s i 3 ∧ w.grownBy w' (some b) := by
  go_enter Tryd.func63, Tryd.ntmps63
  go_wp2_with (first
    | (go_at_call 62; refine (take_neg n hc hn).mono ?_; rintro e' w' ⟨rfl, hc', hg⟩)
    | (go_at_call 78; refine (get_of _ _ (by decide)).mono ?_; rw [numOf_nil]; rintro e' w' ⟨rfl, rfl⟩))
  go_ret
  exact ⟨rfl, hc', hg⟩
theorem number_past {w : World} {b : Nat} {s : ByteArray} {i : Nat} (n : Int) (hc : Cur w b s i 0) (hi : i ≤ s.size) (hm : s.size ≤ 9223372036854775807) (hn : ((s.size - i : Nat) : Int) < n) :
    Calls Tryd.prog 63 #[.pointer (some ⟨b, 0, none⟩), .int .i64 n] w fun e' w' => e' = .returned (.int .u64 0) ∧ Cur w' b s i 3 ∧ w.grownBy w' (some b) := by
  go_enter Tryd.func63, Tryd.ntmps63
  go_wp2_with (first
    | (go_at_call 62; refine (take_past n hc hi hm hn).mono ?_; rintro e' w' ⟨rfl, hc', hg⟩)
    | (go_at_call 78; refine (get_of _ _ (by decide)).mono ?_; rw [numOf_nil]; rintro e' w' ⟨rfl, rfl⟩))
  go_ret
  exact ⟨rfl, hc', hg⟩
end Go.Proofs.YtjbgnlnchchgcaaDoor
