/-
  The contracts of the reference's cursor (layer 1). No condition but the length of its string.
-/
import Derived.Test.YtecjlpkikagecaaOctSt
namespace Go.Proofs.Ytecjlpkikagecaa
open Go.RowKit

def refCells (s : ByteArray) (i : Nat) (e : Int) : Array Value := #[.string s, .int .i64 i, .int .i64 e]
/-- Block b is a reference's cursor with string s, position i and error e. -/
def Ref (w : World) (b : Nat) (s : ByteArray) (i : Nat) (e : Int) : Prop := w.heap[b]? = some (.cells (refCells s i e) 42 (0, 0))

section
variable {w w' : World} {b : Nat} {s : ByteArray} {i : Nat} {e : Int}
theorem Ref.lt (h : Ref w b s i e) : b < w.heap.size := lt_of_block h
theorem Ref.cell (h : Ref w b s i e) (j : Nat) : w.cell? ⟨b, j, none⟩ = (refCells s i e)[j]? := cell_of_row w b j _ _ (0, 0) h
theorem Ref.c0 (h : Ref w b s i e) : w.cell? ⟨b, 0, none⟩ = some (.string s) := h.cell 0
theorem Ref.c1 (h : Ref w b s i e) : w.cell? ⟨b, 1, none⟩ = some (.int .i64 i) := h.cell 1
theorem Ref.c2 (h : Ref w b s i e) : w.cell? ⟨b, 2, none⟩ = some (.int .i64 e) := h.cell 2
theorem Ref.fr (h : Ref w b s i e) (j : Nat) : w.frozen? ⟨b, j, none⟩ = false := by unfold Ref at h; simp [World.frozen?, h]
theorem Ref.draws (h : Ref w b s i e) (n : Nat) : Ref (w.drewN n) b s i e := h
theorem Ref.of_block (h : Ref w b s i e) (hb : w'.heap[b]? = w.heap[b]?) : Ref w' b s i e := hb.trans h
theorem Ref.to (h : Ref w b s i e) (k : Nat) : Ref (w.setCell ⟨b, 1, none⟩ (.int .i64 k)) b s k e := setCell_block h 1 _
theorem Ref.fail (h : Ref w b s i e) (f : Int) : Ref (w.setCell ⟨b, 2, none⟩ (.int .i64 f)) b s i f := setCell_block h 2 _
end

theorem grown_then {a b c : World} {r : Option Nat} (h : a.grownBy b r) (k : b.grownBy c r) : a.grownBy c r :=
  ⟨k.os.trans h.os, k.tape.trans h.tape, k.output.trans h.output, Nat.le_trans h.size k.size, fun i hi hne => (k.block i (Nat.lt_of_lt_of_le hi h.size) hne).trans (h.block i hi hne)⟩

theorem ref_new (s : ByteArray) (w : World) :
    Calls Try.prog 19 #[.string s] w fun e w' => e = .returned (.pointer (some ⟨w.heap.size, 0, none⟩)) ∧ Ref w' w.heap.size s 0 0 ∧ Below w.heap.size w w' := by
  go_enter Try.func19, Try.ntmps19
  go_wp2
  go_ret
  exact ⟨rfl, heap_alloc_new w _, (Below.refl _ _).alloc (Nat.le_refl _) _⟩

theorem ref_rest {w : World} {b : Nat} {s : ByteArray} {i : Nat} {e : Int} (hc : Ref w b s i e) (hi : i ≤ s.size) :
    Calls Try.prog 26 #[.pointer (some ⟨b, 0, none⟩)] w fun e' w' => e' = .returned (.string (s.extract i s.size)) ∧ ∃ n, w' = w.drewN n := by
  have h1 := hc.c0
  have h2 := hc.c1
  go_enter Try.func26, Try.ntmps26
  go_wp2
  go_quiet (fail)
  go_wp2
  go_ret
  exact ⟨rfl, _, rfl⟩
theorem ref_left {w : World} {b : Nat} {s : ByteArray} {i : Nat} {e : Int} (hc : Ref w b s i e) (hi : i ≤ s.size) (hm : s.size ≤ 9223372036854775807) :
    Calls Try.prog 25 #[.pointer (some ⟨b, 0, none⟩)] w fun e' w' => e' = .returned (.int .i64 ((s.size - i : Nat) : Int)) ∧ ∃ n, w' = w.drewN n := by
  have h1 := hc.c0
  have h2 := hc.c1
  have E := Lib.hid (show (s.size : Int) - i = ((s.size - i : Nat) : Int) by omega)
  go_enter Try.func25, Try.ntmps25
  go_wp2
  go_quiet (fail)
  go_wp2
  go_ret
  exact ⟨by rw [← E.out]; rfl, _, rfl⟩
theorem ref_fail_yes {w : World} {b : Nat} {s : ByteArray} {i : Nat} (f : Int) (hc : Ref w b s i 0) :
    Calls Try.prog 24 #[.pointer (some ⟨b, 0, none⟩), .int .i64 f] w fun e' w' => e' = .returned (.tuple #[]) ∧ Ref w' b s i f ∧ w.grownBy w' (some b) := by
  have h3 := hc.c2
  have f3 := hc.fr 2
  go_enter Try.func24, Try.ntmps24
  go_wp2
  go_end0
  exact ⟨rfl, hc.fail f, block_kept _ _ _ _⟩
theorem ref_fail_no {w : World} {b : Nat} {s : ByteArray} {i : Nat} {e : Int} (f : Int) (hc : Ref w b s i e) (he : (e == 0) = false) :
    Calls Try.prog 24 #[.pointer (some ⟨b, 0, none⟩), .int .i64 f] w fun e' w' => e' = .returned (.tuple #[]) ∧ w = w' := by
  have h3 := hc.c2
  go_enter Try.func24, Try.ntmps24
  go_wp2
  go_end0
  exact ⟨rfl, rfl⟩

theorem ref_peek_ok {w : World} {b : Nat} {s : ByteArray} {i : Nat} (n : Nat) (hc : Ref w b s i 0) (hi : i + n ≤ s.size) (hm : s.size ≤ 9223372036854775807) :
    Calls Try.prog 23 #[.pointer (some ⟨b, 0, none⟩), .int .i64 n] w fun e' w' => e' = .returned (.string (s.extract i (i + n))) ∧ ∃ k, w' = w.drewN k := by
  have h0 : decide ((n : Int) < 0) = false := by simp
  have h4 : decide ((s.size : Int) - i < n) = false := by simp; omega
  have h1 := hc.c0
  have h2 := hc.c1
  have h3 := hc.c2
  go_enter Try.func23, Try.ntmps23
  go_wp2
  go_quiet (fail)
  go_wp2
  go_quiet (fail)
  go_wp2
  go_ret
  exact ⟨rfl, _, World.drewN_drewN _ _ _⟩
theorem ref_peek_err {w : World} {b : Nat} {s : ByteArray} {i : Nat} {e : Int} (n : Int) (hc : Ref w b s i e) (he : (e == 0) = false) :
    Calls Try.prog 23 #[.pointer (some ⟨b, 0, none⟩), .int .i64 n] w fun e' w' => e' = .returned (.string ⟨#[]⟩) ∧ ∃ k, w' = w.drewN k := by
  have he' : (e != 0) = true := by simp_all
  have h3 := hc.c2
  go_enter Try.func23, Try.ntmps23
  go_wp2
  go_quiet (fail)
  go_wp2
  go_ret
  exact ⟨rfl, _, rfl⟩
theorem ref_peek_neg {w : World} {b : Nat} {s : ByteArray} {i : Nat} (n : Int) (hc : Ref w b s i 0) (hn : n < 0) :
    Calls Try.prog 23 #[.pointer (some ⟨b, 0, none⟩), .int .i64 n] w fun e' w' => e' = .returned (.string ⟨#[]⟩) ∧ ∃ k, w' = w.drewN k := by
  have h0 : decide (n < 0) = true := by simp; omega
  have h3 := hc.c2
  go_enter Try.func23, Try.ntmps23
  go_wp2
  go_quiet (fail)
  go_wp2
  go_ret
  exact ⟨rfl, _, rfl⟩
theorem ref_peek_past {w : World} {b : Nat} {s : ByteArray} {i : Nat} (n : Int) (hc : Ref w b s i 0) (hi : i ≤ s.size) (hm : s.size ≤ 9223372036854775807) (hn : ((s.size - i : Nat) : Int) < n) :
    Calls Try.prog 23 #[.pointer (some ⟨b, 0, none⟩), .int .i64 n] w fun e' w' => e' = .returned (.string ⟨#[]⟩) ∧ ∃ k, w' = w.drewN k := by
  have h0 : decide (n < 0) = false := by simp; omega
  have h4 : decide ((s.size : Int) - i < n) = true := by simp; omega
  have h1 := hc.c0
  have h2 := hc.c1
  have h3 := hc.c2
  go_enter Try.func23, Try.ntmps23
  go_wp2
  go_quiet (fail)
  go_wp2
  go_ret
  exact ⟨rfl, _, rfl⟩

theorem ref_take_ok {w : World} {b : Nat} {s : ByteArray} {i : Nat} (n : Nat) (hc : Ref w b s i 0) (hi : i + n ≤ s.size) (hm : s.size ≤ 9223372036854775807) :
    Calls Try.prog 21 #[.pointer (some ⟨b, 0, none⟩), .int .i64 n] w fun e' w' => e' = .returned (.string (s.extract i (i + n))) ∧ Ref w' b s (i + n) 0 ∧ w.grownBy w' (some b) := by
  have h0 : decide ((n : Int) < 0) = false := by simp
  have h4 : decide ((s.size : Int) - i < n) = false := by simp; omega
  have h1 := hc.c0
  have h2 := hc.c1
  have h3 := hc.c2
  have f2 := hc.fr 1
  have hz : ((s.extract i (i + n)).size : Int) = n := by simp; omega
  go_enter Try.func21, Try.ntmps21
  go_wp2
  go_quiet (fail)
  go_wp2_with (go_at_call 23; refine (ref_peek_ok n (hc.draws _) hi hm).mono ?_; rintro e' w' ⟨rfl, k, rfl⟩)
  go_ret
  exact ⟨rfl, (hc.draws _).to (i + n), grown_of_draws (block_kept _ _ _ _)⟩
theorem ref_take_err {w : World} {b : Nat} {s : ByteArray} {i : Nat} {e : Int} (n : Int) (hc : Ref w b s i e) (he : (e == 0) = false) (hi : i ≤ s.size) (hm : s.size ≤ 9223372036854775807) :
    Calls Try.prog 21 #[.pointer (some ⟨b, 0, none⟩), .int .i64 n] w fun e' w' => e' = .returned (.string ⟨#[]⟩) ∧ Ref w' b s i e ∧ w.grownBy w' (some b) := by
  have h2 := hc.c1
  have h3 := hc.c2
  have f2 := hc.fr 1
  go_enter Try.func21, Try.ntmps21
  go_wp2
  go_quiet (fail)
  go_wp2_with (go_at_call 23; refine (ref_peek_err n (hc.draws _) he).mono ?_; rintro e' w' ⟨rfl, k, rfl⟩)
  go_ret
  exact ⟨rfl, (hc.draws _).to i, grown_of_draws (block_kept _ _ _ _)⟩
theorem ref_take_neg {w : World} {b : Nat} {s : ByteArray} {i : Nat} (n : Int) (hc : Ref w b s i 0) (hn : n < 0) (hi : i ≤ s.size) (hm : s.size ≤ 9223372036854775807) :
    Calls Try.prog 21 #[.pointer (some ⟨b, 0, none⟩), .int .i64 n] w fun e' w' => e' = .returned (.string ⟨#[]⟩) ∧ Ref w' b s i 3 ∧ w.grownBy w' (some b) := by
  have h0 : decide (n < 0) = true := by simp; omega
  have h2 := hc.c1
  have h3 := hc.c2
  have f2 := hc.fr 1
  have f3 := hc.fr 2
  go_enter Try.func21, Try.ntmps21
  go_wp2
  go_quiet (fail)
  go_wp2_with (go_at_call 23; refine (ref_peek_err n ((hc.draws _).fail 3) (by decide)).mono ?_; rintro e' w' ⟨rfl, k, rfl⟩)
  go_ret
  exact ⟨rfl, (((hc.draws _).fail 3).draws _).to i, grown_of_draws (grown_then (block_kept _ _ _ _) (grown_of_draws (block_kept _ _ _ _)))⟩
theorem ref_take_past {w : World} {b : Nat} {s : ByteArray} {i : Nat} (n : Int) (hc : Ref w b s i 0) (hi : i ≤ s.size) (hm : s.size ≤ 9223372036854775807) (hn : ((s.size - i : Nat) : Int) < n) :
    Calls Try.prog 21 #[.pointer (some ⟨b, 0, none⟩), .int .i64 n] w fun e' w' => e' = .returned (.string ⟨#[]⟩) ∧ Ref w' b s i 3 ∧ w.grownBy w' (some b) := by
  have h0 : decide (n < 0) = false := by simp; omega
  have h4 : decide ((s.size : Int) - i < n) = true := by simp; omega
  have h1 := hc.c0
  have h2 := hc.c1
  have h3 := hc.c2
  have f2 := hc.fr 1
  have f3 := hc.fr 2
  go_enter Try.func21, Try.ntmps21
  go_wp2
  go_quiet (fail)
  go_wp2_with (go_at_call 23; refine (ref_peek_err n ((hc.draws _).fail 3) (by decide)).mono ?_; rintro e' w' ⟨rfl, k, rfl⟩)
  go_ret
  exact ⟨rfl, (((hc.draws _).fail 3).draws _).to i, grown_of_draws (grown_then (block_kept _ _ _ _) (grown_of_draws (block_kept _ _ _ _)))⟩
end Go.Proofs.Ytecjlpkikagecaa
