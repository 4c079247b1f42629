/-
  The contract of octet.Get. No condition but the length of a string.
  The contracts of octet's cursor. No condition but the length of its string.
  The contract of octet.Cursor.At. No condition.
  What a law that makes cursors keeps in hand: what was there before the call has not turned, and what the cursor is. No condition.
  Plain facts: numbers and their bytes correspond, and are ordered alike. No condition.
  The contracts of Peek of octet's cursor. No condition but the length of its string.
-/
import Derived.Lib.IndexBytes
import Derived.LaidEqlPtr
import Derived.BigQuiet
import Derived.Deep.QuietTactic
import Derived.Test.YtaahhbjnflimnaaGreatK17
namespace Go.Proofs.YtaahhbjnflimnaaGreat
open Go.RowKit

theorem or_step (a : Nat) (b : UInt8) (ha : a < 72057594037927936) :
    bits BinOp.or IntKind.u64 (IntKind.u64.wrap ((a : Int) * 256)) (IntKind.u64.wrap (b.toNat : Int)) = ((a * 256 + b.toNat : Nat) : Int) := by
  have hb := b.toNat_lt
  have e1 : IntKind.u64.wrap ((a : Int) * 256) = ((a * 256 : Nat) : Int) := by simp only [IntKind.wrap_u64]; omega
  have e2 : IntKind.u64.wrap (b.toNat : Int) = ((b.toNat : Nat) : Int) := by simp only [IntKind.wrap_u64]; omega
  rw [e1, e2, bits_or_u64_nat _ _ (by omega) (by omega)]
  congr 1
  rw [Nat.mul_comm a 256]
  exact (Nat.two_pow_add_eq_or_of_lt (i := 8) (by omega) a).symm

theorem num_take_lt (s : ByteArray) (k : Nat) (hk : k < 8) : num (s.data.toList.take k) < 72057594037927936 := by
  have h := num_lt (s.data.toList.take k)
  have hl : (s.data.toList.take k).length ≤ 7 := by simp; omega
  have := Nat.pow_le_pow_right (show 0 < 256 by decide) hl
  omega

set_option maxHeartbeats 400000 in
theorem get_small (s : ByteArray) (w : World) (hs : s.size ≤ 8) :
    Calls Tryz.prog 198 #[.string s] w fun e w' => e = .returned (.int .u64 (num s.data.toList)) ∧ w = w' := by
  go_enter Tryz.func198, Tryz.ntmps198
  go_wp2
  go_loop [4, 14] (fun v i => ∃ k : Nat, k ≤ s.size ∧ i = .int .i64 k ∧ v = .int .u64 (num (s.data.toList.take k))) (fun _ i => s.size - (intOf i).toNat)
  case atStart => exact ⟨0, Nat.zero_le _, rfl, rfl⟩
  case round =>
    obtain ⟨k, hk, rfl, rfl⟩ := hrel
    by_cases hlt : k < s.size
    · go_wp2
      go_round
      case rel => exact ⟨k + 1, by omega, by go_num, by rw [or_step _ _ (num_take_lt s k (by omega)), take_bytes s k hlt, num_snoc]⟩
      case measure => simp [intOf]; omega
    · obtain rfl : k = s.size := by omega
      have e : s.data.toList.take s.size = s.data.toList := List.take_of_length_le (by simp)
      go_wp2
      go_ret
      exact ⟨rfl, rfl⟩

set_option maxHeartbeats 400000 in
theorem get_great (s : ByteArray) (w : World) (hs : 8 < s.size) (hm : s.size ≤ 9223372036854775807) :
    Calls Tryz.prog 198 #[.string s] w fun e w' => e = .returned (.int .u64 (num (s.data.toList.drop (s.size - 8)))) ∧ w = w' := by
  go_enter Tryz.func198, Tryz.ntmps198
  go_wp2
  have e8 : s.size - (s.size - 8) = 8 := by omega
  have ht : (s.extract (s.size - 8) s.size).size = 8 := by simp; omega
  have hd : (s.extract (s.size - 8) s.size).data.toList = s.data.toList.drop (s.size - 8) := Lib.extract_to_end s _
  rw [e8, show ((8 : Nat) : Int) = 8 from rfl]
  generalize s.extract (s.size - 8) s.size = t at ht hd
  have HD := Lib.hid hd
  clear hd e8
  have Hk : ∀ k, k < 8 → k < t.size := fun k h => by omega
  have HT := Lib.hid ht
  clear ht
  go_loop [4, 14] (fun v i => ∃ k : Nat, k ≤ 8 ∧ i = .int .i64 k ∧ v = .int .u64 (num (t.data.toList.take k))) (fun _ i => 8 - (intOf i).toNat)
  case atStart => exact ⟨0, Nat.zero_le _, rfl, rfl⟩
  case round =>
    obtain ⟨k, hk, rfl, rfl⟩ := hrel
    by_cases hlt : k < 8
    · have hkt := Hk k hlt
      clear Hk
      go_wp2
      go_round
      case rel => exact ⟨k + 1, by omega, by go_num, by rw [or_step _ _ (num_take_lt t k (by omega)), take_bytes t k hkt, num_snoc]⟩
      case measure => simp [intOf]; omega
    · obtain rfl : k = 8 := by omega
      have e : t.data.toList.take 8 = t.data.toList := List.take_of_length_le (by have := HT.out; simpa using Nat.le_of_eq this)
      clear Hk
      go_wp2
      go_ret
      exact ⟨by rw [HD.out]; rfl, rfl⟩

/-- octet.Get: the number of the last eight bytes. -/
theorem get_any (s : ByteArray) (w : World) (hm : s.size ≤ 9223372036854775807) :
    Calls Tryz.prog 198 #[.string s] w fun e w' => e = .returned (.int .u64 (num (s.data.toList.drop (s.size - 8)))) ∧ w = w' := by
  by_cases h : s.size ≤ 8
  · have e : s.size - 8 = 0 := by omega
    rw [e]; exact get_small s w h
  · exact get_great s w (by omega) hm
end Go.Proofs.YtaahhbjnflimnaaGreat
namespace Go.Proofs.YtaahhbjnflimnaaGreat
open Go.RowKit

/-- The cells of a cursor that lies in block b. -/
def curCells (b : Nat) (s : ByteArray) (i : Nat) (e : Int) : Array Value := #[.pointer (some ⟨b, 0, none⟩), .string s, .int .i64 i, .int .i64 e]
/-- Block b is a cursor with string s, position i and error e. -/
def Cur (w : World) (b : Nat) (s : ByteArray) (i : Nat) (e : Int) : Prop := w.heap[b]? = some (.cells (curCells b s i e) 122 (0, 0))

section
variable {w w' : World} {b : Nat} {s : ByteArray} {i : Nat} {e : Int}
theorem Cur.lt (h : Cur w b s i e) : b < w.heap.size := lt_of_block h
theorem Cur.cell (h : Cur w b s i e) (j : Nat) : w.cell? ⟨b, j, none⟩ = (curCells b s i e)[j]? := cell_of_row w b j _ _ (0, 0) h
theorem Cur.c0 (h : Cur w b s i e) : w.cell? ⟨b, 0, none⟩ = some (.pointer (some ⟨b, 0, none⟩)) := h.cell 0
theorem Cur.c1 (h : Cur w b s i e) : w.cell? ⟨b, 1, none⟩ = some (.string s) := h.cell 1
theorem Cur.c2 (h : Cur w b s i e) : w.cell? ⟨b, 2, none⟩ = some (.int .i64 i) := h.cell 2
theorem Cur.c3 (h : Cur w b s i e) : w.cell? ⟨b, 3, none⟩ = some (.int .i64 e) := h.cell 3
theorem Cur.fr (h : Cur w b s i e) (j : Nat) : w.frozen? ⟨b, j, none⟩ = false := by unfold Cur at h; simp [World.frozen?, h]
theorem Cur.draws (h : Cur w b s i e) (n : Nat) : Cur (w.drewN n) b s i e := h
theorem Cur.of_block (h : Cur w b s i e) (hb : w'.heap[b]? = w.heap[b]?) : Cur w' b s i e := hb.trans h
theorem Cur.to (h : Cur w b s i e) (k : Nat) : Cur (w.setCell ⟨b, 2, none⟩ (.int .i64 k)) b s k e := setCell_block h 2 _
theorem Cur.fail (h : Cur w b s i e) (f : Int) : Cur (w.setCell ⟨b, 3, none⟩ (.int .i64 f)) b s i f := setCell_block h 3 _
end

theorem cur_info : ∃ j, Tryz.prog.info? 122 = some j := Option.isSome_iff_exists.1 (by kernel_rfl)

set_option maxHeartbeats 400000 in
theorem valid_yes {w : World} {b : Nat} {s : ByteArray} {i : Nat} {e : Int} (hc : Cur w b s i e) :
    Calls Tryz.prog 118 #[.pointer (some ⟨b, 0, none⟩)] w fun e w' => e = .returned (.bool true) ∧ w = w' := by
  obtain ⟨j, hj⟩ := cur_info
  have heq := fun W : World => run_eql_ptr_same (P := Tryz.prog) W ⟨b, 0, none⟩ Tryz.underlying68 hj
  have h0 := hc.c0
  clear hj
  go_enter Tryz.func118, Tryz.ntmps118
  go_wp2
  go_ret
  exact ⟨rfl, rfl⟩
theorem valid_nil (w : World) :
    Calls Tryz.prog 118 #[.pointer none] w fun e w' => e = .returned (.bool false) ∧ w = w' := by
  go_enter Tryz.func118, Tryz.ntmps118
  go_wp2
  go_ret
  exact ⟨rfl, rfl⟩

/-- octet.New. -/
theorem new_any (s : ByteArray) (w : World) :
    Calls Tryz.prog 50 #[.string s] w fun e w' => e = .returned (.pointer (some ⟨w.heap.size, 0, none⟩)) ∧ Cur w' w.heap.size s 0 0 ∧ Below w.heap.size w w' ∧ w'.heap.size = w.heap.size + 1 := by
  go_enter Tryz.func50, Tryz.ntmps50
  go_wp2
  go_ret
  exact ⟨rfl, heap_alloc_new w _, (Below.refl _ _).alloc (Nat.le_refl _) _, by simp⟩

theorem err_yes {w : World} {b : Nat} {s : ByteArray} {i : Nat} {e : Int} (hc : Cur w b s i e) :
    Calls Tryz.prog 54 #[.pointer (some ⟨b, 0, none⟩)] w fun e' w' => e' = .returned (.int .i64 e) ∧ w = w' := by
  have h3 := hc.c3
  go_enter Tryz.func54, Tryz.ntmps54
  go_wp2_with (go_at_call 118; refine (valid_yes hc).mono ?_; rintro e' w' ⟨rfl, rfl⟩)
  go_ret
  exact ⟨rfl, rfl⟩
theorem err_nil (w : World) :
    Calls Tryz.prog 54 #[.pointer none] w fun e' w' => e' = .returned (.int .i64 1) ∧ w = w' := by
  go_enter Tryz.func54, Tryz.ntmps54
  go_wp2_with (go_at_call 118; refine (valid_nil _).mono ?_; rintro e' w' ⟨rfl, rfl⟩)
  go_ret
  exact ⟨rfl, rfl⟩

/-- The rest of a cursor's string. -/
theorem rest_yes {w : World} {b : Nat} {s : ByteArray} {i : Nat} {e : Int} (hc : Cur w b s i e) (hi : i ≤ s.size) (_ : s.size ≤ 9223372036854775807) :
    Calls Tryz.prog 117 #[.pointer (some ⟨b, 0, none⟩)] w fun e' w' => e' = .returned (.string (s.extract i s.size)) ∧ ∃ n, w' = w.drewN n := by
  have h1 := hc.c1
  have h2 := hc.c2
  go_enter Tryz.func117, Tryz.ntmps117
  go_wp2_with (go_at_call 118; refine (valid_yes hc).mono ?_; rintro e' w' ⟨rfl, rfl⟩)
  go_quiet (fail)
  go_wp2
  go_ret
  exact ⟨rfl, _, rfl⟩
theorem rest_nil (w : World) :
    Calls Tryz.prog 117 #[.pointer none] w fun e' w' => e' = .returned (.string ⟨#[]⟩) ∧ w = w' := by
  go_enter Tryz.func117, Tryz.ntmps117
  go_wp2_with (go_at_call 118; refine (valid_nil _).mono ?_; rintro e' w' ⟨rfl, rfl⟩)
  go_ret
  exact ⟨rfl, rfl⟩

theorem fail_yes {w : World} {b : Nat} {s : ByteArray} {i : Nat} (f : Int) (hc : Cur w b s i 0) :
    Calls Tryz.prog 116 #[.pointer (some ⟨b, 0, none⟩), .int .i64 f] w fun e' w' => e' = .returned (.tuple #[]) ∧ Cur w' b s i f ∧ w.grownBy w' (some b) := by
  have h3 := hc.c3
  have f3 := hc.fr 3
  go_enter Tryz.func116, Tryz.ntmps116
  go_wp2_with (go_at_call 118; refine (valid_yes hc).mono ?_; rintro e' w' ⟨rfl, rfl⟩)
  go_end0
  exact ⟨rfl, hc.fail f, block_kept _ _ _ _⟩
theorem fail_no {w : World} {b : Nat} {s : ByteArray} {i : Nat} {e : Int} (f : Int) (hc : Cur w b s i e) (he : (e == 0) = false) :
    Calls Tryz.prog 116 #[.pointer (some ⟨b, 0, none⟩), .int .i64 f] w fun e' w' => e' = .returned (.tuple #[]) ∧ w = w' := by
  have h3 := hc.c3
  go_enter Tryz.func116, Tryz.ntmps116
  go_wp2_with (go_at_call 118; refine (valid_yes hc).mono ?_; rintro e' w' ⟨rfl, rfl⟩)
  go_end0
  exact ⟨rfl, rfl⟩
theorem fail_nil (f : Int) (w : World) :
    Calls Tryz.prog 116 #[.pointer none, .int .i64 f] w fun e' w' => e' = .returned (.tuple #[]) ∧ w = w' := by
  go_enter Tryz.func116, Tryz.ntmps116
  go_wp2_with (go_at_call 118; refine (valid_nil _).mono ?_; rintro e' w' ⟨rfl, rfl⟩)
  go_end0
  exact ⟨rfl, rfl⟩

theorem left_yes {w : World} {b : Nat} {s : ByteArray} {i : Nat} {e : Int} (hc : Cur w b s i e) (hi : i ≤ s.size) (hm : s.size ≤ 9223372036854775807) :
    Calls Tryz.prog 53 #[.pointer (some ⟨b, 0, none⟩)] w fun e' w' => e' = .returned (.int .i64 ((s.size - i : Nat) : Int)) ∧ ∃ n, w' = w.drewN n := by
  go_enter Tryz.func53, Tryz.ntmps53
  go_wp2_with (go_at_call 117; refine (rest_yes hc hi hm).mono ?_; rintro e' w' ⟨rfl, n, rfl⟩)
  go_ret
  exact ⟨by congr 2, _, rfl⟩
theorem left_nil (w : World) :
    Calls Tryz.prog 53 #[.pointer none] w fun e' w' => e' = .returned (.int .i64 0) ∧ w = w' := by
  go_enter Tryz.func53, Tryz.ntmps53
  go_wp2_with (go_at_call 117; refine (rest_nil _).mono ?_; rintro e' w' ⟨rfl, rfl⟩)
  go_ret
  exact ⟨rfl, rfl⟩

theorem take_err {w : World} {b : Nat} {s : ByteArray} {i : Nat} {e : Int} (n : Int) (hc : Cur w b s i e) (he : (e == 0) = false) :
    Calls Tryz.prog 170 #[.pointer (some ⟨b, 0, none⟩), .int .i64 n] w fun e' w' => e' = .returned (.string ⟨#[]⟩) ∧ w = w' := by
  have he' : (e != 0) = true := by simp_all
  go_enter Tryz.func170, Tryz.ntmps170
  go_wp2_with (go_at_call 54; refine (err_yes hc).mono ?_; rintro e' w' ⟨rfl, rfl⟩)
  go_ret
  exact ⟨rfl, rfl⟩
theorem take_nil (n : Int) (w : World) :
    Calls Tryz.prog 170 #[.pointer none, .int .i64 n] w fun e' w' => e' = .returned (.string ⟨#[]⟩) ∧ w = w' := by
  go_enter Tryz.func170, Tryz.ntmps170
  go_wp2_with (go_at_call 54; refine (err_nil _).mono ?_; rintro e' w' ⟨rfl, rfl⟩)
  go_ret
  exact ⟨rfl, rfl⟩
theorem take_neg {w : World} {b : Nat} {s : ByteArray} {i : Nat} (n : Int) (hc : Cur w b s i 0) (hn : n < 0) :
    Calls Tryz.prog 170 #[.pointer (some ⟨b, 0, none⟩), .int .i64 n] w fun e' w' => e' = .returned (.string ⟨#[]⟩) ∧ Cur w' b s i 3 ∧ w.grownBy w' (some b) := by
  go_enter Tryz.func170, Tryz.ntmps170
  go_wp2_with (first
    | (go_at_call 54; refine (err_yes hc).mono ?_; rintro e' w' ⟨rfl, rfl⟩)
    | (go_at_call 116; refine (fail_yes _ hc).mono ?_; rintro e' w' ⟨rfl, hc', hg⟩))
  go_ret
  exact ⟨rfl, hc', hg⟩
theorem take_past {w : World} {b : Nat} {s : ByteArray} {i : Nat} (n : Int) (hc : Cur w b s i 0) (hi : i ≤ s.size) (hm : s.size ≤ 9223372036854775807) (hn : ((s.size - i : Nat) : Int) < n) :
    Calls Tryz.prog 170 #[.pointer (some ⟨b, 0, none⟩), .int .i64 n] w fun e' w' => e' = .returned (.string ⟨#[]⟩) ∧ Cur w' b s i 3 ∧ w.grownBy w' (some b) := by
  have h0 : ¬ n < 0 := by omega
  go_enter Tryz.func170, Tryz.ntmps170
  go_wp2_with (first
    | (go_at_call 54; refine (err_yes hc).mono ?_; rintro e' w' ⟨rfl, rfl⟩)
    | (go_at_call 53; refine (left_yes hc hi hm).mono ?_; rintro e' w' ⟨rfl, nq, rfl⟩)
    | (go_at_call 116; refine (fail_yes _ (hc.draws nq)).mono ?_; rintro e' w' ⟨rfl, hc', hg⟩))
  go_ret
  exact ⟨rfl, hc', grown_of_draws hg⟩
theorem take_ok {w : World} {b : Nat} {s : ByteArray} {i : Nat} (n : Nat) (hc : Cur w b s i 0) (hi : i + n ≤ s.size) (hm : s.size ≤ 9223372036854775807) :
    Calls Tryz.prog 170 #[.pointer (some ⟨b, 0, none⟩), .int .i64 n] w fun e' w' => e' = .returned (.string (s.extract i (i + n))) ∧ Cur w' b s (i + n) 0 ∧ w.grownBy w' (some b) := by
  have hn : ¬ ((s.size - i : Nat) : Int) < (n : Int) := by omega
  have h1 := hc.c1
  have h2 := hc.c2
  have f2 := hc.fr 2
  go_enter Tryz.func170, Tryz.ntmps170
  go_wp2_with (first
    | (go_at_call 54; refine (err_yes hc).mono ?_; rintro e' w' ⟨rfl, rfl⟩)
    | (go_at_call 53; refine (left_yes hc (by omega) hm).mono ?_; rintro e' w' ⟨rfl, nq, rfl⟩))
  go_quiet (fail)
  go_wp2
  go_ret
  exact ⟨rfl, (hc.draws _).to (i + n), grown_of_draws (block_kept _ _ _ _)⟩

/-- The number of a string's last eight bytes. -/
def numOf (s : ByteArray) : Nat := num (s.data.toList.drop (s.size - 8))
theorem get_of (s : ByteArray) (w : World) (hm : s.size ≤ 9223372036854775807) :
    Calls Tryz.prog 198 #[.string s] w fun e w' => e = .returned (.int .u64 (numOf s)) ∧ w = w' := get_any s w hm
theorem numOf_nil : numOf ⟨#[]⟩ = 0 := by decide

theorem number_ok {w : World} {b : Nat} {s : ByteArray} {i : Nat} (n : Nat) (hc : Cur w b s i 0) (hi : i + n ≤ s.size) (hm : s.size ≤ 9223372036854775807) :
    Calls Tryz.prog 142 #[.pointer (some ⟨b, 0, none⟩), .int .i64 n] w fun e' w' => e' = .returned (.int .u64 (numOf (s.extract i (i + n)))) ∧ Cur w' b s (i + n) 0 ∧ w.grownBy w' (some b) := by
  go_enter Tryz.func142, Tryz.ntmps142
  go_wp2_with (first
    | (go_at_call 170; refine (take_ok n hc hi hm).mono ?_; rintro e' w' ⟨rfl, hc', hg⟩)
    | (go_at_call 198; refine (get_of _ _ (by simp; omega)).mono ?_; rintro e' w' ⟨rfl, rfl⟩))
  go_ret
  exact ⟨rfl, hc', hg⟩
theorem number_err {w : World} {b : Nat} {s : ByteArray} {i : Nat} {e : Int} (n : Int) (hc : Cur w b s i e) (he : (e == 0) = false) :
    Calls Tryz.prog 142 #[.pointer (some ⟨b, 0, none⟩), .int .i64 n] w fun e' w' => e' = .returned (.int .u64 0) ∧ w = w' := by
  go_enter Tryz.func142, Tryz.ntmps142
  go_wp2_with (first
    | (go_at_call 170; refine (take_err n hc he).mono ?_; rintro e' w' ⟨rfl, rfl⟩)
    | (go_at_call 198; refine (get_of _ _ (by decide)).mono ?_; rw [numOf_nil]; rintro e' w' ⟨rfl, rfl⟩))
  go_ret
  exact ⟨rfl, rfl⟩
theorem number_nil (n : Int) (w : World) :
    Calls Tryz.prog 142 #[.pointer none, .int .i64 n] w fun e' w' => e' = .returned (.int .u64 0) ∧ w = w' := by
  go_enter Tryz.func142, Tryz.ntmps142
  go_wp2_with (first
    | (go_at_call 170; refine (take_nil n _).mono ?_; rintro e' w' ⟨rfl, rfl⟩)
    | (go_at_call 198; refine (get_of _ _ (by decide)).mono ?_; rw [numOf_nil]; rintro e' w' ⟨rfl, rfl⟩))
  go_ret
  exact ⟨rfl, rfl⟩
theorem number_neg {w : World} {b : Nat} {s : ByteArray} {i : Nat} (n : Int) (hc : Cur w b s i 0) (hn : n < 0) :
    Calls Tryz.prog 142 #[.pointer (some ⟨b, 0, none⟩), .int .i64 n] w fun e' w' => e' = .returned (.int .u64 0) ∧ Cur w' b s i 3 ∧ w.grownBy w' (some b) := by
  go_enter Tryz.func142, Tryz.ntmps142
  go_wp2_with (first
    | (go_at_call 170; refine (take_neg n hc hn).mono ?_; rintro e' w' ⟨rfl, hc', hg⟩)
    | (go_at_call 198; refine (get_of _ _ (by decide)).mono ?_; rw [numOf_nil]; rintro e' w' ⟨rfl, rfl⟩))
  go_ret
  exact ⟨rfl, hc', hg⟩
theorem number_past {w : World} {b : Nat} {s : ByteArray} {i : Nat} (n : Int) (hc : Cur w b s i 0) (hi : i ≤ s.size) (hm : s.size ≤ 9223372036854775807) (hn : ((s.size - i : Nat) : Int) < n) :
    Calls Tryz.prog 142 #[.pointer (some ⟨b, 0, none⟩), .int .i64 n] w fun e' w' => e' = .returned (.int .u64 0) ∧ Cur w' b s i 3 ∧ w.grownBy w' (some b) := by
  go_enter Tryz.func142, Tryz.ntmps142
  go_wp2_with (first
    | (go_at_call 170; refine (take_past n hc hi hm hn).mono ?_; rintro e' w' ⟨rfl, hc', hg⟩)
    | (go_at_call 198; refine (get_of _ _ (by decide)).mono ?_; rw [numOf_nil]; rintro e' w' ⟨rfl, rfl⟩))
  go_ret
  exact ⟨rfl, hc', hg⟩
end Go.Proofs.YtaahhbjnflimnaaGreat
namespace Go.Proofs.YtaahhbjnflimnaaGreat
open Go.RowKit

theorem at_yes {w : World} {b : Nat} {s : ByteArray} {i : Nat} {e : Int} (hc : Cur w b s i e) :
    Calls Tryz.prog 227 #[.pointer (some ⟨b, 0, none⟩)] w fun e' w' => e' = .returned (.int .i64 i) ∧ w = w' := by
  have h2 := hc.c2
  go_enter Tryz.func227, Tryz.ntmps227
  go_wp2_with (go_at_call 118; refine (valid_yes hc).mono ?_; rintro e' w' ⟨rfl, rfl⟩)
  go_ret
  exact ⟨rfl, rfl⟩
theorem at_nil (w : World) :
    Calls Tryz.prog 227 #[.pointer none] w fun e' w' => e' = .returned (.int .i64 0) ∧ w = w' := by
  go_enter Tryz.func227, Tryz.ntmps227
  go_wp2_with (go_at_call 118; refine (valid_nil _).mono ?_; rintro e' w' ⟨rfl, rfl⟩)
  go_ret
  exact ⟨rfl, rfl⟩
end Go.Proofs.YtaahhbjnflimnaaGreat
namespace Go.Proofs.YtaahhbjnflimnaaGreat
open Go.RowKit

/-- Since w the call has made cursor B, and turned nothing that was there. -/
def St (w W : World) (B : Nat) (s : ByteArray) (i : Nat) (e : Int) : Prop := Below w.heap.size w W ∧ w.heap.size ≤ B ∧ Cur W B s i e
def St2 (w W : World) (B : Nat) (s : ByteArray) (i : Nat) (e : Int) (D : Nat) (t : ByteArray) (j : Nat) (f : Int) : Prop := St w W B s i e ∧ St w W D t j f ∧ B ≠ D

section
variable {w W W' : World} {B D : Nat} {s t : ByteArray} {i i' j j' : Nat} {e e2 f f2 : Int} {g : FuncId} {args : Array Value} {v v' : Value}
theorem St.draws (h : St w W B s i e) (n : Nat) : St w (W.drewN n) B s i e := ⟨below_draws h.1 n, h.2.1, h.2.2.draws n⟩
theorem St.step (h : St w W B s i e) (hc : Cur W' B s i' e2) (hg : W.grownBy W' (some B)) : St w W' B s i' e2 :=
  ⟨h.1.grown hg h.1.size (fun k hk => by cases hk; exact h.2.1), h.2.1, hc⟩
theorem St.other (h : St w W B s i e) (hD : w.heap.size ≤ D) (hne : B ≠ D) (hg : W.grownBy W' (some D)) : St w W' B s i e :=
  ⟨h.1.grown hg h.1.size (fun k hk => by cases hk; exact hD), h.2.1, h.2.2.of_block (hg.block B h.2.2.lt (fun e => hne (by injection e)))⟩
theorem St.below (h : St w W B s i e) (hb : Below W.heap.size W W') : St w W' B s i e :=
  ⟨h.1.trans (hb.mono h.1.size), h.2.1, h.2.2.of_block (hb.block B h.2.2.lt)⟩

theorem st_new (h : Below w.heap.size w W) (s : ByteArray) : Calls Tryz.prog 50 #[.string s] W fun e W' => ∃ B, e = .returned (.pointer (some ⟨B, 0, none⟩)) ∧ St w W' B s 0 0 :=
  (new_any s W).mono fun _ _ ⟨he, hc, hb, _⟩ => ⟨_, he, h.trans (hb.mono h.size), h.size, hc⟩
theorem st_new2 (h : St w W B s i e) (t : ByteArray) : Calls Tryz.prog 50 #[.string t] W fun e' W' => ∃ D, e' = .returned (.pointer (some ⟨D, 0, none⟩)) ∧ St2 w W' B s i e D t 0 0 :=
  (new_any t W).mono fun _ _ ⟨he, hc, hb, _⟩ => ⟨_, he, h.below hb, ⟨h.1.trans (hb.mono h.1.size), h.1.size, hc⟩, Nat.ne_of_lt h.2.2.lt⟩
theorem st_mut (h : St w W B s i e) (hv : v = v') (hcall : Calls Tryz.prog g args W fun e' W' => e' = .returned v ∧ Cur W' B s i' e2 ∧ W.grownBy W' (some B)) :
    Calls Tryz.prog g args W fun e' W' => e' = .returned v' ∧ St w W' B s i' e2 := hcall.mono fun _ _ ⟨he, hc, hg⟩ => ⟨hv ▸ he, h.step hc hg⟩
theorem st_quiet (h : St w W B s i e) (hv : v = v') (hcall : Calls Tryz.prog g args W fun e' W' => e' = .returned v ∧ ∃ n, W' = W.drewN n) :
    Calls Tryz.prog g args W fun e' W' => e' = .returned v' ∧ St w W' B s i e := hcall.mono fun _ _ ⟨he, n, hw⟩ => ⟨hv ▸ he, hw ▸ h.draws n⟩
theorem st_same (h : St w W B s i e) (hv : v = v') (hcall : Calls Tryz.prog g args W fun e' W' => e' = .returned v ∧ W = W') :
    Calls Tryz.prog g args W fun e' W' => e' = .returned v' ∧ St w W' B s i e := hcall.mono fun _ _ ⟨he, hw⟩ => ⟨hv ▸ he, hw ▸ h⟩
theorem st_mutD (h : St2 w W B s i e D t j f) (hv : v = v') (hcall : Calls Tryz.prog g args W fun e' W' => e' = .returned v ∧ Cur W' D t j' f2 ∧ W.grownBy W' (some D)) :
    Calls Tryz.prog g args W fun e' W' => e' = .returned v' ∧ St2 w W' B s i e D t j' f2 := hcall.mono fun _ _ ⟨he, hc, hg⟩ => ⟨hv ▸ he, h.1.other h.2.1.2.1 h.2.2 hg, h.2.1.step hc hg, h.2.2⟩
theorem st_quiet2 (h : St2 w W B s i e D t j f) (hv : v = v') (hcall : Calls Tryz.prog g args W fun e' W' => e' = .returned v ∧ ∃ n, W' = W.drewN n) :
    Calls Tryz.prog g args W fun e' W' => e' = .returned v' ∧ St2 w W' B s i e D t j f := hcall.mono fun _ _ ⟨he, n, hw⟩ => ⟨hv ▸ he, hw ▸ h.1.draws n, hw ▸ h.2.1.draws n, h.2.2⟩
theorem st_same2 (h : St2 w W B s i e D t j f) (hv : v = v') (hcall : Calls Tryz.prog g args W fun e' W' => e' = .returned v ∧ W = W') :
    Calls Tryz.prog g args W fun e' W' => e' = .returned v' ∧ St2 w W' B s i e D t j f := hcall.mono fun _ _ ⟨he, hw⟩ => ⟨hv ▸ he, hw ▸ h⟩
end

end Go.Proofs.YtaahhbjnflimnaaGreat
namespace Go.Proofs.YtaahhbjnflimnaaGreat
open Go.RowKit

theorem less_snoc (a b : UInt8) : ∀ (l l' : List UInt8), l.length = l'.length → Op.bytesLess (l ++ [a]) (l' ++ [b]) = (Op.bytesLess l l' || (l == l' && decide (a < b)))
  | [], [], _ => by simp [Op.bytesLess]
  | x :: l, y :: l', h => by
    have ih := less_snoc a b l l' (by simpa using h)
    simp only [List.cons_append, Op.bytesLess, ih]
    by_cases e1 : x < y
    · simp [e1]
    · by_cases e2 : x = y
      · subst e2; simp
      · have e3 : (x == y) = false := by simpa using e2
        simp [e1, e3]

theorem less_num : ∀ (k : Nat) (l l' : List UInt8), l.length = k → l'.length = k → Op.bytesLess l l' = decide (num l < num l') := by
  intro k
  induction k with
  | zero =>
    intro l l' h h'
    have : l = [] := List.eq_nil_of_length_eq_zero h
    have : l' = [] := List.eq_nil_of_length_eq_zero h'
    subst_vars
    simp [Op.bytesLess]
  | succ k ih =>
    intro l l' h h'
    rcases List.eq_nil_or_concat l with rfl | ⟨m, a, rfl⟩
    · simp at h
    rcases List.eq_nil_or_concat l' with rfl | ⟨m', b, rfl⟩
    · simp at h'
    simp at h h'
    rw [List.concat_eq_append, List.concat_eq_append, less_snoc a b m m' (by omega), ih m m' h h', num_snoc, num_snoc]
    have ha := a.toNat_lt
    have hb := b.toNat_lt
    have e1 : (m == m') = decide (num m = num m') := by
      by_cases e : m = m'
      · subst e; simp
      · have : ¬ num m = num m' := fun e' => e (num_inj m m' (by omega) e')
        simp [e, this]
    rw [e1, Bool.eq_iff_iff]
    simp [UInt8.lt_iff_toNat_lt]
    omega

theorem less_be (n m c : Nat) : Op.bytesLess (bs (be n c)).toList (bs (be m c)).toList = decide (n % 256 ^ c < m % 256 ^ c) := by
  rw [bs_toList, bs_toList, less_num c _ _ (be_length c n) (be_length c m), num_be, num_be]
theorem eq_be (n m c : Nat) : ((bs (be n c)).toList == (bs (be m c)).toList) = (((n % 256 ^ c : Nat) : Int) == ((m % 256 ^ c : Nat) : Int)) := by
  rw [bs_toList, bs_toList, Bool.eq_iff_iff, beq_iff_eq, beq_iff_eq]
  constructor
  · intro h
    rw [← num_be c n, ← num_be c m, h]
  · intro h
    exact num_inj _ _ (by simp [be_length]) (by rw [num_be, num_be]; omega)
theorem numOf_be (n c : Nat) (hc : c ≤ 8) : num ((bs (be n c)).data.toList.drop ((bs (be n c)).size - 8)) = n % 256 ^ c := by
  have e : (bs (be n c)).size = c := by simp [bs, ByteArray.size, be_length]
  rw [e, show c - 8 = 0 by omega]
  simp [bs, num_be]

theorem and_mask (n c : Nat) (hn : n < 18446744073709551616) (hc : c < 8) : bits .and .u64 (n : Int) (IntKind.u64.wrap (IntKind.u64.wrap (2 ^ (8 * c)) - 1)) = ((n % 256 ^ c : Nat) : Int) := by
  have e256 : (256 : Nat) ^ c = 2 ^ (8 * c) := by rw [Nat.pow_mul]
  have hle : (2 : Nat) ^ (8 * c) ≤ 2 ^ 56 := Nat.pow_le_pow_right (by decide) (by omega)
  have hpos : 0 < (2 : Nat) ^ (8 * c) := Nat.pow_pos (by decide)
  have ei : ((2 : Int) ^ (8 * c)) = ((2 ^ (8 * c) : Nat) : Int) := by simp
  have e1 : IntKind.u64.wrap (IntKind.u64.wrap (2 ^ (8 * c)) - 1) = ((2 ^ (8 * c) - 1 : Nat) : Int) := by
    rw [ei]
    generalize 2 ^ (8 * c) = M at hle hpos
    simp only [IntKind.wrap_u64]
    omega
  rw [e1, bits_and_u64_nat _ _ hn (by omega), Nat.and_two_pow_sub_one_eq_mod, e256]
theorem and_all (n : Nat) (hn : n < 18446744073709551616) : bits .and .u64 (n : Int) 18446744073709551615 = (n : Int) := by
  have h := bits_and_u64_nat n 18446744073709551615 hn (by decide)
  have e : n &&& 18446744073709551615 = n := by
    have := Nat.and_two_pow_sub_one_eq_mod n 64
    rw [Nat.mod_eq_of_lt hn] at this
    exact this
  rw [e] at h
  exact h
end Go.Proofs.YtaahhbjnflimnaaGreat
namespace Go.Proofs.YtaahhbjnflimnaaGreat
open Go.RowKit

theorem peek_ok {w : World} {b : Nat} {s : ByteArray} {i : Nat} (n : Nat) (hc : Cur w b s i 0) (hi : i + n ≤ s.size) (hm : s.size ≤ 9223372036854775807) :
    Calls Tryz.prog 234 #[.pointer (some ⟨b, 0, none⟩), .int .i64 n] w fun e' w' => e' = .returned (.string (s.extract i (i + n))) ∧ ∃ k, w' = w.drewN k := by
  have hn : ¬ ((s.size - i : Nat) : Int) < (n : Int) := by omega
  have h1 := hc.c1
  have h2 := hc.c2
  go_enter Tryz.func234, Tryz.ntmps234
  go_wp2_with (first
    | (go_at_call 54; refine (err_yes hc).mono ?_; rintro e' w' ⟨rfl, rfl⟩)
    | (go_at_call 53; refine (left_yes hc (by omega) hm).mono ?_; rintro e' w' ⟨rfl, nq, rfl⟩))
  go_quiet (fail)
  go_wp2
  go_ret
  exact ⟨rfl, _, World.drewN_drewN _ _ _⟩
theorem peek_err {w : World} {b : Nat} {s : ByteArray} {i : Nat} {e : Int} (n : Int) (hc : Cur w b s i e) (he : (e == 0) = false) :
    Calls Tryz.prog 234 #[.pointer (some ⟨b, 0, none⟩), .int .i64 n] w fun e' w' => e' = .returned (.string ⟨#[]⟩) ∧ ∃ k, w' = w.drewN k := by
  have he' : (e != 0) = true := by simp_all
  go_enter Tryz.func234, Tryz.ntmps234
  go_wp2_with (go_at_call 54; refine (err_yes hc).mono ?_; rintro e' w' ⟨rfl, rfl⟩)
  go_ret
  exact ⟨rfl, 0, rfl⟩
theorem peek_nil (n : Int) (w : World) :
    Calls Tryz.prog 234 #[.pointer none, .int .i64 n] w fun e' w' => e' = .returned (.string ⟨#[]⟩) ∧ w = w' := by
  go_enter Tryz.func234, Tryz.ntmps234
  go_wp2_with (go_at_call 54; refine (err_nil _).mono ?_; rintro e' w' ⟨rfl, rfl⟩)
  go_ret
  exact ⟨rfl, rfl⟩
theorem peek_neg {w : World} {b : Nat} {s : ByteArray} {i : Nat} (n : Int) (hc : Cur w b s i 0) (hn : n < 0) :
    Calls Tryz.prog 234 #[.pointer (some ⟨b, 0, none⟩), .int .i64 n] w fun e' w' => e' = .returned (.string ⟨#[]⟩) ∧ ∃ k, w' = w.drewN k := by
  go_enter Tryz.func234, Tryz.ntmps234
  go_wp2_with (go_at_call 54; refine (err_yes hc).mono ?_; rintro e' w' ⟨rfl, rfl⟩)
  go_ret
  exact ⟨rfl, 0, rfl⟩
theorem peek_past {w : World} {b : Nat} {s : ByteArray} {i : Nat} (n : Int) (hc : Cur w b s i 0) (hi : i ≤ s.size) (hm : s.size ≤ 9223372036854775807) (hn : ((s.size - i : Nat) : Int) < n) :
    Calls Tryz.prog 234 #[.pointer (some ⟨b, 0, none⟩), .int .i64 n] w fun e' w' => e' = .returned (.string ⟨#[]⟩) ∧ ∃ k, w' = w.drewN k := by
  have h0 : ¬ n < 0 := by omega
  go_enter Tryz.func234, Tryz.ntmps234
  go_wp2_with (first
    | (go_at_call 54; refine (err_yes hc).mono ?_; rintro e' w' ⟨rfl, rfl⟩)
    | (go_at_call 53; refine (left_yes hc hi hm).mono ?_; rintro e' w' ⟨rfl, nq, rfl⟩))
  go_ret
  exact ⟨rfl, _, rfl⟩

end Go.Proofs.YtaahhbjnflimnaaGreat
