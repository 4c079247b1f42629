/-
  The contract of octet.Get. No condition but the length of a string.
  The contracts of octet's cursor. No condition but the length of its string.
-/
import Derived.Lib.IndexBytes
import Derived.LaidEqlPtr
import Derived.BigQuiet
import Derived.Deep.QuietTactic
import Derived.Test.YtaahhbjnflimnaaGreatK20
namespace Go.Proofs.YtaahhbjnflimnaaGreat
open Go.RowKit

theorem or_step (a : Nat) (b : UInt8) (ha : a < 72057594037927936) :
    bits BinOp.or IntKind.u64 (IntKind.u64.wrap ((a : Int) * 256)) (IntKind.u64.wrap (b.toNat : Int)) = ((a * 256 + b.toNat : Nat) : Int) := by
  have hb := b.toNat_lt
  have e1 : IntKind.u64.wrap ((a : Int) * 256) = ((a * 256 : Nat) : Int) := by simp only [IntKind.wrap_u64]; omega
  have e2 : IntKind.u64.wrap (b.toNat : Int) = ((b.toNat : Nat) : Int) := by simp only [IntKind.wrap_u64]; omega
  rw [e1, e2, bits_or_u64_nat _ _ (by omega) (by omega)]
  congr 1
  rw [Nat.mul_comm a 256]
  exact (Nat.two_pow_add_eq_or_of_lt (i := 8) (by omega) a).symm

theorem num_take_lt (s : ByteArray) (k : Nat) (hk : k < 8) : num (s.data.toList.take k) < 72057594037927936 := by
  have h := num_lt (s.data.toList.take k)
  have hl : (s.data.toList.take k).length ≤ 7 := by simp; omega
  have := Nat.pow_le_pow_right (show 0 < 256 by decide) hl
  omega

set_option maxHeartbeats 400000 in
theorem get_small (s : ByteArray) (w : World) (hs : s.size ≤ 8) :
    Calls Tryz.prog 198 #[.string s] w fun e w' => e = .returned (.int .u64 (num s.data.toList)) ∧ w = w' := by
  go_enter Tryz.func198, Tryz.ntmps198
  go_wp2
  go_loop [4, 14] (fun v i => ∃ k : Nat, k ≤ s.size ∧ i = .int .i64 k ∧ v = .int .u64 (num (s.data.toList.take k))) (fun _ i => s.size - (intOf i).toNat)
  case atStart => exact ⟨0, Nat.zero_le _, rfl, rfl⟩
  case round =>
    obtain ⟨k, hk, rfl, rfl⟩ := hrel
    by_cases hlt : k < s.size
    · go_wp2
      go_round
      case rel => exact ⟨k + 1, by omega, by go_num, by rw [or_step _ _ (num_take_lt s k (by omega)), take_bytes s k hlt, num_snoc]⟩
      case measure => simp [intOf]; omega
    · obtain rfl : k = s.size := by omega
      have e : s.data.toList.take s.size = s.data.toList := List.take_of_length_le (by simp)
      go_wp2
      go_ret
      exact ⟨rfl, rfl⟩

set_option maxHeartbeats 400000 in
theorem get_great (s : ByteArray) (w : World) (hs : 8 < s.size) (hm : s.size ≤ 9223372036854775807) :
    Calls Tryz.prog 198 #[.string s] w fun e w' => e = .returned (.int .u64 (num (s.data.toList.drop (s.size - 8)))) ∧ w = w' := by
  go_enter Tryz.func198, Tryz.ntmps198
  go_wp2
  have e8 : s.size - (s.size - 8) = 8 := by omega
  have ht : (s.extract (s.size - 8) s.size).size = 8 := by simp; omega
  have hd : (s.extract (s.size - 8) s.size).data.toList = s.data.toList.drop (s.size - 8) := Lib.extract_to_end s _
  rw [e8, show ((8 : Nat) : Int) = 8 from rfl]
  generalize s.extract (s.size - 8) s.size = t at ht hd
  have HD := Lib.hid hd
  clear hd e8
  have Hk : ∀ k, k < 8 → k < t.size := fun k h => by omega
  have HT := Lib.hid ht
  clear ht
  go_loop [4, 14] (fun v i => ∃ k : Nat, k ≤ 8 ∧ i = .int .i64 k ∧ v = .int .u64 (num (t.data.toList.take k))) (fun _ i => 8 - (intOf i).toNat)
  case atStart => exact ⟨0, Nat.zero_le _, rfl, rfl⟩
  case round =>
    obtain ⟨k, hk, rfl, rfl⟩ := hrel
    by_cases hlt : k < 8
    · have hkt := Hk k hlt
      clear Hk
      go_wp2
      go_round
      case rel => exact ⟨k + 1, by omega, by go_num, by rw [or_step _ _ (num_take_lt t k (by omega)), take_bytes t k hkt, num_snoc]⟩
      case measure => simp [intOf]; omega
    · obtain rfl : k = 8 := by omega
      have e : t.data.toList.take 8 = t.data.toList := List.take_of_length_le (by have := HT.out; simpa using Nat.le_of_eq this)
      clear Hk
      go_wp2
      go_ret
      exact ⟨by rw [HD.out]; rfl, rfl⟩

/-- octet.Get: the number of the last eight bytes. -/
theorem get_any (s : ByteArray) (w : World) (hm : s.size ≤ 9223372036854775807) :
    Calls Tryz.prog 198 #[.string s] w fun e w' => e = .returned (.int .u64 (num (s.data.toList.drop (s.size - 8)))) ∧ w = w' := by
  by_cases h : s.size ≤ 8
  · have e : s.size - 8 = 0 := by omega
    rw [e]; exact get_small s w h
  · exact get_great s w (by omega) hm
end Go.Proofs.YtaahhbjnflimnaaGreat
namespace Go.Proofs.YtaahhbjnflimnaaGreat
open Go.RowKit

/-- The cells of a cursor that lies in block b. -/
def curCells (b : Nat) (s : ByteArray) (i : Nat) (e : Int) : Array Value := #[.pointer (some ⟨b, 0, none⟩), .string s, .int .i64 i, .int .i64 e]
/-- Block b is a cursor with string s, position i and error e. -/
def Cur (w : World) (b : Nat) (s : ByteArray) (i : Nat) (e : Int) : Prop := w.heap[b]? = some (.cells (curCells b s i e) 122 (0, 0))

section
variable {w w' : World} {b : Nat} {s : ByteArray} {i : Nat} {e : Int}
theorem Cur.lt (h : Cur w b s i e) : b < w.heap.size := lt_of_block h
theorem Cur.cell (h : Cur w b s i e) (j : Nat) : w.cell? ⟨b, j, none⟩ = (curCells b s i e)[j]? := cell_of_row w b j _ _ (0, 0) h
theorem Cur.c0 (h : Cur w b s i e) : w.cell? ⟨b, 0, none⟩ = some (.pointer (some ⟨b, 0, none⟩)) := h.cell 0
theorem Cur.c1 (h : Cur w b s i e) : w.cell? ⟨b, 1, none⟩ = some (.string s) := h.cell 1
theorem Cur.c2 (h : Cur w b s i e) : w.cell? ⟨b, 2, none⟩ = some (.int .i64 i) := h.cell 2
theorem Cur.c3 (h : Cur w b s i e) : w.cell? ⟨b, 3, none⟩ = some (.int .i64 e) := h.cell 3
theorem Cur.fr (h : Cur w b s i e) (j : Nat) : w.frozen? ⟨b, j, none⟩ = false := by unfold Cur at h; simp [World.frozen?, h]
theorem Cur.draws (h : Cur w b s i e) (n : Nat) : Cur (w.drewN n) b s i e := h
theorem Cur.of_block (h : Cur w b s i e) (hb : w'.heap[b]? = w.heap[b]?) : Cur w' b s i e := hb.trans h
theorem Cur.to (h : Cur w b s i e) (k : Nat) : Cur (w.setCell ⟨b, 2, none⟩ (.int .i64 k)) b s k e := setCell_block h 2 _
theorem Cur.fail (h : Cur w b s i e) (f : Int) : Cur (w.setCell ⟨b, 3, none⟩ (.int .i64 f)) b s i f := setCell_block h 3 _
end

theorem cur_info : ∃ j, Tryz.prog.info? 122 = some j := Option.isSome_iff_exists.1 (by kernel_rfl)

set_option maxHeartbeats 400000 in
theorem valid_yes {w : World} {b : Nat} {s : ByteArray} {i : Nat} {e : Int} (hc : Cur w b s i e) :
    Calls Tryz.prog 118 #[.pointer (some ⟨b, 0, none⟩)] w fun e w' => e = .returned (.bool true) ∧ w = w' := by
  obtain ⟨j, hj⟩ := cur_info
  have heq := fun W : World => run_eql_ptr_same (P := Tryz.prog) W ⟨b, 0, none⟩ Tryz.underlying68 hj
  have h0 := hc.c0
  clear hj
  go_enter Tryz.func118, Tryz.ntmps118
  go_wp2
  go_ret
  exact ⟨rfl, rfl⟩
theorem valid_nil (w : World) :
    Calls Tryz.prog 118 #[.pointer none] w fun e w' => e = .returned (.bool false) ∧ w = w' := by
  go_enter Tryz.func118, Tryz.ntmps118
  go_wp2
  go_ret
  exact ⟨rfl, rfl⟩

/-- octet.New. -/
theorem new_any (s : ByteArray) (w : World) :
    Calls Tryz.prog 50 #[.string s] w fun e w' => e = .returned (.pointer (some ⟨w.heap.size, 0, none⟩)) ∧ Cur w' w.heap.size s 0 0 ∧ Below w.heap.size w w' ∧ w'.heap.size = w.heap.size + 1 := by
  go_enter Tryz.func50, Tryz.ntmps50
  go_wp2
  go_ret
  exact ⟨rfl, heap_alloc_new w _, (Below.refl _ _).alloc (Nat.le_refl _) _, by simp⟩

theorem err_yes {w : World} {b : Nat} {s : ByteArray} {i : Nat} {e : Int} (hc : Cur w b s i e) :
    Calls Tryz.prog 54 #[.pointer (some ⟨b, 0, none⟩)] w fun e' w' => e' = .returned (.int .i64 e) ∧ w = w' := by
  have h3 := hc.c3
  go_enter Tryz.func54, Tryz.ntmps54
  go_wp2_with (go_at_call 118; refine (valid_yes hc).mono ?_; rintro e' w' ⟨rfl, rfl⟩)
  go_ret
  exact ⟨rfl, rfl⟩
theorem err_nil (w : World) :
    Calls Tryz.prog 54 #[.pointer none] w fun e' w' => e' = .returned (.int .i64 1) ∧ w = w' := by
  go_enter Tryz.func54, Tryz.ntmps54
  go_wp2_with (go_at_call 118; refine (valid_nil _).mono ?_; rintro e' w' ⟨rfl, rfl⟩)
  go_ret
  exact ⟨rfl, rfl⟩

/-- The rest of a cursor's string. -/
theorem rest_yes {w : World} {b : Nat} {s : ByteArray} {i : Nat} {e : Int} (hc : Cur w b s i e) (hi : i ≤ s.size) (_ : s.size ≤ 9223372036854775807) :
    Calls Tryz.prog 117 #[.pointer (some ⟨b, 0, none⟩)] w fun e' w' => e' = .returned (.string (s.extract i s.size)) ∧ ∃ n, w' = w.drewN n := by
  have h1 := hc.c1
  have h2 := hc.c2
  go_enter Tryz.func117, Tryz.ntmps117
  go_wp2_with (go_at_call 118; refine (valid_yes hc).mono ?_; rintro e' w' ⟨rfl, rfl⟩)
  go_quiet (fail)
  go_wp2
  go_ret
  exact ⟨rfl, _, rfl⟩
theorem rest_nil (w : World) :
    Calls Tryz.prog 117 #[.pointer none] w fun e' w' => e' = .returned (.string ⟨#[]⟩) ∧ w = w' := by
  go_enter Tryz.func117, Tryz.ntmps117
  go_wp2_with (go_at_call 118; refine (valid_nil _).mono ?_; rintro e' w' ⟨rfl, rfl⟩)
  go_ret
  exact ⟨rfl, rfl⟩

theorem fail_yes {w : World} {b : Nat} {s : ByteArray} {i : Nat} (f : Int) (hc : Cur w b s i 0) :
    Calls Tryz.prog 116 #[.pointer (some ⟨b, 0, none⟩), .int .i64 f] w fun e' w' => e' = .returned (.tuple #[]) ∧ Cur w' b s i f ∧ w.grownBy w' (some b) := by
  have h3 := hc.c3
  have f3 := hc.fr 3
  go_enter Tryz.func116, Tryz.ntmps116
  go_wp2_with (go_at_call 118; refine (valid_yes hc).mono ?_; rintro e' w' ⟨rfl, rfl⟩)
  go_end0
  exact ⟨rfl, hc.fail f, block_kept _ _ _ _⟩
theorem fail_no {w : World} {b : Nat} {s : ByteArray} {i : Nat} {e : Int} (f : Int) (hc : Cur w b s i e) (he : (e == 0) = false) :
    Calls Tryz.prog 116 #[.pointer (some ⟨b, 0, none⟩), .int .i64 f] w fun e' w' => e' = .returned (.tuple #[]) ∧ w = w' := by
  have h3 := hc.c3
  go_enter Tryz.func116, Tryz.ntmps116
  go_wp2_with (go_at_call 118; refine (valid_yes hc).mono ?_; rintro e' w' ⟨rfl, rfl⟩)
  go_end0
  exact ⟨rfl, rfl⟩
theorem fail_nil (f : Int) (w : World) :
    Calls Tryz.prog 116 #[.pointer none, .int .i64 f] w fun e' w' => e' = .returned (.tuple #[]) ∧ w = w' := by
  go_enter Tryz.func116, Tryz.ntmps116
  go_wp2_with (go_at_call 118; refine (valid_nil _).mono ?_; rintro e' w' ⟨rfl, rfl⟩)
  go_end0
  exact ⟨rfl, rfl⟩

theorem left_yes {w : World} {b : Nat} {s : ByteArray} {i : Nat} {e : Int} (hc : Cur w b s i e) (hi : i ≤ s.size) (hm : s.size ≤ 9223372036854775807) :
    Calls Tryz.prog 53 #[.pointer (some ⟨b, 0, none⟩)] w fun e' w' => e' = .returned (.int .i64 ((s.size - i : Nat) : Int)) ∧ ∃ n, w' = w.drewN n := by
  go_enter Tryz.func53, Tryz.ntmps53
  go_wp2_with (go_at_call 117; refine (rest_yes hc hi hm).mono ?_; rintro e' w' ⟨rfl, n, rfl⟩)
  go_ret
  exact ⟨by congr 2, _, rfl⟩
theorem left_nil (w : World) :
    Calls Tryz.prog 53 #[.pointer none] w fun e' w' => e' = .returned (.int .i64 0) ∧ w = w' := by
  go_enter Tryz.func53, Tryz.ntmps53
  go_wp2_with (go_at_call 117; refine (rest_nil _).mono ?_; rintro e' w' ⟨rfl, rfl⟩)
  go_ret
  exact ⟨rfl, rfl⟩

theorem take_err {w : World} {b : Nat} {s : ByteArray} {i : Nat} {e : Int} (n : Int) (hc : Cur w b s i e) (he : (e == 0) = false) :
    Calls Tryz.prog 170 #[.pointer (some ⟨b, 0, none⟩), .int .i64 n] w fun e' w' => e' = .returned (.string ⟨#[]⟩) ∧ w = w' := by
  have he' : (e != 0) = true := by simp_all
  go_enter Tryz.func170, Tryz.ntmps170
  go_wp2_with (go_at_call 54; refine (err_yes hc).mono ?_; rintro e' w' ⟨rfl, rfl⟩)
  go_ret
  exact ⟨rfl, rfl⟩
theorem take_nil (n : Int) (w : World) :
    Calls Tryz.prog 170 #[.pointer none, .int .i64 n] w fun e' w' => e' = .returned (.string ⟨#[]⟩) ∧ w = w' := by
  go_enter Tryz.func170, Tryz.ntmps170
  go_wp2_with (go_at_call 54; refine (err_nil _).mono ?_; rintro e' w' ⟨rfl, rfl⟩)
  go_ret
  exact ⟨rfl, rfl⟩
theorem take_neg {w : World} {b : Nat} {s : ByteArray} {i : Nat} (n : Int) (hc : Cur w b s i 0) (hn : n < 0) :
    Calls Tryz.prog 170 #[.pointer (some ⟨b, 0, none⟩), .int .i64 n] w fun e' w' => e' = .returned (.string ⟨#[]⟩) ∧ Cur w' b s i 3 ∧ w.grownBy w' (some b) := by
  go_enter Tryz.func170, Tryz.ntmps170
  go_wp2_with (first
    | (go_at_call 54; refine (err_yes hc).mono ?_; rintro e' w' ⟨rfl, rfl⟩)
    | (go_at_call 116; refine (fail_yes _ hc).mono ?_; rintro e' w' ⟨rfl, hc', hg⟩))
  go_ret
  exact ⟨rfl, hc', hg⟩
theorem take_past {w : World} {b : Nat} {s : ByteArray} {i : Nat} (n : Int) (hc : Cur w b s i 0) (hi : i ≤ s.size) (hm : s.size ≤ 9223372036854775807) (hn : ((s.size - i : Nat) : Int) < n) :
    Calls Tryz.prog 170 #[.pointer (some ⟨b, 0, none⟩), .int .i64 n] w fun e' w' => e' = .returned (.string ⟨#[]⟩) ∧ Cur w' b s i 3 ∧ w.grownBy w' (some b) := by
  have h0 : ¬ n < 0 := by omega
  go_enter Tryz.func170, Tryz.ntmps170
  go_wp2_with (first
    | (go_at_call 54; refine (err_yes hc).mono ?_; rintro e' w' ⟨rfl, rfl⟩)
    | (go_at_call 53; refine (left_yes hc hi hm).mono ?_; rintro e' w' ⟨rfl, nq, rfl⟩)
    | (go_at_call 116; refine (fail_yes _ (hc.draws nq)).mono ?_; rintro e' w' ⟨rfl, hc', hg⟩))
  go_ret
  exact ⟨rfl, hc', grown_of_draws hg⟩
theorem take_ok {w : World} {b : Nat} {s : ByteArray} {i : Nat} (n : Nat) (hc : Cur w b s i 0) (hi : i + n ≤ s.size) (hm : s.size ≤ 9223372036854775807) :
    Calls Tryz.prog 170 #[.pointer (some ⟨b, 0, none⟩), .int .i64 n] w fun e' w' => e' = .returned (.string (s.extract i (i + n))) ∧ Cur w' b s (i + n) 0 ∧ w.grownBy w' (some b) := by
  have hn : ¬ ((s.size - i : Nat) : Int) < (n : Int) := by omega
  have h1 := hc.c1
  have h2 := hc.c2
  have f2 := hc.fr 2
  go_enter Tryz.func170, Tryz.ntmps170
  go_wp2_with (first
    | (go_at_call 54; refine (err_yes hc).mono ?_; rintro e' w' ⟨rfl, rfl⟩)
    | (go_at_call 53; refine (left_yes hc (by omega) hm).mono ?_; rintro e' w' ⟨rfl, nq, rfl⟩))
  go_quiet (fail)
  go_wp2
  go_ret
  exact ⟨rfl, (hc.draws _).to (i + n), grown_of_draws (block_kept _ _ _ _)⟩

/-- The number of a string's last eight bytes. -/
def numOf (s : ByteArray) : Nat := num (s.data.toList.drop (s.size - 8))
theorem get_of (s : ByteArray) (w : World) (hm : s.size ≤ 9223372036854775807) :
    Calls Tryz.prog 198 #[.string s] w fun e w' => e = .returned (.int .u64 (numOf s)) ∧ w = w' := get_any s w hm
theorem numOf_nil : numOf ⟨#[]⟩ = 0 := by decide

theorem number_ok {w : World} {b : Nat} {s : ByteArray} {i : Nat} (n : Nat) (hc : Cur w b s i 0) (hi : i + n ≤ s.size) (hm : s.size ≤ 9223372036854775807) :
    Calls Tryz.prog 142 #[.pointer (some ⟨b, 0, none⟩), .int .i64 n] w fun e' w' => e' = .returned (.int .u64 (numOf (s.extract i (i + n)))) ∧ Cur w' b s (i + n) 0 ∧ w.grownBy w' (some b) := by
  go_enter Tryz.func142, Tryz.ntmps142
  go_wp2_with (first
    | (go_at_call 170; refine (take_ok n hc hi hm).mono ?_; rintro e' w' ⟨rfl, hc', hg⟩)
    | (go_at_call 198; refine (get_of _ _ (by simp; omega)).mono ?_; rintro e' w' ⟨rfl, rfl⟩))
  go_ret
  exact ⟨rfl, hc', hg⟩
theorem number_err {w : World} {b : Nat} {s : ByteArray} {i : Nat} {e : Int} (n : Int) (hc : Cur w b s i e) (he : (e == 0) = false) :
    Calls Tryz.prog 142 #[.pointer (some ⟨b, 0, none⟩), .int .i64 n] w fun e' w' => e' = .returned (.int .u64 0) ∧ w = w' := by
  go_enter Tryz.func142, Tryz.ntmps142
  go_wp2_with (first
    | (go_at_call 170; refine (take_err n hc he).mono ?_; rintro e' w' ⟨rfl, rfl⟩)
    | (go_at_call 198; refine (get_of _ _ (by decide)).mono ?_; rw [numOf_nil]; rintro e' w' ⟨rfl, rfl⟩))
  go_ret
  exact ⟨rfl, rfl⟩
theorem number_nil (n : Int) (w : World) :
    Calls Tryz.prog 142 #[.pointer none, .int .i64 n] w fun e' w' => e' = .returned (.int .u64 0) ∧ w = w' := by
  go_enter Tryz.func142, Tryz.ntmps142
  go_wp2_with (first
    | (go_at_call 170; refine (take_nil n _).mono ?_; rintro e' w' ⟨rfl, rfl⟩)
    | (go_at_call 198; refine (get_of _ _ (by decide)).mono ?_; rw [numOf_nil]; rintro e' w' ⟨rfl, rfl⟩))
  go_ret
  exact ⟨rfl, rfl⟩
theorem number_neg {w : World} {b : Nat} {s : ByteArray} {i : Nat} (n : Int) (hc : Cur w b s i 0) (hn : n < 0) :
    Calls Tryz.prog 142 #[.pointer (some ⟨b, 0, none⟩), .int .i64 n] w fun e' w' => e' = .returned (.int .u64 0) ∧ Cur w' b s i 3 ∧ w.grownBy w' (some b) := by
  go_enter Tryz.func142, Tryz.ntmps142
  go_wp2_with (first
    | (go_at_call 170; refine (take_neg n hc hn).mono ?_; rintro e' w' ⟨rfl, hc', hg⟩)
    | (go_at_call 198; refine (get_of _ _ (by decide)).mono ?_; rw [numOf_nil]; rintro e' w' ⟨rfl, rfl⟩))
  go_ret
  exact ⟨rfl, hc', hg⟩
theorem number_past {w : World} {b : Nat} {s : ByteArray} {i : Nat} (n : Int) (hc : Cur w b s i 0) (hi : i ≤ s.size) (hm : s.size ≤ 9223372036854775807) (hn : ((s.size - i : Nat) : Int) < n) :
    Calls Tryz.prog 142 #[.pointer (some ⟨b, 0, none⟩), .int .i64 n] w fun e' w' => e' = .returned (.int .u64 0) ∧ Cur w' b s i 3 ∧ w.grownBy w' (some b) := by
  go_enter Tryz.func142, Tryz.ntmps142
  go_wp2_with (first
    | (go_at_call 170; refine (take_past n hc hi hm hn).mono ?_; rintro e' w' ⟨rfl, hc', hg⟩)
    | (go_at_call 198; refine (get_of _ _ (by decide)).mono ?_; rw [numOf_nil]; rintro e' w' ⟨rfl, rfl⟩))
  go_ret
  exact ⟨rfl, hc', hg⟩
end Go.Proofs.YtaahhbjnflimnaaGreat
