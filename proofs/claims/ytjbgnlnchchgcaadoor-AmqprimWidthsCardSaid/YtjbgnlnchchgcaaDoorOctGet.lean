/-
  The contract of octet.Get. No condition but the length of a string.
-/
import Derived.Test.YtjbgnlnchchgcaaDoorOctBase
import Derived.Lib.IndexBytes
namespace Go.Proofs.YtjbgnlnchchgcaaDoor
open Go.RowKit

theorem or_step (a : Nat) (b : UInt8) (ha : a < 72057594037927936) :
    bits BinOp.or IntKind.u64 (IntKind.u64.wrap ((a : Int) * 256)) (IntKind.u64.wrap (b.toNat : Int)) = ((a * 256 + b.toNat : Nat) : Int) := by
  have hb := b.toNat_lt
  have e1 : IntKind.u64.wrap ((a : Int) * 256) = ((a * 256 : Nat) : Int) := by simp only [IntKind.wrap_u64]; omega
  have e2 : IntKind.u64.wrap (b.toNat : Int) = ((b.toNat : Nat) : Int) := by simp only [IntKind.wrap_u64]; omega
  rw [e1, e2, bits_or_u64_nat _ _ (by omega) (by omega)]
  congr 1
  rw [Nat.mul_comm a 256]
  exact (Nat.two_pow_add_eq_or_of_lt (i := 8) (by omega) a).symm

theorem num_take_lt (s : ByteArray) (k : Nat) (hk : k < 8) : num (s.data.toList.take k) < 72057594037927936 := by
  have h := num_lt (s.data.toList.take k)
  have hl : (s.data.toList.take k).length ≤ 7 := by simp; omega
  have := Nat.pow_le_pow_right (show 0 < 256 by decide) hl
  omega

set_option maxHeartbeats 400000 in
theorem get_small (s : ByteArray) (w : World) (hs : s.size ≤ 8) :
    Calls Tryd.prog 78 #[.string s] w fun e w' => e = .returned (.int .u64 (num s.data.toList)) ∧ w = w' := by
  go_enter Tryd.func78, Tryd.ntmps78
  go_wp2
  go_loop [4, 14] (fun v i => ∃ k : Nat, k ≤ s.size ∧ i = .int .i64 k ∧ v = .int .u64 (num (s.data.toList.take k))) (fun _ i => s.size - (intOf i).toNat)
  case atStart => exact ⟨0, Nat.zero_le _, rfl, rfl⟩
  case round =>
    obtain ⟨k, hk, rfl, rfl⟩ := hrel
    by_cases hlt : k < s.size
    · go_wp2
      go_round
      case rel => exact ⟨k + 1, by omega, by go_num, by rw [or_step _ _ (num_take_lt s k (by omega)), take_bytes s k hlt, num_snoc]⟩
      case measure => simp [intOf]; omega
    · obtain rfl : k = s.size := by omega
      have e : s.data.toList.take s.size = s.data.toList := List.take_of_length_le (by simp)
      go_wp2
      go_ret
      exact ⟨rfl, rfl⟩

set_option maxHeartbeats 400000 in
theorem get_great (s : ByteArray) (w : World) (hs : 8 < s.size) (hm : s.size ≤ 9223372036854775807) :
    Calls Tryd.prog 78 #[.string s] w fun e w' => e = .returned (.int .u64 (num (s.data.toList.drop (s.size - 8)))) ∧ w = w' := by
  go_enter Tryd.func78, Tryd.ntmps78
  go_wp2
  have e8 : s.size - (s.size - 8) = 8 := by omega
  have ht : (s.extract (s.size - 8) s.size).size = 8 := by simp; omega
  have hd : (s.extract (s.size - 8) s.size).data.toList = s.data.toList.drop (s.size - 8) := Lib.extract_to_end s _
  rw [e8, show ((8 : Nat) : Int) = 8 from rfl]
  generalize s.extract (s.size - 8) s.size = t at ht hd
  have HD := Lib.hid hd
  clear hd e8
  have Hk : ∀ k, k < 8 → k < t.size := fun k h => by omega
  have HT := Lib.hid ht
  clear ht
  go_loop [4, 14] (fun v i => ∃ k : Nat, k ≤ 8 ∧ i = .int .i64 k ∧ v = .int .u64 (num (t.data.toList.take k))) (fun _ i => 8 - (intOf i).toNat)
  case atStart => exact ⟨0, Nat.zero_le _, rfl, rfl⟩
  case round =>
    obtain ⟨k, hk, rfl, rfl⟩ := hrel
    by_cases hlt : k < 8
    · have hkt := Hk k hlt
      clear Hk
      go_wp2
      go_round
      case rel => exact ⟨k + 1, by omega, by go_num, by rw [or_step _ _ (num_take_lt t k (by omega)), take_bytes t k hkt, num_snoc]⟩
      case measure => simp [intOf]; omega
    · obtain rfl : k = 8 := by omega
      have e : t.data.toList.take 8 = t.data.toList := List.take_of_length_le (by have := HT.out; simpa using Nat.le_of_eq this)
      clear Hk
      go_wp2
      go_ret
      exact ⟨by rw [HD.out]; rfl, rfl⟩

/-- octet.Get: the number of the last eight bytes. -/
theorem get_any (s : ByteArray) (w : World) (hm : s.size ≤ 9223372036854775807) :
    Calls Tryd.prog 78 #[.string s] w fun e w' => e = .returned (.int .u64 (num (s.data.toList.drop (s.size - 8)))) ∧ w = w' := by
  by_cases h : s.size ≤ 8
  · have e : s.size - 8 = 0 := by omega
    rw [e]; exact get_small s w h
  · exact get_great s w (by omega) hm
end Go.Proofs.YtjbgnlnchchgcaaDoor
