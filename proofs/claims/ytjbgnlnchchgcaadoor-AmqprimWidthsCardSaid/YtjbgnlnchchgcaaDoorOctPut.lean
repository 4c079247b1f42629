/-
  The contract of octet.Put. No condition.
-/
import Derived.Test.YtjbgnlnchchgcaaDoorOctBase
import Derived.Test.YtjbgnlnchchgcaaDoorBytesKit
namespace Go.Proofs.YtjbgnlnchchgcaaDoor
open Go.RowKit

set_option maxHeartbeats 400000 in
theorem put_mid (n c : Nat) (w : World) (hn : n < 18446744073709551616) (h0 : 0 < c) (h1 : c ≤ 16) :
    Calls Tryd.prog 72 #[.int .u64 n, .int .i64 c] w fun e w' => e = .returned (.string (bs (be n c))) ∧ Below w.heap.size w w' := by
  obtain ⟨i0, hi, hz0, hz1, hz2⟩ := info_parts info5
  go_enter Tryd.func72, Tryd.ntmps72
  go_wp2
  go_loopw [6, 11] (fun v i wr => ∃ k : Nat, k ≤ c ∧ i = .int .i64 k ∧ wr.ownsRow w.heap.size 5 1 v k ((be (n / 256 ^ (c - k)) k).map u8v) ∧ Below w.heap.size w wr) (fun _ i _ => c - (intOf i).toNat)
  case atStart => exact ⟨0, Nat.zero_le _, rfl, World.ownsRow_nil _ _ _ _, Below.refl _ _⟩
  case round =>
    obtain ⟨k, hk, rfl, hown, hb⟩ := hrel
    by_cases hlt : k < c
    · have hst := be_step n c k hlt
      have hsh0 := shr_be n (c - (k + 1)) hn
      rw [show (((8 * (c - (k + 1)) : Nat)) : Int) = 8 * ((c : Int) - 1 - k) from by omega] at hsh0
      generalize hm : n / 256 ^ (c - (k + 1)) = m at hst hsh0
      have HM := Lib.hid hm; clear hm
      have HS := Lib.hid hst; clear hst
      have hsh : Op.shift .shr .u64 (n : Int) .i64 (8 * ((c : Int) - 1 - k)) = pure (.int .u64 (m : Int)) := hsh0
      clear hsh0
      have hbs : w.heap.size ≤ wr.heap.size := hb.size
      go_wp2_with (at_builtin; refine wpList_append_own _ rfl _ _ 93 rfl w.heap.size 5 i0 (.int .u8 0) 1 1 Tryd.underlying93 hi hz0 hz1 hz2 rfl (by decide) _ _ _ rfl (hown.alloc _) ⟨wr.heap.size, 0, none⟩ 1 1 [.int .u8 ((m : Int) % 256)] rfl rfl ?c1 ?c2 ?c3 ?c4 ?c5 ?_)
      case c1 => intro j u hj; cases j <;> simp at hj; subst hj; exact World.cell?_alloc_at _ _ _ _ rfl
      case c2 => intro u hu; simp at hu; subst hu; rfl
      case c3 => unfold maxLen; omega
      case c4 => omega
      case c5 => simp; omega
      intro v' w1 hown' hgrow _
      have hb' : Below w.heap.size w w1 := (hb.alloc hbs _).grown hgrow (by simp; omega) (fun j hj => by have := (hown.lt j hj).1; omega)
      have hown2 : w1.ownsRow w.heap.size 5 1 v' (k + 1) ((be (n / 256 ^ (c - (k + 1))) (k + 1)).map u8v) := by
        rw [HM.out, HS.out]; simpa [u8v] using hown'
      clear hown' hgrow HS HM hown hb hsh
      go_wp2
      go_roundw
      case rel => exact ⟨k + 1, by omega, by go_num, hown2, hb'⟩
      case measure => simp [intOf]; omega
    · obtain rfl : k = c := by omega
      have hcv := conv_own _ hown
      have e0 : n / 256 ^ (k - k) = n := by simp
      rw [e0] at hcv
      go_wp2
      go_ret
      exact ⟨rfl, hb⟩
set_option maxHeartbeats 400000 in
set_option maxRecDepth 100000 in
theorem put_big (n : Nat) (size : Int) (w : World) (hn : n < 18446744073709551616) (h0 : 16 < size) :
    Calls Tryd.prog 72 #[.int .u64 n, .int .i64 size] w fun e w' => e = .returned (.string (bs (be n 16))) ∧ Below w.heap.size w w' := by
  obtain ⟨i0, hi, hz0, hz1, hz2⟩ := info_parts info5
  go_enter Tryd.func72, Tryd.ntmps72
  go_wp2
  go_loopw [6, 11] (fun v i wr => ∃ k : Nat, k ≤ 16 ∧ i = .int .i64 k ∧ wr.ownsRow w.heap.size 5 1 v k ((be (n / 256 ^ (16 - k)) k).map u8v) ∧ Below w.heap.size w wr) (fun _ i _ => 16 - (intOf i).toNat)
  case atStart => exact ⟨0, Nat.zero_le _, rfl, World.ownsRow_nil _ _ _ _, Below.refl _ _⟩
  case round =>
    obtain ⟨k, hk, rfl, hown, hb⟩ := hrel
    by_cases hlt : k < 16
    · have hst := be_step n 16 k hlt
      have hsh0 := shr_be n (16 - (k + 1)) hn
      rw [show (((8 * (16 - (k + 1)) : Nat)) : Int) = 8 * (15 - (k : Int)) from by omega] at hsh0
      generalize hm : n / 256 ^ (16 - (k + 1)) = m at hst hsh0
      have HM := Lib.hid hm; clear hm
      have HS := Lib.hid hst; clear hst
      have hsh : Op.shift .shr .u64 (n : Int) .i64 (8 * (15 - (k : Int))) = pure (.int .u64 (m : Int)) := hsh0
      clear hsh0
      have hbs : w.heap.size ≤ wr.heap.size := hb.size
      go_wp2_with (at_builtin; refine wpList_append_own _ rfl _ _ 93 rfl w.heap.size 5 i0 (.int .u8 0) 1 1 Tryd.underlying93 hi hz0 hz1 hz2 rfl (by decide) _ _ _ rfl (hown.alloc _) ⟨wr.heap.size, 0, none⟩ 1 1 [.int .u8 ((m : Int) % 256)] rfl rfl ?c1 ?c2 ?c3 ?c4 ?c5 ?_)
      case c1 => intro j u hj; cases j <;> simp at hj; subst hj; exact World.cell?_alloc_at _ _ _ _ rfl
      case c2 => intro u hu; simp at hu; subst hu; rfl
      case c3 => unfold maxLen; omega
      case c4 => omega
      case c5 => simp; omega
      intro v' w1 hown' hgrow _
      have hb' : Below w.heap.size w w1 := (hb.alloc hbs _).grown hgrow (by simp; omega) (fun j hj => by have := (hown.lt j hj).1; omega)
      have hown2 : w1.ownsRow w.heap.size 5 1 v' (k + 1) ((be (n / 256 ^ (16 - (k + 1))) (k + 1)).map u8v) := by
        rw [HM.out, HS.out]; simpa [u8v] using hown'
      clear hown' hgrow HS HM hown hb hsh
      go_wp2
      go_roundw
      case rel => exact ⟨k + 1, by omega, by go_num, hown2, hb'⟩
      case measure => simp [intOf]; omega
    · obtain rfl : k = 16 := by omega
      have hcv := conv_own _ hown
      have e0 : n / 256 ^ (16 - 16) = n := by simp
      rw [e0] at hcv
      go_wp2
      go_ret
      exact ⟨rfl, hb⟩

set_option maxRecDepth 100000 in
theorem put_neg (n : Nat) (size : Int) (w : World) (h0 : size ≤ 0) :
    Calls Tryd.prog 72 #[.int .u64 n, .int .i64 size] w fun e w' => e = .returned (.string (bs (be n 0))) ∧ Below w.heap.size w w' := by
  have hcv := conv_own (w := w) (base := w.heap.size) (v := .slice none 0 0) (n := 0) [] (World.ownsRow_nil _ _ _ _)
  go_enter Tryd.func72, Tryd.ntmps72
  go_wp2
  refine wp_loop_rounds 1 ?_
  rw [rounds_succ]
  go_wp2
  go_ret
  exact ⟨rfl, Below.refl _ _⟩

/-- octet.Put: the lowest bytes of n, the highest first; at most 16. -/
theorem put_any (n : Nat) (size : Int) (w : World) (hn : n < 18446744073709551616) :
    Calls Tryd.prog 72 #[.int .u64 n, .int .i64 size] w fun e w' => e = .returned (.string (bs (be n (min size 16).toNat))) ∧ Below w.heap.size w w' := by
  by_cases h0 : size ≤ 0
  · have e : (min size 16).toNat = 0 := by omega
    rw [e]; exact put_neg n size w h0
  by_cases h1 : size ≤ 16
  · obtain ⟨c, rfl⟩ := Int.eq_ofNat_of_zero_le (show 0 ≤ size by omega)
    have e : (min (c : Int) 16).toNat = c := by omega
    rw [e]; exact put_mid n c w hn (by omega) (by omega)
  · have e : (min size 16).toNat = 16 := by omega
    rw [e]; exact put_big n size w hn (by omega)

end Go.Proofs.YtjbgnlnchchgcaaDoor
