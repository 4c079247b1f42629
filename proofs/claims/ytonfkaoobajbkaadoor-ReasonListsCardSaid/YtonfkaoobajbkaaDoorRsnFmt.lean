/-
  strconv.FormatInt at base 16, of numbers from 256 to 511. Condition: the table of math/bits reads as the program's text lays it.
-/
import Derived.Test.YtonfkaoobajbkaaDoorRsnTabs
namespace Go.Proofs.YtonfkaoobajbkaaDoor
open Go.RowKit

theorem pow2_16 (w : World) : Calls Tryd.prog 41 #[.int .i64 16] w fun e w' => e = .returned (.bool true) ∧ w = w' := by
  have e1 : bits .and .i64 16 15 = 0 := by decide +kernel
  go_enter Tryd.func41, Tryd.ntmps41
  go_wp2_with fail
  go_ret
  exact ⟨rfl, rfl⟩
theorem zeros64_16 (w : World) (ht : Tabs w) : Calls Tryd.prog 44 #[.int .u64 16] w fun e w' => e = .returned (.int .i64 4) ∧ w = w' := by
  have h : w.cell? ⟨3, 15, none⟩ = some (.int .u8 4) := ht.debr.cell (by kernel_rfl) 15 (by decide)
  have e0 : IntKind.u64.wrap (bits .and .u64 16 (IntKind.u64.wrap (-16)) * 285870213051353865) / 288230376151711744 = 15 := by decide +kernel
  clear ht
  go_enter Tryd.func44, Tryd.ntmps44
  go_wp2_with fail
  go_ret
  exact ⟨rfl, rfl⟩
theorem zeros_16 (w : World) (ht : Tabs w) : Calls Tryd.prog 42 #[.int .u64 16] w fun e w' => e = .returned (.int .i64 4) ∧ w = w' := by
  have Z := Lib.hid (zeros64_16 w ht)
  clear ht
  go_enter Tryd.func42, Tryd.ntmps42
  go_wp2_with (go_at_call 44; refine Z.out.mono ?_; rintro e w' ⟨rfl, rfl⟩)
  go_ret
  exact ⟨rfl, rfl⟩
def digitsS : ByteArray := ⟨#[48, 49, 50, 51, 52, 53, 54, 55, 56, 57, 97, 98, 99, 100, 101, 102, 103, 104, 105, 106, 107, 108, 109, 110, 111, 112, 113, 114, 115, 116, 117, 118, 119, 120, 121, 122]⟩
theorem and_15 (u : Nat) (h : u < 18446744073709551616) : bits .and .u64 (u : Int) 15 = ((u % 16 : Nat) : Int) := by
  have h1 := bits_and_u64_nat u 15 h (by decide)
  rw [show ((15 : Nat) : Int) = 15 from rfl] at h1
  rw [h1, show (15 : Nat) = 2 ^ 4 - 1 from rfl, Nat.and_two_pow_sub_one_eq_mod]
theorem digit_at : ∀ x < 16, ∀ w : World, (Instr.index 9 (.string digitsS) (.int .u64 ((x : Nat) : Int))).run Tryd.prog w = .ok (.int .u8 ((hexD x).toNat : Int)) w := by
  intro x hx w
  obtain rfl | rfl | rfl | rfl | rfl | rfl | rfl | rfl | rfl | rfl | rfl | rfl | rfl | rfl | rfl | rfl : x = 0 ∨ x = 1 ∨ x = 2 ∨ x = 3 ∨ x = 4 ∨ x = 5 ∨ x = 6 ∨ x = 7 ∨ x = 8 ∨ x = 9 ∨ x = 10 ∨ x = 11 ∨ x = 12 ∨ x = 13 ∨ x = 14 ∨ x = 15 := by omega
  all_goals kernel_rfl
/-- What stands in the loop. -/
def St (w : World) (cs : Array Value) (wx : World) : Prop := Below w.heap.size w wx ∧ wx.heap[w.heap.size]? = some (.cells cs 52 (0, 0))
theorem St.put {w wx : World} {cs : Array Value} (h : St w cs wx) (j : Nat) (v : Value) : St w (cs.setIfInBounds j v) (wx.setCell ⟨w.heap.size, j, none⟩ v) :=
  ⟨h.1.setCell (Nat.le_refl _) _, setCell_block h.2 j v⟩
set_option maxRecDepth 100000 in
set_option maxHeartbeats 1000000 in
theorem bits_16 (x y : Nat) (w : World) (ht : Tabs w) (hx : x < 16) (hy : y < 16) :
    Calls Tryd.prog 37 #[.slice none 0 0, .int .u64 ((256 + 16 * x + y : Nat) : Int), .int .i64 16, .bool false, .bool false] w fun e w' => e = .returned (.tuple #[.slice none 0 0, .string ⟨#[49, hexD x, hexD y]⟩]) ∧ Below w.heap.size w w' := by
  obtain ⟨u, hu⟩ : ∃ u, 256 + 16 * x + y = u := ⟨_, rfl⟩
  have HT := Lib.hid ht
  rw [hu]
  have HU := Lib.hid hu
  have P2 := Lib.hid (fun W => pow2_16 W)
  have ZT := Lib.hid (fun W (h : Tabs W) => zeros_16 W h)
  have hzv : ∀ W, (zeroValue 52).run Tryd.prog W = .ok (.agg (Array.replicate 65 (.int .u8 0))) W := fun _ => by kernel_rfl
  have hz : ∀ j < 65, (Array.replicate 65 (Value.int .u8 0))[j]? = some (.int .u8 0) := fun j hj => by simp [hj]
  have hzs : (Array.replicate 65 (Value.int .u8 0)).size = 65 := by simp
  have S0 := Lib.hid (show St w (Array.replicate 65 (Value.int .u8 0)) (w.alloc (.cells (Array.replicate 65 (Value.int .u8 0)) 52)) from ⟨(Below.refl _ _).alloc (Nat.le_refl _) _, heap_alloc_new _ _⟩)
  generalize Array.replicate 65 (Value.int .u8 0) = z at *
  have HZ := Lib.hid hz
  have HZS := Lib.hid hzs
  clear hz hzs
  clear hu ht
  go_enter Tryd.func37, Tryd.ntmps37
  go_wp2_with (first
    | (go_at_call 41; refine (P2.out _).mono ?_; rintro e w' ⟨rfl, rfl⟩)
    | (go_at_call 42; refine (ZT.out _ (HT.out.below ((Below.refl _ _).alloc (Nat.le_refl _) _))).mono ?_; rintro e w' ⟨rfl, rfl⟩))
  clear P2 ZT hzv
  generalize w.alloc (.cells z 52) = w0 at *
  go_loopg [1, 13] 3 (fun gk s1 s13 wx => (gk = 3 ∧ s1 = .int .u64 (u : Int) ∧ s13 = .int .i64 65 ∧ St w z wx) ∨ (gk = 2 ∧ s1 = .int .u64 ((16 + x : Nat) : Int) ∧ s13 = .int .i64 64 ∧ St w (z.setIfInBounds 64 (.int .u8 (hexD y).toNat)) wx)
    ∨ (gk = 1 ∧ s1 = .int .u64 1 ∧ s13 = .int .i64 63 ∧ St w ((z.setIfInBounds 64 (.int .u8 (hexD y).toNat)).setIfInBounds 63 (.int .u8 (hexD x).toNat)) wx))
  case atStart => exact .inl ⟨rfl, rfl, rfl, S0.out⟩
  case round =>
    rcases hrel with ⟨rfl, rfl, rfl, hS⟩ | ⟨rfl, rfl, rfl, hS⟩ | ⟨rfl, rfl, rfl, hS⟩
    · have h1 : (16 : Int) ≤ (u : Int) := by have := HU.out; omega
      have e1 : bits .and .u64 (u : Int) 15 = (y : Int) := by rw [and_15 u (by have := HU.out; omega)]; have := HU.out; omega
      have e2 : (u : Int) / 16 = ((16 + x : Nat) : Int) := by have := HU.out; omega
      have e3 := digit_at y hy
      have HN := Lib.hid (hS.put 64 (.int .u8 (hexD y).toNat))
      have c0 : wr.cell? ⟨w.heap.size, 64, none⟩ = some (.int .u8 0) := (cell_of_row _ _ 64 _ _ _ hS.2).trans (HZ.out 64 (by decide))
      have f0 := frozen_of_row _ _ 64 _ _ hS.2
      clear hS
      unfold digitsS at e3
      go_wp2_with fail
      go_roundg 2
      case measure => omega
      case rel => exact .inr (.inl ⟨rfl, by go_num, rfl, HN.out⟩)
    · have e1 : bits .and .u64 (16 + (x : Int)) 15 = (x : Int) := by
        have := and_15 (16 + x) (by omega)
        rw [show (((16 + x : Nat)) : Int) = 16 + (x : Int) by omega] at this
        rw [this]; omega
      have e2 : (16 + (x : Int)) / 16 = 1 := by omega
      have e3 := digit_at x hx
      have HN := Lib.hid (hS.put 63 (.int .u8 (hexD x).toNat))
      have c0 : wr.cell? ⟨w.heap.size, 63, none⟩ = some (.int .u8 0) := (cell_of_row _ _ 63 _ _ _ hS.2).trans (by simp [HZ.out 63 (by decide)])
      have f0 := frozen_of_row _ _ 63 _ _ hS.2
      have x0 : (0 : Int) ≤ (x : Int) := by omega
      have x1 : (x : Int) < 16 := by omega
      clear hS
      unfold digitsS at e3
      go_wp2_with fail
      go_roundg 1
      case measure => omega
      case rel => exact .inr (.inr ⟨rfl, rfl, rfl, HN.out⟩)
    · have HN := Lib.hid (hS.put 62 (.int .u8 49))
      have c0 : wr.cell? ⟨w.heap.size, 62, none⟩ = some (.int .u8 0) := (cell_of_row _ _ 62 _ _ _ hS.2).trans (by simp [HZ.out 62 (by decide)])
      have f0 := frozen_of_row _ _ 62 _ _ hS.2
      have CV : (convert 45 9 (.slice (some ⟨w.heap.size, 62, none⟩) 3 3)).run Tryd.prog (wr.setCell ⟨w.heap.size, 62, none⟩ (.int .u8 49)) = .ok (.string ⟨#[49, hexD x, hexD y]⟩) (wr.setCell ⟨w.heap.size, 62, none⟩ (.int .u8 49)) := by
        have h2 := HN.out.2
        rw [run_convert_bytes_arg (P := Tryd.prog) _ 45 5 Tryd.underlying45 Tryd.underlying5 w.heap.size 62 3 3 [49, ((hexD x).toNat : Int), ((hexD y).toNat : Int)] rfl (fun i hi => by
          rw [cell_of_row _ _ (62 + i) _ _ _ h2]
          obtain rfl | rfl | rfl : i = 0 ∨ i = 1 ∨ i = 2 := by omega
          all_goals simp [HZS.out]) 9 Tryd.underlying9]
        simp [strOfNums]
      have e4 : digitsS[1]'(by decide) = 49 := rfl
      clear hS
      unfold digitsS at e4
      go_wp2_with fail
      go_ret2
      exact ⟨rfl, HN.out.1⟩
theorem fmt_16 (x y : Nat) (w : World) (ht : Tabs w) (hx : x < 16) (hy : y < 16) :
    Calls Tryd.prog 28 #[.int .i64 ((256 + 16 * x + y : Nat) : Int), .int .i64 16] w fun e w' => e = .returned (.string ⟨#[49, hexD x, hexD y]⟩) ∧ Below w.heap.size w w' := by
  have BT := Lib.hid (bits_16 x y w ht hx hy)
  obtain ⟨u, hu⟩ : ∃ u, 256 + 16 * x + y = u := ⟨_, rfl⟩
  rw [hu] at BT ⊢
  have h0 : (u : Int) < 512 := by omega
  clear hu ht hx hy
  have IN := Lib.hid (show Calls Tryd.prog 33 #[.int .i64 (u : Int), .int .i64 16] w fun e w' => e = .returned (.string ⟨#[49, hexD x, hexD y]⟩) ∧ Below w.heap.size w w' by
    go_enter Tryd.func33, Tryd.ntmps33
    go_wp2_with (go_at_call 37; refine BT.out.mono ?_; rintro e w' ⟨rfl, hb⟩; have hb := Lib.hid hb)
    go_ret
    exact ⟨rfl, hb.out⟩)
  go_enter Tryd.func28, Tryd.ntmps28
  go_wp2_with (go_at_call 33; refine IN.out.mono ?_; rintro e w' ⟨rfl, hb⟩; have hb := Lib.hid hb)
  go_ret
  exact ⟨rfl, hb.out⟩
end Go.Proofs.YtonfkaoobajbkaaDoor
