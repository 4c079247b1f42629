/-
  Plain facts on bytes and numbers, and on a world in which blocks from a number on belong to the call. No condition.
  A string made of an owned row of bytes. No condition.
  The contract of octet.Put. No condition.
-/
import Derived.Test.YtnmdbbkcbedklaaDoorK09
import Derived.Test.YtnmdbbkcbedklaaDoorK06
namespace Go.Proofs.YtnmdbbkcbedklaaDoor
open Go.RowKit

theorem shr_be (n j : Nat) (hn : n < 18446744073709551616) : Op.shift .shr .u64 (n : Int) .i64 ((8 * j : Nat) : Int) = pure (.int .u64 ((n / 256 ^ j : Nat) : Int)) := by
  have e256 : (256 : Nat) ^ j = 2 ^ (8 * j) := by rw [Nat.pow_mul]
  rw [shift_shr_any _ _ _ _ (by omega), e256]
  congr 2
  have e1 : ((8 * j : Nat) : Int).toNat = 8 * j := by omega
  rw [e1]
  show (n : Int) / 2 ^ min (8 * j) 64 = _
  rcases Nat.lt_or_ge (8 * j) 64 with h | h
  · rw [Nat.min_eq_left (by omega)]; simp
  · rw [Nat.min_eq_right h]
    have h2 : 2 ^ 64 ≤ 2 ^ (8 * j) := Nat.pow_le_pow_right (by decide) h
    rw [Nat.div_eq_of_lt (by omega)]
    show (n : Int) / 18446744073709551616 = 0
    omega

end Go.Proofs.YtnmdbbkcbedklaaDoor
namespace Go.Proofs.YtnmdbbkcbedklaaDoor
open Go.RowKit

theorem info5 : (Tryd.prog.info? 5).map (fun i => (i.zero, i.size, i.bytes)) = some (some (.int .u8 0), 1, 1) := by kernel_rfl

theorem conv_own {w : World} {base : Nat} {v : Value} {n : Nat} (l : List UInt8) (h : w.ownsRow base 5 1 v n (l.map u8v)) :
    (convert 106 9 v).run Tryd.prog w = .ok (.string (bs l)) w := by
  have hl : l.length = n := by have := h.1; simpa using this
  rcases h.2 with ⟨rfl, hn⟩ | ⟨g, cap, cur, rfl, _⟩
  · have : l = [] := List.eq_nil_of_length_eq_zero (by omega)
    subst this
    exact run_convert_bytes_nil w 106 5 Tryd.underlying106 Tryd.underlying5 0 0 9 Tryd.underlying9
  · have hc := h.cells (g := g) rfl
    have e := run_convert_bytes_arg (P := Tryd.prog) w 106 5 Tryd.underlying106 Tryd.underlying5 g 0 n cap (l.map fun b => (b.toNat : Int)) (by simp [hl]) (fun i hi => by
      have := hc i (u8v (l.getD i 0)) (by simp [List.getElem?_eq_getElem (show i < l.length by omega)])
      have hadd : (⟨g, 0, none⟩ : Addr).add i = ⟨g, 0 + i, none⟩ := by unfold Addr.add; split <;> simp_all
      rw [hadd] at this
      rw [this]
      simp [u8v, List.getD, List.getElem?_eq_getElem (show i < l.length by omega)]) 9 Tryd.underlying9
    rw [e]
    simp [bs, strOfNums, Function.comp_def]

end Go.Proofs.YtnmdbbkcbedklaaDoor
namespace Go.Proofs.YtnmdbbkcbedklaaDoor
open Go.RowKit

set_option maxHeartbeats 400000 in
theorem put_mid (n c : Nat) (w : World) (hn : n < 18446744073709551616) (h0 : 0 < c) (h1 : c ≤ 16) :
    Calls Tryd.prog 48 #[.int .u64 n, .int .i64 c] w fun e w' => e = .returned (.string (bs (be n c))) ∧ Below w.heap.size w w' := by
  obtain ⟨i0, hi, hz0, hz1, hz2⟩ := info_parts info5
  go_enter Tryd.func48, Tryd.ntmps48
  go_wp2
  go_loopw [6, 11] (fun v i wr => ∃ k : Nat, k ≤ c ∧ i = .int .i64 k ∧ wr.ownsRow w.heap.size 5 1 v k ((be (n / 256 ^ (c - k)) k).map u8v) ∧ Below w.heap.size w wr) (fun _ i _ => c - (intOf i).toNat)
  case atStart => exact ⟨0, Nat.zero_le _, rfl, World.ownsRow_nil _ _ _ _, Below.refl _ _⟩
  case round =>
    obtain ⟨k, hk, rfl, hown, hb⟩ := hrel
    by_cases hlt : k < c
    · have hst := be_step n c k hlt
      have hsh0 := shr_be n (c - (k + 1)) hn
      rw [show (((8 * (c - (k + 1)) : Nat)) : Int) = 8 * ((c : Int) - 1 - k) from by omega] at hsh0
      generalize hm : n / 256 ^ (c - (k + 1)) = m at hst hsh0
      have HM := Lib.hid hm; clear hm
      have HS := Lib.hid hst; clear hst
      have hsh : Op.shift .shr .u64 (n : Int) .i64 (8 * ((c : Int) - 1 - k)) = pure (.int .u64 (m : Int)) := hsh0
      clear hsh0
      have hbs : w.heap.size ≤ wr.heap.size := hb.size
      go_wp2_with (at_builtin; refine wpList_append_own _ rfl _ _ 106 rfl w.heap.size 5 i0 (.int .u8 0) 1 1 Tryd.underlying106 hi hz0 hz1 hz2 rfl (by decide) _ _ _ rfl (hown.alloc _) ⟨wr.heap.size, 0, none⟩ 1 1 [.int .u8 ((m : Int) % 256)] rfl rfl ?c1 ?c2 ?c3 ?c4 ?c5 ?_)
      case c1 => intro j u hj; cases j <;> simp at hj; subst hj; exact World.cell?_alloc_at _ _ _ _ rfl
      case c2 => intro u hu; simp at hu; subst hu; rfl
      case c3 => unfold maxLen; omega
      case c4 => omega
      case c5 => simp; omega
      intro v' w1 hown' hgrow _
      have hb' : Below w.heap.size w w1 := (hb.alloc hbs _).grown hgrow (by simp; omega) (fun j hj => by have := (hown.lt j hj).1; omega)
      have hown2 : w1.ownsRow w.heap.size 5 1 v' (k + 1) ((be (n / 256 ^ (c - (k + 1))) (k + 1)).map u8v) := by
        rw [HM.out, HS.out]; simpa [u8v] using hown'
      clear hown' hgrow HS HM hown hb hsh
      go_wp2
      go_roundw
      case rel => exact ⟨k + 1, by omega, by go_num, hown2, hb'⟩
      case measure => simp [intOf]; omega
    · obtain rfl : k = c := by omega
      have hcv := conv_own _ hown
      have e0 : n / 256 ^ (k - k) = n := by simp
      rw [e0] at hcv
      go_wp2
      go_ret
      exact ⟨rfl, hb⟩
set_option maxHeartbeats 400000 in
set_option maxRecDepth 100000 in
theorem put_big (n : Nat) (size : Int) (w : World) (hn : n < 18446744073709551616) (h0 : 16 < size) :
    Calls Tryd.prog 48 #[.int .u64 n, .int .i64 size] w fun e w' => e = .returned (.string (bs (be n 16))) ∧ Below w.heap.size w w' := by
  obtain ⟨i0, hi, hz0, hz1, hz2⟩ := info_parts info5
  go_enter Tryd.func48, Tryd.ntmps48
  go_wp2
  go_loopw [6, 11] (fun v i wr => ∃ k : Nat, k ≤ 16 ∧ i = .int .i64 k ∧ wr.ownsRow w.heap.size 5 1 v k ((be (n / 256 ^ (16 - k)) k).map u8v) ∧ Below w.heap.size w wr) (fun _ i _ => 16 - (intOf i).toNat)
  case atStart => exact ⟨0, Nat.zero_le _, rfl, World.ownsRow_nil _ _ _ _, Below.refl _ _⟩
  case round =>
    obtain ⟨k, hk, rfl, hown, hb⟩ := hrel
    by_cases hlt : k < 16
    · have hst := be_step n 16 k hlt
      have hsh0 := shr_be n (16 - (k + 1)) hn
      rw [show (((8 * (16 - (k + 1)) : Nat)) : Int) = 8 * (15 - (k : Int)) from by omega] at hsh0
      generalize hm : n / 256 ^ (16 - (k + 1)) = m at hst hsh0
      have HM := Lib.hid hm; clear hm
      have HS := Lib.hid hst; clear hst
      have hsh : Op.shift .shr .u64 (n : Int) .i64 (8 * (15 - (k : Int))) = pure (.int .u64 (m : Int)) := hsh0
      clear hsh0
      have hbs : w.heap.size ≤ wr.heap.size := hb.size
      go_wp2_with (at_builtin; refine wpList_append_own _ rfl _ _ 106 rfl w.heap.size 5 i0 (.int .u8 0) 1 1 Tryd.underlying106 hi hz0 hz1 hz2 rfl (by decide) _ _ _ rfl (hown.alloc _) ⟨wr.heap.size, 0, none⟩ 1 1 [.int .u8 ((m : Int) % 256)] rfl rfl ?c1 ?c2 ?c3 ?c4 ?c5 ?_)
      case c1 => intro j u hj; cases j <;> simp at hj; subst hj; exact World.cell?_alloc_at _ _ _ _ rfl
      case c2 => intro u hu; simp at hu; subst hu; rfl
      case c3 => unfold maxLen; omega
      case c4 => omega
      case c5 => simp; omega
      intro v' w1 hown' hgrow _
      have hb' : Below w.heap.size w w1 := (hb.alloc hbs _).grown hgrow (by simp; omega) (fun j hj => by have := (hown.lt j hj).1; omega)
      have hown2 : w1.ownsRow w.heap.size 5 1 v' (k + 1) ((be (n / 256 ^ (16 - (k + 1))) (k + 1)).map u8v) := by
        rw [HM.out, HS.out]; simpa [u8v] using hown'
      clear hown' hgrow HS HM hown hb hsh
      go_wp2
      go_roundw
      case rel => exact ⟨k + 1, by omega, by go_num, hown2, hb'⟩
      case measure => simp [intOf]; omega
    · obtain rfl : k = 16 := by omega
      have hcv := conv_own _ hown
      have e0 : n / 256 ^ (16 - 16) = n := by simp
      rw [e0] at hcv
      go_wp2
      go_ret
      exact ⟨rfl, hb⟩

set_option maxRecDepth 100000 in
theorem put_neg (n : Nat) (size : Int) (w : World) (h0 : size ≤ 0) :
    Calls Tryd.prog 48 #[.int .u64 n, .int .i64 size] w fun e w' => e = .returned (.string (bs (be n 0))) ∧ Below w.heap.size w w' := by
  have hcv := conv_own (w := w) (base := w.heap.size) (v := .slice none 0 0) (n := 0) [] (World.ownsRow_nil _ _ _ _)
  go_enter Tryd.func48, Tryd.ntmps48
  go_wp2
  refine wp_loop_rounds 1 ?_
  rw [rounds_succ]
  go_wp2
  go_ret
  exact ⟨rfl, Below.refl _ _⟩

/-- octet.Put: the lowest bytes of n, the highest first; at most 16. -/
theorem put_any (n : Nat) (size : Int) (w : World) (hn : n < 18446744073709551616) :
    Calls Tryd.prog 48 #[.int .u64 n, .int .i64 size] w fun e w' => e = .returned (.string (bs (be n (min size 16).toNat))) ∧ Below w.heap.size w w' := by
  by_cases h0 : size ≤ 0
  · have e : (min size 16).toNat = 0 := by omega
    rw [e]; exact put_neg n size w h0
  by_cases h1 : size ≤ 16
  · obtain ⟨c, rfl⟩ := Int.eq_ofNat_of_zero_le (show 0 ≤ size by omega)
    have e : (min (c : Int) 16).toNat = c := by omega
    rw [e]; exact put_mid n c w hn (by omega) (by omega)
  · have e : (min size 16).toNat = 16 := by omega
    rw [e]; exact put_big n size w hn (by omega)

end Go.Proofs.YtnmdbbkcbedklaaDoor
