/-
  The contracts of what tells whether a code point begins: strings.HasPrefix at the replacement's bytes, begins, and utf8.RuneLen. No condition but the length of a string.
  Plain facts on bytes and numbers, and on a world in which blocks from a number on belong to the call. No condition.
  The contract of octet.Put. No condition.
-/
import Derived.Test.YtckdbnndpoleeaaGreatK12
import Derived.Test.YtckdbnndpoleeaaGreatK02
import Derived.Test.YtckdbnndpoleeaaGreatK10
import Derived.Test.YtckdbnndpoleeaaGreatK03
namespace Go.Proofs.YtckdbnndpoleeaaGreat
open Go.RowKit

theorem bs_of (s : ByteArray) : bs s.data.toList = s := rfl
theorem size_list (s : ByteArray) : s.size = s.data.toList.length := by simp

theorem cb_fffd : cb 65533 = [239, 191, 189] := by decide
/-- Whether the bytes of U+FFFD stand ahead. -/
theorem extract3 (s : ByteArray) : ((s.extract 0 3).toList == [239, 191, 189]) = decide (s.data.toList.take 3 = [239, 191, 189]) := by
  rw [toList_data]
  have : (s.extract 0 3).data.toList = s.data.toList.take 3 := by simp [List.extract_eq_take_drop]
  rw [this, Bool.eq_iff_iff]
  simp

theorem has_yes (s : ByteArray) (w : World) (h : ∃ r, s.data.toList = [239, 191, 189] ++ r) :
    Calls Tryz.prog 129 #[.string s, .string ⟨#[239, 191, 189]⟩] w fun e w' => e = .returned (.bool true) ∧ w = w' := by
  obtain ⟨r, h⟩ := h
  have h3 : 3 ≤ s.size := by rw [size_list, h]; simp
  have hq : ((s.extract 0 3).toList == [239, 191, 189]) = true := by rw [extract3, h]; simp
  go_enter Tryz.func129, Tryz.ntmps129
  go_wp2
  go_ret
  exact ⟨rfl, rfl⟩
theorem has_no (s : ByteArray) (w : World) (h : ¬ ∃ r, s.data.toList = [239, 191, 189] ++ r) :
    Calls Tryz.prog 129 #[.string s, .string ⟨#[239, 191, 189]⟩] w fun e w' => e = .returned (.bool false) ∧ w = w' := by
  by_cases h3 : 3 ≤ s.size
  · have hq : ((s.extract 0 3).toList == [239, 191, 189]) = false := by
      rw [extract3, decide_eq_false_iff_not]
      intro e
      exact h ⟨s.data.toList.drop 3, by rw [← e]; exact (List.take_append_drop 3 _).symm⟩
    go_enter Tryz.func129, Tryz.ntmps129
    go_wp2
    go_ret
    exact ⟨rfl, rfl⟩
  · have h4 : s.size < 3 := by omega
    clear h3
    go_enter Tryz.func129, Tryz.ntmps129
    go_wp2
    go_ret
    exact ⟨rfl, rfl⟩
theorem has_any (s : ByteArray) (w : World) (b : Bool) (h : b = true ↔ ∃ r, s.data.toList = [239, 191, 189] ++ r) :
    Calls Tryz.prog 124 #[.string s, .string ⟨#[239, 191, 189]⟩] w fun e w' => e = .returned (.bool b) ∧ w = w' := by
  have hc : Calls Tryz.prog 129 #[.string s, .string ⟨#[239, 191, 189]⟩] w fun e w' => e = .returned (.bool b) ∧ w = w' := by
    cases b with
    | true => exact has_yes s w (h.1 rfl)
    | false => exact has_no s w (fun e => by cases h.2 e)
  have hc := Lib.hid hc
  go_enter Tryz.func124, Tryz.ntmps124
  go_wp2_with fail
  refine (hc.out).mono ?_
  rintro e W ⟨rfl, rfl⟩
  go_wp2_with fail
  go_ret
  exact ⟨rfl, rfl⟩

/-- begins, of a code point that is not U+FFFD. -/
theorem begins_other (s : ByteArray) (c : Nat) (w : World) (hc : c ≠ 65533) (hm : c < 2147483648) :
    Calls Tryz.prog 122 #[.string s, .int .i32 c] w fun e w' => e = .returned (.bool (decide (c ≠ 0))) ∧ w = w' := by
  have h1 : ¬ (c : Int) = 65533 := by omega
  by_cases h0 : c = 0
  · subst h0
    go_enter Tryz.func122, Tryz.ntmps122
    go_wp2
    go_ret
    exact ⟨rfl, rfl⟩
  · have h2 : ¬ (c : Int) = 0 := by omega
    have e : decide (c ≠ 0) = true := by simp [h0]
    rw [e]
    go_enter Tryz.func122, Tryz.ntmps122
    go_wp2
    go_ret
    exact ⟨by simp [h0], rfl⟩
theorem begins_fffd (s : ByteArray) (b : Bool) (w : World) (h : b = true ↔ ∃ r, s.data.toList = [239, 191, 189] ++ r) :
    Calls Tryz.prog 122 #[.string s, .int .i32 65533] w fun e w' => e = .returned (.bool b) ∧ w = w' := by
  have hc := Lib.hid (has_any s w b h)
  clear h
  go_enter Tryz.func122, Tryz.ntmps122
  go_wp2_with fail
  refine (hc.out).mono ?_
  rintro e W ⟨rfl, rfl⟩
  go_wp2_with fail
  go_ret
  exact ⟨rfl, rfl⟩
theorem begins_yes (s : ByteArray) (c : Nat) (w : World) (h : hd s.data.toList = some c) :
    Calls Tryz.prog 122 #[.string s, .int .i32 c] w fun e w' => e = .returned (.bool true) ∧ w = w' := by
  obtain ⟨ho, r, hr⟩ := hd_some h
  by_cases hc : c = 65533
  · subst hc
    exact begins_fffd s true w ⟨fun _ => ⟨r, by rw [hr, cb_fffd]⟩, fun _ => rfl⟩
  · have hb := begins_other s c w hc (by have := ho.2; omega)
    have e : decide (c ≠ 0) = true := by have := ho.1; simp; omega
    rwa [e] at hb
theorem begins_no (s : ByteArray) (w : World) (h0 : s.data.toList ≠ []) (h : hd s.data.toList = none) :
    Calls Tryz.prog 122 #[.string s, .int .i32 (dl s.data.toList).1] w fun e w' => e = .returned (.bool false) ∧ w = w' := by
  rcases hd_none h0 h with hc | hc
  · rw [hc]
    refine begins_fffd s false w ⟨fun e => (by cases e), fun ⟨r, hr⟩ => ?_⟩
    rw [← cb_fffd] at hr
    rw [hr, hd_cb (by unfold okc; omega)] at h
    cases h
  · rw [hc]
    exact begins_other s 0 w (by decide) (by decide)

/-- utf8.RuneLen, of a code point that may be there. -/
theorem runelen (c : Nat) (w : World) (h : okc c) :
    Calls Tryz.prog 119 #[.int .i32 c] w fun e w' => e = .returned (.int .i64 (cb c).length) ∧ w = w' := by
  obtain ⟨h0, h1⟩ := h
  have hz : ¬ (c : Int) < 0 := by omega
  rw [cb_length]
  by_cases h2 : c < 128
  · rw [if_pos h2]
    have k2 : (c : Int) ≤ 127 := by omega
    clear h1 h2
    go_enter Tryz.func119, Tryz.ntmps119
    go_wp2
    go_ret
    exact ⟨rfl, rfl⟩
  rw [if_neg h2]
  have k2 : ¬ (c : Int) ≤ 127 := by omega
  by_cases h3 : c < 2048
  · rw [if_pos h3]
    have k3 : (c : Int) ≤ 2047 := by omega
    clear h1 h2 h3
    go_enter Tryz.func119, Tryz.ntmps119
    go_wp2
    go_ret
    exact ⟨rfl, rfl⟩
  rw [if_neg h3]
  have k3 : ¬ (c : Int) ≤ 2047 := by omega
  by_cases h4 : c < 65536
  · rw [if_pos h4]
    have k4 : (c : Int) ≤ 65535 := by omega
    by_cases h5 : c < 55296
    · have k5 : ¬ 55296 ≤ (c : Int) := by omega
      clear h1 h2 h3 h4 h5
      go_enter Tryz.func119, Tryz.ntmps119
      go_wp2
      go_ret
      exact ⟨rfl, rfl⟩
    · have k5 : 55296 ≤ (c : Int) := by omega
      have k6 : ¬ (c : Int) ≤ 57343 := by omega
      clear h1 h2 h3 h4 h5
      go_enter Tryz.func119, Tryz.ntmps119
      go_wp2
      go_ret
      exact ⟨rfl, rfl⟩
  rw [if_neg h4]
  have k4 : ¬ (c : Int) ≤ 65535 := by omega
  have k5 : 55296 ≤ (c : Int) := by omega
  have k6 : ¬ (c : Int) ≤ 57343 := by omega
  have k7 : (c : Int) ≤ 1114111 := by omega
  clear h1 h2 h3 h4
  go_enter Tryz.func119, Tryz.ntmps119
  go_wp2
  go_ret
  exact ⟨rfl, rfl⟩
end Go.Proofs.YtckdbnndpoleeaaGreat
namespace Go.Proofs.YtckdbnndpoleeaaGreat
open Go.RowKit

theorem shr_be (n j : Nat) (hn : n < 18446744073709551616) : Op.shift .shr .u64 (n : Int) .i64 ((8 * j : Nat) : Int) = pure (.int .u64 ((n / 256 ^ j : Nat) : Int)) := by
  have e256 : (256 : Nat) ^ j = 2 ^ (8 * j) := by rw [Nat.pow_mul]
  rw [shift_shr_any _ _ _ _ (by omega), e256]
  congr 2
  have e1 : ((8 * j : Nat) : Int).toNat = 8 * j := by omega
  rw [e1]
  show (n : Int) / 2 ^ min (8 * j) 64 = _
  rcases Nat.lt_or_ge (8 * j) 64 with h | h
  · rw [Nat.min_eq_left (by omega)]; simp
  · rw [Nat.min_eq_right h]
    have h2 : 2 ^ 64 ≤ 2 ^ (8 * j) := Nat.pow_le_pow_right (by decide) h
    rw [Nat.div_eq_of_lt (by omega)]
    show (n : Int) / 18446744073709551616 = 0
    omega

end Go.Proofs.YtckdbnndpoleeaaGreat
namespace Go.Proofs.YtckdbnndpoleeaaGreat
open Go.RowKit

set_option maxHeartbeats 400000 in
theorem put_mid (n c : Nat) (w : World) (hn : n < 18446744073709551616) (h0 : 0 < c) (h1 : c ≤ 16) :
    Calls Tryz.prog 30 #[.int .u64 n, .int .i64 c] w fun e w' => e = .returned (.string (bs (be n c))) ∧ Below w.heap.size w w' := by
  obtain ⟨i0, hi, hz0, hz1, hz2⟩ := info_parts info5
  go_enter Tryz.func30, Tryz.ntmps30
  go_wp2
  go_loopw [6, 11] (fun v i wr => ∃ k : Nat, k ≤ c ∧ i = .int .i64 k ∧ wr.ownsRow w.heap.size 5 1 v k ((be (n / 256 ^ (c - k)) k).map u8v) ∧ Below w.heap.size w wr) (fun _ i _ => c - (intOf i).toNat)
  case atStart => exact ⟨0, Nat.zero_le _, rfl, World.ownsRow_nil _ _ _ _, Below.refl _ _⟩
  case round =>
    obtain ⟨k, hk, rfl, hown, hb⟩ := hrel
    by_cases hlt : k < c
    · have hst := be_step n c k hlt
      have hsh0 := shr_be n (c - (k + 1)) hn
      rw [show (((8 * (c - (k + 1)) : Nat)) : Int) = 8 * ((c : Int) - 1 - k) from by omega] at hsh0
      generalize hm : n / 256 ^ (c - (k + 1)) = m at hst hsh0
      have HM := Lib.hid hm; clear hm
      have HS := Lib.hid hst; clear hst
      have hsh : Op.shift .shr .u64 (n : Int) .i64 (8 * ((c : Int) - 1 - k)) = pure (.int .u64 (m : Int)) := hsh0
      clear hsh0
      have hbs : w.heap.size ≤ wr.heap.size := hb.size
      go_wp2_with (at_builtin; refine wpList_append_own _ rfl _ _ 76 rfl w.heap.size 5 i0 (.int .u8 0) 1 1 Tryz.underlying76 hi hz0 hz1 hz2 rfl (by decide) _ _ _ rfl (hown.alloc _) ⟨wr.heap.size, 0, none⟩ 1 1 [.int .u8 ((m : Int) % 256)] rfl rfl ?c1 ?c2 ?c3 ?c4 ?c5 ?_)
      case c1 => intro j u hj; cases j <;> simp at hj; subst hj; exact World.cell?_alloc_at _ _ _ _ rfl
      case c2 => intro u hu; simp at hu; subst hu; rfl
      case c3 => unfold maxLen; omega
      case c4 => omega
      case c5 => simp; omega
      intro v' w1 hown' hgrow _
      have hb' : Below w.heap.size w w1 := (hb.alloc hbs _).grown hgrow (by simp; omega) (fun j hj => by have := (hown.lt j hj).1; omega)
      have hown2 : w1.ownsRow w.heap.size 5 1 v' (k + 1) ((be (n / 256 ^ (c - (k + 1))) (k + 1)).map u8v) := by
        rw [HM.out, HS.out]; simpa [u8v] using hown'
      clear hown' hgrow HS HM hown hb hsh
      go_wp2
      go_roundw
      case rel => exact ⟨k + 1, by omega, by go_num, hown2, hb'⟩
      case measure => simp [intOf]; omega
    · obtain rfl : k = c := by omega
      have hcv := conv_own _ hown
      have e0 : n / 256 ^ (k - k) = n := by simp
      rw [e0] at hcv
      go_wp2
      go_ret
      exact ⟨rfl, hb⟩
set_option maxHeartbeats 400000 in
set_option maxRecDepth 100000 in
theorem put_big (n : Nat) (size : Int) (w : World) (hn : n < 18446744073709551616) (h0 : 16 < size) :
    Calls Tryz.prog 30 #[.int .u64 n, .int .i64 size] w fun e w' => e = .returned (.string (bs (be n 16))) ∧ Below w.heap.size w w' := by
  obtain ⟨i0, hi, hz0, hz1, hz2⟩ := info_parts info5
  go_enter Tryz.func30, Tryz.ntmps30
  go_wp2
  go_loopw [6, 11] (fun v i wr => ∃ k : Nat, k ≤ 16 ∧ i = .int .i64 k ∧ wr.ownsRow w.heap.size 5 1 v k ((be (n / 256 ^ (16 - k)) k).map u8v) ∧ Below w.heap.size w wr) (fun _ i _ => 16 - (intOf i).toNat)
  case atStart => exact ⟨0, Nat.zero_le _, rfl, World.ownsRow_nil _ _ _ _, Below.refl _ _⟩
  case round =>
    obtain ⟨k, hk, rfl, hown, hb⟩ := hrel
    by_cases hlt : k < 16
    · have hst := be_step n 16 k hlt
      have hsh0 := shr_be n (16 - (k + 1)) hn
      rw [show (((8 * (16 - (k + 1)) : Nat)) : Int) = 8 * (15 - (k : Int)) from by omega] at hsh0
      generalize hm : n / 256 ^ (16 - (k + 1)) = m at hst hsh0
      have HM := Lib.hid hm; clear hm
      have HS := Lib.hid hst; clear hst
      have hsh : Op.shift .shr .u64 (n : Int) .i64 (8 * (15 - (k : Int))) = pure (.int .u64 (m : Int)) := hsh0
      clear hsh0
      have hbs : w.heap.size ≤ wr.heap.size := hb.size
      go_wp2_with (at_builtin; refine wpList_append_own _ rfl _ _ 76 rfl w.heap.size 5 i0 (.int .u8 0) 1 1 Tryz.underlying76 hi hz0 hz1 hz2 rfl (by decide) _ _ _ rfl (hown.alloc _) ⟨wr.heap.size, 0, none⟩ 1 1 [.int .u8 ((m : Int) % 256)] rfl rfl ?c1 ?c2 ?c3 ?c4 ?c5 ?_)
      case c1 => intro j u hj; cases j <;> simp at hj; subst hj; exact World.cell?_alloc_at _ _ _ _ rfl
      case c2 => intro u hu; simp at hu; subst hu; rfl
      case c3 => unfold maxLen; omega
      case c4 => omega
      case c5 => simp; omega
      intro v' w1 hown' hgrow _
      have hb' : Below w.heap.size w w1 := (hb.alloc hbs _).grown hgrow (by simp; omega) (fun j hj => by have := (hown.lt j hj).1; omega)
      have hown2 : w1.ownsRow w.heap.size 5 1 v' (k + 1) ((be (n / 256 ^ (16 - (k + 1))) (k + 1)).map u8v) := by
        rw [HM.out, HS.out]; simpa [u8v] using hown'
      clear hown' hgrow HS HM hown hb hsh
      go_wp2
      go_roundw
      case rel => exact ⟨k + 1, by omega, by go_num, hown2, hb'⟩
      case measure => simp [intOf]; omega
    · obtain rfl : k = 16 := by omega
      have hcv := conv_own _ hown
      have e0 : n / 256 ^ (16 - 16) = n := by simp
      rw [e0] at hcv
      go_wp2
      go_ret
      exact ⟨rfl, hb⟩

set_option maxRecDepth 100000 in
theorem put_neg (n : Nat) (size : Int) (w : World) (h0 : size ≤ 0) :
    Calls Tryz.prog 30 #[.int .u64 n, .int .i64 size] w fun e w' => e = .returned (.string (bs (be n 0))) ∧ Below w.heap.size w w' := by
  have hcv := conv_own (w := w) (base := w.heap.size) (v := .slice none 0 0) (n := 0) [] (World.ownsRow_nil _ _ _ _)
  go_enter Tryz.func30, Tryz.ntmps30
  go_wp2
  refine wp_loop_rounds 1 ?_
  rw [rounds_succ]
  go_wp2
  go_ret
  exact ⟨rfl, Below.refl _ _⟩

/-- octet.Put: the lowest bytes of n, the highest first; at most 16. -/
theorem put_any (n : Nat) (size : Int) (w : World) (hn : n < 18446744073709551616) :
    Calls Tryz.prog 30 #[.int .u64 n, .int .i64 size] w fun e w' => e = .returned (.string (bs (be n (min size 16).toNat))) ∧ Below w.heap.size w w' := by
  by_cases h0 : size ≤ 0
  · have e : (min size 16).toNat = 0 := by omega
    rw [e]; exact put_neg n size w h0
  by_cases h1 : size ≤ 16
  · obtain ⟨c, rfl⟩ := Int.eq_ofNat_of_zero_le (show 0 ≤ size by omega)
    have e : (min (c : Int) 16).toNat = c := by omega
    rw [e]; exact put_mid n c w hn (by omega) (by omega)
  · have e : (min size 16).toNat = 16 := by omega
    rw [e]; exact put_big n size w hn (by omega)

end Go.Proofs.YtckdbnndpoleeaaGreat
