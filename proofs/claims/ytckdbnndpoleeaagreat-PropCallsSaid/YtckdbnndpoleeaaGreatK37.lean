/-
  The contracts of the reference's Size and Read (layer 2). No condition but the length of a string.
  The contract of the reference's Bytes (layer 2). No condition.
-/
import Derived.Test.YtckdbnndpoleeaaGreatK36
import Derived.Test.YtckdbnndpoleeaaGreatK22
namespace Go.Proofs.YtckdbnndpoleeaaGreat
open Go.RowKit

theorem ref_size_any (n : Int) (w : World) :
    Calls Tryz.prog 59 #[.int .i64 n] w fun e w' => e = .returned (.int .i64 (sz n)) ∧ w = w' := by
  by_cases h1 : n < 0
  · rw [sz_zero.2 (.inl h1)]
    have hd : decide (n < 0) = true := by simpa using h1
    go_enter Tryz.func59, Tryz.ntmps59
    go_wp2
    go_ret
    exact ⟨rfl, rfl⟩
  have hd : decide (n < 0) = false := by simpa using h1
  by_cases h2 : 268435455 < n
  · rw [sz_zero.2 (.inr h2)]
    have hd2 : decide (268435455 < n) = true := by simpa using h2
    go_enter Tryz.func59, Tryz.ntmps59
    go_wp2
    go_ret
    exact ⟨rfl, rfl⟩
  have hd2 : decide (268435455 < n) = false := by simpa using h2
  have h0 : ¬ (n < 0 ∨ 268435455 < n) := by omega
  by_cases h3 : n < 128
  · have e : sz n = 1 := by unfold sz; rw [if_neg h0, if_pos h3]
    rw [e]; clear e h0 h1 h2
    have hd3 : decide (n < 128) = true := by simpa using h3
    go_enter Tryz.func59, Tryz.ntmps59
    go_wp2
    go_ret
    exact ⟨rfl, rfl⟩
  have hd3 : decide (n < 128) = false := by simpa using h3
  by_cases h4 : n < 16384
  · have e : sz n = 2 := by unfold sz; rw [if_neg h0, if_neg h3, if_pos h4]
    rw [e]; clear e h0 h1 h2
    have hd4 : decide (n < 16384) = true := by simpa using h4
    go_enter Tryz.func59, Tryz.ntmps59
    go_wp2
    go_ret
    exact ⟨rfl, rfl⟩
  have hd4 : decide (n < 16384) = false := by simpa using h4
  by_cases h5 : n < 2097152
  · have e : sz n = 3 := by unfold sz; rw [if_neg h0, if_neg h3, if_neg h4, if_pos h5]
    rw [e]; clear e h0 h1 h2
    have hd5 : decide (n < 2097152) = true := by simpa using h5
    go_enter Tryz.func59, Tryz.ntmps59
    go_wp2
    go_ret
    exact ⟨rfl, rfl⟩
  · have e : sz n = 4 := by unfold sz; rw [if_neg h0, if_neg h3, if_neg h4, if_neg h5]
    rw [e]; clear e h0 h1 h2
    have hd5 : decide (n < 2097152) = false := by simpa using h5
    go_enter Tryz.func59, Tryz.ntmps59
    go_wp2
    go_ret
    exact ⟨rfl, rfl⟩

def ReadSame (l : List UInt8) (w : World) (e : Ending) (w' : World) : Prop := e = ReadRet l ∧ w = w'
/-- At the head of round k: number v, its factor, and what is still to come. -/
def RefAt (l : List UInt8) (k v : Nat) : Prop := v < 128 ^ k ∧ ((k < 4 ∧ run 0 0 l = run v k (l.drop k)) ∨ (k = 4 ∧ (run 0 0 l).2.2 = 2))

set_option maxHeartbeats 2000000 in
theorem ref_read_any (s : ByteArray) (w : World) (hm : s.size ≤ 9223372036854775807) :
    Calls Tryz.prog 37 #[.string s] w (ReadSame s.data.toList w) := by
  go_enter Tryz.func37, Tryz.ntmps37
  go_wp2
  go_loop [5, 6, 7] (fun n t i => ∃ k v : Nat, k ≤ 4 ∧ k ≤ s.size ∧ n = .int .i64 v ∧ t = .int .i64 ((128 ^ k : Nat) : Int) ∧ i = .int .i64 k ∧ RefAt s.data.toList k v) (fun _ _ i => 4 - (intOf i).toNat)
  case atStart => exact ⟨0, 0, by decide, Nat.zero_le _, rfl, rfl, rfl, by decide, .inl ⟨by decide, rfl⟩⟩
  case round =>
    obtain ⟨k, v, hk, hks, rfl, rfl, rfl, hv, hrun⟩ := hrel
    by_cases h4 : k = 4
    · subst h4
      have h2 : (run 0 0 s.data.toList).2.2 = 2 := by
        rcases hrun with ⟨h, _⟩ | ⟨_, h⟩
        · omega
        · exact h
      have RR := Lib.hid (readRet_of (l := s.data.toList) (st := 2) (a := 0) (b := 0) (c := 5) (by rw [← h2]) rfl rfl rfl)
      clear hrun h2
      go_wp2
      go_ret3
      exact ⟨RR.out, rfl⟩
    have hrun0 : run 0 0 s.data.toList = run v k (s.data.toList.drop k) := by
      rcases hrun with ⟨_, h⟩ | ⟨h, _⟩
      · exact h
      · exact absurd h h4
    clear hrun
    by_cases hlt : k < s.size
    · have hd := drop_byte s k hlt
      have RUN := Lib.hid hrun0
      have D := Lib.hid hd
      clear hrun0 hd
      have hlt256 := s[k].toNat_lt
      obtain rfl | rfl | rfl | rfl : k = 0 ∨ k = 1 ∨ k = 2 ∨ k = 3 := by omega
      · have hv1 : (v : Int) < 1 := Int.ofNat_lt.2 (show v < 1 from hv)
        have HV := Lib.hid hv
        have hne : ¬ s = ByteArray.empty := fun e => by rw [e] at hlt; exact absurd hlt (by decide)
        obtain ⟨r, hr⟩ : ∃ r, s[0].toNat = r := ⟨_, rfl⟩
        have h256 : (r : Int) < 256 := by omega
        clear hv h4 hlt256
        have e0 : ((128 ^ 0 : Nat) : Int) = 1 := by decide
        rw [e0]; clear e0
        by_cases hb : r < 128
        · have hx : nxt s[0] (0 + 1) = 1 := nxt_one.2 ⟨by omega, .inr (by decide)⟩
          have hbd : decide ((r : Int) < 128) = true := decide_eq_true (by omega)
          have RR := Lib.hid (readRet_of (l := s.data.toList) (v := grow v 0 s[0]) (n := 0 + 1) (st := 1) (a := (v : Int) + (r : Int) % 128) (b := 1) (c := 0) (by rw [RUN.out, D.out, run_shut _ (by rw [hx]; decide), hx]) (by simp [grow, hr]) rfl rfl)
          clear hx hb
          go_wp2
          go_ret3
          exact ⟨RR.out, rfl⟩
        · have hbd : decide ((r : Int) < 128) = false := decide_eq_false (by omega)
          have HB := Lib.hid (show 128 ≤ s[0].toNat by omega)
          have HG := Lib.hid (show (v : Int) + (r : Int) % 128 = (grow v 0 s[0] : Nat) by simp [grow, hr])
          clear hb
          go_wp2
          go_round
          case rel => exact ⟨1, grow v 0 s[0], by decide, by omega, congrArg (Value.int .i64) HG.out, congrArg (Value.int .i64) (by decide), rfl, grow_lt _ HV.out, .inl ⟨by decide, by rw [RUN.out, D.out, run_open _ (nxt_zero.2 ⟨HB.out, by decide⟩)]⟩⟩
          case measure => simp [intOf]
      · have hv1 : (v : Int) < 128 := Int.ofNat_lt.2 (show v < 128 from hv)
        have HV := Lib.hid hv
        have hge : decide ((s.size : Int) ≤ 1) = false := decide_eq_false (by omega)
        obtain ⟨r, hr⟩ : ∃ r, s[1].toNat = r := ⟨_, rfl⟩
        have h256 : (r : Int) < 256 := by omega
        clear hv h4 hlt256
        have e0 : ((128 ^ 1 : Nat) : Int) = 128 := by decide
        rw [e0]; clear e0
        by_cases hb : r < 128
        · by_cases hz : r = 0
          · subst hz
            have hx : nxt s[1] (1 + 1) = 2 := nxt_two.2 (.inr ⟨hr, by decide⟩)
            have RR := Lib.hid (readRet_of (l := s.data.toList) (v := grow v 1 s[1]) (n := 1 + 1) (st := 2) (a := 0) (b := 0) (c := 5) (by rw [RUN.out, D.out, run_shut _ (by rw [hx]; decide), hx]) rfl rfl rfl)
            clear hx hb
            go_wp2
            go_ret3
            exact ⟨RR.out, rfl⟩
          · have hx : nxt s[1] (1 + 1) = 1 := nxt_one.2 ⟨by omega, .inl (by omega)⟩
            have hzz : ((r : Int) == 0) = false := by simp; omega
            have hbd : decide ((r : Int) < 128) = true := decide_eq_true (by omega)
            have RR := Lib.hid (readRet_of (l := s.data.toList) (v := grow v 1 s[1]) (n := 1 + 1) (st := 1) (a := (v : Int) + (r : Int) % 128 * 128) (b := 2) (c := 0) (by rw [RUN.out, D.out, run_shut _ (by rw [hx]; decide), hx]) (by simp [grow, hr]) rfl rfl)
            clear hx hb hz
            go_wp2
            go_ret3
            exact ⟨RR.out, rfl⟩
        · have hbd : decide ((r : Int) < 128) = false := decide_eq_false (by omega)
          have HB := Lib.hid (show 128 ≤ s[1].toNat by omega)
          have HG := Lib.hid (show (v : Int) + (r : Int) % 128 * 128 = (grow v 1 s[1] : Nat) by simp [grow, hr])
          clear hb
          go_wp2
          go_round
          case rel => exact ⟨2, grow v 1 s[1], by decide, by omega, congrArg (Value.int .i64) HG.out, congrArg (Value.int .i64) (by decide), rfl, grow_lt _ HV.out, .inl ⟨by decide, by rw [RUN.out, D.out, run_open _ (nxt_zero.2 ⟨HB.out, by decide⟩)]⟩⟩
          case measure => simp [intOf]
      · have hv1 : (v : Int) < 16384 := Int.ofNat_lt.2 (show v < 16384 from hv)
        have HV := Lib.hid hv
        have hge : decide ((s.size : Int) ≤ 2) = false := decide_eq_false (by omega)
        obtain ⟨r, hr⟩ : ∃ r, s[2].toNat = r := ⟨_, rfl⟩
        have h256 : (r : Int) < 256 := by omega
        clear hv h4 hlt256
        have e0 : ((128 ^ 2 : Nat) : Int) = 16384 := by decide
        rw [e0]; clear e0
        by_cases hb : r < 128
        · by_cases hz : r = 0
          · subst hz
            have hx : nxt s[2] (2 + 1) = 2 := nxt_two.2 (.inr ⟨hr, by decide⟩)
            have RR := Lib.hid (readRet_of (l := s.data.toList) (v := grow v 2 s[2]) (n := 2 + 1) (st := 2) (a := 0) (b := 0) (c := 5) (by rw [RUN.out, D.out, run_shut _ (by rw [hx]; decide), hx]) rfl rfl rfl)
            clear hx hb
            go_wp2
            go_ret3
            exact ⟨RR.out, rfl⟩
          · have hx : nxt s[2] (2 + 1) = 1 := nxt_one.2 ⟨by omega, .inl (by omega)⟩
            have hzz : ((r : Int) == 0) = false := by simp; omega
            have hbd : decide ((r : Int) < 128) = true := decide_eq_true (by omega)
            have RR := Lib.hid (readRet_of (l := s.data.toList) (v := grow v 2 s[2]) (n := 2 + 1) (st := 1) (a := (v : Int) + (r : Int) % 128 * 16384) (b := 3) (c := 0) (by rw [RUN.out, D.out, run_shut _ (by rw [hx]; decide), hx]) (by simp [grow, hr]) rfl rfl)
            clear hx hb hz
            go_wp2
            go_ret3
            exact ⟨RR.out, rfl⟩
        · have hbd : decide ((r : Int) < 128) = false := decide_eq_false (by omega)
          have HB := Lib.hid (show 128 ≤ s[2].toNat by omega)
          have HG := Lib.hid (show (v : Int) + (r : Int) % 128 * 16384 = (grow v 2 s[2] : Nat) by simp [grow, hr])
          clear hb
          go_wp2
          go_round
          case rel => exact ⟨3, grow v 2 s[2], by decide, by omega, congrArg (Value.int .i64) HG.out, congrArg (Value.int .i64) (by decide), rfl, grow_lt _ HV.out, .inl ⟨by decide, by rw [RUN.out, D.out, run_open _ (nxt_zero.2 ⟨HB.out, by decide⟩)]⟩⟩
          case measure => simp [intOf]
      · have hv1 : (v : Int) < 2097152 := Int.ofNat_lt.2 (show v < 2097152 from hv)
        have HV := Lib.hid hv
        have hge : decide ((s.size : Int) ≤ 3) = false := decide_eq_false (by omega)
        obtain ⟨r, hr⟩ : ∃ r, s[3].toNat = r := ⟨_, rfl⟩
        have h256 : (r : Int) < 256 := by omega
        clear hv h4 hlt256
        have e0 : ((128 ^ 3 : Nat) : Int) = 2097152 := by decide
        rw [e0]; clear e0
        by_cases hb : r < 128
        · by_cases hz : r = 0
          · subst hz
            have hx : nxt s[3] (3 + 1) = 2 := nxt_two.2 (.inr ⟨hr, by decide⟩)
            have RR := Lib.hid (readRet_of (l := s.data.toList) (v := grow v 3 s[3]) (n := 3 + 1) (st := 2) (a := 0) (b := 0) (c := 5) (by rw [RUN.out, D.out, run_shut _ (by rw [hx]; decide), hx]) rfl rfl rfl)
            clear hx hb
            go_wp2
            go_ret3
            exact ⟨RR.out, rfl⟩
          · have hx : nxt s[3] (3 + 1) = 1 := nxt_one.2 ⟨by omega, .inl (by omega)⟩
            have hzz : ((r : Int) == 0) = false := by simp; omega
            have hbd : decide ((r : Int) < 128) = true := decide_eq_true (by omega)
            have RR := Lib.hid (readRet_of (l := s.data.toList) (v := grow v 3 s[3]) (n := 3 + 1) (st := 1) (a := (v : Int) + (r : Int) % 128 * 2097152) (b := 4) (c := 0) (by rw [RUN.out, D.out, run_shut _ (by rw [hx]; decide), hx]) (by simp [grow, hr]) rfl rfl)
            clear hx hb hz
            go_wp2
            go_ret3
            exact ⟨RR.out, rfl⟩
        · have hbd : decide ((r : Int) < 128) = false := decide_eq_false (by omega)
          have HB := Lib.hid (show 128 ≤ s[3].toNat by omega)
          have HG := Lib.hid (show (v : Int) + (r : Int) % 128 * 2097152 = (grow v 3 s[3] : Nat) by simp [grow, hr])
          clear hb
          go_wp2
          go_round
          case rel => exact ⟨4, grow v 3 s[3], by decide, by omega, congrArg (Value.int .i64) HG.out, congrArg (Value.int .i64) (by decide), rfl, grow_lt _ HV.out, .inr ⟨rfl, by rw [RUN.out, D.out, run_shut _ (by rw [nxt_two.2 (.inl ⟨HB.out, rfl⟩)]; decide)]; exact nxt_two.2 (.inl ⟨HB.out, rfl⟩)⟩⟩
          case measure => simp [intOf]
    · obtain rfl : k = s.size := by omega
      have RR := Lib.hid (readRet_of (l := s.data.toList) (v := v) (n := s.size) (st := 0) (by rw [hrun0, drop_all]; rfl) rfl rfl rfl)
      clear hrun0
      go_wp2
      go_ret3
      exact ⟨RR.out, rfl⟩
end Go.Proofs.YtckdbnndpoleeaaGreat
namespace Go.Proofs.YtckdbnndpoleeaaGreat
open Go.RowKit

set_option maxHeartbeats 400000 in
theorem ref_bytes_some (n : Nat) (w : World) (hn : n ≤ 268435455) :
    Calls Tryz.prog 34 #[.int .i64 n] w fun e w' => e = .returned (.tuple #[.string (bs (vb n (sz n))), .int .i64 0]) ∧ Below w.heap.size w w' := by
  obtain ⟨i0, hi, hz0, hz1, hz2⟩ := info_parts info5
  have hsz : 1 ≤ sz n ∧ sz n ≤ 4 := by have := sz_cases n hn; omega
  have HZ := Lib.hid (show ∀ W, Calls Tryz.prog 59 #[.int .i64 n] W fun e w' => e = .returned (.int .i64 (sz n)) ∧ W = w' from ref_size_any n)
  generalize sz n = c at hsz HZ
  obtain ⟨hc0, hc4⟩ := hsz
  have hce : ((c : Int) == 0) = false := by simp; omega
  have HN := Lib.hid hn
  clear hn
  go_enter Tryz.func34, Tryz.ntmps34
  go_wp2_with (go_at_call 59; refine (HZ.out _).mono ?_; rintro e w' ⟨rfl, rfl⟩)
  go_loopw [0, 5, 6] (fun x v i wr => ∃ k : Nat, k ≤ c ∧ x = .int .i64 ((n / 128 ^ k : Nat) : Int) ∧ i = .int .i64 k ∧ wr.ownsRow w.heap.size 5 1 v k ((vbn n c k).map u8v) ∧ Below w.heap.size w wr) (fun _ _ i _ => c - (intOf i).toNat)
  case atStart => exact ⟨0, Nat.zero_le _, by simp, rfl, World.ownsRow_nil _ _ _ _, Below.refl _ _⟩
  case round =>
    obtain ⟨k, hk, rfl, rfl, hown, hb⟩ := hrel
    have hdiv : n / 128 ^ k / 128 = n / 128 ^ (k + 1) := by rw [Nat.div_div_eq_div_mul, Nat.pow_succ]
    have hmle : n / 128 ^ k ≤ 268435455 := Nat.le_trans (Nat.div_le_self _ _) HN.out
    by_cases hlt : k < c
    · have hby := u8v_byt n c k
      have hsn := vbn_snoc n c k
      generalize n / 128 ^ k = m at hby hdiv hmle
      obtain ⟨r, hr0⟩ : ∃ r, m % 128 = r := ⟨_, rfl⟩
      have hr128 : (r : Int) < 128 := by omega
      have hr : (m : Int) % 128 = (r : Int) := by omega
      have HD := Lib.hid (show (m : Int) / 128 = ((n / 128 ^ (k + 1) : Nat) : Int) by omega)
      have hm0 : (m : Int) ≤ 268435455 := by omega
      rw [hr0] at hby
      clear hr0 hdiv hmle
      have HS := Lib.hid hsn; clear hsn
      have hbs : w.heap.size ≤ wr.heap.size := hb.size
      by_cases hl : k + 1 < c
      · rw [if_pos hl] at hby
        have HB := Lib.hid hby; clear hby
        have hgo : decide ((k : Int) + 1 < (c : Int)) = true := by simp; omega
        go_wp2_with (at_builtin; refine wpList_append_own _ rfl _ _ 76 rfl w.heap.size 5 i0 (.int .u8 0) 1 1 Tryz.underlying76 hi hz0 hz1 hz2 rfl (by decide) _ _ _ rfl (hown.alloc _) ⟨wr.heap.size, 0, none⟩ 1 1 [.int .u8 ((r : Int) + 128)] rfl rfl ?c1 ?c2 ?c3 ?c4 ?c5 ?_)
        case c1 => intro j u hj; cases j <;> simp at hj; subst hj; exact World.cell?_alloc_at _ _ _ _ rfl
        case c2 => intro u hu; simp at hu; subst hu; rfl
        case c3 => unfold maxLen; omega
        case c4 => omega
        case c5 => simp; omega
        intro v' w1 hown' hgrow _
        have hb' : Below w.heap.size w w1 := (hb.alloc hbs _).grown hgrow (by simp; omega) (fun j hj => by have := (hown.lt j hj).1; omega)
        have hown2 : w1.ownsRow w.heap.size 5 1 v' (k + 1) ((vbn n c (k + 1)).map u8v) := by
          rw [HS.out, List.map_append, List.map_cons, List.map_nil, HB.out]; simpa using hown'
        clear hown' hgrow HS HB hown hb hr
        go_wp2
        go_roundw
        case rel => exact ⟨k + 1, by omega, congrArg (Value.int .i64) HD.out, by go_num, hown2, hb'⟩
        case measure => simp [intOf]; omega
      · rw [if_neg hl] at hby
        have HB := Lib.hid hby; clear hby
        have hgo : decide ((k : Int) + 1 < (c : Int)) = false := by simp; omega
        go_wp2_with (at_builtin; refine wpList_append_own _ rfl _ _ 76 rfl w.heap.size 5 i0 (.int .u8 0) 1 1 Tryz.underlying76 hi hz0 hz1 hz2 rfl (by decide) _ _ _ rfl (hown.alloc _) ⟨wr.heap.size, 0, none⟩ 1 1 [.int .u8 (r : Int)] rfl rfl ?c1 ?c2 ?c3 ?c4 ?c5 ?_)
        case c1 => intro j u hj; cases j <;> simp at hj; subst hj; exact World.cell?_alloc_at _ _ _ _ rfl
        case c2 => intro u hu; simp at hu; subst hu; rfl
        case c3 => unfold maxLen; omega
        case c4 => omega
        case c5 => simp; omega
        intro v' w1 hown' hgrow _
        have hb' : Below w.heap.size w w1 := (hb.alloc hbs _).grown hgrow (by simp; omega) (fun j hj => by have := (hown.lt j hj).1; omega)
        have hown2 : w1.ownsRow w.heap.size 5 1 v' (k + 1) ((vbn n c (k + 1)).map u8v) := by
          rw [HS.out, List.map_append, List.map_cons, List.map_nil, HB.out]; simpa using hown'
        clear hown' hgrow HS HB hown hb hr
        go_wp2
        go_roundw
        case rel => exact ⟨k + 1, by omega, congrArg (Value.int .i64) HD.out, by go_num, hown2, hb'⟩
        case measure => simp [intOf]; omega
    · obtain rfl : k = c := by omega
      clear hmle hdiv
      have hcv := conv_own _ hown
      go_wp2
      go_ret2
      exact ⟨rfl, hb⟩

theorem ref_bytes_none (n : Int) (w : World) (hn : n < 0 ∨ 268435455 < n) :
    Calls Tryz.prog 34 #[.int .i64 n] w fun e w' => e = .returned (.tuple #[.string ⟨#[]⟩, .int .i64 2]) ∧ w = w' := by
  have HZ := Lib.hid (show ∀ W, Calls Tryz.prog 59 #[.int .i64 n] W fun e w' => e = .returned (.int .i64 (0 : Nat)) ∧ W = w' from by rw [← sz_zero.2 hn]; exact ref_size_any n)
  clear hn
  go_enter Tryz.func34, Tryz.ntmps34
  go_wp2_with (go_at_call 59; refine (HZ.out _).mono ?_; rintro e w' ⟨rfl, rfl⟩)
  go_ret2
  exact ⟨rfl, rfl⟩
end Go.Proofs.YtckdbnndpoleeaaGreat
