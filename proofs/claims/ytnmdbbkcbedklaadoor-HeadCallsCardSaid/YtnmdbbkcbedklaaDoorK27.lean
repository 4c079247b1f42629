/-
  The contracts of the reference's Size and Read (layer 2). No condition but the length of a string.
-/
import Derived.Test.YtnmdbbkcbedklaaDoorK26
namespace Go.Proofs.YtnmdbbkcbedklaaDoor
open Go.RowKit

theorem ref_size_any (n : Int) (w : World) :
    Calls Tryd.prog 73 #[.int .i64 n] w fun e w' => e = .returned (.int .i64 (sz n)) ∧ w = w' := by
  by_cases h1 : n < 0
  · rw [sz_zero.2 (.inl h1)]
    have hd : decide (n < 0) = true := by simpa using h1
    go_enter Tryd.func73, Tryd.ntmps73
    go_wp2
    go_ret
    exact ⟨rfl, rfl⟩
  have hd : decide (n < 0) = false := by simpa using h1
  by_cases h2 : 268435455 < n
  · rw [sz_zero.2 (.inr h2)]
    have hd2 : decide (268435455 < n) = true := by simpa using h2
    go_enter Tryd.func73, Tryd.ntmps73
    go_wp2
    go_ret
    exact ⟨rfl, rfl⟩
  have hd2 : decide (268435455 < n) = false := by simpa using h2
  have h0 : ¬ (n < 0 ∨ 268435455 < n) := by omega
  by_cases h3 : n < 128
  · have e : sz n = 1 := by unfold sz; rw [if_neg h0, if_pos h3]
    rw [e]; clear e h0 h1 h2
    have hd3 : decide (n < 128) = true := by simpa using h3
    go_enter Tryd.func73, Tryd.ntmps73
    go_wp2
    go_ret
    exact ⟨rfl, rfl⟩
  have hd3 : decide (n < 128) = false := by simpa using h3
  by_cases h4 : n < 16384
  · have e : sz n = 2 := by unfold sz; rw [if_neg h0, if_neg h3, if_pos h4]
    rw [e]; clear e h0 h1 h2
    have hd4 : decide (n < 16384) = true := by simpa using h4
    go_enter Tryd.func73, Tryd.ntmps73
    go_wp2
    go_ret
    exact ⟨rfl, rfl⟩
  have hd4 : decide (n < 16384) = false := by simpa using h4
  by_cases h5 : n < 2097152
  · have e : sz n = 3 := by unfold sz; rw [if_neg h0, if_neg h3, if_neg h4, if_pos h5]
    rw [e]; clear e h0 h1 h2
    have hd5 : decide (n < 2097152) = true := by simpa using h5
    go_enter Tryd.func73, Tryd.ntmps73
    go_wp2
    go_ret
    exact ⟨rfl, rfl⟩
  · have e : sz n = 4 := by unfold sz; rw [if_neg h0, if_neg h3, if_neg h4, if_neg h5]
    rw [e]; clear e h0 h1 h2
    have hd5 : decide (n < 2097152) = false := by simpa using h5
    go_enter Tryd.func73, Tryd.ntmps73
    go_wp2
    go_ret
    exact ⟨rfl, rfl⟩

def ReadSame (l : List UInt8) (w : World) (e : Ending) (w' : World) : Prop := e = ReadRet l ∧ w = w'
/-- At the head of round k: number v, its factor, and what is still to come. -/
def RefAt (l : List UInt8) (k v : Nat) : Prop := v < 128 ^ k ∧ ((k < 4 ∧ run 0 0 l = run v k (l.drop k)) ∨ (k = 4 ∧ (run 0 0 l).2.2 = 2))

set_option maxHeartbeats 2000000 in
theorem ref_read_any (s : ByteArray) (w : World) (hm : s.size ≤ 9223372036854775807) :
    Calls Tryd.prog 51 #[.string s] w (ReadSame s.data.toList w) := by
  go_enter Tryd.func51, Tryd.ntmps51
  go_wp2
  go_loop [5, 6, 7] (fun n t i => ∃ k v : Nat, k ≤ 4 ∧ k ≤ s.size ∧ n = .int .i64 v ∧ t = .int .i64 ((128 ^ k : Nat) : Int) ∧ i = .int .i64 k ∧ RefAt s.data.toList k v) (fun _ _ i => 4 - (intOf i).toNat)
  case atStart => exact ⟨0, 0, by decide, Nat.zero_le _, rfl, rfl, rfl, by decide, .inl ⟨by decide, rfl⟩⟩
  case round =>
    obtain ⟨k, v, hk, hks, rfl, rfl, rfl, hv, hrun⟩ := hrel
    by_cases h4 : k = 4
    · subst h4
      have h2 : (run 0 0 s.data.toList).2.2 = 2 := by
        rcases hrun with ⟨h, _⟩ | ⟨_, h⟩
        · omega
        · exact h
      have RR := Lib.hid (readRet_of (l := s.data.toList) (st := 2) (a := 0) (b := 0) (c := 5) (by rw [← h2]) rfl rfl rfl)
      clear hrun h2
      go_wp2
      go_ret3
      exact ⟨RR.out, rfl⟩
    have hrun0 : run 0 0 s.data.toList = run v k (s.data.toList.drop k) := by
      rcases hrun with ⟨_, h⟩ | ⟨h, _⟩
      · exact h
      · exact absurd h h4
    clear hrun
    by_cases hlt : k < s.size
    · have hd := drop_byte s k hlt
      have RUN := Lib.hid hrun0
      have D := Lib.hid hd
      clear hrun0 hd
      have hlt256 := s[k].toNat_lt
      obtain rfl | rfl | rfl | rfl : k = 0 ∨ k = 1 ∨ k = 2 ∨ k = 3 := by omega
      · have hv1 : (v : Int) < 1 := Int.ofNat_lt.2 (show v < 1 from hv)
        have HV := Lib.hid hv
        have hne : ¬ s = ByteArray.empty := fun e => by rw [e] at hlt; exact absurd hlt (by decide)
        obtain ⟨r, hr⟩ : ∃ r, s[0].toNat = r := ⟨_, rfl⟩
        have h256 : (r : Int) < 256 := by omega
        clear hv h4 hlt256
        have e0 : ((128 ^ 0 : Nat) : Int) = 1 := by decide
        rw [e0]; clear e0
        by_cases hb : r < 128
        · have hx : nxt s[0] (0 + 1) = 1 := nxt_one.2 ⟨by omega, .inr (by decide)⟩
          have hbd : decide ((r : Int) < 128) = true := decide_eq_true (by omega)
          have RR := Lib.hid (readRet_of (l := s.data.toList) (v := grow v 0 s[0]) (n := 0 + 1) (st := 1) (a := (v : Int) + (r : Int) % 128) (b := 1) (c := 0) (by rw [RUN.out, D.out, run_shut _ (by rw [hx]; decide), hx]) (by simp [grow, hr]) rfl rfl)
          clear hx hb
          go_wp2
          go_ret3
          exact ⟨RR.out, rfl⟩
        · have hbd : decide ((r : Int) < 128) = false := decide_eq_false (by omega)
          have HB := Lib.hid (show 128 ≤ s[0].toNat by omega)
          have HG := Lib.hid (show (v : Int) + (r : Int) % 128 = (grow v 0 s[0] : Nat) by simp [grow, hr])
          clear hb
          go_wp2
          go_round
          case rel => exact ⟨1, grow v 0 s[0], by decide, by omega, congrArg (Value.int .i64) HG.out, congrArg (Value.int .i64) (by decide), rfl, grow_lt _ HV.out, .inl ⟨by decide, by rw [RUN.out, D.out, run_open _ (nxt_zero.2 ⟨HB.out, by decide⟩)]⟩⟩
          case measure => simp [intOf]
      · have hv1 : (v : Int) < 128 := Int.ofNat_lt.2 (show v < 128 from hv)
        have HV := Lib.hid hv
        have hge : decide ((s.size : Int) ≤ 1) = false := decide_eq_false (by omega)
        obtain ⟨r, hr⟩ : ∃ r, s[1].toNat = r := ⟨_, rfl⟩
        have h256 : (r : Int) < 256 := by omega
        clear hv h4 hlt256
        have e0 : ((128 ^ 1 : Nat) : Int) = 128 := by decide
        rw [e0]; clear e0
        by_cases hb : r < 128
        · by_cases hz : r = 0
          · subst hz
            have hx : nxt s[1] (1 + 1) = 2 := nxt_two.2 (.inr ⟨hr, by decide⟩)
            have RR := Lib.hid (readRet_of (l := s.data.toList) (v := grow v 1 s[1]) (n := 1 + 1) (st := 2) (a := 0) (b := 0) (c := 5) (by rw [RUN.out, D.out, run_shut _ (by rw [hx]; decide), hx]) rfl rfl rfl)
            clear hx hb
            go_wp2
            go_ret3
            exact ⟨RR.out, rfl⟩
          · have hx : nxt s[1] (1 + 1) = 1 := nxt_one.2 ⟨by omega, .inl (by omega)⟩
            have hzz : ((r : Int) == 0) = false := by simp; omega
            have hbd : decide ((r : Int) < 128) = true := decide_eq_true (by omega)
            have RR := Lib.hid (readRet_of (l := s.data.toList) (v := grow v 1 s[1]) (n := 1 + 1) (st := 1) (a := (v : Int) + (r : Int) % 128 * 128) (b := 2) (c := 0) (by rw [RUN.out, D.out, run_shut _ (by rw [hx]; decide), hx]) (by simp [grow, hr]) rfl rfl)
            clear hx hb hz
            go_wp2
            go_ret3
            exact ⟨RR.out, rfl⟩
        · have hbd : decide ((r : Int) < 128) = false := decide_eq_false (by omega)
          have HB := Lib.hid (show 128 ≤ s[1].toNat by omega)
          have HG := Lib.hid (show (v : Int) + (r : Int) % 128 * 128 = (grow v 1 s[1] : Nat) by simp [grow, hr])
          clear hb
          go_wp2
          go_round
          case rel => exact ⟨2, grow v 1 s[1], by decide, by omega, congrArg (Value.int .i64) HG.out, congrArg (Value.int .i64) (by decide), rfl, grow_lt _ HV.out, .inl ⟨by decide, by rw [RUN.out, D.out, run_open _ (nxt_zero.2 ⟨HB.out, by decide⟩)]⟩⟩
          case measure => simp [intOf]
      · have hv1 : (v : Int) < 16384 := Int.ofNat_lt.2 (show v < 16384 from hv)
        have HV := Lib.hid hv
        have hge : decide ((s.size : Int) ≤ 2) = false := decide_eq_false (by omega)
        obtain ⟨r, hr⟩ : ∃ r, s[2].toNat = r := ⟨_, rfl⟩
        have h256 : (r : Int) < 256 := by omega
        clear hv h4 hlt256
        have e0 : ((128 ^ 2 : Nat) : Int) = 16384 := by decide
        rw [e0]; clear e0
        by_cases hb : r < 128
        · by_cases hz : r = 0
          · subst hz
            have hx : nxt s[2] (2 + 1) = 2 := nxt_two.2 (.inr ⟨hr, by decide⟩)
            have RR := Lib.hid (readRet_of (l := s.data.toList) (v := grow v 2 s[2]) (n := 2 + 1) (st := 2) (a := 0) (b := 0) (c := 5) (by rw [RUN.out, D.out, run_shut _ (by rw [hx]; decide), hx]) rfl rfl rfl)
            clear hx hb
            go_wp2
            go_ret3
            exact ⟨RR.out, rfl⟩
          · have hx : nxt s[2] (2 + 1) = 1 := nxt_one.2 ⟨by omega, .inl (by omega)⟩
            have hzz : ((r : Int) == 0) = false := by simp; omega
            have hbd : decide ((r : Int) < 128) = true := decide_eq_true (by omega)
            have RR := Lib.hid (readRet_of (l := s.data.toList) (v := grow v 2 s[2]) (n := 2 + 1) (st := 1) (a := (v : Int) + (r : Int) % 128 * 16384) (b := 3) (c := 0) (by rw [RUN.out, D.out, run_shut _ (by rw [hx]; decide), hx]) (by simp [grow, hr]) rfl rfl)
            clear hx hb hz
            go_wp2
            go_ret3
            exact ⟨RR.out, rfl⟩
        · have hbd : decide ((r : Int) < 128) = false := decide_eq_false (by omega)
          have HB := Lib.hid (show 128 ≤ s[2].toNat by omega)
          have HG := Lib.hid (show (v : Int) + (r : Int) % 128 * 16384 = (grow v 2 s[2] : Nat) by simp [grow, hr])
          clear hb
          go_wp2
          go_round
          case rel => exact ⟨3, grow v 2 s[2], by decide, by omega, congrArg (Value.int .i64) HG.out, congrArg (Value.int .i64) (by decide), rfl, grow_lt _ HV.out, .inl ⟨by decide, by rw [RUN.out, D.out, run_open _ (nxt_zero.2 ⟨HB.out, by decide⟩)]⟩⟩
          case measure => simp [intOf]
      · have hv1 : (v : Int) < 2097152 := Int.ofNat_lt.2 (show v < 2097152 from hv)
        have HV := Lib.hid hv
        have hge : decide ((s.size : Int) ≤ 3) = false := decide_eq_false (by omega)
        obtain ⟨r, hr⟩ : ∃ r, s[3].toNat = r := ⟨_, rfl⟩
        have h256 : (r : Int) < 256 := by omega
        clear hv h4 hlt256
        have e0 : ((128 ^ 3 : Nat) : Int) = 2097152 := by decide
        rw [e0]; clear e0
        by_cases hb : r < 128
        · by_cases hz : r = 0
          · subst hz
            have hx : nxt s[3] (3 + 1) = 2 := nxt_two.2 (.inr ⟨hr, by decide⟩)
            have RR := Lib.hid (readRet_of (l := s.data.toList) (v := grow v 3 s[3]) (n := 3 + 1) (st := 2) (a := 0) (b := 0) (c := 5) (by rw [RUN.out, D.out, run_shut _ (by rw [hx]; decide), hx]) rfl rfl rfl)
            clear hx hb
            go_wp2
            go_ret3
            exact ⟨RR.out, rfl⟩
          · have hx : nxt s[3] (3 + 1) = 1 := nxt_one.2 ⟨by omega, .inl (by omega)⟩
            have hzz : ((r : Int) == 0) = false := by simp; omega
            have hbd : decide ((r : Int) < 128) = true := decide_eq_true (by omega)
            have RR := Lib.hid (readRet_of (l := s.data.toList) (v := grow v 3 s[3]) (n := 3 + 1) (st := 1) (a := (v : Int) + (r : Int) % 128 * 2097152) (b := 4) (c := 0) (by rw [RUN.out, D.out, run_shut _ (by rw [hx]; decide), hx]) (by simp [grow, hr]) rfl rfl)
            clear hx hb hz
            go_wp2
            go_ret3
            exact ⟨RR.out, rfl⟩
        · have hbd : decide ((r : Int) < 128) = false := decide_eq_false (by omega)
          have HB := Lib.hid (show 128 ≤ s[3].toNat by omega)
          have HG := Lib.hid (show (v : Int) + (r : Int) % 128 * 2097152 = (grow v 3 s[3] : Nat) by simp [grow, hr])
          clear hb
          go_wp2
          go_round
          case rel => exact ⟨4, grow v 3 s[3], by decide, by omega, congrArg (Value.int .i64) HG.out, congrArg (Value.int .i64) (by decide), rfl, grow_lt _ HV.out, .inr ⟨rfl, by rw [RUN.out, D.out, run_shut _ (by rw [nxt_two.2 (.inl ⟨HB.out, rfl⟩)]; decide)]; exact nxt_two.2 (.inl ⟨HB.out, rfl⟩)⟩⟩
          case measure => simp [intOf]
    · obtain rfl : k = s.size := by omega
      have RR := Lib.hid (readRet_of (l := s.data.toList) (v := v) (n := s.size) (st := 0) (by rw [hrun0, drop_all]; rfl) rfl rfl rfl)
      clear hrun0
      go_wp2
      go_ret3
      exact ⟨RR.out, rfl⟩
end Go.Proofs.YtnmdbbkcbedklaaDoor
