/-
  The contracts of the reference's Size and Read (layer 2). No condition but the length of a string.
  The contracts of the reference's Version, kind, flags, Check, Flags (layer 7). No condition.
  The contract of polyglotref05.Same at whatever two lists. Condition: at most 70,000 elements.
  The contracts of polyglotref07.ints and filters. Condition: at most 70,000 elements.
-/
import Derived.Deep.LoopGhost
import Derived.Deep.QuietTactic
import Derived.Test.YtaahhbjnflimnaaGreatK14
import Derived.Test.YtaahhbjnflimnaaGreatK06
import Derived.Test.YtaahhbjnflimnaaGreatK08
namespace Go.Proofs.YtaahhbjnflimnaaGreat
open Go.RowKit

theorem ref_size_any (n : Int) (w : World) :
    Calls Tryz.prog 206 #[.int .i64 n] w fun e w' => e = .returned (.int .i64 (sz n)) ∧ w = w' := by
  by_cases h1 : n < 0
  · rw [sz_zero.2 (.inl h1)]
    have hd : decide (n < 0) = true := by simpa using h1
    go_enter Tryz.func206, Tryz.ntmps206
    go_wp2
    go_ret
    exact ⟨rfl, rfl⟩
  have hd : decide (n < 0) = false := by simpa using h1
  by_cases h2 : 268435455 < n
  · rw [sz_zero.2 (.inr h2)]
    have hd2 : decide (268435455 < n) = true := by simpa using h2
    go_enter Tryz.func206, Tryz.ntmps206
    go_wp2
    go_ret
    exact ⟨rfl, rfl⟩
  have hd2 : decide (268435455 < n) = false := by simpa using h2
  have h0 : ¬ (n < 0 ∨ 268435455 < n) := by omega
  by_cases h3 : n < 128
  · have e : sz n = 1 := by unfold sz; rw [if_neg h0, if_pos h3]
    rw [e]; clear e h0 h1 h2
    have hd3 : decide (n < 128) = true := by simpa using h3
    go_enter Tryz.func206, Tryz.ntmps206
    go_wp2
    go_ret
    exact ⟨rfl, rfl⟩
  have hd3 : decide (n < 128) = false := by simpa using h3
  by_cases h4 : n < 16384
  · have e : sz n = 2 := by unfold sz; rw [if_neg h0, if_neg h3, if_pos h4]
    rw [e]; clear e h0 h1 h2
    have hd4 : decide (n < 16384) = true := by simpa using h4
    go_enter Tryz.func206, Tryz.ntmps206
    go_wp2
    go_ret
    exact ⟨rfl, rfl⟩
  have hd4 : decide (n < 16384) = false := by simpa using h4
  by_cases h5 : n < 2097152
  · have e : sz n = 3 := by unfold sz; rw [if_neg h0, if_neg h3, if_neg h4, if_pos h5]
    rw [e]; clear e h0 h1 h2
    have hd5 : decide (n < 2097152) = true := by simpa using h5
    go_enter Tryz.func206, Tryz.ntmps206
    go_wp2
    go_ret
    exact ⟨rfl, rfl⟩
  · have e : sz n = 4 := by unfold sz; rw [if_neg h0, if_neg h3, if_neg h4, if_neg h5]
    rw [e]; clear e h0 h1 h2
    have hd5 : decide (n < 2097152) = false := by simpa using h5
    go_enter Tryz.func206, Tryz.ntmps206
    go_wp2
    go_ret
    exact ⟨rfl, rfl⟩

def ReadSame (l : List UInt8) (w : World) (e : Ending) (w' : World) : Prop := e = ReadRet l ∧ w = w'
/-- At the head of round k: number v, its factor, and what is still to come. -/
def RefAt (l : List UInt8) (k v : Nat) : Prop := v < 128 ^ k ∧ ((k < 4 ∧ run 0 0 l = run v k (l.drop k)) ∨ (k = 4 ∧ (run 0 0 l).2.2 = 2))

set_option maxHeartbeats 2000000 in
theorem ref_read_any (s : ByteArray) (w : World) (hm : s.size ≤ 9223372036854775807) :
    Calls Tryz.prog 174 #[.string s] w (ReadSame s.data.toList w) := by
  go_enter Tryz.func174, Tryz.ntmps174
  go_wp2
  go_loop [5, 6, 7] (fun n t i => ∃ k v : Nat, k ≤ 4 ∧ k ≤ s.size ∧ n = .int .i64 v ∧ t = .int .i64 ((128 ^ k : Nat) : Int) ∧ i = .int .i64 k ∧ RefAt s.data.toList k v) (fun _ _ i => 4 - (intOf i).toNat)
  case atStart => exact ⟨0, 0, by decide, Nat.zero_le _, rfl, rfl, rfl, by decide, .inl ⟨by decide, rfl⟩⟩
  case round =>
    obtain ⟨k, v, hk, hks, rfl, rfl, rfl, hv, hrun⟩ := hrel
    by_cases h4 : k = 4
    · subst h4
      have h2 : (run 0 0 s.data.toList).2.2 = 2 := by
        rcases hrun with ⟨h, _⟩ | ⟨_, h⟩
        · omega
        · exact h
      have RR := Lib.hid (readRet_of (l := s.data.toList) (st := 2) (a := 0) (b := 0) (c := 5) (by rw [← h2]) rfl rfl rfl)
      clear hrun h2
      go_wp2
      go_ret3
      exact ⟨RR.out, rfl⟩
    have hrun0 : run 0 0 s.data.toList = run v k (s.data.toList.drop k) := by
      rcases hrun with ⟨_, h⟩ | ⟨h, _⟩
      · exact h
      · exact absurd h h4
    clear hrun
    by_cases hlt : k < s.size
    · have hd := drop_byte s k hlt
      have RUN := Lib.hid hrun0
      have D := Lib.hid hd
      clear hrun0 hd
      have hlt256 := s[k].toNat_lt
      obtain rfl | rfl | rfl | rfl : k = 0 ∨ k = 1 ∨ k = 2 ∨ k = 3 := by omega
      · have hv1 : (v : Int) < 1 := Int.ofNat_lt.2 (show v < 1 from hv)
        have HV := Lib.hid hv
        have hne : ¬ s = ByteArray.empty := fun e => by rw [e] at hlt; exact absurd hlt (by decide)
        obtain ⟨r, hr⟩ : ∃ r, s[0].toNat = r := ⟨_, rfl⟩
        have h256 : (r : Int) < 256 := by omega
        clear hv h4 hlt256
        have e0 : ((128 ^ 0 : Nat) : Int) = 1 := by decide
        rw [e0]; clear e0
        by_cases hb : r < 128
        · have hx : nxt s[0] (0 + 1) = 1 := nxt_one.2 ⟨by omega, .inr (by decide)⟩
          have hbd : decide ((r : Int) < 128) = true := decide_eq_true (by omega)
          have RR := Lib.hid (readRet_of (l := s.data.toList) (v := grow v 0 s[0]) (n := 0 + 1) (st := 1) (a := (v : Int) + (r : Int) % 128) (b := 1) (c := 0) (by rw [RUN.out, D.out, run_shut _ (by rw [hx]; decide), hx]) (by simp [grow, hr]) rfl rfl)
          clear hx hb
          go_wp2
          go_ret3
          exact ⟨RR.out, rfl⟩
        · have hbd : decide ((r : Int) < 128) = false := decide_eq_false (by omega)
          have HB := Lib.hid (show 128 ≤ s[0].toNat by omega)
          have HG := Lib.hid (show (v : Int) + (r : Int) % 128 = (grow v 0 s[0] : Nat) by simp [grow, hr])
          clear hb
          go_wp2
          go_round
          case rel => exact ⟨1, grow v 0 s[0], by decide, by omega, congrArg (Value.int .i64) HG.out, congrArg (Value.int .i64) (by decide), rfl, grow_lt _ HV.out, .inl ⟨by decide, by rw [RUN.out, D.out, run_open _ (nxt_zero.2 ⟨HB.out, by decide⟩)]⟩⟩
          case measure => simp [intOf]
      · have hv1 : (v : Int) < 128 := Int.ofNat_lt.2 (show v < 128 from hv)
        have HV := Lib.hid hv
        have hge : decide ((s.size : Int) ≤ 1) = false := decide_eq_false (by omega)
        obtain ⟨r, hr⟩ : ∃ r, s[1].toNat = r := ⟨_, rfl⟩
        have h256 : (r : Int) < 256 := by omega
        clear hv h4 hlt256
        have e0 : ((128 ^ 1 : Nat) : Int) = 128 := by decide
        rw [e0]; clear e0
        by_cases hb : r < 128
        · by_cases hz : r = 0
          · subst hz
            have hx : nxt s[1] (1 + 1) = 2 := nxt_two.2 (.inr ⟨hr, by decide⟩)
            have RR := Lib.hid (readRet_of (l := s.data.toList) (v := grow v 1 s[1]) (n := 1 + 1) (st := 2) (a := 0) (b := 0) (c := 5) (by rw [RUN.out, D.out, run_shut _ (by rw [hx]; decide), hx]) rfl rfl rfl)
            clear hx hb
            go_wp2
            go_ret3
            exact ⟨RR.out, rfl⟩
          · have hx : nxt s[1] (1 + 1) = 1 := nxt_one.2 ⟨by omega, .inl (by omega)⟩
            have hzz : ((r : Int) == 0) = false := by simp; omega
            have hbd : decide ((r : Int) < 128) = true := decide_eq_true (by omega)
            have RR := Lib.hid (readRet_of (l := s.data.toList) (v := grow v 1 s[1]) (n := 1 + 1) (st := 1) (a := (v : Int) + (r : Int) % 128 * 128) (b := 2) (c := 0) (by rw [RUN.out, D.out, run_shut _ (by rw [hx]; decide), hx]) (by simp [grow, hr]) rfl rfl)
            clear hx hb hz
            go_wp2
            go_ret3
            exact ⟨RR.out, rfl⟩
        · have hbd : decide ((r : Int) < 128) = false := decide_eq_false (by omega)
          have HB := Lib.hid (show 128 ≤ s[1].toNat by omega)
          have HG := Lib.hid (show (v : Int) + (r : Int) % 128 * 128 = (grow v 1 s[1] : Nat) by simp [grow, hr])
          clear hb
          go_wp2
          go_round
          case rel => exact ⟨2, grow v 1 s[1], by decide, by omega, congrArg (Value.int .i64) HG.out, congrArg (Value.int .i64) (by decide), rfl, grow_lt _ HV.out, .inl ⟨by decide, by rw [RUN.out, D.out, run_open _ (nxt_zero.2 ⟨HB.out, by decide⟩)]⟩⟩
          case measure => simp [intOf]
      · have hv1 : (v : Int) < 16384 := Int.ofNat_lt.2 (show v < 16384 from hv)
        have HV := Lib.hid hv
        have hge : decide ((s.size : Int) ≤ 2) = false := decide_eq_false (by omega)
        obtain ⟨r, hr⟩ : ∃ r, s[2].toNat = r := ⟨_, rfl⟩
        have h256 : (r : Int) < 256 := by omega
        clear hv h4 hlt256
        have e0 : ((128 ^ 2 : Nat) : Int) = 16384 := by decide
        rw [e0]; clear e0
        by_cases hb : r < 128
        · by_cases hz : r = 0
          · subst hz
            have hx : nxt s[2] (2 + 1) = 2 := nxt_two.2 (.inr ⟨hr, by decide⟩)
            have RR := Lib.hid (readRet_of (l := s.data.toList) (v := grow v 2 s[2]) (n := 2 + 1) (st := 2) (a := 0) (b := 0) (c := 5) (by rw [RUN.out, D.out, run_shut _ (by rw [hx]; decide), hx]) rfl rfl rfl)
            clear hx hb
            go_wp2
            go_ret3
            exact ⟨RR.out, rfl⟩
          · have hx : nxt s[2] (2 + 1) = 1 := nxt_one.2 ⟨by omega, .inl (by omega)⟩
            have hzz : ((r : Int) == 0) = false := by simp; omega
            have hbd : decide ((r : Int) < 128) = true := decide_eq_true (by omega)
            have RR := Lib.hid (readRet_of (l := s.data.toList) (v := grow v 2 s[2]) (n := 2 + 1) (st := 1) (a := (v : Int) + (r : Int) % 128 * 16384) (b := 3) (c := 0) (by rw [RUN.out, D.out, run_shut _ (by rw [hx]; decide), hx]) (by simp [grow, hr]) rfl rfl)
            clear hx hb hz
            go_wp2
            go_ret3
            exact ⟨RR.out, rfl⟩
        · have hbd : decide ((r : Int) < 128) = false := decide_eq_false (by omega)
          have HB := Lib.hid (show 128 ≤ s[2].toNat by omega)
          have HG := Lib.hid (show (v : Int) + (r : Int) % 128 * 16384 = (grow v 2 s[2] : Nat) by simp [grow, hr])
          clear hb
          go_wp2
          go_round
          case rel => exact ⟨3, grow v 2 s[2], by decide, by omega, congrArg (Value.int .i64) HG.out, congrArg (Value.int .i64) (by decide), rfl, grow_lt _ HV.out, .inl ⟨by decide, by rw [RUN.out, D.out, run_open _ (nxt_zero.2 ⟨HB.out, by decide⟩)]⟩⟩
          case measure => simp [intOf]
      · have hv1 : (v : Int) < 2097152 := Int.ofNat_lt.2 (show v < 2097152 from hv)
        have HV := Lib.hid hv
        have hge : decide ((s.size : Int) ≤ 3) = false := decide_eq_false (by omega)
        obtain ⟨r, hr⟩ : ∃ r, s[3].toNat = r := ⟨_, rfl⟩
        have h256 : (r : Int) < 256 := by omega
        clear hv h4 hlt256
        have e0 : ((128 ^ 3 : Nat) : Int) = 2097152 := by decide
        rw [e0]; clear e0
        by_cases hb : r < 128
        · by_cases hz : r = 0
          · subst hz
            have hx : nxt s[3] (3 + 1) = 2 := nxt_two.2 (.inr ⟨hr, by decide⟩)
            have RR := Lib.hid (readRet_of (l := s.data.toList) (v := grow v 3 s[3]) (n := 3 + 1) (st := 2) (a := 0) (b := 0) (c := 5) (by rw [RUN.out, D.out, run_shut _ (by rw [hx]; decide), hx]) rfl rfl rfl)
            clear hx hb
            go_wp2
            go_ret3
            exact ⟨RR.out, rfl⟩
          · have hx : nxt s[3] (3 + 1) = 1 := nxt_one.2 ⟨by omega, .inl (by omega)⟩
            have hzz : ((r : Int) == 0) = false := by simp; omega
            have hbd : decide ((r : Int) < 128) = true := decide_eq_true (by omega)
            have RR := Lib.hid (readRet_of (l := s.data.toList) (v := grow v 3 s[3]) (n := 3 + 1) (st := 1) (a := (v : Int) + (r : Int) % 128 * 2097152) (b := 4) (c := 0) (by rw [RUN.out, D.out, run_shut _ (by rw [hx]; decide), hx]) (by simp [grow, hr]) rfl rfl)
            clear hx hb hz
            go_wp2
            go_ret3
            exact ⟨RR.out, rfl⟩
        · have hbd : decide ((r : Int) < 128) = false := decide_eq_false (by omega)
          have HB := Lib.hid (show 128 ≤ s[3].toNat by omega)
          have HG := Lib.hid (show (v : Int) + (r : Int) % 128 * 2097152 = (grow v 3 s[3] : Nat) by simp [grow, hr])
          clear hb
          go_wp2
          go_round
          case rel => exact ⟨4, grow v 3 s[3], by decide, by omega, congrArg (Value.int .i64) HG.out, congrArg (Value.int .i64) (by decide), rfl, grow_lt _ HV.out, .inr ⟨rfl, by rw [RUN.out, D.out, run_shut _ (by rw [nxt_two.2 (.inl ⟨HB.out, rfl⟩)]; decide)]; exact nxt_two.2 (.inl ⟨HB.out, rfl⟩)⟩⟩
          case measure => simp [intOf]
    · obtain rfl : k = s.size := by omega
      have RR := Lib.hid (readRet_of (l := s.data.toList) (v := v) (n := s.size) (st := 0) (by rw [hrun0, drop_all]; rfl) rfl rfl rfl)
      clear hrun0
      go_wp2
      go_ret3
      exact ⟨RR.out, rfl⟩
end Go.Proofs.YtaahhbjnflimnaaGreat
namespace Go.Proofs.YtaahhbjnflimnaaGreat
open Go.RowKit

theorem ref_version (v : Int) (w : World) : Calls Tryz.prog 55 #[.int .i64 v] w fun e w' => e = .returned (.bool (verH v)) ∧ w = w' := by
  cases h : verH v
  · have hv := verH_no h
    have e4 : (v == 4) = false := by rw [beq_eq_false_iff_ne]; exact hv.1
    have e5 : (v == 5) = false := by rw [beq_eq_false_iff_ne]; exact hv.2
    clear h hv
    go_enter Tryz.func55, Tryz.ntmps55
    go_wp2
    go_ret
    exact ⟨rfl, rfl⟩
  · rcases verH_yes h with rfl | rfl
    all_goals
      clear h
      go_enter Tryz.func55, Tryz.ntmps55
      go_wp2
      go_ret
      exact ⟨rfl, rfl⟩
theorem ref_kind (v k : Int) (w : World) : Calls Tryz.prog 154 #[.int .i64 v, .int .i64 k] w fun e w' => e = .returned (.bool (kindH v k)) ∧ w = w' := by
  by_cases h1 : 1 ≤ k
  · by_cases h2 : k < 15
    · have e : kindH v k = true := by unfold kindH; rw [decide_eq_true h1, decide_eq_true h2]; rfl
      rw [e]; clear e
      go_enter Tryz.func154, Tryz.ntmps154
      go_wp2
      go_ret
      exact ⟨rfl, rfl⟩
    · by_cases h3 : k = 15
      · subst h3
        by_cases h5 : v = 5
        · subst h5
          clear h1 h2
          go_enter Tryz.func154, Tryz.ntmps154
          go_wp2
          go_ret
          exact ⟨rfl, rfl⟩
        · have e5 : (v == 5) = false := by rw [beq_eq_false_iff_ne]; exact h5
          have e : kindH v 15 = false := by unfold kindH; rw [e5]; rfl
          rw [e]; clear e h5 h1 h2
          go_enter Tryz.func154, Tryz.ntmps154
          go_wp2
          go_ret
          exact ⟨rfl, rfl⟩
      · have e3 : (k == 15) = false := by rw [beq_eq_false_iff_ne]; exact h3
        have e : kindH v k = false := by unfold kindH; rw [e3, decide_eq_false h2]; simp
        rw [e]; clear e h3
        go_enter Tryz.func154, Tryz.ntmps154
        go_wp2
        go_ret
        exact ⟨rfl, rfl⟩
  · have e : kindH v k = false := by unfold kindH; rw [decide_eq_false h1]; rfl
    rw [e]; clear e
    go_enter Tryz.func154, Tryz.ntmps154
    go_wp2
    go_ret
    exact ⟨rfl, rfl⟩
theorem ref_flags (k f : Int) (w : World) : Calls Tryz.prog 155 #[.int .i64 k, .int .i64 f] w fun e w' => e = .returned (.bool (flagsH k f)) ∧ w = w' := by
  by_cases h3 : k = 3
  · subst h3
    by_cases h0 : 0 ≤ f
    · by_cases h15 : f ≤ 15
      · have : f = 0 ∨ f = 1 ∨ f = 2 ∨ f = 3 ∨ f = 4 ∨ f = 5 ∨ f = 6 ∨ f = 7 ∨ f = 8 ∨ f = 9 ∨ f = 10 ∨ f = 11 ∨ f = 12 ∨ f = 13 ∨ f = 14 ∨ f = 15 := by omega
        clear h0 h15
        rcases this with rfl | rfl | rfl | rfl | rfl | rfl | rfl | rfl | rfl | rfl | rfl | rfl | rfl | rfl | rfl | rfl
        all_goals
          go_enter Tryz.func155, Tryz.ntmps155
          go_wp2
          go_ret
          exact ⟨rfl, rfl⟩
      · have e : flagsH 3 f = false := by unfold flagsH; rw [if_pos rfl]; exact decide_eq_false (by omega)
        rw [e]; clear e
        go_enter Tryz.func155, Tryz.ntmps155
        go_wp2
        go_ret
        exact ⟨rfl, rfl⟩
    · have e : flagsH 3 f = false := by unfold flagsH; rw [if_pos rfl]; exact decide_eq_false (by omega)
      rw [e]; clear e
      go_enter Tryz.func155, Tryz.ntmps155
      go_wp2
      go_ret
      exact ⟨rfl, rfl⟩
  unfold flagsH
  rw [if_neg h3]
  have e3 : (k == 3) = false := by rw [beq_eq_false_iff_ne]; exact h3
  by_cases h6 : k = 6
  · subst h6
    clear h3
    go_enter Tryz.func155, Tryz.ntmps155
    go_wp2
    go_ret
    exact ⟨rfl, rfl⟩
  by_cases h8 : k = 8
  · subst h8
    clear h3
    go_enter Tryz.func155, Tryz.ntmps155
    go_wp2
    go_ret
    exact ⟨rfl, rfl⟩
  by_cases h10 : k = 10
  · subst h10
    clear h3
    go_enter Tryz.func155, Tryz.ntmps155
    go_wp2
    go_ret
    exact ⟨rfl, rfl⟩
  rw [if_neg (by omega)]
  have e6 : (k == 6) = false := by rw [beq_eq_false_iff_ne]; exact h6
  have e8 : (k == 8) = false := by rw [beq_eq_false_iff_ne]; exact h8
  have e10 : (k == 10) = false := by rw [beq_eq_false_iff_ne]; exact h10
  clear h3 h6 h8 h10
  go_enter Tryz.func155, Tryz.ntmps155
  go_wp2
  go_ret
  exact ⟨rfl, rfl⟩
set_option maxHeartbeats 1000000 in
theorem ref_check7 (v : Int) (h : Hd) (w : World) : Calls Tryz.prog 100 #[.int .i64 v, hdV h] w fun e w' => e = .returned (.int .i64 (checkH v h : Nat)) ∧ Below w.heap.size w w' := by
  have V := Lib.hid (ref_version v)
  have K := Lib.hid (ref_kind v h.kind)
  have F := Lib.hid (ref_flags h.kind h.flags)
  have HB := Lib.hid (fun o => below_box (w := w) o)
  unfold checkH
  cases hv : verH v
  · rw [if_pos rfl]
    rw [hv] at V
    clear K F hv
    obtain ⟨k, f, l⟩ := h
    unfold hdV
    go_enter Tryz.func100, Tryz.ntmps100
    go_wp2_with fail
    refine (V.out _).mono ?_
    rintro e w' ⟨rfl, rfl⟩
    go_wp2_with fail
    go_ret
    exact ⟨rfl, HB.out _⟩
  rw [hv] at V
  rw [if_neg (by decide)]
  cases hk : kindH v h.kind
  · rw [if_pos rfl]
    rw [hk] at K
    clear F hv hk
    obtain ⟨k, f, l⟩ := h
    unfold hdV
    go_enter Tryz.func100, Tryz.ntmps100
    go_wp2_with fail
    refine (V.out _).mono ?_
    rintro e w' ⟨rfl, rfl⟩
    go_wp2_with fail
    refine (K.out _).mono ?_
    rintro e w' ⟨rfl, rfl⟩
    go_wp2_with fail
    go_ret
    exact ⟨rfl, HB.out _⟩
  rw [hk] at K
  rw [if_neg (by decide)]
  cases hf : flagsH h.kind h.flags
  · rw [if_pos rfl]
    rw [hf] at F
    clear hv hk hf
    obtain ⟨k, f, l⟩ := h
    unfold hdV
    go_enter Tryz.func100, Tryz.ntmps100
    go_wp2_with fail
    refine (V.out _).mono ?_
    rintro e w' ⟨rfl, rfl⟩
    go_wp2_with fail
    refine (K.out _).mono ?_
    rintro e w' ⟨rfl, rfl⟩
    go_wp2_with fail
    refine (F.out _).mono ?_
    rintro e w' ⟨rfl, rfl⟩
    go_wp2_with fail
    go_ret
    exact ⟨rfl, HB.out _⟩
  rw [hf] at F
  rw [if_neg (by decide)]
  clear hv hk hf
  obtain ⟨k, f, l⟩ := h
  unfold hdV
  by_cases h1 : l < 0
  · rw [if_pos (.inl h1)]
    go_enter Tryz.func100, Tryz.ntmps100
    go_wp2_with fail
    refine (V.out _).mono ?_
    rintro e w' ⟨rfl, rfl⟩
    go_wp2_with fail
    refine (K.out _).mono ?_
    rintro e w' ⟨rfl, rfl⟩
    go_wp2_with fail
    refine (F.out _).mono ?_
    rintro e w' ⟨rfl, rfl⟩
    go_wp2_with fail
    go_ret
    exact ⟨rfl, HB.out _⟩
  by_cases h2 : 268435455 < l
  · rw [if_pos (.inr h2)]
    go_enter Tryz.func100, Tryz.ntmps100
    go_wp2_with fail
    refine (V.out _).mono ?_
    rintro e w' ⟨rfl, rfl⟩
    go_wp2_with fail
    refine (K.out _).mono ?_
    rintro e w' ⟨rfl, rfl⟩
    go_wp2_with fail
    refine (F.out _).mono ?_
    rintro e w' ⟨rfl, rfl⟩
    go_wp2_with fail
    go_ret
    exact ⟨rfl, HB.out _⟩
  · rw [if_neg (by rintro (h | h); exact h1 h; exact h2 h)]
    go_enter Tryz.func100, Tryz.ntmps100
    go_wp2_with fail
    refine (V.out _).mono ?_
    rintro e w' ⟨rfl, rfl⟩
    go_wp2_with fail
    refine (K.out _).mono ?_
    rintro e w' ⟨rfl, rfl⟩
    go_wp2_with fail
    refine (F.out _).mono ?_
    rintro e w' ⟨rfl, rfl⟩
    go_wp2_with fail
    go_ret
    exact ⟨rfl, HB.out _⟩
set_option maxRecDepth 100000 in
set_option maxHeartbeats 2000000 in
theorem ref_flags7 (v : Int) {k q : Int} {d r : Bool} {c : Array Value} (w : World) (h0 : c[0]? = some (.int .i64 k)) (h1 : c[1]? = some (.bool d)) (h2 : c[2]? = some (.bool r)) (h3 : c[3]? = some (.int .i64 q)) :
    Calls Tryz.prog 105 #[.int .i64 v, .agg c] w (FlRet (flagsF v k d r q) w) := by
  have HB := Lib.hid (fun o => below_box (w := w) o)
  have V := Lib.hid (ref_version v)
  have K := Lib.hid (ref_kind v k)
  unfold flagsF
  cases hv : verH v
  · rw [if_pos rfl]
    rw [hv] at V
    clear K hv
    go_enter Tryz.func105, Tryz.ntmps105
    go_wp2_with fail
    refine (V.out _).mono ?_
    rintro e w' ⟨rfl, rfl⟩
    go_wp2_with fail
    go_ret2
    exact ⟨rfl, HB.out _⟩
  rw [hv] at V
  rw [if_neg (by decide)]
  cases hk : kindH v k
  · rw [if_pos rfl]
    rw [hk] at K
    clear hv hk
    go_enter Tryz.func105, Tryz.ntmps105
    go_wp2_with fail
    refine (V.out _).mono ?_
    rintro e w' ⟨rfl, rfl⟩
    go_wp2_with fail
    refine (K.out _).mono ?_
    rintro e w' ⟨rfl, rfl⟩
    go_wp2_with fail
    go_ret2
    exact ⟨rfl, HB.out _⟩
  rw [hk] at K
  rw [if_neg (by decide)]
  clear hv hk
  by_cases hs : k = 6 ∨ k = 8 ∨ k = 10
  · rw [if_pos hs]
    rcases hs with rfl | rfl | rfl
    all_goals
      go_enter Tryz.func105, Tryz.ntmps105
      go_wp2_with fail
      refine (V.out _).mono ?_
      rintro e w' ⟨rfl, rfl⟩
      go_wp2_with fail
      refine (K.out _).mono ?_
      rintro e w' ⟨rfl, rfl⟩
      go_wp2_with fail
      go_ret2
      exact ⟨rfl, HB.out _⟩
  rw [if_neg hs]
  by_cases hp : k = 3
  · subst hp
    rw [if_pos rfl]
    clear hs
    by_cases q0 : q < 0
    · have e : qosOk d q = false := by unfold qosOk; rw [decide_eq_false (show ¬ 0 ≤ q by omega)]; rfl
      rw [e]; clear e
      go_enter Tryz.func105, Tryz.ntmps105
      go_wp2_with fail
      refine (V.out _).mono ?_
      rintro e w' ⟨rfl, rfl⟩
      go_wp2_with fail
      refine (K.out _).mono ?_
      rintro e w' ⟨rfl, rfl⟩
      go_wp2_with fail
      go_ret2
      exact ⟨rfl, HB.out _⟩
    by_cases q2 : 2 < q
    · have e : qosOk d q = false := by unfold qosOk; rw [decide_eq_false (show ¬ q ≤ 2 by omega)]; simp
      rw [e]; clear e
      go_enter Tryz.func105, Tryz.ntmps105
      go_wp2_with fail
      refine (V.out _).mono ?_
      rintro e w' ⟨rfl, rfl⟩
      go_wp2_with fail
      refine (K.out _).mono ?_
      rintro e w' ⟨rfl, rfl⟩
      go_wp2_with fail
      go_ret2
      exact ⟨rfl, HB.out _⟩
    obtain rfl | rfl | rfl : q = 0 ∨ q = 1 ∨ q = 2 := by omega
    all_goals
      clear q0 q2
      cases d <;> cases r
    all_goals
      go_enter Tryz.func105, Tryz.ntmps105
      go_wp2_with fail
      refine (V.out _).mono ?_
      rintro e w' ⟨rfl, rfl⟩
      go_wp2_with fail
      refine (K.out _).mono ?_
      rintro e w' ⟨rfl, rfl⟩
      go_wp2_with fail
      go_ret2
      exact ⟨rfl, HB.out _⟩
  · rw [if_neg hp]
    have e3 : (k == 3) = false := by rw [beq_eq_false_iff_ne]; exact hp
    have e6 : (k == 6) = false := by rw [beq_eq_false_iff_ne]; omega
    have e8 : (k == 8) = false := by rw [beq_eq_false_iff_ne]; omega
    have e10 : (k == 10) = false := by rw [beq_eq_false_iff_ne]; omega
    clear hs hp
    go_enter Tryz.func105, Tryz.ntmps105
    go_wp2_with fail
    refine (V.out _).mono ?_
    rintro e w' ⟨rfl, rfl⟩
    go_wp2_with fail
    refine (K.out _).mono ?_
    rintro e w' ⟨rfl, rfl⟩
    go_wp2_with fail
    go_ret2
    exact ⟨rfl, HB.out _⟩
end Go.Proofs.YtaahhbjnflimnaaGreat
namespace Go.Proofs.YtaahhbjnflimnaaGreat
open Go.RowKit

set_option maxHeartbeats 2000000 in
set_option maxRecDepth 100000 in
theorem rsame_lists (A B : Option Addr) (na nb c d : Nat) (l m : List Pr) (w : World) (hA : PL w A l) (hB : PL w B m) (hla : l.length = na) (hlb : m.length = nb) (hN : na ≤ 70000) (hM : nb ≤ 70000) :
    Calls Tryz.prog 158 #[.slice A na c, .slice B nb d] w fun e w' => e = .returned (.bool (decide (l = m))) ∧ ∃ k, w' = w.drewN k := by
  by_cases hn : na = nb
  · subst hn
    obtain ⟨D, hD⟩ : ∃ D, decide (l = m) = D := ⟨_, rfl⟩
    rw [hD]
    have HD := Lib.hid hD
    have HA := Lib.hid hA
    have HB := Lib.hid hB
    have HLA := Lib.hid hla
    have HLB := Lib.hid hlb
    have q0 : (na : Int) ≤ 70000 := by omega
    clear hA hB hla hlb hN hM hD
    go_enter Tryz.func158, Tryz.ntmps158
    go_wp2_with fail
    go_loopg [5] na (fun gk i wr => ∃ k x : Nat, k ≤ na ∧ gk = na - k ∧ i = .int .i64 (k : Int) ∧ wr = w.drewN x ∧ ∀ j p q, j < k → l[j]? = some p → m[j]? = some q → p = q)
    case atStart => exact ⟨0, 0, Nat.zero_le _, rfl, rfl, rfl, fun j p q h => by omega⟩
    case round =>
      obtain ⟨k, x, hk, rfl, rfl, rfl, hS⟩ := hrel
      have HS := Lib.hid hS
      by_cases hlt : k < na
      · have hkl : k < l.length := by rw [HLA.out]; exact hlt
        have hkm : k < m.length := by rw [HLB.out]; exact hlt
        obtain ⟨p, hp⟩ : ∃ p, l[k]? = some p := ⟨_, List.getElem?_eq_getElem hkl⟩
        obtain ⟨q, hq⟩ : ∃ q, m[k]? = some q := ⟨_, List.getElem?_eq_getElem hkm⟩
        obtain ⟨ga, ia, rfl, _, a0, a1, a2, a3⟩ := HA.out.at hp
        obtain ⟨gb, ib, rfl, _, b0, b1, b2, b3⟩ := HB.out.at hq
        have HP := Lib.hid hp
        have HQ := Lib.hid hq
        have HL := Lib.hid hlt
        have g1 : (k : Int) < (na : Int) := by omega
        have hno : p ≠ q → D = false := fun h => by
          rw [← HD.out]
          exact decide_eq_false fun e => h (by subst e; exact Option.some.inj (HP.out.symm.trans HQ.out))
        have HNO := Lib.hid hno
        clear hS hkl hkm hp hq hlt hk hno
        rcases pr_differ p q with h | h | ⟨h1, h2⟩ | ⟨h1, h2, h3⟩ | ⟨h1, h2, h3, h4⟩
        · subst h
          generalize p.id = x0 at a0 b0
          generalize ((p.n : Nat) : Int) = x1 at a1 b1
          generalize bs p.text = x2 at a2 b2
          generalize bs p.value = x3 at a3 b3
          go_wp2_with fail
          go_quiet (fail)
          go_wp2_with fail
          go_roundg (na - (k + 1))
          case measure => have := HL.out; omega
          case rel =>
            refine ⟨k + 1, _, by have := HL.out; omega, rfl, by go_num, rfl, fun j u v hj hu hv => ?_⟩
            by_cases hjk : j = k
            · subst hjk
              exact Option.some.inj ((hu.symm.trans HP.out).trans (HQ.out.symm.trans hv))
            · exact HS.out j u v (by omega) hu hv
        · have hD := HNO.out (fun e => by rw [e] at h; simp at h)
          subst hD
          generalize p.id = x0 at *
          generalize ((p.n : Nat) : Int) = x1 at *
          generalize bs p.text = x2 at *
          generalize bs p.value = x3 at *
          generalize q.id = y0 at *
          generalize ((q.n : Nat) : Int) = y1 at *
          generalize bs q.text = y2 at *
          generalize bs q.value = y3 at *
          go_wp2_with fail
          go_quiet (fail)
          go_wp2_with fail
          go_ret
          exact ⟨rfl, _, drewN_two _ _ _⟩
        · have hD := HNO.out (fun e => by rw [e] at h2; simp at h2)
          subst hD
          rw [h1] at a0
          clear h1
          generalize p.id = x0 at *
          generalize ((p.n : Nat) : Int) = x1 at *
          generalize bs p.text = x2 at *
          generalize bs p.value = x3 at *
          generalize q.id = y0 at *
          generalize ((q.n : Nat) : Int) = y1 at *
          generalize bs q.text = y2 at *
          generalize bs q.value = y3 at *
          go_wp2_with fail
          go_quiet (fail)
          go_wp2_with fail
          go_ret
          exact ⟨rfl, _, drewN_two _ _ _⟩
        · have hD := HNO.out (fun e => by rw [e] at h3; simp at h3)
          subst hD
          rw [h1] at a0
          rw [h2] at a1
          clear h1 h2
          generalize p.id = x0 at *
          generalize ((p.n : Nat) : Int) = x1 at *
          generalize bs p.text = x2 at *
          generalize bs p.value = x3 at *
          generalize q.id = y0 at *
          generalize ((q.n : Nat) : Int) = y1 at *
          generalize bs q.text = y2 at *
          generalize bs q.value = y3 at *
          go_wp2_with fail
          go_quiet (fail)
          go_wp2_with fail
          go_ret
          exact ⟨rfl, _, drewN_two _ _ _⟩
        · have hD := HNO.out (fun e => by rw [e] at h4; simp at h4)
          subst hD
          rw [h1] at a0
          rw [h2] at a1
          rw [h3] at a2
          clear h1 h2 h3
          generalize p.id = x0 at *
          generalize ((p.n : Nat) : Int) = x1 at *
          generalize bs p.text = x2 at *
          generalize bs p.value = x3 at *
          generalize q.id = y0 at *
          generalize ((q.n : Nat) : Int) = y1 at *
          generalize bs q.text = y2 at *
          generalize bs q.value = y3 at *
          go_wp2_with fail
          go_quiet (fail)
          go_wp2_with fail
          go_ret
          exact ⟨rfl, _, drewN_two _ _ _⟩
      · obtain rfl : k = na := by omega
        have hD : D = true := by rw [← HD.out]; exact decide_eq_true (lists_eq HLA.out HLB.out hS)
        subst hD
        clear hS hlt hk
        go_wp2_with fail
        go_ret
        exact ⟨rfl, _, rfl⟩
  · have hD : decide (l = m) = false := decide_eq_false fun e => hn (by rw [← hla, ← hlb, e])
    have q0 : ((na : Int) != (nb : Int)) = true := by rw [bne_iff_ne]; omega
    rw [hD]
    clear hA hB hla hlb hN hM hD hn
    go_enter Tryz.func158, Tryz.ntmps158
    go_wp2_with fail
    go_ret
    exact ⟨rfl, 0, rfl⟩
end Go.Proofs.YtaahhbjnflimnaaGreat
namespace Go.Proofs.YtaahhbjnflimnaaGreat
open Go.RowKit

set_option maxHeartbeats 2000000 in
set_option maxRecDepth 100000 in
theorem rsame_ints (A B : Option Addr) (na nb c d : Nat) (l m : List Int) (w : World) (hA : CL w A (ics l)) (hB : CL w B (ics m)) (hla : l.length = na) (hlb : m.length = nb) (hN : na ≤ 70000) (hM : nb ≤ 70000) :
    Calls Tryz.prog 159 #[.slice A na c, .slice B nb d] w fun e w' => e = .returned (.bool (decide (l = m))) ∧ ∃ k, w' = w.drewN k := by
  by_cases hn : na = nb
  · subst hn
    obtain ⟨D, hD⟩ : ∃ D, decide (l = m) = D := ⟨_, rfl⟩
    rw [hD]
    have HD := Lib.hid hD
    have HA := Lib.hid hA
    have HB := Lib.hid hB
    have HLA := Lib.hid hla
    have HLB := Lib.hid hlb
    have q0 : (na : Int) ≤ 70000 := by omega
    clear hA hB hla hlb hN hM hD
    go_enter Tryz.func159, Tryz.ntmps159
    go_wp2_with fail
    go_loopg [5] na (fun gk i wr => ∃ k x : Nat, k ≤ na ∧ gk = na - k ∧ i = .int .i64 (k : Int) ∧ wr = w.drewN x ∧ ∀ j p q, j < k → l[j]? = some p → m[j]? = some q → p = q)
    case atStart => exact ⟨0, 0, Nat.zero_le _, rfl, rfl, rfl, fun j p q h => by omega⟩
    case round =>
      obtain ⟨k, x, hk, rfl, rfl, rfl, hS⟩ := hrel
      have HS := Lib.hid hS
      by_cases hlt : k < na
      · have hkl : k < l.length := by rw [HLA.out]; exact hlt
        have hkm : k < m.length := by rw [HLB.out]; exact hlt
        obtain ⟨p, hp⟩ : ∃ p, l[k]? = some p := ⟨_, List.getElem?_eq_getElem hkl⟩
        obtain ⟨q, hq⟩ : ∃ q, m[k]? = some q := ⟨_, List.getElem?_eq_getElem hkm⟩
        obtain ⟨ga, ia, rfl, _, a0⟩ := HA.out.int hp
        obtain ⟨gb, ib, rfl, _, b0⟩ := HB.out.int hq
        have HP := Lib.hid hp
        have HQ := Lib.hid hq
        have HL := Lib.hid hlt
        have g1 : (k : Int) < (na : Int) := by omega
        have hno : p ≠ q → D = false := fun h => by
          rw [← HD.out]
          exact decide_eq_false fun e => h (by subst e; exact Option.some.inj (HP.out.symm.trans HQ.out))
        have HNO := Lib.hid hno
        clear hS hkl hkm hp hq hlt hk hno
        rcases int_differ p q with h | h
        · subst h
          go_wp2_with fail
          go_quiet (fail)
          go_wp2_with fail
          go_roundg (na - (k + 1))
          case measure => have := HL.out; omega
          case rel =>
            refine ⟨k + 1, _, by have := HL.out; omega, rfl, by go_num, rfl, fun j u v hj hu hv => ?_⟩
            by_cases hjk : j = k
            · subst hjk
              exact Option.some.inj ((hu.symm.trans HP.out).trans (HQ.out.symm.trans hv))
            · exact HS.out j u v (by omega) hu hv
        · have hD := HNO.out (fun e => by rw [e] at h; simp at h)
          subst hD
          go_wp2_with fail
          go_quiet (fail)
          go_wp2_with fail
          go_ret
          exact ⟨rfl, _, drewN_two _ _ _⟩
      · obtain rfl : k = na := by omega
        have hD : D = true := by rw [← HD.out]; exact decide_eq_true (lists_eq HLA.out HLB.out hS)
        subst hD
        clear hS hlt hk
        go_wp2_with fail
        go_ret
        exact ⟨rfl, _, rfl⟩
  · have hD : decide (l = m) = false := decide_eq_false fun e => hn (by rw [← hla, ← hlb, e])
    have q0 : ((na : Int) != (nb : Int)) = true := by rw [bne_iff_ne]; omega
    rw [hD]
    clear hA hB hla hlb hN hM hD hn
    go_enter Tryz.func159, Tryz.ntmps159
    go_wp2_with fail
    go_ret
    exact ⟨rfl, 0, rfl⟩
set_option maxHeartbeats 2000000 in
set_option maxRecDepth 100000 in
theorem rsame_fis (A B : Option Addr) (na nb c d : Nat) (l m : List Fi) (w : World) (hA : CL w A (fcs l)) (hB : CL w B (fcs m)) (hla : l.length = na) (hlb : m.length = nb) (hN : na ≤ 70000) (hM : nb ≤ 70000) :
    Calls Tryz.prog 160 #[.slice A na c, .slice B nb d] w fun e w' => e = .returned (.bool (decide (l = m))) ∧ ∃ k, w' = w.drewN k := by
  by_cases hn : na = nb
  · subst hn
    obtain ⟨D, hD⟩ : ∃ D, decide (l = m) = D := ⟨_, rfl⟩
    rw [hD]
    have HD := Lib.hid hD
    have HA := Lib.hid hA
    have HB := Lib.hid hB
    have HLA := Lib.hid hla
    have HLB := Lib.hid hlb
    have q0 : (na : Int) ≤ 70000 := by omega
    clear hA hB hla hlb hN hM hD
    go_enter Tryz.func160, Tryz.ntmps160
    go_wp2_with fail
    go_loopg [5] na (fun gk i wr => ∃ k x : Nat, k ≤ na ∧ gk = na - k ∧ i = .int .i64 (k : Int) ∧ wr = w.drewN x ∧ ∀ j p q, j < k → l[j]? = some p → m[j]? = some q → p = q)
    case atStart => exact ⟨0, 0, Nat.zero_le _, rfl, rfl, rfl, fun j p q h => by omega⟩
    case round =>
      obtain ⟨k, x, hk, rfl, rfl, rfl, hS⟩ := hrel
      have HS := Lib.hid hS
      by_cases hlt : k < na
      · have hkl : k < l.length := by rw [HLA.out]; exact hlt
        have hkm : k < m.length := by rw [HLB.out]; exact hlt
        obtain ⟨p, hp⟩ : ∃ p, l[k]? = some p := ⟨_, List.getElem?_eq_getElem hkl⟩
        obtain ⟨q, hq⟩ : ∃ q, m[k]? = some q := ⟨_, List.getElem?_eq_getElem hkm⟩
        obtain ⟨ga, ia, rfl, _, a0, a1, a2, a3, a4⟩ := HA.out.fi hp
        obtain ⟨gb, ib, rfl, _, b0, b1, b2, b3, b4⟩ := HB.out.fi hq
        have HP := Lib.hid hp
        have HQ := Lib.hid hq
        have HL := Lib.hid hlt
        have g1 : (k : Int) < (na : Int) := by omega
        have hno : p ≠ q → D = false := fun h => by
          rw [← HD.out]
          exact decide_eq_false fun e => h (by subst e; exact Option.some.inj (HP.out.symm.trans HQ.out))
        have HNO := Lib.hid hno
        clear hS hkl hkm hp hq hlt hk hno
        rcases fi_differ p q with h | h | ⟨h1, h2⟩ | ⟨h1, h2, h3⟩ | ⟨h1, h2, h3, h4⟩ | ⟨h1, h2, h3, h4, h5⟩
        · subst h
          generalize bs p.topic = x0 at a0 b0
          generalize p.qos = x1 at a1 b1
          generalize p.noLocal = x2 at a2 b2
          generalize p.asPub = x3 at a3 b3
          generalize p.handling = x4 at a4 b4
          go_wp2_with fail
          go_quiet (fail)
          go_wp2_with fail
          go_roundg (na - (k + 1))
          case measure => have := HL.out; omega
          case rel =>
            refine ⟨k + 1, _, by have := HL.out; omega, rfl, by go_num, rfl, fun j u v hj hu hv => ?_⟩
            by_cases hjk : j = k
            · subst hjk
              exact Option.some.inj ((hu.symm.trans HP.out).trans (HQ.out.symm.trans hv))
            · exact HS.out j u v (by omega) hu hv
        · have hD := HNO.out (fun e => by rw [e] at h; simp at h)
          subst hD
          generalize bs p.topic = x0 at *
          generalize p.qos = x1 at *
          generalize p.noLocal = x2 at *
          generalize p.asPub = x3 at *
          generalize p.handling = x4 at *
          generalize bs q.topic = y0 at *
          generalize q.qos = y1 at *
          generalize q.noLocal = y2 at *
          generalize q.asPub = y3 at *
          generalize q.handling = y4 at *
          go_wp2_with fail
          go_quiet (fail)
          go_wp2_with fail
          go_ret
          exact ⟨rfl, _, drewN_two _ _ _⟩
        · have hD := HNO.out (fun e => by rw [e] at h2; simp at h2)
          subst hD
          rw [h1] at a0
          clear h1
          generalize bs p.topic = x0 at *
          generalize p.qos = x1 at *
          generalize p.noLocal = x2 at *
          generalize p.asPub = x3 at *
          generalize p.handling = x4 at *
          generalize bs q.topic = y0 at *
          generalize q.qos = y1 at *
          generalize q.noLocal = y2 at *
          generalize q.asPub = y3 at *
          generalize q.handling = y4 at *
          go_wp2_with fail
          go_quiet (fail)
          go_wp2_with fail
          go_ret
          exact ⟨rfl, _, drewN_two _ _ _⟩
        · have hD := HNO.out (fun e => by rw [e] at h3; simp at h3)
          subst hD
          rw [h1] at a0
          rw [h2] at a1
          clear h1 h2
          generalize bs p.topic = x0 at *
          generalize p.qos = x1 at *
          generalize p.noLocal = x2 at *
          generalize p.asPub = x3 at *
          generalize p.handling = x4 at *
          generalize bs q.topic = y0 at *
          generalize q.qos = y1 at *
          generalize q.noLocal = y2 at *
          generalize q.asPub = y3 at *
          generalize q.handling = y4 at *
          go_wp2_with fail
          go_quiet (fail)
          go_wp2_with fail
          go_ret
          exact ⟨rfl, _, drewN_two _ _ _⟩
        · have hD := HNO.out (fun e => by rw [e] at h4; simp at h4)
          subst hD
          rw [h1] at a0
          rw [h2] at a1
          rw [h3] at a2
          clear h1 h2 h3
          generalize bs p.topic = x0 at *
          generalize p.qos = x1 at *
          generalize p.noLocal = x2 at *
          generalize p.asPub = x3 at *
          generalize p.handling = x4 at *
          generalize bs q.topic = y0 at *
          generalize q.qos = y1 at *
          generalize q.noLocal = y2 at *
          generalize q.asPub = y3 at *
          generalize q.handling = y4 at *
          go_wp2_with fail
          go_quiet (fail)
          go_wp2_with fail
          go_ret
          exact ⟨rfl, _, drewN_two _ _ _⟩
        · have hD := HNO.out (fun e => by rw [e] at h5; simp at h5)
          subst hD
          rw [h1] at a0
          rw [h2] at a1
          rw [h3] at a2
          rw [h4] at a3
          clear h1 h2 h3 h4
          generalize bs p.topic = x0 at *
          generalize p.qos = x1 at *
          generalize p.noLocal = x2 at *
          generalize p.asPub = x3 at *
          generalize p.handling = x4 at *
          generalize bs q.topic = y0 at *
          generalize q.qos = y1 at *
          generalize q.noLocal = y2 at *
          generalize q.asPub = y3 at *
          generalize q.handling = y4 at *
          go_wp2_with fail
          go_quiet (fail)
          go_wp2_with fail
          go_ret
          exact ⟨rfl, _, drewN_two _ _ _⟩
      · obtain rfl : k = na := by omega
        have hD : D = true := by rw [← HD.out]; exact decide_eq_true (lists_eq HLA.out HLB.out hS)
        subst hD
        clear hS hlt hk
        go_wp2_with fail
        go_ret
        exact ⟨rfl, _, rfl⟩
  · have hD : decide (l = m) = false := decide_eq_false fun e => hn (by rw [← hla, ← hlb, e])
    have q0 : ((na : Int) != (nb : Int)) = true := by rw [bne_iff_ne]; omega
    rw [hD]
    clear hA hB hla hlb hN hM hD hn
    go_enter Tryz.func160, Tryz.ntmps160
    go_wp2_with fail
    go_ret
    exact ⟨rfl, 0, rfl⟩
end Go.Proofs.YtaahhbjnflimnaaGreat
