/-
  The contracts of polyglotref01.Put at two bytes, and of polyglotref03.Text, Binary, ReadBinary and Read. Condition: at most 70,000 bytes.
-/
import Derived.Test.YtohbhmffgaijgaaUsRef
import Derived.Test.YtohbhmffgaijgaaUsEnc
import Derived.Test.YtohbhmffgaijgaaOctRefGet
namespace Go.Proofs.Ytohbhmffgaijgaa
open Go.RowKit

set_option maxHeartbeats 1000000 in
theorem ref_put2 (n : Nat) (w : World) (hn : n < 18446744073709551616) :
    Calls Try.prog 37 #[.int .u64 n, .int .i64 2] w fun e w' => e = .returned (.string (bs (be n 2))) ∧ Below w.heap.size w w' := by
  obtain ⟨i0, hi, hz0, hz1, hz2⟩ := info_parts info5
  go_enter Try.func37, Try.ntmps37
  go_wp2
  go_loopw [5, 6] (fun v i wr => ∃ k : Nat, k ≤ 2 ∧ i = .int .i64 (1 - (k : Int)) ∧ wr.ownsRow w.heap.size 5 1 v k ((be (n / 256 ^ (2 - k)) k).map u8v) ∧ Below w.heap.size w wr) (fun _ i _ => (intOf i + 1).toNat)
  case atStart => exact ⟨0, Nat.zero_le _, rfl, World.ownsRow_nil _ _ _ _, Below.refl _ _⟩
  case round =>
    obtain ⟨k, hk, rfl, hown, hb⟩ := hrel
    by_cases hlt : k < 2
    · have hst := be_step n 2 k hlt
      have hval : (n : Int) / 2 ^ (8 * (1 - k)) = ((n / 256 ^ (2 - (k + 1)) : Nat) : Int) := by
        obtain rfl | rfl : k = 0 ∨ k = 1 := by omega
        · show (n : Int) / 256 = ((n / 256 : Nat) : Int)
          omega
        · show (n : Int) / 1 = ((n / 1 : Nat) : Int)
          omega
      have HM := Lib.hid hval; clear hval
      have HS := Lib.hid hst; clear hst
      have hbs : w.heap.size ≤ wr.heap.size := hb.size
      have g1 : (0 : Int) ≤ 1 - (k : Int) := by omega
      have g2 : 1 - (k : Int) < 8 := by omega
      have g3 : (1 - (k : Int)) ≤ 1 := by omega
      go_wp2_with (at_builtin; refine wpList_append_own _ rfl _ _ 61 rfl w.heap.size 5 i0 (.int .u8 0) 1 1 Try.underlying61 hi hz0 hz1 hz2 rfl (by decide) _ _ _ rfl (hown.alloc _) ⟨wr.heap.size, 0, none⟩ 1 1 [.int .u8 ((n : Int) / 2 ^ (8 * (1 - k)) % 256)] rfl rfl ?c1 ?c2 ?c3 ?c4 ?c5 ?_)
      case c1 => intro j u hj; cases j <;> simp at hj; subst hj; exact World.cell?_alloc_at _ _ _ _ rfl
      case c2 => intro u hu; simp at hu; subst hu; rfl
      case c3 => unfold maxLen; omega
      case c4 => omega
      case c5 => simp; omega
      intro v' w1 hown' hgrow _
      have hb' : Below w.heap.size w w1 := (hb.alloc hbs _).grown hgrow (by simp; omega) (fun j hj => by have := (hown.lt j hj).1; omega)
      have hown2 : w1.ownsRow w.heap.size 5 1 v' (k + 1) ((be (n / 256 ^ (2 - (k + 1))) (k + 1)).map u8v) := by
        rw [HS.out]
        rw [HM.out] at hown'
        simpa [u8v] using hown'
      clear hown' hgrow HS HM hown hb
      go_wp2
      go_roundw
      case rel => exact ⟨k + 1, by omega, by simp; omega, hown2, hb'⟩
      case measure => simp [intOf]; omega
    · obtain rfl : k = 2 := by omega
      have hcv := conv_own _ hown
      have e0 : n / 256 ^ (2 - 2) = n := by simp
      rw [e0] at hcv
      go_wp2
      go_ret
      exact ⟨rfl, hb⟩

theorem hid_all {f : FuncId} {args : Array Value} {R : World → Ending → World → Prop} (h : ∀ W, Calls Try.prog f args W (R W)) : RowKit.Hid (∀ W, Calls Try.prog f args W (R W)) := h
theorem ref_binary_yes (s : ByteArray) (w : World) (h : s.size ≤ 65535) :
    Calls Try.prog 20 #[.string s] w fun e w' => e = .returned (.tuple #[.string (bs (enc2 s.data.toList)), .int .i64 0]) ∧ Below w.heap.size w w' := by
  have hp := ref_put2 s.size w (by omega)
  have hres : bs (be s.size 2) ++ s = bs (enc2 s.data.toList) := by
    rw [bs_append_s, enc2, ← size_list]
  have hsz : (bs (be s.size 2)).size = 2 := by rw [size_list]; exact be_length 2 _
  have hnl : ¬ 9223372036854775807 < (bs (be s.size 2)).size + s.size := by omega
  clear hsz
  have hp := Lib.hid hp
  go_enter Try.func20, Try.ntmps20
  go_wp2_with fail
  refine (hp.out).mono ?_
  rintro e w1 ⟨rfl, hb⟩
  go_wp2_with fail
  go_ret2
  exact ⟨rfl, hb⟩
theorem ref_binary_no (s : ByteArray) (w : World) (h : 65535 < s.size) :
    Calls Try.prog 20 #[.string s] w fun e w' => e = .returned (.tuple #[.string ⟨#[]⟩, .int .i64 2]) ∧ w = w' := by
  go_enter Try.func20, Try.ntmps20
  go_wp2_with fail
  go_ret2
  exact ⟨rfl, rfl⟩
theorem ref_text_yes (s : ByteArray) (w : World) (hv : validOf s.data.toList = true) :
    Calls Try.prog 19 #[.string s] w fun e w' => e = .returned (.tuple #[.string (bs (enc2 s.data.toList)), .int .i64 0]) ∧ Below w.heap.size w w' := by
  have hle := ((validOf_iff _).1 hv).1
  rw [← size_list] at hle
  have hvl := ref_valid s w (by omega)
  rw [hv] at hvl
  have hvl := Lib.hid hvl
  have hp := ref_put2 s.size w (by omega)
  have hres : bs (be s.size 2) ++ s = bs (enc2 s.data.toList) := by
    rw [bs_append_s, enc2, ← size_list]
  have hsz : (bs (be s.size 2)).size = 2 := by rw [size_list]; exact be_length 2 _
  have hnl : ¬ 9223372036854775807 < (bs (be s.size 2)).size + s.size := by omega
  clear hsz hv
  have hp := Lib.hid hp
  go_enter Try.func19, Try.ntmps19
  go_wp2_with fail
  refine (hvl.out).mono ?_
  rintro e w1 ⟨rfl, rfl⟩
  go_wp2_with fail
  refine (hp.out).mono ?_
  rintro e w1 ⟨rfl, hb⟩
  go_wp2_with fail
  go_ret2
  exact ⟨rfl, hb⟩
theorem ref_text_no (s : ByteArray) (w : World) (hs : s.size ≤ 70000) (hv : validOf s.data.toList = false) :
    Calls Try.prog 19 #[.string s] w fun e w' => e = .returned (.tuple #[.string ⟨#[]⟩, .int .i64 6]) ∧ w = w' := by
  have hvl := ref_valid s w hs
  rw [hv] at hvl
  have hvl := Lib.hid hvl
  go_enter Try.func19, Try.ntmps19
  go_wp2_with fail
  refine (hvl.out).mono ?_
  rintro e w1 ⟨rfl, rfl⟩
  go_wp2_with fail
  go_ret2
  exact ⟨rfl, rfl⟩

set_option maxRecDepth 100000 in
theorem ref_readbin (s : ByteArray) (w : World) (hs : s.size ≤ 70000) :
    Calls Try.prog 22 #[.string s] w fun e w' => e = .returned (ok3 (rdB s.data.toList)) ∧ w = w' := by
  by_cases h2 : s.size < 2
  · have e : rdB s.data.toList = ([], 0, 3) := by unfold rdB; rw [if_neg (by rw [← size_list]; omega)]
    rw [e]
    unfold ok3
    clear e
    go_enter Try.func22, Try.ntmps22
    go_wp2_with fail
    go_ret3
    exact ⟨rfl, rfl⟩
  obtain ⟨n, hn⟩ : ∃ n, num (s.data.toList.take 2) = n := ⟨_, rfl⟩
  have hlt := num2_lt s.data.toList
  have hN := numOf_take s (by omega)
  rw [hn] at hlt hN
  have hG := ref_get (s.extract 0 2) w (by rw [ByteArray.size_extract]; omega)
  have hN2 : numOf (s.extract 0 2) = n := hN
  rw [hN2] at hG
  have hG := Lib.hid hG
  have k1 : ¬ (s.size : Int) < 2 := by omega
  have k2 : (2 : Int) ≤ (s.size : Int) := by omega
  have k3 : (n : Int) < 65536 := by omega
  have k4 : (s.size : Int) ≤ 70000 := by omega
  by_cases h : 2 + n ≤ s.size
  · have e : rdB s.data.toList = ((s.data.toList.drop 2).take n, 2 + n, 0) := by unfold rdB; rw [hn, if_pos ⟨by rw [← size_list]; omega, by rw [← size_list]; omega⟩]
    rw [e]
    unfold ok3
    dsimp only
    have hx := extract_bs s n
    rw [← hx]
    have k5 : ¬ (s.size : Int) - 2 < (n : Int) := by omega
    obtain ⟨z, hz⟩ : ∃ z, 2 + n = z := ⟨_, rfl⟩
    rw [hz]
    have k9 : (n : Int) ≤ (s.size : Int) := by omega
    have k6 : (2 : Int) + (n : Int) = (z : Int) := by omega
    clear k3
    have k7 : (z : Int) ≤ (s.size : Int) := by omega
    have k8 : (2 : Int) ≤ (z : Int) := by omega
    clear hz
    clear e hx hn hlt hN hN2 h h2 hs
    go_enter Try.func22, Try.ntmps22
    go_wp2_with fail
    refine (hG.out).mono ?_
    rintro e w1 ⟨rfl, rfl⟩
    go_wp2_with fail
    go_ret3
    exact ⟨rfl, rfl⟩
  · have e : rdB s.data.toList = ([], 0, 3) := by unfold rdB; rw [hn, if_neg (by rw [← size_list]; omega)]
    rw [e]
    unfold ok3
    have k5 : (s.size : Int) - 2 < (n : Int) := by omega
    clear e hn hlt hN hN2 h h2 hs
    go_enter Try.func22, Try.ntmps22
    go_wp2_with fail
    refine (hG.out).mono ?_
    rintro e w1 ⟨rfl, rfl⟩
    go_wp2_with fail
    go_ret3
    exact ⟨rfl, rfl⟩

theorem ref_read (s : ByteArray) (w : World) (hs : s.size ≤ 70000) :
    Calls Try.prog 21 #[.string s] w fun e w' => e = .returned (ok3 (rdT s.data.toList)) ∧ w = w' := by
  have hr := ref_readbin s w hs
  unfold rdT
  rcases rdB_cases s.data.toList with ⟨h0, h1, h2, h3, _⟩ | h0
  · rw [if_neg (by rw [h0]; decide)]
    obtain ⟨d, hd⟩ : ∃ d, (rdB s.data.toList).1 = d := ⟨_, rfl⟩
    obtain ⟨z, hz⟩ : ∃ z, (rdB s.data.toList).2.1 = z := ⟨_, rfl⟩
    have hrr : rdB s.data.toList = (d, z, 0) := by rw [← hd, ← hz, ← h0]
    rw [hrr] at hr ⊢
    rw [hd] at h1
    unfold ok3 at hr
    dsimp only at hr ⊢
    have hv := fun W => ref_valid (bs d) W (by rw [size_list]; show d.length ≤ _; omega)
    have ev : (bs d).data.toList = d := rfl
    rw [ev] at hv
    obtain ⟨b, hb⟩ : ∃ b, validOf d = b := ⟨_, rfl⟩
    rw [hb] at hv ⊢
    have hr := Lib.hid hr
    have hv := Lib.hid hv
    clear h0 h1 h2 h3 hd hz hrr ev hb
    cases b with
    | true =>
      rw [if_pos rfl]
      unfold ok3
      go_enter Try.func21, Try.ntmps21
      go_wp2_with fail
      refine (hr.out).mono ?_
      rintro e w1 ⟨rfl, rfl⟩
      go_wp2_with fail
      refine (hv.out _).mono ?_
      rintro e w2 ⟨rfl, rfl⟩
      go_wp2_with fail
      go_ret3
      exact ⟨rfl, rfl⟩
    | false =>
      rw [if_neg (by decide)]
      unfold ok3
      go_enter Try.func21, Try.ntmps21
      go_wp2_with fail
      refine (hr.out).mono ?_
      rintro e w1 ⟨rfl, rfl⟩
      go_wp2_with fail
      refine (hv.out _).mono ?_
      rintro e w2 ⟨rfl, rfl⟩
      go_wp2_with fail
      go_ret3
      exact ⟨rfl, rfl⟩
  · rw [if_pos (by rw [h0]; decide)]
    rw [h0] at hr
    unfold ok3 at hr ⊢
    dsimp only at hr
    have hr := Lib.hid hr
    go_enter Try.func21, Try.ntmps21
    go_wp2_with fail
    refine (hr.out).mono ?_
    rintro e w1 ⟨rfl, rfl⟩
    go_wp2_with fail
    go_ret3
    exact ⟨rfl, rfl⟩
end Go.Proofs.Ytohbhmffgaijgaa
