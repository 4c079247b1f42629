/-
  The contracts of polyglotref01.Put at two bytes, and of polyglotref03.Binary and ReadBinary. Condition: at most 70,000 bytes.
-/
import Derived.Test.YtckdbnndpoleeaaGreatK16
import Derived.Test.YtckdbnndpoleeaaGreatK27
import Derived.Test.YtckdbnndpoleeaaGreatK26
import Derived.Test.YtckdbnndpoleeaaGreatK34
namespace Go.Proofs.YtckdbnndpoleeaaGreat
open Go.RowKit

theorem ref_put2 (n : Nat) (w : World) (hn : n < 18446744073709551616) :
    Calls Tryz.prog 83 #[.int .u64 n, .int .i64 2] w fun e w' => e = .returned (.string (bs (be n 2))) ∧ Below w.heap.size w w' := ref_put n 2 w hn (by decide) (by decide)
theorem hid_all {f : FuncId} {args : Array Value} {R : World → Ending → World → Prop} (h : ∀ W, Calls Tryz.prog f args W (R W)) : RowKit.Hid (∀ W, Calls Tryz.prog f args W (R W)) := h
theorem ref_binary_yes (s : ByteArray) (w : World) (h : s.size ≤ 65535) :
    Calls Tryz.prog 84 #[.string s] w fun e w' => e = .returned (.tuple #[.string (bs (enc2 s.data.toList)), .int .i64 0]) ∧ Below w.heap.size w w' := by
  have hp := ref_put2 s.size w (by omega)
  have hres : bs (be s.size 2) ++ s = bs (enc2 s.data.toList) := by
    rw [bs_append_s, enc2, ← size_list]
  have hsz : (bs (be s.size 2)).size = 2 := by rw [size_list]; exact be_length 2 _
  have hnl : ¬ 9223372036854775807 < (bs (be s.size 2)).size + s.size := by omega
  clear hsz
  have hp := Lib.hid hp
  go_enter Tryz.func84, Tryz.ntmps84
  go_wp2_with fail
  refine (hp.out).mono ?_
  rintro e w1 ⟨rfl, hb⟩
  go_wp2_with fail
  go_ret2
  exact ⟨rfl, hb⟩
theorem ref_binary_no (s : ByteArray) (w : World) (h : 65535 < s.size) :
    Calls Tryz.prog 84 #[.string s] w fun e w' => e = .returned (.tuple #[.string ⟨#[]⟩, .int .i64 2]) ∧ w = w' := by
  go_enter Tryz.func84, Tryz.ntmps84
  go_wp2_with fail
  go_ret2
  exact ⟨rfl, rfl⟩
set_option maxRecDepth 100000 in
theorem ref_readbin (s : ByteArray) (w : World) (hs : s.size ≤ 70000) :
    Calls Tryz.prog 97 #[.string s] w fun e w' => e = .returned (ok3 (rdB s.data.toList)) ∧ w = w' := by
  by_cases h2 : s.size < 2
  · have e : rdB s.data.toList = ([], 0, 3) := by unfold rdB; rw [if_neg (by rw [← size_list]; omega)]
    rw [e]
    unfold ok3
    clear e
    go_enter Tryz.func97, Tryz.ntmps97
    go_wp2_with fail
    go_ret3
    exact ⟨rfl, rfl⟩
  obtain ⟨n, hn⟩ : ∃ n, num (s.data.toList.take 2) = n := ⟨_, rfl⟩
  have hlt := num2_lt s.data.toList
  have hN := numOf_take s (by omega)
  rw [hn] at hlt hN
  have hG := ref_get (s.extract 0 2) w (by rw [ByteArray.size_extract]; omega)
  have hN2 : numOf (s.extract 0 2) = n := hN
  rw [hN2] at hG
  have hG := Lib.hid hG
  have k1 : ¬ (s.size : Int) < 2 := by omega
  have k2 : (2 : Int) ≤ (s.size : Int) := by omega
  have k3 : (n : Int) < 65536 := by omega
  have k4 : (s.size : Int) ≤ 70000 := by omega
  by_cases h : 2 + n ≤ s.size
  · have e : rdB s.data.toList = ((s.data.toList.drop 2).take n, 2 + n, 0) := by unfold rdB; rw [hn, if_pos ⟨by rw [← size_list]; omega, by rw [← size_list]; omega⟩]
    rw [e]
    unfold ok3
    dsimp only
    have hx := extract_bs s n
    rw [← hx]
    have k5 : ¬ (s.size : Int) - 2 < (n : Int) := by omega
    obtain ⟨z, hz⟩ : ∃ z, 2 + n = z := ⟨_, rfl⟩
    rw [hz]
    have k9 : (n : Int) ≤ (s.size : Int) := by omega
    have k6 : (2 : Int) + (n : Int) = (z : Int) := by omega
    clear k3
    have k7 : (z : Int) ≤ (s.size : Int) := by omega
    have k8 : (2 : Int) ≤ (z : Int) := by omega
    clear hz
    clear e hx hn hlt hN hN2 h h2 hs
    go_enter Tryz.func97, Tryz.ntmps97
    go_wp2_with fail
    refine (hG.out).mono ?_
    rintro e w1 ⟨rfl, rfl⟩
    go_wp2_with fail
    go_ret3
    exact ⟨rfl, rfl⟩
  · have e : rdB s.data.toList = ([], 0, 3) := by unfold rdB; rw [hn, if_neg (by rw [← size_list]; omega)]
    rw [e]
    unfold ok3
    have k5 : (s.size : Int) - 2 < (n : Int) := by omega
    clear e hn hlt hN hN2 h h2 hs
    go_enter Tryz.func97, Tryz.ntmps97
    go_wp2_with fail
    refine (hG.out).mono ?_
    rintro e w1 ⟨rfl, rfl⟩
    go_wp2_with fail
    go_ret3
    exact ⟨rfl, rfl⟩

end Go.Proofs.YtckdbnndpoleeaaGreat
