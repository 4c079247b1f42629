/-
  The contract of publish.first: the checks of a list one behind the other, up to the first error. Condition: a list of at most 100.
  The contracts of polyglotref04.has and Name. Condition: strings of up to 200,000 bytes.
-/
import Derived.Deep.LoopGhost
import Derived.Test.YtaahhbjnflimnaaGreatK16
import Derived.Test.YtaahhbjnflimnaaGreatK06
import Derived.Test.YtaahhbjnflimnaaGreatK23
namespace Go.Proofs.YtaahhbjnflimnaaGreat
open Go.RowKit

set_option maxHeartbeats 1000000 in
set_option maxRecDepth 100000 in
theorem pub_first (g n : Nat) (F : Nat → FuncId) (C : Nat → Array Value) (S : Nat → World → Prop) (E : Nat → World → Prop) (w : World) (hn : n ≤ 100)
    (hcell : ∀ k W, k < n → S k W → W.cell? ⟨g, k, none⟩ = some (.func (.func (F k)) #[] (C k)))
    (hcall : ∀ k W, k < n → S k W → Calls Tryz.prog (F k) (C k) W fun e W' => ∃ r : Nat, e = .returned (.int .i64 (r : Int)) ∧ (r = 0 → S (k + 1) W') ∧ (r ≠ 0 → E r W'))
    (hrun : ∀ k W, k < n → (callFunc (F k) (C k)).run Tryz.prog W = .ok (.enter (F k) (C k)) W) (h0 : S 0 w) :
    Calls Tryz.prog 77 #[.slice (some ⟨g, 0, none⟩) n n] w fun e W' => ∃ r : Nat, e = .returned (.int .i64 (r : Int)) ∧ (r = 0 → S n W') ∧ (r ≠ 0 → E r W') := by
  have HC := Lib.hid hcell
  have HK := Lib.hid hcall
  have HN := Lib.hid hn
  have H0 := Lib.hid h0
  have HR := Lib.hid hrun
  have hn2 : (n : Int) ≤ 100 := by omega
  clear hcell hcall hn h0 hrun
  go_enter Tryz.func77, Tryz.ntmps77
  go_wp2_with fail
  go_loopg [8] n (fun gk s8 wx => ∃ k : Nat, k ≤ n ∧ gk = n - k ∧ s8 = .int .i64 (k : Int) ∧ S k wx)
  case atStart => exact ⟨0, by omega, by omega, rfl, H0.out⟩
  case round =>
    obtain ⟨k, hk, hgk, rfl, hS⟩ := hrel
    by_cases hlt : k < n
    · have g1 : (k : Int) < (n : Int) := by omega
      have c0 := HC.out k _ hlt hS
      have KC := Lib.hid (HK.out k _ hlt hS)
      have hr := HR.out k wr hlt
      have HS := Lib.hid hS
      have HL := Lib.hid hlt
      clear hS hlt
      go_wp2_with fail
      refine (KC.out).mono ?_
      rintro e W ⟨r, rfl, h1, h2⟩
      by_cases hz : r = 0
      · have HS1 := Lib.hid (h1 hz)
        subst hz
        clear h1 h2 c0 hr
        go_wp2_with fail
        go_roundg (n - (k + 1))
        case measure => have := HL.out; omega
        case rel => exact ⟨k + 1, by have := HL.out; omega, rfl, by go_num, HS1.out⟩
      · have HE := Lib.hid (h2 hz)
        have hr1 : ((r : Int) == 0) = false := by simp; omega
        have hr2 : ((r : Int) != 0) = true := by simp; omega
        have HZ := Lib.hid hz
        clear h1 h2 hz c0 hr
        go_wp2_with fail
        go_ret
        exact ⟨r, rfl, fun h => absurd h HZ.out, fun _ => HE.out⟩
    · obtain rfl : k = n := by omega
      have HS := Lib.hid hS
      clear hS
      go_wp2_with fail
      go_ret
      exact ⟨0, rfl, fun _ => HS.out, fun h => absurd rfl h⟩
end Go.Proofs.YtaahhbjnflimnaaGreat
namespace Go.Proofs.YtaahhbjnflimnaaGreat
open Go.RowKit

set_option maxRecDepth 100000 in
theorem ref_has (s : ByteArray) (c : UInt8) (w : World) (hs : s.size ≤ 200000) : Calls Tryz.prog 107 #[.string s, .int .u8 c.toNat] w fun e w' => e = .returned (.bool (decide (c ∈ s.data.toList))) ∧ w = w' := by
  obtain ⟨C, hC⟩ : ∃ C, decide (c ∈ s.data.toList) = C := ⟨_, rfl⟩
  rw [hC]
  have HC := Lib.hid hC
  obtain ⟨m, hm⟩ : ∃ m, c.toNat = m := ⟨_, rfl⟩
  rw [hm]
  have HM := Lib.hid hm
  have q0 : (s.size : Int) ≤ 200000 := by omega
  clear hC hm hs
  go_enter Tryz.func107, Tryz.ntmps107
  go_wp2_with fail
  go_loopg [5] s.size (fun gk v wx => ∃ k : Nat, k ≤ s.size ∧ gk = s.size - k ∧ v = .int .i64 (k : Int) ∧ wx = w ∧ ∀ j x, j < k → s.data.toList[j]? = some x → x ≠ c)
  case atStart => exact ⟨0, Nat.zero_le _, rfl, rfl, rfl, fun j x h => by omega⟩
  case round =>
    obtain ⟨k, hk, rfl, rfl, rfl, hno⟩ := hrel
    have HNO := Lib.hid hno
    by_cases hlt : k < s.size
    · have q1 : (k : Int) < (s.size : Int) := by omega
      have hx : s.data.toList[k]? = some s[k] := by rw [List.getElem?_eq_getElem (by rw [← size_list]; exact hlt)]; rfl
      have HX := Lib.hid hx
      have HL := Lib.hid hlt
      obtain ⟨r, hr⟩ : ∃ r, s[k].toNat = r := ⟨_, rfl⟩
      have HR := Lib.hid hr
      clear hno hx hk
      by_cases he : s[k] = c
      · have hrm : r = m := by rw [← hr, ← HM.out, he]
        have : C = true := by rw [← HC.out]; exact decide_eq_true (List.mem_of_getElem? (HX.out.trans (congrArg some he)))
        subst this
        subst hrm
        clear he HC
        go_wp2_with fail
        go_ret
        exact ⟨rfl, rfl⟩
      · have hrm : ¬ r = m := by rw [← hr, ← HM.out]; exact fun h => he (UInt8.toNat.inj h)
        have q2 : ((r : Int) == (m : Int)) = false := by rw [beq_eq_false_iff_ne]; omega
        have HE := Lib.hid he
        clear he hrm
        go_wp2_with fail
        go_roundg (s.size - (k + 1))
        case measure => have := HL.out; omega
        case rel =>
          refine ⟨k + 1, by have := HL.out; omega, rfl, by go_num, rfl, fun j y hj hy => ?_⟩
          by_cases hjk : j = k
          · subst hjk
            have := hy.symm.trans HX.out
            injection this with this
            rw [this]; exact HE.out
          · exact HNO.out j y (by omega) hy
    · obtain rfl : k = s.size := by omega
      have : C = false := by
        rw [← HC.out]
        refine decide_eq_false fun h => ?_
        obtain ⟨j, hj⟩ := List.mem_iff_getElem?.1 h
        exact HNO.out j c (by have := (List.getElem?_eq_some_iff.1 hj).1; rw [← size_list] at this; exact this) hj rfl
      subst this
      clear hno hlt hk HC
      go_wp2_with fail
      go_ret
      exact ⟨rfl, rfl⟩
set_option maxRecDepth 100000 in
theorem ref_name (s : ByteArray) (w : World) (hs : s.size ≤ 200000) : Calls Tryz.prog 32 #[.string s] w fun e w' => e = .returned (.bool (nameL s.data.toList)) ∧ w = w' := by
  have H43 := Lib.hid (show Calls Tryz.prog 107 #[.string s, .int .u8 43] w fun e w' => e = .returned (.bool (decide ((43 : UInt8) ∈ s.data.toList))) ∧ w = w' from ref_has s 43 w hs)
  have H35 := Lib.hid (show Calls Tryz.prog 107 #[.string s, .int .u8 35] w fun e w' => e = .returned (.bool (decide ((35 : UInt8) ∈ s.data.toList))) ∧ w = w' from ref_has s 35 w hs)
  have VA := Lib.hid (ref_valid_all s w)
  have hn : nameL s.data.toList = (decide (s.data.toList ≠ []) && validOf s.data.toList && !decide ((43 : UInt8) ∈ s.data.toList) && !decide ((35 : UInt8) ∈ s.data.toList)) := by
    unfold nameL
    simp
  rw [hn]
  have he : decide (s.data.toList ≠ []) = !(s.toList == []) := by rw [toList_data]; cases s.data.toList <;> rfl
  rw [he]
  generalize hb0 : (s.toList == []) = b0
  generalize hbv : validOf s.data.toList = bv at *
  generalize decide ((43 : UInt8) ∈ s.data.toList) = b1 at *
  generalize decide ((35 : UInt8) ∈ s.data.toList) = b2 at *
  have h10 : s.toList.isEmpty = b0 := by rw [← hb0]; cases s.toList <;> rfl
  clear hn he hbv hs
  cases b0 <;> cases bv <;> cases b1 <;> cases b2 <;>
  · go_enter Tryz.func32, Tryz.ntmps32
    go_wp2_with (first | (go_at_call 71; with_reducible refine (VA.out).mono ?_; rintro e w1 ⟨rfl, rfl⟩) | (go_at_call 107; with_reducible refine (H43.out).mono ?_; rintro e w1 ⟨rfl, rfl⟩) | (go_at_call 107; with_reducible refine (H35.out).mono ?_; rintro e w1 ⟨rfl, rfl⟩))
    go_ret
    exact ⟨rfl, rfl⟩
end Go.Proofs.YtaahhbjnflimnaaGreat
