/-
  The contracts of polyglotref03.Bad and Valid. Condition: at most 70,000 bytes.
  The contracts of polyglotref04.has and Name. Condition: strings of up to 200,000 bytes.
-/
import Derived.WalkSmall
import Derived.Deep.LoopGhost
import Derived.Test.YtaahhbjnflimnaaK21
import Derived.Test.YtaahhbjnflimnaaK26
import Derived.Test.YtaahhbjnflimnaaK06
namespace Go.Proofs.Ytaahhbjnflimnaa
open Go.RowKit

/-- What stands at a place between code points. -/
theorem at_place {l : List UInt8} {cs rest : List Nat} {pos : Nat} (e : pts l = cs ++ rest) (hpos : (cbs cs).length = pos) :
    (rest = [] ∧ fin l = pos ∧ (pos < l.length → (ptr l pos).1 = 0)) ∨ (∃ c t, rest = c :: t ∧ okc c ∧ pos + (cb c).length ≤ l.length ∧ ptr l pos = (c, (cb c).length)) := by
  obtain ⟨r, hl, hr⟩ := pts_rest l
  have ho := pts_oks l
  rw [e] at hl ho
  have hdr : l.drop pos = cbs rest ++ r := by
    rw [← hpos, hl, cbs_append, List.append_assoc]; simp
  have hll := congrArg List.length hl
  rw [cbs_append, List.length_append, List.length_append, hpos] at hll
  cases rest with
  | nil =>
    refine .inl ⟨rfl, ?_, fun hlt => ?_⟩
    · unfold fin; rw [e, List.append_nil, hpos]
    · exact ptr_none hlt (by rw [hdr]; exact hr)
  | cons c t =>
    have hc : okc c := ho c (by simp)
    rw [cbs_cons, List.length_append] at hll
    exact .inr ⟨c, t, rfl, hc, by omega, ptr_some (by rw [hdr, cbs_cons, List.append_assoc]; exact hd_cb hc _)⟩

set_option maxHeartbeats 1000000 in
theorem ref_bad (s : ByteArray) (w : World) (hs : s.size ≤ 70000) :
    Calls Try.prog 29 #[.string s] w fun e w' => e = .returned (.int .i64 (badOf s.data.toList)) ∧ w = w' := by
  obtain ⟨z, hz⟩ : ∃ z, badOf s.data.toList = z := ⟨_, rfl⟩
  rw [hz]
  have hz := Lib.hid hz
  have hs' : (s.size : Int) ≤ 70000 := by omega
  go_enter Try.func29, Try.ntmps29
  go_wp2
  go_loop [3] (fun v => ∃ (cs rest : List Nat) (pos : Nat), pts s.data.toList = cs ++ rest ∧ (cbs cs).length = pos ∧ v = .int .i64 (pos : Int)) (fun v => s.size - (intOf v).toNat)
  case atStart => exact ⟨[], _, 0, rfl, rfl, rfl⟩
  case round =>
    obtain ⟨cs, rest, pos, he, hpos, rfl⟩ := hrel
    rcases at_place he hpos with ⟨hr, hf, h0⟩ | ⟨c, t, rfl, hc, hle, hp⟩
    · have hfl := fin_le s.data.toList
      rw [hf, ← size_list] at hfl
      by_cases hlt : pos < s.size
      · have hb : badOf s.data.toList = (pos : Int) := by unfold badOf; rw [hf, ← size_list, if_pos hlt]
        have hb := Lib.hid (hz.out.symm.trans hb)
        have hP := point_any s pos w hs hlt
        rw [h0 (by rw [← size_list]; exact hlt)] at hP
        obtain ⟨m, hm⟩ : ∃ m, (ptr s.data.toList pos).2 = m := ⟨_, rfl⟩
        rw [hm] at hP
        have hP := Lib.hid hP
        have g1 : (pos : Int) < (s.size : Int) := by omega
        clear he hpos hr hf h0 hm hfl
        by_cases hm0 : m = 0
        · subst hm0
          go_wp2_with fail
          refine (hP.out).mono ?_
          rintro e w' ⟨rfl, rfl⟩
          go_wp2_with fail
          go_ret
          exact ⟨by rw [hb.out]; rfl, rfl⟩
        · have g2 : ¬ (m : Int) = 0 := by omega
          go_wp2_with fail
          refine (hP.out).mono ?_
          rintro e w' ⟨rfl, rfl⟩
          go_wp2_with fail
          go_ret
          exact ⟨by rw [hb.out]; rfl, rfl⟩
      · obtain rfl : pos = s.size := by omega
        have hb : badOf s.data.toList = -1 := by unfold badOf; rw [hf, ← size_list, if_neg (Nat.lt_irrefl _)]
        have hb := Lib.hid (hz.out.symm.trans hb)
        clear he hpos hr hf h0 hfl
        go_wp2_with fail
        go_ret
        exact ⟨by rw [hb.out]; rfl, rfl⟩
    · have hcp := cb_length_pos c
      have hc0 := hc.1
      rw [← size_list] at hle
      have hlt : pos < s.size := by omega
      have hP := point_any s pos w hs hlt
      rw [hp] at hP
      obtain ⟨k, hk⟩ : ∃ k, (cb c).length = k := ⟨_, rfl⟩
      dsimp only at hP
      rw [hk] at hP hcp hle
      have hP := Lib.hid hP
      have NEXT := Lib.hid (show pts s.data.toList = (cs ++ [c]) ++ t ∧ (cbs (cs ++ [c])).length = pos + k from ⟨by rw [he, List.append_assoc]; rfl, by rw [cbs_snoc, List.length_append, hpos, hk]⟩)
      have g1 : (pos : Int) < (s.size : Int) := by omega
      have g2 : ((k : Int) == 0) = false := by rw [beq_eq_false_iff_ne]; omega
      have g3 : ((c : Int) == 0) = false := by rw [beq_eq_false_iff_ne]; omega
      have g4 : (pos : Int) + (k : Int) ≤ 70000 := by omega
      have GG := Lib.hid (show 0 < k ∧ pos < s.size from ⟨hcp, hlt⟩)
      clear he hpos hp hk hc hcp hc0 hle hlt
      go_wp2_with fail
      refine (hP.out).mono ?_
      rintro e w' ⟨rfl, rfl⟩
      go_wp2_with fail
      go_round
      case rel => exact ⟨cs ++ [c], t, pos + k, NEXT.out.1, NEXT.out.2, by rw [Int.natCast_add]⟩
      case measure => have := GG.out; simp [intOf]; omega

theorem ref_valid_all (s : ByteArray) (w : World) :
    Calls Try.prog 10 #[.string s] w fun e w' => e = .returned (.bool (validOf s.data.toList)) ∧ w = w' := by
  by_cases h1 : s.size ≤ 65535
  · have hb := Lib.hid (ref_bad s w (by omega))
    have hv : validOf s.data.toList = decide (badOf s.data.toList < 0) := by
      unfold validOf
      rw [← size_list]
      simp [h1]
    obtain ⟨z, hz⟩ : ∃ z, badOf s.data.toList = z := ⟨_, rfl⟩
    rw [hz] at hv hb
    have hv := Lib.hid hv
    go_enter Try.func10, Try.ntmps10
    go_wp2_with fail
    refine (hb.out).mono ?_
    rintro e w' ⟨rfl, rfl⟩
    go_wp2_with fail
    go_ret
    exact ⟨by rw [hv.out]; rfl, rfl⟩
  · have hv : validOf s.data.toList = false := by
      unfold validOf
      rw [← size_list]
      simp; omega
    have h2 : 65535 < s.size := by omega
    clear h1
    rw [hv]
    go_enter Try.func10, Try.ntmps10
    go_wp2_with fail
    go_ret
    exact ⟨rfl, rfl⟩
theorem ref_valid (s : ByteArray) (w : World) (_hs : s.size ≤ 70000) :
    Calls Try.prog 10 #[.string s] w fun e w' => e = .returned (.bool (validOf s.data.toList)) ∧ w = w' := ref_valid_all s w
end Go.Proofs.Ytaahhbjnflimnaa
namespace Go.Proofs.Ytaahhbjnflimnaa
open Go.RowKit

set_option maxRecDepth 100000 in
theorem ref_has (s : ByteArray) (c : UInt8) (w : World) (hs : s.size ≤ 200000) : Calls Try.prog 11 #[.string s, .int .u8 c.toNat] w fun e w' => e = .returned (.bool (decide (c ∈ s.data.toList))) ∧ w = w' := by
  obtain ⟨C, hC⟩ : ∃ C, decide (c ∈ s.data.toList) = C := ⟨_, rfl⟩
  rw [hC]
  have HC := Lib.hid hC
  obtain ⟨m, hm⟩ : ∃ m, c.toNat = m := ⟨_, rfl⟩
  rw [hm]
  have HM := Lib.hid hm
  have q0 : (s.size : Int) ≤ 200000 := by omega
  clear hC hm hs
  go_enter Try.func11, Try.ntmps11
  go_wp2_with fail
  go_loopg [5] s.size (fun gk v wx => ∃ k : Nat, k ≤ s.size ∧ gk = s.size - k ∧ v = .int .i64 (k : Int) ∧ wx = w ∧ ∀ j x, j < k → s.data.toList[j]? = some x → x ≠ c)
  case atStart => exact ⟨0, Nat.zero_le _, rfl, rfl, rfl, fun j x h => by omega⟩
  case round =>
    obtain ⟨k, hk, rfl, rfl, rfl, hno⟩ := hrel
    have HNO := Lib.hid hno
    by_cases hlt : k < s.size
    · have q1 : (k : Int) < (s.size : Int) := by omega
      have hx : s.data.toList[k]? = some s[k] := by rw [List.getElem?_eq_getElem (by rw [← size_list]; exact hlt)]; rfl
      have HX := Lib.hid hx
      have HL := Lib.hid hlt
      obtain ⟨r, hr⟩ : ∃ r, s[k].toNat = r := ⟨_, rfl⟩
      have HR := Lib.hid hr
      clear hno hx hk
      by_cases he : s[k] = c
      · have hrm : r = m := by rw [← hr, ← HM.out, he]
        have : C = true := by rw [← HC.out]; exact decide_eq_true (List.mem_of_getElem? (HX.out.trans (congrArg some he)))
        subst this
        subst hrm
        clear he HC
        go_wp2_with fail
        go_ret
        exact ⟨rfl, rfl⟩
      · have hrm : ¬ r = m := by rw [← hr, ← HM.out]; exact fun h => he (UInt8.toNat.inj h)
        have q2 : ((r : Int) == (m : Int)) = false := by rw [beq_eq_false_iff_ne]; omega
        have HE := Lib.hid he
        clear he hrm
        go_wp2_with fail
        go_roundg (s.size - (k + 1))
        case measure => have := HL.out; omega
        case rel =>
          refine ⟨k + 1, by have := HL.out; omega, rfl, by go_num, rfl, fun j y hj hy => ?_⟩
          by_cases hjk : j = k
          · subst hjk
            have := hy.symm.trans HX.out
            injection this with this
            rw [this]; exact HE.out
          · exact HNO.out j y (by omega) hy
    · obtain rfl : k = s.size := by omega
      have : C = false := by
        rw [← HC.out]
        refine decide_eq_false fun h => ?_
        obtain ⟨j, hj⟩ := List.mem_iff_getElem?.1 h
        exact HNO.out j c (by have := (List.getElem?_eq_some_iff.1 hj).1; rw [← size_list] at this; exact this) hj rfl
      subst this
      clear hno hlt hk HC
      go_wp2_with fail
      go_ret
      exact ⟨rfl, rfl⟩
set_option maxRecDepth 100000 in
theorem ref_name (s : ByteArray) (w : World) (hs : s.size ≤ 200000) : Calls Try.prog 5 #[.string s] w fun e w' => e = .returned (.bool (nameL s.data.toList)) ∧ w = w' := by
  have H43 := Lib.hid (show Calls Try.prog 11 #[.string s, .int .u8 43] w fun e w' => e = .returned (.bool (decide ((43 : UInt8) ∈ s.data.toList))) ∧ w = w' from ref_has s 43 w hs)
  have H35 := Lib.hid (show Calls Try.prog 11 #[.string s, .int .u8 35] w fun e w' => e = .returned (.bool (decide ((35 : UInt8) ∈ s.data.toList))) ∧ w = w' from ref_has s 35 w hs)
  have VA := Lib.hid (ref_valid_all s w)
  have hn : nameL s.data.toList = (decide (s.data.toList ≠ []) && validOf s.data.toList && !decide ((43 : UInt8) ∈ s.data.toList) && !decide ((35 : UInt8) ∈ s.data.toList)) := by
    unfold nameL
    simp
  rw [hn]
  have he : decide (s.data.toList ≠ []) = !(s.toList == []) := by rw [toList_data]; cases s.data.toList <;> rfl
  rw [he]
  generalize hb0 : (s.toList == []) = b0
  generalize hbv : validOf s.data.toList = bv at *
  generalize decide ((43 : UInt8) ∈ s.data.toList) = b1 at *
  generalize decide ((35 : UInt8) ∈ s.data.toList) = b2 at *
  have h10 : s.toList.isEmpty = b0 := by rw [← hb0]; cases s.toList <;> rfl
  clear hn he hbv hs
  cases b0 <;> cases bv <;> cases b1 <;> cases b2 <;>
  · go_enter Try.func5, Try.ntmps5
    go_wp2_with (first | (go_at_call 10; with_reducible refine (VA.out).mono ?_; rintro e w1 ⟨rfl, rfl⟩) | (go_at_call 11; with_reducible refine (H43.out).mono ?_; rintro e w1 ⟨rfl, rfl⟩) | (go_at_call 11; with_reducible refine (H35.out).mono ?_; rintro e w1 ⟨rfl, rfl⟩))
    go_ret
    exact ⟨rfl, rfl⟩
end Go.Proofs.Ytaahhbjnflimnaa
