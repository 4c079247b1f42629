/-
  The contracts of polyglotref03.Bad and Valid. Condition: at most 70,000 bytes.
  The contract of polyglotkit.Pick: a number modulo another one. No condition.
-/
import Derived.WalkSmall
import Derived.Test.YtaahhbjnflimnaaGreatK18
import Derived.Test.YtaahhbjnflimnaaGreatK22
import Derived.Test.YtaahhbjnflimnaaGreatK16
namespace Go.Proofs.YtaahhbjnflimnaaGreat
open Go.RowKit

/-- What stands at a place between code points. -/
theorem at_place {l : List UInt8} {cs rest : List Nat} {pos : Nat} (e : pts l = cs ++ rest) (hpos : (cbs cs).length = pos) :
    (rest = [] ∧ fin l = pos ∧ (pos < l.length → (ptr l pos).1 = 0)) ∨ (∃ c t, rest = c :: t ∧ okc c ∧ pos + (cb c).length ≤ l.length ∧ ptr l pos = (c, (cb c).length)) := by
  obtain ⟨r, hl, hr⟩ := pts_rest l
  have ho := pts_oks l
  rw [e] at hl ho
  have hdr : l.drop pos = cbs rest ++ r := by
    rw [← hpos, hl, cbs_append, List.append_assoc]; simp
  have hll := congrArg List.length hl
  rw [cbs_append, List.length_append, List.length_append, hpos] at hll
  cases rest with
  | nil =>
    refine .inl ⟨rfl, ?_, fun hlt => ?_⟩
    · unfold fin; rw [e, List.append_nil, hpos]
    · exact ptr_none hlt (by rw [hdr]; exact hr)
  | cons c t =>
    have hc : okc c := ho c (by simp)
    rw [cbs_cons, List.length_append] at hll
    exact .inr ⟨c, t, rfl, hc, by omega, ptr_some (by rw [hdr, cbs_cons, List.append_assoc]; exact hd_cb hc _)⟩

set_option maxHeartbeats 1000000 in
theorem ref_bad (s : ByteArray) (w : World) (hs : s.size ≤ 70000) :
    Calls Tryz.prog 136 #[.string s] w fun e w' => e = .returned (.int .i64 (badOf s.data.toList)) ∧ w = w' := by
  obtain ⟨z, hz⟩ : ∃ z, badOf s.data.toList = z := ⟨_, rfl⟩
  rw [hz]
  have hz := Lib.hid hz
  have hs' : (s.size : Int) ≤ 70000 := by omega
  go_enter Tryz.func136, Tryz.ntmps136
  go_wp2
  go_loop [3] (fun v => ∃ (cs rest : List Nat) (pos : Nat), pts s.data.toList = cs ++ rest ∧ (cbs cs).length = pos ∧ v = .int .i64 (pos : Int)) (fun v => s.size - (intOf v).toNat)
  case atStart => exact ⟨[], _, 0, rfl, rfl, rfl⟩
  case round =>
    obtain ⟨cs, rest, pos, he, hpos, rfl⟩ := hrel
    rcases at_place he hpos with ⟨hr, hf, h0⟩ | ⟨c, t, rfl, hc, hle, hp⟩
    · have hfl := fin_le s.data.toList
      rw [hf, ← size_list] at hfl
      by_cases hlt : pos < s.size
      · have hb : badOf s.data.toList = (pos : Int) := by unfold badOf; rw [hf, ← size_list, if_pos hlt]
        have hb := Lib.hid (hz.out.symm.trans hb)
        have hP := point_any s pos w hs hlt
        rw [h0 (by rw [← size_list]; exact hlt)] at hP
        obtain ⟨m, hm⟩ : ∃ m, (ptr s.data.toList pos).2 = m := ⟨_, rfl⟩
        rw [hm] at hP
        have hP := Lib.hid hP
        have g1 : (pos : Int) < (s.size : Int) := by omega
        clear he hpos hr hf h0 hm hfl
        by_cases hm0 : m = 0
        · subst hm0
          go_wp2_with fail
          refine (hP.out).mono ?_
          rintro e w' ⟨rfl, rfl⟩
          go_wp2_with fail
          go_ret
          exact ⟨by rw [hb.out]; rfl, rfl⟩
        · have g2 : ¬ (m : Int) = 0 := by omega
          go_wp2_with fail
          refine (hP.out).mono ?_
          rintro e w' ⟨rfl, rfl⟩
          go_wp2_with fail
          go_ret
          exact ⟨by rw [hb.out]; rfl, rfl⟩
      · obtain rfl : pos = s.size := by omega
        have hb : badOf s.data.toList = -1 := by unfold badOf; rw [hf, ← size_list, if_neg (Nat.lt_irrefl _)]
        have hb := Lib.hid (hz.out.symm.trans hb)
        clear he hpos hr hf h0 hfl
        go_wp2_with fail
        go_ret
        exact ⟨by rw [hb.out]; rfl, rfl⟩
    · have hcp := cb_length_pos c
      have hc0 := hc.1
      rw [← size_list] at hle
      have hlt : pos < s.size := by omega
      have hP := point_any s pos w hs hlt
      rw [hp] at hP
      obtain ⟨k, hk⟩ : ∃ k, (cb c).length = k := ⟨_, rfl⟩
      dsimp only at hP
      rw [hk] at hP hcp hle
      have hP := Lib.hid hP
      have NEXT := Lib.hid (show pts s.data.toList = (cs ++ [c]) ++ t ∧ (cbs (cs ++ [c])).length = pos + k from ⟨by rw [he, List.append_assoc]; rfl, by rw [cbs_snoc, List.length_append, hpos, hk]⟩)
      have g1 : (pos : Int) < (s.size : Int) := by omega
      have g2 : ((k : Int) == 0) = false := by rw [beq_eq_false_iff_ne]; omega
      have g3 : ((c : Int) == 0) = false := by rw [beq_eq_false_iff_ne]; omega
      have g4 : (pos : Int) + (k : Int) ≤ 70000 := by omega
      have GG := Lib.hid (show 0 < k ∧ pos < s.size from ⟨hcp, hlt⟩)
      clear he hpos hp hk hc hcp hc0 hle hlt
      go_wp2_with fail
      refine (hP.out).mono ?_
      rintro e w' ⟨rfl, rfl⟩
      go_wp2_with fail
      go_round
      case rel => exact ⟨cs ++ [c], t, pos + k, NEXT.out.1, NEXT.out.2, by rw [Int.natCast_add]⟩
      case measure => have := GG.out; simp [intOf]; omega

theorem ref_valid_all (s : ByteArray) (w : World) :
    Calls Tryz.prog 71 #[.string s] w fun e w' => e = .returned (.bool (validOf s.data.toList)) ∧ w = w' := by
  by_cases h1 : s.size ≤ 65535
  · have hb := Lib.hid (ref_bad s w (by omega))
    have hv : validOf s.data.toList = decide (badOf s.data.toList < 0) := by
      unfold validOf
      rw [← size_list]
      simp [h1]
    obtain ⟨z, hz⟩ : ∃ z, badOf s.data.toList = z := ⟨_, rfl⟩
    rw [hz] at hv hb
    have hv := Lib.hid hv
    go_enter Tryz.func71, Tryz.ntmps71
    go_wp2_with fail
    refine (hb.out).mono ?_
    rintro e w' ⟨rfl, rfl⟩
    go_wp2_with fail
    go_ret
    exact ⟨by rw [hv.out]; rfl, rfl⟩
  · have hv : validOf s.data.toList = false := by
      unfold validOf
      rw [← size_list]
      simp; omega
    have h2 : 65535 < s.size := by omega
    clear h1
    rw [hv]
    go_enter Tryz.func71, Tryz.ntmps71
    go_wp2_with fail
    go_ret
    exact ⟨rfl, rfl⟩
theorem ref_valid (s : ByteArray) (w : World) (_hs : s.size ≤ 70000) :
    Calls Tryz.prog 71 #[.string s] w fun e w' => e = .returned (.bool (validOf s.data.toList)) ∧ w = w' := ref_valid_all s w
end Go.Proofs.YtaahhbjnflimnaaGreat
namespace Go.Proofs.YtaahhbjnflimnaaGreat
open Go.RowKit

/-- n modulo m, from 0 on. -/
theorem pick_any (n m : Int) (w : World) (h0 : 0 < m) (h1 : m ≤ 1000000000) :
    Calls Tryz.prog 33 #[.int .i64 n, .int .i64 m] w fun e w' => e = .returned (.int .i64 (n % m)) ∧ w = w' := by
  have hm : ¬ m < 1 := by omega
  have hz : ¬ m = 0 := by omega
  have b1 := Int.tmod_lt_of_pos n (show 0 < m by omega)
  have b2 := Int.lt_tmod_of_pos n (show 0 < m by omega)
  have b3 := Int.emod_nonneg n hz
  have b4 := Int.emod_lt_of_pos n (show 0 < m by omega)
  have e0 := @Int.tmod_eq_emod n m
  by_cases hk : n.tmod m < 0
  · have e1 : n.tmod m + m = n % m := by split at e0 <;> omega
    have E1 := Lib.hid e1
    clear e1 e0 b3 b4
    go_enter Tryz.func33, Tryz.ntmps33
    go_wp2
    go_ret
    exact ⟨by rw [← E1.out]; rfl, rfl⟩
  · have e1 : n.tmod m = n % m := by split at e0 <;> omega
    have E1 := Lib.hid e1
    clear e1 e0 b3 b4
    go_enter Tryz.func33, Tryz.ntmps33
    go_wp2
    go_ret
    exact ⟨by rw [← E1.out]; rfl, rfl⟩
end Go.Proofs.YtaahhbjnflimnaaGreat
