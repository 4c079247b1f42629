/-
  The contracts of polyglotref03.Runes and Count. Condition: at most 70,000 bytes.
-/
import Derived.Test.YtohbhmffgaijgaaUsRef
namespace Go.Proofs.Ytohbhmffgaijgaa
open Go.RowKit

set_option maxHeartbeats 2000000 in
theorem ref_runes (s : ByteArray) (w : World) (hs : s.size ≤ 70000) :
    Calls Try.prog 26 #[.string s] w fun e W' => ∃ v, e = .returned v ∧
      W'.ownsRow w.heap.size 37 2 v (pts s.data.toList).length (rcells (marks 0 (pts s.data.toList))) ∧ Below w.heap.size w W' := by
  obtain ⟨i0, hi, hz0, hz1, hz2⟩ := info_parts infoR
  have hlen := pts_length_le s.data.toList
  rw [← size_list] at hlen
  have hs' : (s.size : Int) ≤ 70000 := by omega
  obtain ⟨ps, hps⟩ : ∃ ps, pts s.data.toList = ps := ⟨_, rfl⟩
  rw [hps] at hlen ⊢
  have HPS := Lib.hid hps
  clear hps
  obtain ⟨n0, hn0⟩ : ∃ n0, w.heap.size = n0 := ⟨_, rfl⟩
  rw [hn0]
  have HN0 := Lib.hid hn0
  clear hn0
  go_enter Try.func26, Try.ntmps26
  go_wp2
  go_loopw [3, 4] (fun v i wr => ∃ (cs rest : List Nat) (pos : Nat), ps = cs ++ rest ∧ (cbs cs).length = pos ∧ i = .int .i64 (pos : Int) ∧ wr.ownsRow n0 37 2 v cs.length (rcells (marks 0 cs)) ∧ Below n0 w wr) (fun _ i _ => s.size - (intOf i).toNat)
  case atStart => exact ⟨[], _, 0, rfl, rfl, rfl, World.ownsRow_nil _ _ _ _, Below.refl _ _⟩
  case round =>
    obtain ⟨cs, rest, pos, he, hpos, rfl, hown, hb⟩ := hrel
    have hbs : n0 ≤ wr.heap.size := by have := hb.size; rw [HN0.out] at this; exact this
    rcases at_place (l := s.data.toList) (HPS.out.trans he) hpos with ⟨hr, hf, h0⟩ | ⟨c, t, rfl, hc, hle, hp⟩
    · have hfl := fin_le s.data.toList
      rw [hf, ← size_list] at hfl
      have hcs : ps = cs := by rw [he, hr, List.append_nil]
      have RES := Lib.hid (show ∀ v, wr.ownsRow n0 37 2 v cs.length (rcells (marks 0 cs)) → wr.ownsRow n0 37 2 v ps.length (rcells (marks 0 ps)) from fun v h => by rw [hcs]; exact h)
      have HO := Lib.hid hown
      have HB := Lib.hid hb
      by_cases hlt : pos < s.size
      · have hP := point_any s pos wr hs hlt
        rw [h0 (by rw [← size_list]; exact hlt)] at hP
        obtain ⟨m, hm⟩ : ∃ m, (ptr s.data.toList pos).2 = m := ⟨_, rfl⟩
        rw [hm] at hP
        have hP := Lib.hid hP
        have g1 : (pos : Int) < (s.size : Int) := by omega
        clear he hpos hr hf h0 hm hfl hcs hown hb hlen
        by_cases hm0 : m = 0
        · subst hm0
          go_wp2_with fail
          refine (hP.out).mono ?_
          rintro e w' ⟨rfl, rfl⟩
          go_wp2_with fail
          go_ret
          exact ⟨_, rfl, RES.out _ HO.out, HB.out⟩
        · have g2 : ¬ (m : Int) = 0 := by omega
          go_wp2_with fail
          refine (hP.out).mono ?_
          rintro e w' ⟨rfl, rfl⟩
          go_wp2_with fail
          go_ret
          exact ⟨_, rfl, RES.out _ HO.out, HB.out⟩
      · obtain rfl : pos = s.size := by omega
        clear he hpos hr hf h0 hfl hcs hown hb hlen
        go_wp2_with fail
        go_ret
        exact ⟨_, rfl, RES.out _ HO.out, HB.out⟩
    · have hcp := cb_length_pos c
      have hc0 := hc.1
      have hc1 : c ≤ 1114111 := by have := hc.2; omega
      rw [← size_list] at hle
      have hlt : pos < s.size := by omega
      have hP := point_any s pos wr hs hlt
      rw [hp] at hP
      obtain ⟨k, hk⟩ : ∃ k, (cb c).length = k := ⟨_, rfl⟩
      dsimp only at hP
      rw [hk] at hP hcp hle
      have hP := Lib.hid hP
      have NEXT := Lib.hid (show ps = (cs ++ [c]) ++ t ∧ (cbs (cs ++ [c])).length = pos + k ∧ (cs ++ [c]).length = cs.length + 1 ∧ rcells (marks 0 (cs ++ [c])) = rcells (marks 0 cs) ++ [.int .i64 (pos : Int), .int .i32 (c : Int)] from
        ⟨by rw [he, List.append_assoc]; rfl, by rw [cbs_snoc, List.length_append, hpos, hk], by simp, by rw [marks_snoc, hpos]; exact rcells_snoc _ _⟩)
      have hcl : cs.length ≤ 70000 := by
        have := congrArg List.length he
        rw [List.length_append] at this
        omega
      have g1 : (pos : Int) < (s.size : Int) := by omega
      have g2 : ((k : Int) == 0) = false := by rw [beq_eq_false_iff_ne]; omega
      have g3 : ((c : Int) == 0) = false := by rw [beq_eq_false_iff_ne]; omega
      have g4 : (pos : Int) + (k : Int) ≤ 70000 := by omega
      have g5 : (c : Int) ≤ 1114111 := by omega
      have g6 : (0 : Int) ≤ (c : Int) := by omega
      have GG := Lib.hid (show 0 < k ∧ pos < s.size from ⟨hcp, hlt⟩)
      have HB := Lib.hid hb
      clear he hpos hp hk hc hcp hc0 hc1 hle hlt hlen hb
      go_wp2_with fail
      refine (hP.out).mono ?_
      rintro e w' ⟨rfl, rfl⟩
      go_wp2_with (at_builtin; refine wpList_append_own _ rfl _ _ 32 rfl n0 37 i0 (.agg #[.int .i64 0, .int .i32 0]) 2 16 Try.underlying32 hi hz0 hz1 hz2 rfl (by decide) _ _ _ rfl (hown.alloc _) ⟨wr.heap.size, 0, none⟩ 1 1 [.int .i64 (pos : Int), .int .i32 (c : Int)] rfl rfl (cell_two_new _ _ _ _) (by simp [Value.oneCell']) (by simp only [maxLen]; omega) (by omega) (by simp; omega) ?_)
      intro v' w1 hown' hgrow _
      have hb' : Below n0 w w1 := (HB.out.alloc hbs _).grown hgrow (by simp; omega) (fun j hj => by have := (hown.lt j hj).1; omega)
      have HO := Lib.hid hown'
      have HB2 := Lib.hid hb'
      clear hown' hgrow hb' hown
      go_wp2_with fail
      obtain ⟨n1, n2, n3, n4⟩ := NEXT.out
      go_roundw
      case rel => exact ⟨cs ++ [c], t, pos + k, n1, n2, by rw [Int.natCast_add], by rw [n3, n4]; exact HO.out, HB2.out⟩
      case measure => have := GG.out; simp [intOf]; omega

theorem ref_count_yes (s : ByteArray) (w : World) (hs : s.size ≤ 70000) (hv : validOf s.data.toList = true) :
    Calls Try.prog 25 #[.string s] w fun e w' => e = .returned (.int .i64 ((pts s.data.toList).length : Int)) ∧ Below w.heap.size w w' := by
  have hvl := ref_valid s w hs
  rw [hv] at hvl
  have hvl := Lib.hid hvl
  have hr := ref_runes s w hs
  obtain ⟨n, hn⟩ : ∃ n, (pts s.data.toList).length = n := ⟨_, rfl⟩
  rw [hn] at hr ⊢
  have hr := Lib.hid hr
  go_enter Try.func25, Try.ntmps25
  go_wp2_with fail
  refine (hvl.out).mono ?_
  rintro e w1 ⟨rfl, rfl⟩
  go_wp2_with fail
  refine (hr.out).mono ?_
  rintro e w2 ⟨v, rfl, hown, hb⟩
  have hlv : (∃ A cap, v = .slice A n cap) := by
    rcases hown.2 with ⟨rfl, h0⟩ | ⟨g, cap, cur, rfl, _⟩
    · exact ⟨none, 0, by rw [h0]⟩
    · exact ⟨_, _, rfl⟩
  obtain ⟨A, cap, rfl⟩ := hlv
  clear hown
  go_wp2_with fail
  go_ret
  exact ⟨rfl, hb⟩
theorem ref_count_no (s : ByteArray) (w : World) (hs : s.size ≤ 70000) (hv : validOf s.data.toList = false) :
    Calls Try.prog 25 #[.string s] w fun e w' => e = .returned (.int .i64 0) ∧ Below w.heap.size w w' := by
  have hvl := ref_valid s w hs
  rw [hv] at hvl
  have hvl := Lib.hid hvl
  go_enter Try.func25, Try.ntmps25
  go_wp2_with fail
  refine (hvl.out).mono ?_
  rintro e w1 ⟨rfl, rfl⟩
  go_wp2_with fail
  go_ret
  exact ⟨rfl, Below.refl _ _⟩
end Go.Proofs.Ytohbhmffgaijgaa
