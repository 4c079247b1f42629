/-
  The contracts of polyglotref05.text and next. Condition: at most 70,000 bytes.
-/
import Derived.Laws.ResultCell
import Derived.Test.YtckdbnndpoleeaaGreatK38
import Derived.Test.YtckdbnndpoleeaaGreatK41
namespace Go.Proofs.YtckdbnndpoleeaaGreat
open Go.RowKit

theorem text_parts (d : Bool) (r : List UInt8) : ((rdB r).2.2 ≠ 0 ∧ textP d r = ([], 0, 5)) ∨ ((rdB r).2.2 = 0 ∧ d = false ∧ validOf (rdB r).1 = false ∧ textP d r = ([], 0, 6)) ∨ ((rdB r).2.2 = 0 ∧ (d = true ∨ (d = false ∧ validOf (rdB r).1 = true)) ∧ textP d r = ((rdB r).1, (rdB r).2.1, 0)) := by
  unfold textP
  by_cases h : (rdB r).2.2 = 0
  · rw [if_neg (by simp [h])]
    cases d <;> cases hv : validOf (rdB r).1 <;> simp [h]
  · exact .inl ⟨h, by rw [if_pos h]⟩
set_option maxRecDepth 100000 in
set_option maxHeartbeats 1000000 in
theorem ref_text (s : ByteArray) (at' sh : Nat) (w : World) (hs : s.size ≤ 70000) (ha : at' ≤ s.size) (_hsh : sh ≤ 7) :
    Calls Tryz.prog 67 #[.string s, .int .i64 at', .int .i64 sh] w fun e w' => e = .returned (.tuple #[.string (bs (textP (sh == 6) (s.data.toList.drop at')).1), .int .i64 (if (textP (sh == 6) (s.data.toList.drop at')).2.2 = 0 then at' + (textP (sh == 6) (s.data.toList.drop at')).2.1 else 0 : Nat), .int .i64 ((textP (sh == 6) (s.data.toList.drop at')).2.2 : Nat)]) ∧ w' = w := by
  have RB := ref_readbin (s.extract at' s.size) w (by rw [size_list, rest_list, List.length_drop, ← size_list]; omega)
  rw [rest_list] at RB
  have hle := rdB_le (s.data.toList.drop at')
  rw [List.length_drop, ← size_list] at hle
  have q1 : (at' : Int) ≤ (s.size : Int) := by omega
  have q2 : (0 : Int) ≤ (at' : Int) := by omega
  rcases text_parts (sh == 6) (s.data.toList.drop at') with ⟨h1, h2⟩ | ⟨h1, h2, h3, h4⟩ | ⟨h1, h2, h3⟩
  · rw [h2]
    unfold ok3 at RB
    generalize rdB (s.data.toList.drop at') = q at *
    obtain ⟨t, k, z⟩ := q
    have n0 : (((z : Nat) : Int) != 0) = true := by rw [bne_iff_ne]; simp at h1; omega
    have RB := Lib.hid RB
    simp only [show ¬ (5 : Nat) = 0 by decide, if_false]
    clear h1 h2 hle hs ha _hsh
    go_enter Tryz.func67, Tryz.ntmps67
    go_wp2_with fail
    refine (RB.out).mono ?_
    rintro e w1 ⟨rfl, rfl⟩
    go_wp2_with fail
    go_ret3
    exact ⟨rfl, rfl⟩
  · rw [h4]
    have n6 : (((sh : Nat) : Int) != 6) = true := by rw [bne_iff_ne]; simp at h2; omega
    unfold ok3 at RB
    rw [h1] at RB
    have VA := ref_valid_all (bs (rdB (s.data.toList.drop at')).1)
    rw [bs_data, h3] at VA
    generalize rdB (s.data.toList.drop at') = q at *
    obtain ⟨t, k, z⟩ := q
    have RB := Lib.hid RB
    have VA := Lib.hid VA
    simp only [show ¬ (6 : Nat) = 0 by decide, if_false]
    clear h1 h2 h3 h4 hle hs ha _hsh
    go_enter Tryz.func67, Tryz.ntmps67
    go_wp2_with fail
    refine (RB.out).mono ?_
    rintro e w1 ⟨rfl, rfl⟩
    go_wp2_with fail
    refine (VA.out _).mono ?_
    rintro e w1 ⟨rfl, rfl⟩
    go_wp2_with fail
    go_ret3
    exact ⟨rfl, rfl⟩
  · rw [h3]
    unfold ok3 at RB
    rw [h1] at RB
    have VA := ref_valid_all (bs (rdB (s.data.toList.drop at')).1)
    rw [bs_data] at VA
    generalize hq : rdB (s.data.toList.drop at') = q at *
    obtain ⟨t, k, z⟩ := q
    obtain ⟨y, hy⟩ : ∃ y, at' + k = y := ⟨_, rfl⟩
    have q3 : IntKind.i64.wrap ((at' : Int) + (k : Int)) = (y : Int) := by simp only [IntKind.wrap_i64]; simp at hle; omega
    have RB := Lib.hid RB
    simp only [if_true, hy]
    rcases h2 with h2 | ⟨h2, hv⟩
    · have n6 : (((sh : Nat) : Int) != 6) = false := by simp at h2; rw [h2]; rfl
      clear h1 h2 h3 hle hs ha _hsh hq hy VA
      go_enter Tryz.func67, Tryz.ntmps67
      go_wp2_with fail
      refine (RB.out).mono ?_
      rintro e w1 ⟨rfl, rfl⟩
      go_wp2_with fail
      go_ret3
      exact ⟨rfl, rfl⟩
    · have n6 : (((sh : Nat) : Int) != 6) = true := by rw [bne_iff_ne]; simp at h2; omega
      rw [hv] at VA
      have VA := Lib.hid VA
      clear h1 h2 h3 hle hs ha _hsh hq hy hv
      go_enter Tryz.func67, Tryz.ntmps67
      go_wp2_with fail
      refine (RB.out).mono ?_
      rintro e w1 ⟨rfl, rfl⟩
      go_wp2_with fail
      refine (VA.out _).mono ?_
      rintro e w1 ⟨rfl, rfl⟩
      go_wp2_with fail
      go_ret3
      exact ⟨rfl, rfl⟩
end Go.Proofs.YtckdbnndpoleeaaGreat
