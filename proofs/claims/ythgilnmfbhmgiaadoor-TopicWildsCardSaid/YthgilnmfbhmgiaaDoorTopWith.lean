/-
  The contracts of topic.needed and topic.Within. Condition: strings no longer than an int says.
-/
import Derived.Test.YthgilnmfbhmgiaaDoorTopCall
import Derived.Test.YthgilnmfbhmgiaaDoorShTrim
namespace Go.Proofs.YthgilnmfbhmgiaaDoor
open Go.RowKit Go.Shelf

theorem trim_one (w : World) : Calls Tryd.prog 43 #[.string ⟨#[35]⟩, .string ⟨#[35]⟩] w fun e w' => e = .returned (.string ⟨#[]⟩) ∧ w = w' :=
  (Any.strings_TrimSuffix lays102 ⟨#[35]⟩ ⟨#[35]⟩ w (by decide)).mono fun _ _ h => ⟨h.1.trans rfl, h.2.symm⟩
theorem trim_two (w : World) : Calls Tryd.prog 43 #[.string ⟨#[47, 35]⟩, .string ⟨#[35]⟩] w fun e w' => e = .returned (.string ⟨#[47]⟩) ∧ w = w' :=
  (Any.strings_TrimSuffix lays102 ⟨#[47, 35]⟩ ⟨#[35]⟩ w (by decide)).mono fun _ _ h => ⟨h.1.trans rfl, h.2.symm⟩
theorem join_two (w : World) (t : TypeId) : Calls Tryd.prog 15 #[.slice (some ⟨w.heap.size, 0, none⟩) 2 2] (w.alloc (.cells #[.string ⟨#[43]⟩, .string ⟨#[35]⟩] t)) fun e w' => e = .returned (.string ⟨#[43, 47, 35]⟩) ∧ Below (w.alloc (.cells #[.string ⟨#[43]⟩, .string ⟨#[35]⟩] t)).heap.size (w.alloc (.cells #[.string ⟨#[43]⟩, .string ⟨#[35]⟩] t)) w' :=
  join_any (some ⟨w.heap.size, 0, none⟩) 2 2 [[43], [35]] _ (SR.alloc (ls := [[43], [35]]) t) rfl (Nat.le_refl _) (by decide) (by decide)

/-- The levels that a filter's names have at least. -/
def NeedPost (w : World) (s : List UInt8) (e : Ending) (w' : World) : Prop := ∃ A, e = .returned (.slice A (opened (lvls s)).length (opened (lvls s)).length) ∧ SR w' A (opened (lvls s)) ∧ Below w.heap.size w w'
theorem needed_any (s : ByteArray) (w : World) (hs : s.size ≤ 70000) :
    Calls Tryd.prog 32 #[.string s] w (NeedPost w s.data.toList) := by
  have hE1 := str_eq s.data.toList [35]
  have hE2 := str_eq s.data.toList [47, 35]
  rw [bs_mk] at hE1 hE2
  by_cases h1 : s.data.toList = [35]
  · obtain rfl : s = ⟨#[35]⟩ := by rw [← bs_mk s, h1]; rfl
    have hL := Lib.hid (fun W => levels_any ⟨#[43, 47, 35]⟩ W (by decide))
    have hJ := Lib.hid (join_two w 9)
    have hT := Lib.hid trim_one
    have FIN := Lib.hid (show ∀ e w', (∃ A, e = .returned (.slice A 2 2) ∧ SR w' A [[43], [35]] ∧ Below w.heap.size w w') → NeedPost w [35] e w' from fun _ _ h => h)
    clear hE1 hE2 h1 hs
    go_enter Tryd.func32, Tryd.ntmps32
    go_wp2_with fail
    refine (hT.out _).mono ?_
    rintro e w1 ⟨rfl, rfl⟩
    go_wp2_with fail
    refine (hJ.out).mono ?_
    rintro e w2 ⟨rfl, hb2⟩
    have hb2 := Lib.hid ((((Below.refl _ w).alloc (Nat.le_refl _) _).trans (hb2.mono (by simp))))
    have hcat : (⟨#[]⟩ : ByteArray) ++ ⟨#[43, 47, 35]⟩ = ⟨#[43, 47, 35]⟩ := rfl
    go_wp2_with fail
    refine (hL.out _).mono ?_
    rintro e w3 ⟨rfl, rfl⟩
    go_wp2_with fail
    go_ret
    exact FIN.out _ _ ⟨_, rfl, SR.alloc _, hb2.out.alloc hb2.out.size _⟩
  · by_cases h2 : s.data.toList = [47, 35]
    · obtain rfl : s = ⟨#[47, 35]⟩ := by rw [← bs_mk s, h2]; rfl
      have hL := Lib.hid (fun W => levels_any ⟨#[47, 43, 47, 35]⟩ W (by decide))
      have hJ := Lib.hid (join_two w 9)
      have hT := Lib.hid trim_two
      have FIN := Lib.hid (show ∀ e w', (∃ A, e = .returned (.slice A 3 3) ∧ SR w' A [[], [43], [35]] ∧ Below w.heap.size w w') → NeedPost w [47, 35] e w' from fun _ _ h => h)
      clear hE1 hE2 h1 h2 hs
      go_enter Tryd.func32, Tryd.ntmps32
      go_wp2_with fail
      refine (hT.out _).mono ?_
      rintro e w1 ⟨rfl, rfl⟩
      go_wp2_with fail
      refine (hJ.out).mono ?_
      rintro e w2 ⟨rfl, hb2⟩
      have hb2 := Lib.hid ((((Below.refl _ w).alloc (Nat.le_refl _) _).trans (hb2.mono (by simp))))
      have hcat : (⟨#[47]⟩ : ByteArray) ++ ⟨#[43, 47, 35]⟩ = ⟨#[47, 43, 47, 35]⟩ := rfl
      go_wp2_with fail
      refine (hL.out _).mono ?_
      rintro e w3 ⟨rfl, rfl⟩
      go_wp2_with fail
      go_ret
      exact FIN.out _ _ ⟨_, rfl, SR.alloc _, hb2.out.alloc hb2.out.size _⟩
    · rw [decide_eq_false h1] at hE1
      rw [decide_eq_false h2] at hE2
      have ho : opened (lvls s.data.toList) = lvls s.data.toList := opened_other (fun e => h1 (by rw [← joins_lvls s.data.toList, e]; rfl)) (fun e => h2 (by rw [← joins_lvls s.data.toList, e]; rfl))
      have hL := Lib.hid (fun W => levels_any s W (by omega))
      have FIN := Lib.hid (show ∀ e w', (∃ A, e = .returned (.slice A (lvls s.data.toList).length (lvls s.data.toList).length) ∧ SR w' A (lvls s.data.toList) ∧ Below w.heap.size w w') → NeedPost w s.data.toList e w' from fun _ _ h => by unfold NeedPost; rw [ho]; exact h)
      clear h1 h2 hs ho
      go_enter Tryd.func32, Tryd.ntmps32
      go_wp2_with fail
      refine (hL.out _).mono ?_
      rintro e w3 ⟨rfl, rfl⟩
      go_wp2_with fail
      go_ret
      exact FIN.out _ _ ⟨_, rfl, SR.alloc _, (Below.refl _ _).alloc (Nat.le_refl _) _⟩

theorem opened_le (x : List (List UInt8)) : (opened x).length ≤ x.length + 1 := by
  unfold opened
  split
  · rename_i h; rw [h]; decide
  · split
    · rename_i h; rw [h]; decide
    · omega
set_option maxHeartbeats 1000000 in
theorem within_any (a b : ByteArray) (w : World) (ha : a.size ≤ 9223372036854775807) (hb : b.size ≤ 9223372036854775807) :
    Calls Tryd.prog 17 #[.string a, .string b] w fun e w' => e = .returned (.bool (withinL a.data.toList b.data.toList)) ∧ Below w.heap.size w w' := by
  have hF := fun W => filter_any a W ha
  have hN := fun W => filter_any b W hb
  cases hx : filterL a.data.toList with
  | false =>
    have hv : withinL a.data.toList b.data.toList = false := by unfold withinL; rw [hx]; rfl
    rw [hv]
    rw [hx] at hF
    have hF := Lib.hid hF
    clear hv hx hN
    go_enter Tryd.func17, Tryd.ntmps17
    go_wp2_with fail
    refine (hF.out _).mono ?_
    rintro e w1 ⟨rfl, hb1⟩
    go_wp2_with fail
    go_ret
    exact ⟨rfl, hb1⟩
  | true =>
    have hfl := filterL_le hx
    cases hy : filterL b.data.toList with
    | false =>
      have hv : withinL a.data.toList b.data.toList = false := by unfold withinL; rw [hx, hy]; rfl
      rw [hv]
      rw [hx] at hF
      rw [hy] at hN
      have hF := Lib.hid hF
      have hN := Lib.hid hN
      clear hv hx hy
      go_enter Tryd.func17, Tryd.ntmps17
      go_wp2_with fail
      refine (hF.out _).mono ?_
      rintro e w1 ⟨rfl, hb1⟩
      go_wp2_with fail
      refine (hN.out _).mono ?_
      rintro e w2 ⟨rfl, hb2⟩
      have hb2 := Lib.hid (hb1.trans (hb2.mono hb1.size))
      go_wp2_with fail
      go_ret
      exact ⟨rfl, hb2.out⟩
    | true =>
      have hnl := filterL_le hy
      have hH := fun W => hides_any b a W hy
      cases hz : (dollarL a.data.toList && wildL ((lvls b.data.toList).headD [])) with
      | true =>
        have hv : withinL a.data.toList b.data.toList = false := by unfold withinL; rw [hx, hy, hz]; rfl
        rw [hv]
        rw [hx] at hF
        rw [hy] at hN
        rw [hz] at hH
        have hF := Lib.hid hF
        have hN := Lib.hid hN
        have hH := Lib.hid hH
        clear hv hx hy hz
        go_enter Tryd.func17, Tryd.ntmps17
        go_wp2_with fail
        refine (hF.out _).mono ?_
        rintro e w1 ⟨rfl, hb1⟩
        go_wp2_with fail
        refine (hN.out _).mono ?_
        rintro e w2 ⟨rfl, hb2⟩
        have hb2 := Lib.hid (hb1.trans (hb2.mono hb1.size))
        go_wp2_with fail
        refine (hH.out _).mono ?_
        rintro e w3 ⟨rfl, hb3⟩
        have hb3 := Lib.hid (hb2.out.trans (hb3.mono hb2.out.size))
        go_wp2_with fail
        go_ret
        exact ⟨rfl, hb3.out⟩
      | false =>
        have hv : withinL a.data.toList b.data.toList = win (opened (lvls a.data.toList)) (lvls b.data.toList) := by
          unfold withinL
          rw [hx, hy, hz]; rfl
        have hll1 := lvls_le a.data.toList
        have hll2 := lvls_le b.data.toList
        have hop := opened_le (lvls a.data.toList)
        rw [← Lib.size_eq] at hll1 hll2
        have hL1 := Lib.hid (fun W => levels_any b W (by omega))
        have hL2 := Lib.hid (fun W => needed_any a W (by omega))
        have hC := Lib.hid (fun (W W2 : World) (B : Option Addr) (hB : SR W2 B (opened (lvls a.data.toList))) (h12 : Below (W.alloc (.cells (strs (lvls b.data.toList)).toArray 9)).heap.size (W.alloc (.cells (strs (lvls b.data.toList)).toArray 9)) W2) =>
          covers_two (lvls b.data.toList) (opened (lvls a.data.toList)) W (W.alloc (.cells (strs (lvls b.data.toList)).toArray 9)) W2 _ B _ _ (SR.alloc _) h12 hB (Nat.le_refl _) (Nat.le_refl _) (by omega) (by omega))
        rw [hv]
        rw [hx] at hF
        rw [hy] at hN
        rw [hz] at hH
        have hF := Lib.hid hF
        have hN := Lib.hid hN
        have hH := Lib.hid hH
        clear hv hx hy hz hll1 hll2 hfl hnl hop
        generalize win (opened (lvls a.data.toList)) (lvls b.data.toList) = r at *
        go_enter Tryd.func17, Tryd.ntmps17
        go_wp2_with fail
        refine (hF.out _).mono ?_
        rintro e w1 ⟨rfl, hb1⟩
        go_wp2_with fail
        refine (hN.out _).mono ?_
        rintro e w2 ⟨rfl, hb2⟩
        have hb2 := Lib.hid (hb1.trans (hb2.mono hb1.size))
        go_wp2_with fail
        refine (hH.out _).mono ?_
        rintro e w3 ⟨rfl, hb3⟩
        have hb3 := Lib.hid (hb2.out.trans (hb3.mono hb2.out.size))
        go_wp2_with fail
        refine (hL1.out _).mono ?_
        rintro e w4 ⟨rfl, rfl⟩
        go_wp2_with fail
        refine (hL2.out _).mono ?_
        rintro e w4 ⟨B, rfl, hB, hb4⟩
        have hc := hC.out w3 w4 B hB hb4
        have hb4 := Lib.hid (show Below w3.heap.size w3 w4 from ((Below.refl _ w3).alloc (Nat.le_refl _) _).trans (hb4.mono (by simp)))
        have hB := Lib.hid hB
        go_wp2_with fail
        refine hc.mono ?_
        rintro e w5 ⟨rfl, hb5⟩
        have hb5 := Lib.hid (hb3.out.trans ((hb4.out.trans (hb5.mono hb4.out.size)).mono hb3.out.size))
        go_wp2_with fail
        go_ret
        exact ⟨rfl, hb5.out⟩
end Go.Proofs.YthgilnmfbhmgiaaDoor
