/-
  Return codes and grants of MQTT 3.1.1, and what corresponds: Return, Grant, Bad, To5, To311. Condition: the table of reason codes reads as the program's text lays it.
-/
import Derived.Lib.LaidTab
import Derived.Lib.AppendIntMem
import Derived.Test.YtonfkaoobajbkaaDoorRsnSet
namespace Go.Proofs.YtonfkaoobajbkaaDoor
open Go.RowKit

def debr : List Int := [0, 1, 56, 2, 57, 49, 28, 3, 61, 58, 42, 50, 38, 29, 17, 4, 62, 47, 59, 36, 45, 43, 51, 22, 53, 39, 33, 30, 24, 18, 12, 5, 63, 55, 48, 27, 60, 41, 37, 16, 46, 35, 44, 21, 52, 32, 23, 11, 54, 26, 40, 15, 34, 20, 31, 10, 25, 14, 19, 9, 13, 8, 7, 6]
/-- The two tables that are read. -/
structure Tabs (W : World) : Prop where
  later : Lib.TabIs Tryd.prog W "polyglot/reason.later" .i64 laterR
  debr : Lib.TabIs Tryd.prog W "math/bits.deBruijn64tab" .u8 debr
theorem Tabs.below {W W' : World} (h : Tabs W) (hb : Below W.heap.size W W') : Tabs W' :=
  ⟨Lib.tabBelow_of_tabIs h.later W' hb, Lib.tabBelow_of_tabIs h.debr W' hb⟩
theorem Tabs.at {W : World} (h : Tabs W) (i : Nat) (hi : i < 6) : W.cell? ⟨0, i, none⟩ = some (.int .i64 (laterR.getD i 0)) := h.later.cell (by kernel_rfl) i hi
theorem return_any (code : Int) (w : World) :
    Calls Tryd.prog 13 #[.int .i64 code] w fun e w' => e = .returned (.bool (returnR code)) ∧ w = w' := by
  unfold returnR
  by_cases h0 : 0 ≤ code
  · by_cases h1 : code < 6
    · go_enter Tryd.func13, Tryd.ntmps13
      go_wp2_with fail
      go_ret
      exact ⟨by simp [h0, h1], rfl⟩
    · go_enter Tryd.func13, Tryd.ntmps13
      go_wp2_with fail
      go_ret
      exact ⟨by simp [h1], rfl⟩
  · go_enter Tryd.func13, Tryd.ntmps13
    go_wp2_with fail
    go_ret
    exact ⟨by simp; omega, rfl⟩
theorem bad_any (code : Int) (w : World) :
    Calls Tryd.prog 15 #[.int .i64 code] w fun e w' => e = .returned (.bool (badR code)) ∧ w = w' := by
  unfold badR
  by_cases h0 : 128 ≤ code
  · by_cases h1 : code < 256
    · go_enter Tryd.func15, Tryd.ntmps15
      go_wp2_with fail
      go_ret
      exact ⟨by simp [h0, h1], rfl⟩
    · go_enter Tryd.func15, Tryd.ntmps15
      go_wp2_with fail
      go_ret
      exact ⟨by simp [h1], rfl⟩
  · go_enter Tryd.func15, Tryd.ntmps15
    go_wp2_with fail
    go_ret
    exact ⟨by simp; omega, rfl⟩
theorem grant_any (code : Int) (w : World) :
    Calls Tryd.prog 14 #[.int .i64 code] w fun e w' => e = .returned (.bool (grantR code)) ∧ w = w' := by
  by_cases h : code = 0 ∨ code = 1 ∨ code = 2 ∨ code = 128
  · rcases h with rfl | rfl | rfl | rfl
    all_goals
      go_enter Tryd.func14, Tryd.ntmps14
      go_wp2_with fail
      go_ret
      exact ⟨rfl, rfl⟩
  · have h0 : ¬ code = 0 := fun e => h (.inl e)
    have h1 : ¬ code = 1 := fun e => h (.inr (.inl e))
    have h2 : ¬ code = 2 := fun e => h (.inr (.inr (.inl e)))
    have h3 : ¬ code = 128 := fun e => h (.inr (.inr (.inr e)))
    have hg : grantR code = false := by unfold grantR; simp [h0, h1, h2, h3]
    rw [hg]
    clear h hg
    go_enter Tryd.func14, Tryd.ntmps14
    go_wp2_with fail
    go_ret
    exact ⟨rfl, rfl⟩
theorem to5_any (code : Int) (w : World) (ht : Tabs w) :
    Calls Tryd.prog 8 #[.int .i64 code] w fun e w' => e = .returned (.tuple #[.int .i64 (to5R code).1, .bool (to5R code).2]) ∧ w = w' := by
  have RT := Lib.hid (fun W => return_any code W)
  unfold to5R
  cases hr : returnR code
  · rw [hr] at RT
    clear hr ht
    go_enter Tryd.func8, Tryd.ntmps8
    go_wp2_with fail
    refine (RT.out _).mono ?_
    rintro e w' ⟨rfl, rfl⟩
    go_wp2_with fail
    go_ret2
    exact ⟨rfl, rfl⟩
  · have h2 := hr
    unfold returnR at h2
    rw [Bool.and_eq_true, decide_eq_true_eq, decide_eq_true_eq] at h2
    obtain ⟨c, rfl⟩ : ∃ c : Nat, code = (c : Int) := ⟨code.toNat, by omega⟩
    have hc := ht.at c (by omega)
    have e : laterR.getD (c : Int).toNat 0 = laterR.getD c 0 := by simp
    rw [if_pos rfl, e]
    have h3 : (c : Int) < 6 := h2.2
    have h4 : (0 : Int) ≤ (c : Int) := h2.1
    rw [hr] at RT
    generalize laterR.getD c 0 = x at *
    clear hr ht h2 e
    go_enter Tryd.func8, Tryd.ntmps8
    go_wp2_with fail
    refine (RT.out _).mono ?_
    rintro e w' ⟨rfl, rfl⟩
    go_wp2_with fail
    go_ret2
    exact ⟨rfl, rfl⟩
theorem Tabs.row {W : World} (h : Tabs W) : ∃ t fr, W.heap[0]? = some (.cells #[.int .i64 0, .int .i64 132, .int .i64 133, .int .i64 136, .int .i64 134, .int .i64 135] t fr) := by
  have h1 := h.later
  unfold Lib.TabIs World.var? at h1
  rw [show Tryd.prog.globalNamed "polyglot/reason.later" = some 0 by kernel_rfl] at h1
  simp only [Option.bind_some] at h1
  cases hx : W.heap[0]? with
  | none => rw [hx] at h1; cases h1
  | some o =>
    rw [hx] at h1
    cases o with
    | cells cs t fr => exact ⟨t, fr, congrArg (fun c => some (Obj.cells c t fr)) (Option.some.inj h1)⟩
    | _ => cases h1
def Not311 (k : Nat) (code : Int) : Prop := ∀ j < k, laterR.getD j 0 ≠ code
theorem Not311.next {k : Nat} {code : Int} (h : Not311 k code) (hk : laterR.getD k 0 ≠ code) : Not311 (k + 1) code := fun j hj => by
  by_cases e : j = k
  · rw [e]; exact hk
  · exact h j (by omega)
theorem Not311.all {code : Int} (h : Not311 6 code) : to311R code = (0, false) := by
  unfold to311R
  have h0 : code ≠ 0 := fun e => h 0 (by decide) e.symm
  have h1 : code ≠ 132 := fun e => h 1 (by decide) e.symm
  have h2 : code ≠ 133 := fun e => h 2 (by decide) e.symm
  have h3 : code ≠ 136 := fun e => h 3 (by decide) e.symm
  have h4 : code ≠ 134 := fun e => h 4 (by decide) e.symm
  have h5 : code ≠ 135 := fun e => h 5 (by decide) e.symm
  simp [h0, h1, h2, h3, h4, h5]
theorem info_arr : (Tryd.prog.info? 32).map (·.size) = some 6 := by kernel_rfl
set_option maxRecDepth 100000 in
set_option maxHeartbeats 1000000 in
theorem to311_any (code : Int) (w : World) (ht : Tabs w) :
    Calls Tryd.prog 9 #[.int .i64 code] w fun e w' => e = .returned (.tuple #[.int .i64 (to311R code).1, .bool (to311R code).2]) ∧ w = w' := by
  obtain ⟨t, fr, hrow⟩ := ht.row
  have i0 : ∀ w, (Instr.index 32 (.agg #[.int .i64 0, .int .i64 132, .int .i64 133, .int .i64 136, .int .i64 134, .int .i64 135]) (.int .i64 0)).run Tryd.prog w = .ok (.int .i64 0) w := fun _ => by kernel_rfl
  have i1 : ∀ w, (Instr.index 32 (.agg #[.int .i64 0, .int .i64 132, .int .i64 133, .int .i64 136, .int .i64 134, .int .i64 135]) (.int .i64 1)).run Tryd.prog w = .ok (.int .i64 132) w := fun _ => by kernel_rfl
  have i2 : ∀ w, (Instr.index 32 (.agg #[.int .i64 0, .int .i64 132, .int .i64 133, .int .i64 136, .int .i64 134, .int .i64 135]) (.int .i64 2)).run Tryd.prog w = .ok (.int .i64 133) w := fun _ => by kernel_rfl
  have i3 : ∀ w, (Instr.index 32 (.agg #[.int .i64 0, .int .i64 132, .int .i64 133, .int .i64 136, .int .i64 134, .int .i64 135]) (.int .i64 3)).run Tryd.prog w = .ok (.int .i64 136) w := fun _ => by kernel_rfl
  have i4 : ∀ w, (Instr.index 32 (.agg #[.int .i64 0, .int .i64 132, .int .i64 133, .int .i64 136, .int .i64 134, .int .i64 135]) (.int .i64 4)).run Tryd.prog w = .ok (.int .i64 134) w := fun _ => by kernel_rfl
  have i5 : ∀ w, (Instr.index 32 (.agg #[.int .i64 0, .int .i64 132, .int .i64 133, .int .i64 136, .int .i64 134, .int .i64 135]) (.int .i64 5)).run Tryd.prog w = .ok (.int .i64 135) w := fun _ => by kernel_rfl
  clear ht
  go_enter Tryd.func9, Tryd.ntmps9
  go_wp2_with (refine wpList_load_row rfl _ _ rfl 0 rfl t _ fr _ hrow Tryd.underlying32 rfl info_arr ?_)
  clear hrow
  go_loopg [4, 5, 7] 6 (fun gk _ _ s7 wx => ∃ k : Nat, k ≤ 6 ∧ gk = 6 - k ∧ s7 = .int .i64 (k : Int) ∧ Not311 k code ∧ w = wx)
  case atStart => exact ⟨0, Nat.zero_le _, rfl, rfl, fun j hj => absurd hj (by omega), rfl⟩
  case round =>
    obtain ⟨k, hk, rfl, rfl, hN, rfl⟩ := hrel
    obtain rfl | rfl | rfl | rfl | rfl | rfl | rfl : k = 0 ∨ k = 1 ∨ k = 2 ∨ k = 3 ∨ k = 4 ∨ k = 5 ∨ k = 6 := by omega
    · have HN := Lib.hid hN
      clear hN
      by_cases hc : code = 0
      · subst hc
        go_wp2_with fail
        go_ret2
        exact ⟨rfl, rfl⟩
      · have HM := Lib.hid (HN.out.next (show laterR.getD 0 0 ≠ code from fun e => hc e.symm))
        have hb : ((0 : Int) == code) = false := by simpa using fun e : (0 : Int) = code => hc e.symm
        have hb2 : ¬ (0 : Int) = code := fun e => hc e.symm
        clear hc
        go_wp2_with fail
        go_roundg (6 - (0 + 1))
        case measure => omega
        case rel => exact ⟨1, by omega, rfl, rfl, HM.out, rfl⟩
    · have HN := Lib.hid hN
      clear hN
      by_cases hc : code = 132
      · subst hc
        go_wp2_with fail
        go_ret2
        exact ⟨rfl, rfl⟩
      · have HM := Lib.hid (HN.out.next (show laterR.getD 1 0 ≠ code from fun e => hc e.symm))
        have hb : ((132 : Int) == code) = false := by simpa using fun e : (132 : Int) = code => hc e.symm
        have hb2 : ¬ (132 : Int) = code := fun e => hc e.symm
        clear hc
        go_wp2_with fail
        go_roundg (6 - (1 + 1))
        case measure => omega
        case rel => exact ⟨2, by omega, rfl, rfl, HM.out, rfl⟩
    · have HN := Lib.hid hN
      clear hN
      by_cases hc : code = 133
      · subst hc
        go_wp2_with fail
        go_ret2
        exact ⟨rfl, rfl⟩
      · have HM := Lib.hid (HN.out.next (show laterR.getD 2 0 ≠ code from fun e => hc e.symm))
        have hb : ((133 : Int) == code) = false := by simpa using fun e : (133 : Int) = code => hc e.symm
        have hb2 : ¬ (133 : Int) = code := fun e => hc e.symm
        clear hc
        go_wp2_with fail
        go_roundg (6 - (2 + 1))
        case measure => omega
        case rel => exact ⟨3, by omega, rfl, rfl, HM.out, rfl⟩
    · have HN := Lib.hid hN
      clear hN
      by_cases hc : code = 136
      · subst hc
        go_wp2_with fail
        go_ret2
        exact ⟨rfl, rfl⟩
      · have HM := Lib.hid (HN.out.next (show laterR.getD 3 0 ≠ code from fun e => hc e.symm))
        have hb : ((136 : Int) == code) = false := by simpa using fun e : (136 : Int) = code => hc e.symm
        have hb2 : ¬ (136 : Int) = code := fun e => hc e.symm
        clear hc
        go_wp2_with fail
        go_roundg (6 - (3 + 1))
        case measure => omega
        case rel => exact ⟨4, by omega, rfl, rfl, HM.out, rfl⟩
    · have HN := Lib.hid hN
      clear hN
      by_cases hc : code = 134
      · subst hc
        go_wp2_with fail
        go_ret2
        exact ⟨rfl, rfl⟩
      · have HM := Lib.hid (HN.out.next (show laterR.getD 4 0 ≠ code from fun e => hc e.symm))
        have hb : ((134 : Int) == code) = false := by simpa using fun e : (134 : Int) = code => hc e.symm
        have hb2 : ¬ (134 : Int) = code := fun e => hc e.symm
        clear hc
        go_wp2_with fail
        go_roundg (6 - (4 + 1))
        case measure => omega
        case rel => exact ⟨5, by omega, rfl, rfl, HM.out, rfl⟩
    · have HN := Lib.hid hN
      clear hN
      by_cases hc : code = 135
      · subst hc
        go_wp2_with fail
        go_ret2
        exact ⟨rfl, rfl⟩
      · have HM := Lib.hid (HN.out.next (show laterR.getD 5 0 ≠ code from fun e => hc e.symm))
        have hb : ((135 : Int) == code) = false := by simpa using fun e : (135 : Int) = code => hc e.symm
        have hb2 : ¬ (135 : Int) = code := fun e => hc e.symm
        clear hc
        go_wp2_with fail
        go_roundg (6 - (5 + 1))
        case measure => omega
        case rel => exact ⟨6, by omega, rfl, rfl, HM.out, rfl⟩
    · have HN := Lib.hid hN.all
      clear hN
      go_wp2_with fail
      go_ret2
      exact ⟨by rw [HN.out]; rfl, rfl⟩
end Go.Proofs.YtonfkaoobajbkaaDoor
