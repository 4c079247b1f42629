/-
  The walk of polyglotlaw06.ReasonBack. Condition: the tables read as the program's text lays them.
-/
import Derived.Test.YtonfkaoobajbkaaDoorRsnLives
namespace Go.Proofs.YtonfkaoobajbkaaDoor
open Go.RowKit

theorem to5_back {code : Int} (h : returnR code = true) : to5R code = (laterR.getD code.toNat 0, true) ∧ to311R (laterR.getD code.toNat 0) = (code, true) ∧ mayR 2 (laterR.getD code.toNat 0) = true ∧ badR (laterR.getD code.toNat 0) = (code != 0) := by
  unfold returnR at h
  rw [Bool.and_eq_true, decide_eq_true_eq, decide_eq_true_eq] at h
  obtain rfl | rfl | rfl | rfl | rfl | rfl : code = 0 ∨ code = 1 ∨ code = 2 ∨ code = 3 ∨ code = 4 ∨ code = 5 := by omega
  all_goals decide +kernel
theorem to311_back {code : Int} (h : (to311R code).2 = true) : to5R (to311R code).1 = (code, true) := by
  unfold to311R at h ⊢
  repeat' split at h
  all_goals first | (subst_vars; decide +kernel) | (simp at h)
theorem to311_none {code : Int} (h : (to311R code).2 = false) : (to311R code).1 = 0 := by
  unfold to311R at h ⊢
  repeat' split at h
  all_goals first | (simp at h; done) | (simp_all)
set_option maxRecDepth 100000 in
set_option maxHeartbeats 1000000 in
theorem back_walk (code : Int) (w : World) (ht : Tabs w) :
    Calls Tryd.prog 5 #[.int .i64 code] w fun e w' => e = .returned (.bool true) ∧ Below w.heap.size w w' := by
  have LV := Lib.hid (lives_rsn w ht)
  have HT := Lib.hid ht
  have T5 := Lib.hid (fun c W (h : Tabs W) => to5_any c W h)
  have T3 := Lib.hid (fun c W (h : Tabs W) => to311_any c W h)
  have RT := Lib.hid (fun W => return_any code W)
  have MY := Lib.hid (fun c W => may_any 2 c W)
  have BD := Lib.hid (fun c W => bad_any c W)
  clear ht
  have h5 := @to5_back code
  have h3 := @to311_back code
  have h0 := @to311_none code
  cases hr : returnR code
  · have e1 : to5R code = (0, false) := by unfold to5R; rw [hr]; rfl
    have A5 := Lib.hid (fun W h => T5.out code W h)
    rw [e1] at A5
    rw [hr] at RT
    have A3 := Lib.hid (fun W h => T3.out code W h)
    have C5 := Lib.hid (fun W h => T5.out (to311R code).1 W h)
    clear hr h5 e1 MY BD
    cases hc : (to311R code).2
    · rw [hc, h0 hc] at A3
      clear h3 h0 hc C5 T5 T3
      go_enter Tryd.func5, Tryd.ntmps5
      go_wp2_with fail
      refine LV.out.mono ?_
      rintro e w1 ⟨rfl, hb⟩
      have HB := Lib.hid hb
      have T1 := Lib.hid (HT.out.below hb)
      clear hb
      go_wp2_with (first
        | (go_at_call 8; refine (A5.out _ T1.out).mono ?_; rintro e w' ⟨rfl, rfl⟩)
        | (go_at_call 13; refine (RT.out _).mono ?_; rintro e w' ⟨rfl, rfl⟩)
        | (go_at_call 9; refine (A3.out _ T1.out).mono ?_; rintro e w' ⟨rfl, rfl⟩))
      go_ret
      exact ⟨rfl, HB.out⟩
    · rw [h3 hc] at C5
      rw [hc] at A3
      clear h3 h0 hc T5 T3
      generalize (to311R code).1 = c at *
      go_enter Tryd.func5, Tryd.ntmps5
      go_wp2_with fail
      refine LV.out.mono ?_
      rintro e w1 ⟨rfl, hb⟩
      have HB := Lib.hid hb
      have T1 := Lib.hid (HT.out.below hb)
      clear hb
      go_wp2_with fail
      refine (A5.out _ T1.out).mono ?_
      rintro e w' ⟨rfl, rfl⟩
      go_wp2_with (first
        | (go_at_call 13; refine (RT.out _).mono ?_; rintro e w' ⟨rfl, rfl⟩)
        | (go_at_call 9; refine (A3.out _ T1.out).mono ?_; rintro e w' ⟨rfl, rfl⟩)
        | (go_at_call 8; refine (C5.out _ T1.out).mono ?_; rintro e w' ⟨rfl, rfl⟩))
      go_ret
      exact ⟨by simp, HB.out⟩
  · obtain ⟨e1, e2, e3, e4⟩ := h5 hr
    have A5 := Lib.hid (fun W h => T5.out code W h)
    rw [e1] at A5
    rw [hr] at RT
    have A3 := Lib.hid (fun W h => T3.out code W h)
    have C5 := Lib.hid (fun W h => T5.out (to311R code).1 W h)
    generalize laterR.getD code.toNat 0 = a at *
    have B3 := Lib.hid (fun W h => T3.out a W h)
    rw [e2] at B3
    have MA := Lib.hid (fun W => MY.out a W)
    rw [e3] at MA
    have BA := Lib.hid (fun W => BD.out a W)
    rw [e4] at BA
    clear hr h5 e1 e2 e3 e4 MY BD
    cases hc : (to311R code).2
    · rw [hc, h0 hc] at A3
      clear h3 h0 hc C5 T5 T3
      go_enter Tryd.func5, Tryd.ntmps5
      go_wp2_with fail
      refine LV.out.mono ?_
      rintro e w1 ⟨rfl, hb⟩
      have HB := Lib.hid hb
      have T1 := Lib.hid (HT.out.below hb)
      clear hb
      go_wp2_with fail
      refine (A5.out _ T1.out).mono ?_
      rintro e w' ⟨rfl, rfl⟩
      go_wp2_with (go_at_call 13; refine (RT.out _).mono ?_; rintro e w' ⟨rfl, rfl⟩)
      refine (B3.out _ T1.out).mono ?_
      rintro e w' ⟨rfl, rfl⟩
      go_wp2_with (first
        | (go_at_call 12; refine (MA.out _).mono ?_; rintro e w2 ⟨rfl, hb⟩; have HB2 := Lib.hid (HB.out.trans (hb.mono HB.out.size)); have T2 := Lib.hid (T1.out.below hb); clear hb)
        | (go_at_call 15; refine (BA.out _).mono ?_; rintro e w' ⟨rfl, rfl⟩))
      refine (A3.out _ T2.out).mono ?_
      rintro e w' ⟨rfl, rfl⟩
      go_wp2_with fail
      go_ret
      exact ⟨rfl, HB2.out⟩
    · rw [h3 hc] at C5
      rw [hc] at A3
      clear h3 h0 hc T5 T3
      generalize (to311R code).1 = c at *
      go_enter Tryd.func5, Tryd.ntmps5
      go_wp2_with fail
      refine LV.out.mono ?_
      rintro e w1 ⟨rfl, hb⟩
      have HB := Lib.hid hb
      have T1 := Lib.hid (HT.out.below hb)
      clear hb
      go_wp2_with fail
      refine (A5.out _ T1.out).mono ?_
      rintro e w' ⟨rfl, rfl⟩
      go_wp2_with (go_at_call 13; refine (RT.out _).mono ?_; rintro e w' ⟨rfl, rfl⟩)
      refine (B3.out _ T1.out).mono ?_
      rintro e w' ⟨rfl, rfl⟩
      go_wp2_with (first
        | (go_at_call 12; refine (MA.out _).mono ?_; rintro e w2 ⟨rfl, hb⟩; have HB2 := Lib.hid (HB.out.trans (hb.mono HB.out.size)); have T2 := Lib.hid (T1.out.below hb); clear hb)
        | (go_at_call 15; refine (BA.out _).mono ?_; rintro e w' ⟨rfl, rfl⟩))
      refine (A3.out _ T2.out).mono ?_
      rintro e w' ⟨rfl, rfl⟩
      go_wp2_with (go_at_call 8; refine (C5.out _ T2.out).mono ?_; rintro e w' ⟨rfl, rfl⟩)
      go_ret
      exact ⟨by simp, HB2.out⟩
end Go.Proofs.YtonfkaoobajbkaaDoor
