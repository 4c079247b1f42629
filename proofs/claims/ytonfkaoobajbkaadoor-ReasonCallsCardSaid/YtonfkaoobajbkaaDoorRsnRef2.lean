/-
  The document's answers: To5 and To311 (polyglotref06). Condition: none.
-/
import Derived.Test.YtonfkaoobajbkaaDoorRsnRef
namespace Go.Proofs.YtonfkaoobajbkaaDoor
open Go.RowKit

set_option maxRecDepth 100000 in
theorem rto5_any (code : Int) (w : World) :
    Calls Tryd.prog 17 #[.int .i64 code] w fun e w' => e = .returned (.tuple #[.int .i64 (to5R code).1, .bool (to5R code).2]) ∧ Below w.heap.size w w' := by
  have RT := Lib.hid (fun W => rreturn_any code W)
  have OT := Lib.hid (fun W => others_any W)
  unfold to5R
  cases hr : returnR code
  · rw [hr] at RT
    clear hr
    go_enter Tryd.func17, Tryd.ntmps17
    go_wp2_with fail
    refine (RT.out _).mono ?_
    rintro e w' ⟨rfl, rfl⟩
    go_wp2_with fail
    go_ret2
    exact ⟨rfl, Below.refl _ _⟩
  · have h2 := hr
    unfold returnR at h2
    rw [Bool.and_eq_true, decide_eq_true_eq, decide_eq_true_eq] at h2
    rw [hr] at RT
    have L0 := Lib.hid (show Below w.heap.size w (w.alloc (.cells #[.int .i64 0, .int .i64 132, .int .i64 133, .int .i64 136, .int .i64 134, .int .i64 135] 3)) from (Below.refl _ _).alloc (Nat.le_refl _) _)
    obtain rfl | rfl | rfl | rfl | rfl | rfl : code = 0 ∨ code = 1 ∨ code = 2 ∨ code = 3 ∨ code = 4 ∨ code = 5 := by omega
    · have hc : (w.alloc (.cells #[.int .i64 0, .int .i64 132, .int .i64 133, .int .i64 136, .int .i64 134, .int .i64 135] 3)).cell? ⟨w.heap.size, 0, none⟩ = some (.int .i64 0) := (World.cell?_alloc_at _ _ _ _ rfl).trans rfl
      clear hr h2
      go_enter Tryd.func17, Tryd.ntmps17
      go_wp2_with fail
      refine (RT.out _).mono ?_
      rintro e w' ⟨rfl, rfl⟩
      go_wp2_with fail
      refine (OT.out _).mono ?_
      rintro e w' ⟨rfl, rfl⟩
      go_wp2_with fail
      go_ret2
      exact ⟨rfl, L0.out⟩
    · have hc : (w.alloc (.cells #[.int .i64 0, .int .i64 132, .int .i64 133, .int .i64 136, .int .i64 134, .int .i64 135] 3)).cell? ⟨w.heap.size, 1, none⟩ = some (.int .i64 132) := (World.cell?_alloc_at _ _ _ _ rfl).trans rfl
      clear hr h2
      go_enter Tryd.func17, Tryd.ntmps17
      go_wp2_with fail
      refine (RT.out _).mono ?_
      rintro e w' ⟨rfl, rfl⟩
      go_wp2_with fail
      refine (OT.out _).mono ?_
      rintro e w' ⟨rfl, rfl⟩
      go_wp2_with fail
      go_ret2
      exact ⟨rfl, L0.out⟩
    · have hc : (w.alloc (.cells #[.int .i64 0, .int .i64 132, .int .i64 133, .int .i64 136, .int .i64 134, .int .i64 135] 3)).cell? ⟨w.heap.size, 2, none⟩ = some (.int .i64 133) := (World.cell?_alloc_at _ _ _ _ rfl).trans rfl
      clear hr h2
      go_enter Tryd.func17, Tryd.ntmps17
      go_wp2_with fail
      refine (RT.out _).mono ?_
      rintro e w' ⟨rfl, rfl⟩
      go_wp2_with fail
      refine (OT.out _).mono ?_
      rintro e w' ⟨rfl, rfl⟩
      go_wp2_with fail
      go_ret2
      exact ⟨rfl, L0.out⟩
    · have hc : (w.alloc (.cells #[.int .i64 0, .int .i64 132, .int .i64 133, .int .i64 136, .int .i64 134, .int .i64 135] 3)).cell? ⟨w.heap.size, 3, none⟩ = some (.int .i64 136) := (World.cell?_alloc_at _ _ _ _ rfl).trans rfl
      clear hr h2
      go_enter Tryd.func17, Tryd.ntmps17
      go_wp2_with fail
      refine (RT.out _).mono ?_
      rintro e w' ⟨rfl, rfl⟩
      go_wp2_with fail
      refine (OT.out _).mono ?_
      rintro e w' ⟨rfl, rfl⟩
      go_wp2_with fail
      go_ret2
      exact ⟨rfl, L0.out⟩
    · have hc : (w.alloc (.cells #[.int .i64 0, .int .i64 132, .int .i64 133, .int .i64 136, .int .i64 134, .int .i64 135] 3)).cell? ⟨w.heap.size, 4, none⟩ = some (.int .i64 134) := (World.cell?_alloc_at _ _ _ _ rfl).trans rfl
      clear hr h2
      go_enter Tryd.func17, Tryd.ntmps17
      go_wp2_with fail
      refine (RT.out _).mono ?_
      rintro e w' ⟨rfl, rfl⟩
      go_wp2_with fail
      refine (OT.out _).mono ?_
      rintro e w' ⟨rfl, rfl⟩
      go_wp2_with fail
      go_ret2
      exact ⟨rfl, L0.out⟩
    · have hc : (w.alloc (.cells #[.int .i64 0, .int .i64 132, .int .i64 133, .int .i64 136, .int .i64 134, .int .i64 135] 3)).cell? ⟨w.heap.size, 5, none⟩ = some (.int .i64 135) := (World.cell?_alloc_at _ _ _ _ rfl).trans rfl
      clear hr h2
      go_enter Tryd.func17, Tryd.ntmps17
      go_wp2_with fail
      refine (RT.out _).mono ?_
      rintro e w' ⟨rfl, rfl⟩
      go_wp2_with fail
      refine (OT.out _).mono ?_
      rintro e w' ⟨rfl, rfl⟩
      go_wp2_with fail
      go_ret2
      exact ⟨rfl, L0.out⟩
set_option maxRecDepth 100000 in
set_option maxHeartbeats 1000000 in
theorem rto311_any (code : Int) (w : World) :
    Calls Tryd.prog 18 #[.int .i64 code] w fun e w' => e = .returned (.tuple #[.int .i64 (to311R code).1, .bool (to311R code).2]) ∧ Below w.heap.size w w' := by
  have L0 := Lib.hid (show Below w.heap.size w (w.alloc (.cells #[.int .i64 0, .int .i64 132, .int .i64 133, .int .i64 136, .int .i64 134, .int .i64 135] 3)) from (Below.refl _ _).alloc (Nat.le_refl _) _)
  have c0 : (w.alloc (.cells #[.int .i64 0, .int .i64 132, .int .i64 133, .int .i64 136, .int .i64 134, .int .i64 135] 3)).cell? ⟨w.heap.size, 0, none⟩ = some (.int .i64 0) := (World.cell?_alloc_at _ _ _ _ rfl).trans rfl
  have c1 : (w.alloc (.cells #[.int .i64 0, .int .i64 132, .int .i64 133, .int .i64 136, .int .i64 134, .int .i64 135] 3)).cell? ⟨w.heap.size, 1, none⟩ = some (.int .i64 132) := (World.cell?_alloc_at _ _ _ _ rfl).trans rfl
  have c2 : (w.alloc (.cells #[.int .i64 0, .int .i64 132, .int .i64 133, .int .i64 136, .int .i64 134, .int .i64 135] 3)).cell? ⟨w.heap.size, 2, none⟩ = some (.int .i64 133) := (World.cell?_alloc_at _ _ _ _ rfl).trans rfl
  have c3 : (w.alloc (.cells #[.int .i64 0, .int .i64 132, .int .i64 133, .int .i64 136, .int .i64 134, .int .i64 135] 3)).cell? ⟨w.heap.size, 3, none⟩ = some (.int .i64 136) := (World.cell?_alloc_at _ _ _ _ rfl).trans rfl
  have c4 : (w.alloc (.cells #[.int .i64 0, .int .i64 132, .int .i64 133, .int .i64 136, .int .i64 134, .int .i64 135] 3)).cell? ⟨w.heap.size, 4, none⟩ = some (.int .i64 134) := (World.cell?_alloc_at _ _ _ _ rfl).trans rfl
  have c5 : (w.alloc (.cells #[.int .i64 0, .int .i64 132, .int .i64 133, .int .i64 136, .int .i64 134, .int .i64 135] 3)).cell? ⟨w.heap.size, 5, none⟩ = some (.int .i64 135) := (World.cell?_alloc_at _ _ _ _ rfl).trans rfl
  go_enter Tryd.func18, Tryd.ntmps18
  go_wp2_with fail
  refine (others_any _).mono ?_
  rintro e w' ⟨rfl, rfl⟩
  generalize w.alloc (.cells #[.int .i64 0, .int .i64 132, .int .i64 133, .int .i64 136, .int .i64 134, .int .i64 135] 3) = w0 at *
  go_wp2_with fail
  go_loopg [5] 6 (fun gk s5 wx => ∃ k : Nat, k ≤ 6 ∧ gk = 6 - k ∧ s5 = .int .i64 (k : Int) ∧ Not311 k code ∧ w0 = wx)
  case atStart => exact ⟨0, Nat.zero_le _, rfl, rfl, fun j hj => absurd hj (by omega), rfl⟩
  case round =>
    obtain ⟨k, hk, rfl, rfl, hN, rfl⟩ := hrel
    obtain rfl | rfl | rfl | rfl | rfl | rfl | rfl : k = 0 ∨ k = 1 ∨ k = 2 ∨ k = 3 ∨ k = 4 ∨ k = 5 ∨ k = 6 := by omega
    · have HN := Lib.hid hN
      clear hN
      by_cases hc : code = 0
      · subst hc
        go_wp2_with fail
        go_ret2
        exact ⟨rfl, L0.out⟩
      · have HM := Lib.hid (HN.out.next (show laterR.getD 0 0 ≠ code from fun e => hc e.symm))
        have hb : ((0 : Int) == code) = false := by simpa using fun e : (0 : Int) = code => hc e.symm
        have hb2 : ¬ (0 : Int) = code := fun e => hc e.symm
        clear hc
        go_wp2_with fail
        go_roundg (6 - (0 + 1))
        case measure => omega
        case rel => exact ⟨1, by omega, rfl, rfl, HM.out, rfl⟩
    · have HN := Lib.hid hN
      clear hN
      by_cases hc : code = 132
      · subst hc
        go_wp2_with fail
        go_ret2
        exact ⟨rfl, L0.out⟩
      · have HM := Lib.hid (HN.out.next (show laterR.getD 1 0 ≠ code from fun e => hc e.symm))
        have hb : ((132 : Int) == code) = false := by simpa using fun e : (132 : Int) = code => hc e.symm
        have hb2 : ¬ (132 : Int) = code := fun e => hc e.symm
        clear hc
        go_wp2_with fail
        go_roundg (6 - (1 + 1))
        case measure => omega
        case rel => exact ⟨2, by omega, rfl, rfl, HM.out, rfl⟩
    · have HN := Lib.hid hN
      clear hN
      by_cases hc : code = 133
      · subst hc
        go_wp2_with fail
        go_ret2
        exact ⟨rfl, L0.out⟩
      · have HM := Lib.hid (HN.out.next (show laterR.getD 2 0 ≠ code from fun e => hc e.symm))
        have hb : ((133 : Int) == code) = false := by simpa using fun e : (133 : Int) = code => hc e.symm
        have hb2 : ¬ (133 : Int) = code := fun e => hc e.symm
        clear hc
        go_wp2_with fail
        go_roundg (6 - (2 + 1))
        case measure => omega
        case rel => exact ⟨3, by omega, rfl, rfl, HM.out, rfl⟩
    · have HN := Lib.hid hN
      clear hN
      by_cases hc : code = 136
      · subst hc
        go_wp2_with fail
        go_ret2
        exact ⟨rfl, L0.out⟩
      · have HM := Lib.hid (HN.out.next (show laterR.getD 3 0 ≠ code from fun e => hc e.symm))
        have hb : ((136 : Int) == code) = false := by simpa using fun e : (136 : Int) = code => hc e.symm
        have hb2 : ¬ (136 : Int) = code := fun e => hc e.symm
        clear hc
        go_wp2_with fail
        go_roundg (6 - (3 + 1))
        case measure => omega
        case rel => exact ⟨4, by omega, rfl, rfl, HM.out, rfl⟩
    · have HN := Lib.hid hN
      clear hN
      by_cases hc : code = 134
      · subst hc
        go_wp2_with fail
        go_ret2
        exact ⟨rfl, L0.out⟩
      · have HM := Lib.hid (HN.out.next (show laterR.getD 4 0 ≠ code from fun e => hc e.symm))
        have hb : ((134 : Int) == code) = false := by simpa using fun e : (134 : Int) = code => hc e.symm
        have hb2 : ¬ (134 : Int) = code := fun e => hc e.symm
        clear hc
        go_wp2_with fail
        go_roundg (6 - (4 + 1))
        case measure => omega
        case rel => exact ⟨5, by omega, rfl, rfl, HM.out, rfl⟩
    · have HN := Lib.hid hN
      clear hN
      by_cases hc : code = 135
      · subst hc
        go_wp2_with fail
        go_ret2
        exact ⟨rfl, L0.out⟩
      · have HM := Lib.hid (HN.out.next (show laterR.getD 5 0 ≠ code from fun e => hc e.symm))
        have hb : ((135 : Int) == code) = false := by simpa using fun e : (135 : Int) = code => hc e.symm
        have hb2 : ¬ (135 : Int) = code := fun e => hc e.symm
        clear hc
        go_wp2_with fail
        go_roundg (6 - (5 + 1))
        case measure => omega
        case rel => exact ⟨6, by omega, rfl, rfl, HM.out, rfl⟩
    · have HN := Lib.hid hN.all
      clear hN
      go_wp2_with fail
      go_ret2
      exact ⟨by rw [HN.out]; rfl, L0.out⟩
end Go.Proofs.YtonfkaoobajbkaaDoor
