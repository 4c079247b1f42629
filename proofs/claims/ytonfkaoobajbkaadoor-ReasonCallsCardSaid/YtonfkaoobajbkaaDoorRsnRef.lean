/-
  The document's answers (polyglotref06): others, from, All, May, Return, Grant, Bad, To5, To311, Text. Condition: none.
-/
import Derived.Deep.AppendLies
import Derived.Test.YtonfkaoobajbkaaDoorRsnAll
import Derived.Test.YtonfkaoobajbkaaDoorRsnTabs
import Derived.Test.YtonfkaoobajbkaaDoorRsnText
namespace Go.Proofs.YtonfkaoobajbkaaDoor
open Go.RowKit

theorem rreturn_any (code : Int) (w : World) :
    Calls Tryd.prog 21 #[.int .i64 code] w fun e w' => e = .returned (.bool (returnR code)) ∧ w = w' := by
  unfold returnR
  by_cases h0 : 0 ≤ code
  · by_cases h1 : code < 6
    · go_enter Tryd.func21, Tryd.ntmps21
      go_wp2_with fail
      go_ret
      exact ⟨by simp [h0, h1]; omega, rfl⟩
    · go_enter Tryd.func21, Tryd.ntmps21
      go_wp2_with fail
      go_ret
      exact ⟨by simp; omega, rfl⟩
  · go_enter Tryd.func21, Tryd.ntmps21
    go_wp2_with fail
    go_ret
    exact ⟨by simp; omega, rfl⟩
theorem rbad_any (code : Int) (w : World) :
    Calls Tryd.prog 23 #[.int .i64 code] w fun e w' => e = .returned (.bool (badR code)) ∧ w = w' := by
  unfold badR
  by_cases h0 : 128 ≤ code
  · by_cases h1 : code < 256
    · go_enter Tryd.func23, Tryd.ntmps23
      go_wp2_with fail
      go_ret
      exact ⟨by simp [h0, h1]; omega, rfl⟩
    · go_enter Tryd.func23, Tryd.ntmps23
      go_wp2_with fail
      go_ret
      exact ⟨by simp; omega, rfl⟩
  · go_enter Tryd.func23, Tryd.ntmps23
    go_wp2_with fail
    go_ret
    exact ⟨by simp; omega, rfl⟩
theorem rgrant_any (code : Int) (w : World) :
    Calls Tryd.prog 22 #[.int .i64 code] w fun e w' => e = .returned (.bool (grantR code)) ∧ w = w' := by
  by_cases h : code = 0 ∨ code = 1 ∨ code = 2 ∨ code = 128
  · rcases h with rfl | rfl | rfl | rfl
    all_goals
      go_enter Tryd.func22, Tryd.ntmps22
      go_wp2_with fail
      go_ret
      exact ⟨rfl, rfl⟩
  · have h0 : (code == 0) = false := by simpa using fun e => h (.inl e)
    have h1 : (code == 1) = false := by simpa using fun e => h (.inr (.inl e))
    have h2 : (code == 2) = false := by simpa using fun e => h (.inr (.inr (.inl e)))
    have h3 : (code == 128) = false := by simpa using fun e => h (.inr (.inr (.inr e)))
    have hg : grantR code = false := by unfold grantR; rw [h0, h1, h2, h3]; rfl
    rw [hg]
    clear h hg
    go_enter Tryd.func22, Tryd.ntmps22
    go_wp2_with fail
    go_ret
    exact ⟨rfl, rfl⟩
set_option maxRecDepth 100000 in
theorem others_any (w : World) :
    Calls Tryd.prog 29 #[] w fun e w' => e = .returned (.slice (some ⟨w.heap.size, 0, none⟩) 6 6) ∧ w' = w.alloc (.cells #[.int .i64 0, .int .i64 132, .int .i64 133, .int .i64 136, .int .i64 134, .int .i64 135] 3) := by
  go_enter Tryd.func29, Tryd.ntmps29
  go_wp2_with fail
  go_ret
  exact ⟨rfl, rfl⟩
end Go.Proofs.YtonfkaoobajbkaaDoor
