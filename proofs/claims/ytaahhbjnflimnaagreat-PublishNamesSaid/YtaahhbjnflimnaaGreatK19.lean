/-
  The contract of publish.first: the checks of a list one behind the other, up to the first error. Condition: a list of at most 100.
-/
import Derived.Deep.LoopGhost
import Derived.Test.YtaahhbjnflimnaaGreatK13
namespace Go.Proofs.YtaahhbjnflimnaaGreat
open Go.RowKit

set_option maxHeartbeats 1000000 in
set_option maxRecDepth 100000 in
theorem pub_first (g n : Nat) (F : Nat → FuncId) (C : Nat → Array Value) (S : Nat → World → Prop) (E : Nat → World → Prop) (w : World) (hn : n ≤ 100)
    (hcell : ∀ k W, k < n → S k W → W.cell? ⟨g, k, none⟩ = some (.func (.func (F k)) #[] (C k)))
    (hcall : ∀ k W, k < n → S k W → Calls Tryz.prog (F k) (C k) W fun e W' => ∃ r : Nat, e = .returned (.int .i64 (r : Int)) ∧ (r = 0 → S (k + 1) W') ∧ (r ≠ 0 → E r W'))
    (hrun : ∀ k W, k < n → (callFunc (F k) (C k)).run Tryz.prog W = .ok (.enter (F k) (C k)) W) (h0 : S 0 w) :
    Calls Tryz.prog 77 #[.slice (some ⟨g, 0, none⟩) n n] w fun e W' => ∃ r : Nat, e = .returned (.int .i64 (r : Int)) ∧ (r = 0 → S n W') ∧ (r ≠ 0 → E r W') := by
  have HC := Lib.hid hcell
  have HK := Lib.hid hcall
  have HN := Lib.hid hn
  have H0 := Lib.hid h0
  have HR := Lib.hid hrun
  have hn2 : (n : Int) ≤ 100 := by omega
  clear hcell hcall hn h0 hrun
  go_enter Tryz.func77, Tryz.ntmps77
  go_wp2_with fail
  go_loopg [8] n (fun gk s8 wx => ∃ k : Nat, k ≤ n ∧ gk = n - k ∧ s8 = .int .i64 (k : Int) ∧ S k wx)
  case atStart => exact ⟨0, by omega, by omega, rfl, H0.out⟩
  case round =>
    obtain ⟨k, hk, hgk, rfl, hS⟩ := hrel
    by_cases hlt : k < n
    · have g1 : (k : Int) < (n : Int) := by omega
      have c0 := HC.out k _ hlt hS
      have KC := Lib.hid (HK.out k _ hlt hS)
      have hr := HR.out k wr hlt
      have HS := Lib.hid hS
      have HL := Lib.hid hlt
      clear hS hlt
      go_wp2_with fail
      refine (KC.out).mono ?_
      rintro e W ⟨r, rfl, h1, h2⟩
      by_cases hz : r = 0
      · have HS1 := Lib.hid (h1 hz)
        subst hz
        clear h1 h2 c0 hr
        go_wp2_with fail
        go_roundg (n - (k + 1))
        case measure => have := HL.out; omega
        case rel => exact ⟨k + 1, by have := HL.out; omega, rfl, by go_num, HS1.out⟩
      · have HE := Lib.hid (h2 hz)
        have hr1 : ((r : Int) == 0) = false := by simp; omega
        have hr2 : ((r : Int) != 0) = true := by simp; omega
        have HZ := Lib.hid hz
        clear h1 h2 hz c0 hr
        go_wp2_with fail
        go_ret
        exact ⟨r, rfl, fun h => absurd h HZ.out, fun _ => HE.out⟩
    · obtain rfl : k = n := by omega
      have HS := Lib.hid hS
      clear hS
      go_wp2_with fail
      go_ret
      exact ⟨0, rfl, fun _ => HS.out, fun h => absurd rfl h⟩
end Go.Proofs.YtaahhbjnflimnaaGreat
