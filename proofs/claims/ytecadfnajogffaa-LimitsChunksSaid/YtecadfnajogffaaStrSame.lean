/-
  The contract of polyglotkit.Same at two lists of the same strings. Condition: at most 70,000.
-/
import Derived.Deep.QuietTactic
import Derived.Test.YtecadfnajogffaaTopStr
namespace Go.Proofs.Ytecadfnajogffaa
open Go.RowKit

theorem same_nothing (A B : Option Addr) (c d : Nat) (w : World) :
    Calls Try.prog 8 #[.slice A 0 c, .slice B 0 d] w fun e w' => e = .returned (.bool true) ∧ ∃ m, w' = w.drewN m := by
  go_enter Try.func8, Try.ntmps8
  go_wp2
  refine wp_loop_rounds 1 ?_
  rw [rounds_succ]
  go_wp2
  go_ret
  exact ⟨rfl, 0, rfl⟩
set_option maxHeartbeats 1000000 in
theorem same_cells (ga ia gb ib c d : Nat) (ls : List (List UInt8)) (w : World) (ha : ∀ j, j < ls.length → w.cell? ⟨ga, ia + j, none⟩ = some (.string (bs (ls.getD j [])))) (hb : ∀ j, j < ls.length → w.cell? ⟨gb, ib + j, none⟩ = some (.string (bs (ls.getD j [])))) (hl : ls.length ≤ 70000) :
    Calls Try.prog 8 #[.slice (some ⟨ga, ia, none⟩) ls.length c, .slice (some ⟨gb, ib, none⟩) ls.length d] w fun e w' => e = .returned (.bool true) ∧ ∃ m, w' = w.drewN m := by
  have HA := Lib.hid ha
  have HB := Lib.hid hb
  obtain ⟨n, hn⟩ : ∃ n, ls.length = n := ⟨_, rfl⟩
  have HN := Lib.hid hn
  rw [hn] at hl ⊢
  clear ha hb hn
  have hl' : (n : Int) ≤ 70000 := by omega
  go_enter Try.func8, Try.ntmps8
  go_wp2
  go_loopw [5] (fun i wr => ∃ k m : Nat, k ≤ n ∧ i = .int .i64 (k : Int) ∧ wr = w.drewN m) (fun i _ => n - (intOf i).toNat)
  case atStart => exact ⟨0, 0, Nat.zero_le _, rfl, rfl⟩
  case round =>
    obtain ⟨k, m, hk, rfl, rfl⟩ := hrel
    by_cases hlt : k < n
    · have d1 : w.cell? ⟨ga, ia + k, none⟩ = some (.string (bs (ls.getD k []))) := HA.out k (by rw [HN.out]; exact hlt)
      have d2 : w.cell? ⟨gb, ib + k, none⟩ = some (.string (bs (ls.getD k []))) := HB.out k (by rw [HN.out]; exact hlt)
      generalize bs (ls.getD k []) = x at d1 d2
      have g1 : (k : Int) < (n : Int) := by omega
      go_wp2
      go_quiet (fail)
      go_wp2
      go_roundw
      case rel => exact ⟨k + 1, _, by omega, by go_num, rfl⟩
      case measure => simp [intOf]; omega
    · obtain rfl : k = n := by omega
      go_wp2
      go_ret
      exact ⟨rfl, m, rfl⟩
theorem same_strs (A B : Option Addr) (c d : Nat) (ls : List (List UInt8)) (w : World) (hA : SR w A ls) (hB : SR w B ls) (hl : ls.length ≤ 70000) :
    Calls Try.prog 8 #[.slice A ls.length c, .slice B ls.length d] w fun e w' => e = .returned (.bool true) ∧ Below w.heap.size w w' := by
  by_cases h : ls = []
  · subst h
    exact (same_nothing A B c d w).mono fun e w' ⟨he, m, hw⟩ => ⟨he, hw ▸ below_draws (Below.refl _ _) m⟩
  · obtain ⟨ga, ia, rfl, _, ha⟩ := hA h
    obtain ⟨gb, ib, rfl, _, hb⟩ := hB h
    exact (same_cells ga ia gb ib c d ls w ha hb hl).mono fun e w' ⟨he, m, hw⟩ => ⟨he, hw ▸ below_draws (Below.refl _ _) m⟩
end Go.Proofs.Ytecadfnajogffaa
