/-
  The contract of polyglotkit.Same at two lists of the same places and code points. Condition: at most 70,000.
-/
import Derived.Test.YtohbhmffgaijgaaUsRow
namespace Go.Proofs.Ytohbhmffgaijgaa
open Go.RowKit

theorem same_none (A B : Option Addr) (c d : Nat) (w : World) :
    Calls Try.prog 18 #[.slice A 0 c, .slice B 0 d] w fun e w' => e = .returned (.bool true) ∧ ∃ m, w' = w.drewN m := by
  go_enter Try.func18, Try.ntmps18
  go_wp2
  refine wp_loop_rounds 1 ?_
  rw [rounds_succ]
  go_wp2
  go_ret
  exact ⟨rfl, 0, rfl⟩

set_option maxHeartbeats 1000000 in
theorem same_some (ga gb c d : Nat) (cs : List Nat) (w : World) (ha : RowAt w ga cs) (hb : RowAt w gb cs) (hl : cs.length ≤ 70000) :
    Calls Try.prog 18 #[.slice (some ⟨ga, 0, none⟩) cs.length c, .slice (some ⟨gb, 0, none⟩) cs.length d] w fun e w' => e = .returned (.bool true) ∧ ∃ m, w' = w.drewN m := by
  have HA := Lib.hid ha
  have HB := Lib.hid hb
  obtain ⟨n, hn⟩ : ∃ n, cs.length = n := ⟨_, rfl⟩
  have HN := Lib.hid hn
  rw [hn] at hl ⊢
  clear ha hb hn
  have hl' : (n : Int) ≤ 70000 := by omega
  go_enter Try.func18, Try.ntmps18
  go_wp2
  go_loopw [5] (fun i wr => ∃ k m : Nat, k ≤ n ∧ i = .int .i64 (k : Int) ∧ wr = w.drewN m) (fun i _ => n - (intOf i).toNat)
  case atStart => exact ⟨0, 0, Nat.zero_le _, rfl, rfl⟩
  case round =>
    obtain ⟨k, m, hk, rfl, rfl⟩ := hrel
    by_cases hlt : k < n
    · have h1 := HA.out k (by rw [HN.out]; exact hlt)
      have h2 := HB.out k (by rw [HN.out]; exact hlt)
      obtain ⟨a1, a2⟩ := h1
      obtain ⟨b1, b2⟩ := h2
      generalize ((cbs (cs.take k)).length : Int) = p at a1 b1
      generalize ((cs[k]?.getD 0 : Nat) : Int) = c0 at a2 b2
      have g1 : (k : Int) < (n : Int) := by omega
      have d1 : (w.drewN m).cell? ⟨ga, k * 2, none⟩ = some (.int .i64 p) := a1
      have d2 : (w.drewN m).cell? ⟨ga, k * 2 + 1, none⟩ = some (.int .i32 c0) := a2
      have d3 : (w.drewN m).cell? ⟨gb, k * 2, none⟩ = some (.int .i64 p) := b1
      have d4 : (w.drewN m).cell? ⟨gb, k * 2 + 1, none⟩ = some (.int .i32 c0) := b2
      go_wp2
      go_quiet (fail)
      go_wp2
      go_roundw
      case rel => exact ⟨k + 1, _, by omega, by go_num, rfl⟩
      case measure => simp [intOf]; omega
    · obtain rfl : k = n := by omega
      go_wp2
      go_ret
      exact ⟨rfl, m, rfl⟩
end Go.Proofs.Ytohbhmffgaijgaa
