/-
  The contract of polyglotkit.Times at "a" and 65,536. No condition.
-/
import Derived.Test.YtohbhmffgaijgaaUsLive
namespace Go.Proofs.Ytohbhmffgaijgaa
open Go.RowKit

def aas (n : Nat) : List UInt8 := List.replicate n 97
theorem aas_append (m n : Nat) : bs (aas m) ++ bs (aas n) = bs (aas (m + n)) := by
  rw [bs_append]; unfold aas; rw [List.replicate_append_replicate]
theorem aas_size (n : Nat) : (bs (aas n)).size = n := by rw [size_list]; show (aas n).length = n; simp [aas]
theorem aas_cbs (n : Nat) : aas n = cbs (List.replicate n 97) := by
  induction n with
  | zero => rfl
  | succ n ih => rw [List.replicate_succ, cbs_cons, ← ih]; rfl
theorem aas_oks (n : Nat) : oks (List.replicate n 97) := fun c hc => by
  rw [List.mem_replicate] at hc
  rw [hc.2]; decide

set_option maxHeartbeats 1000000 in
theorem times_65536 (w : World) :
    Calls Try.prog 11 #[.string ⟨#[97]⟩, .int .i64 65536] w fun e w' => e = .returned (.string (bs (aas 65536))) ∧ w = w' := by
  have h0 : (⟨#[97]⟩ : ByteArray) = bs (aas 1) := rfl
  rw [h0]
  obtain ⟨R, hR⟩ : ∃ R, bs (aas 65536) = R := ⟨_, rfl⟩
  rw [hR]
  have HR := Lib.hid hR
  clear hR h0
  go_enter Try.func11, Try.ntmps11
  go_wp2
  go_loop [0, 1, 5] (fun s i o => ∃ j : Nat, j ≤ 17 ∧ s = .string (bs (aas (2 ^ j))) ∧ ((j ≤ 16 ∧ i = .int .i64 ((2 ^ (16 - j) : Nat) : Int) ∧ o = .string ⟨#[]⟩) ∨ (j = 17 ∧ i = .int .i64 0 ∧ o = .string (bs (aas 65536))))) (fun _ i _ => (intOf i).toNat)
  case atStart => exact ⟨0, by decide, rfl, .inl ⟨by decide, rfl, rfl⟩⟩
  case round =>
    obtain ⟨j, hj, rfl, ⟨hj2, rfl, rfl⟩ | ⟨rfl, rfl, rfl⟩⟩ := hrel
    · have hpow : 2 ^ j ≤ 2 ^ 16 := Nat.pow_le_pow_right (by decide) hj2
      have hsz := aas_size (2 ^ j)
      have hap := aas_append (2 ^ j) (2 ^ j)
      have hdbl : 2 ^ j + 2 ^ j = 2 ^ (j + 1) := by rw [Nat.pow_succ]; omega
      rw [hdbl] at hap
      have hnl : ¬ 9223372036854775807 < (bs (aas (2 ^ j))).size + (bs (aas (2 ^ j))).size := by rw [hsz]; omega
      by_cases h16 : j = 16
      · subst h16
        have hem : (⟨#[]⟩ : ByteArray) ++ bs (aas (2 ^ 16)) = bs (aas (2 ^ 16)) := by rw [show (⟨#[]⟩ : ByteArray) = bs (aas 0) from rfl, aas_append]
        obtain ⟨x, hx⟩ : ∃ x, bs (aas (2 ^ 16)) = x := ⟨_, rfl⟩
        obtain ⟨y, hy⟩ : ∃ y, bs (aas (2 ^ (16 + 1))) = y := ⟨_, rfl⟩
        rw [hx] at hsz hap hnl hem ⊢
        rw [hy] at hap
        have hnl2 : ¬ 9223372036854775807 < (⟨#[]⟩ : ByteArray).size + x.size := by rw [hsz]; decide
        have FIN := Lib.hid (show y = bs (aas (2 ^ 17)) ∧ x = bs (aas 65536) from ⟨hy.symm, hx.symm⟩)
        clear hj hj2 hpow hsz hdbl hx hy
        have e1 : ((2 ^ (16 - 16) : Nat) : Int) = 1 := by decide
        rw [e1]
        clear e1
        go_wp2
        go_round
        case rel => exact ⟨17, by decide, by rw [FIN.out.1], .inr ⟨rfl, rfl, by rw [FIN.out.2]⟩⟩
        case measure => simp [intOf]
      · obtain ⟨x, hx⟩ : ∃ x, bs (aas (2 ^ j)) = x := ⟨_, rfl⟩
        obtain ⟨y, hy⟩ : ∃ y, bs (aas (2 ^ (j + 1))) = y := ⟨_, rfl⟩
        rw [hx] at hsz hap hnl ⊢
        rw [hy] at hap
        obtain ⟨q, hq⟩ : ∃ q, 2 ^ (16 - (j + 1)) = q := ⟨_, rfl⟩
        have hq0 : 0 < q := by rw [← hq]; exact Nat.pow_pos (by decide)
        have hq1 : q ≤ 65536 := by rw [← hq]; exact Nat.pow_le_pow_right (n := 2) (by decide) (show 16 - (j + 1) ≤ 16 by omega)
        have hp : 2 ^ (16 - j) = 2 * q := by rw [← hq, show 16 - j = (16 - (j + 1)) + 1 from by omega, Nat.pow_succ]; omega
        rw [hp]
        have FIN := Lib.hid (show y = bs (aas (2 ^ (j + 1))) ∧ j + 1 ≤ 16 ∧ q = 2 ^ (16 - (j + 1)) ∧ 0 < q from ⟨hy.symm, by omega, hq.symm, hq0⟩)
        obtain ⟨p, hpp⟩ : ∃ p : Nat, 2 * q = p := ⟨_, rfl⟩
        rw [hpp]
        have g1 : 0 < (p : Int) := by omega
        have g2 : (p : Int) ≤ 131072 := by omega
        have g3 : (p : Int).tmod 2 = 0 := by rw [Int.tmod_eq_emod_of_nonneg (by omega)]; omega
        have g4 : (p : Int).tdiv 2 = (q : Int) := by rw [Int.tdiv_eq_ediv_of_nonneg (by omega)]; omega
        have g5 : (q : Int) ≤ 65536 := by omega
        have g6 : 0 < (q : Int) := by omega
        have GP := Lib.hid hpp
        clear hj hj2 hpow hsz hdbl hx hy hq hq0 hq1 hp hpp h16
        go_wp2
        go_round
        case rel => exact ⟨j + 1, by have := FIN.out; omega, by rw [FIN.out.1], .inl ⟨FIN.out.2.1, by rw [FIN.out.2.2.1], rfl⟩⟩
        case measure => have := FIN.out; have := GP.out; simp [intOf]; omega
    · go_wp2
      go_ret
      exact ⟨by rw [← HR.out]; rfl, rfl⟩
end Go.Proofs.Ytohbhmffgaijgaa
