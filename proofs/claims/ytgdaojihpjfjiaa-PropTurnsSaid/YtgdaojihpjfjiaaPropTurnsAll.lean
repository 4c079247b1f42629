/-
  The walk of polyglotlaw05.PropTurns, whole. Condition: strings no longer than memory allows.
-/
import Derived.Test.YtgdaojihpjfjiaaPropTurnsWalk
import Derived.Test.YtgdaojihpjfjiaaPropTurnsEnd
namespace Go.Proofs.Ytgdaojihpjfjiaa
open Go.RowKit

theorem turns_walk (kind cut : Int) (A : Option Addr) (n c : Nat) (l : List Pr) (w : World) (k0 : -9223372036854775808 ≤ kind) (k1 : kind ≤ 9223372036854775807) (hl : PL w A l) (hn : l.length = n) (hc : n ≤ c) (hcm : c ≤ 9223372036854775807) (ok : ∀ p ∈ l, PrOk p) (hm : ∀ p ∈ l, p.text.length ≤ 140737488351232 ∧ p.value.length ≤ 140737488351232) :
    Calls Try.prog 6 #[.int .i64 kind, .slice A n c, .int .i64 cut] w fun e w' => e = .returned (.bool true) ∧ Below w.heap.size w w' := by
  by_cases h : lightP l = true
  · by_cases hv : validP kind l = 0
    · by_cases hz : n = 0 ∨ 900 < n
      · exact turns_far kind cut A n c l w k0 k1 hl hn hc ok hm h hv hz
      · obtain ⟨k, hk⟩ : ∃ k : Nat, cut % (n : Int) = (k : Int) := ⟨(cut % (n : Int)).toNat, by have := Int.emod_nonneg cut (show (n : Int) ≠ 0 by omega); omega⟩
        have hkn : k < n := by have := Int.emod_lt_of_pos cut (show 0 < (n : Int) by omega); omega
        obtain ⟨g, i, rfl, _⟩ := hl.addr (by rintro rfl; simp at hn; omega)
        by_cases hkc : k + 1 < c
        · exact turns_in kind cut g i n c l w k0 k1 hl hn hc hcm ok hm h hv (by omega) (by omega) k (k + 1) hk hkn rfl hkc
        · exact turns_end kind cut g i n c l w k0 k1 hl hn hc hcm ok hm h hv (by omega) (by omega) k (k + 1) hk hkn rfl (by omega)
    · exact turns_bad kind cut A n c l w k0 k1 hl hn hc ok hm h hv
  · exact turns_dark kind cut A n c l w hl hn hm (by simpa using h)
end Go.Proofs.Ytgdaojihpjfjiaa
