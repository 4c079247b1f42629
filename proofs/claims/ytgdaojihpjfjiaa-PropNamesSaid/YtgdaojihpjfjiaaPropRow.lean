/-
  Plain facts on prop's rules: what stands at an id is the row of the document's table; the kinds as bits. No condition.
-/
import Derived.Test.YtgdaojihpjfjiaaPropPlain
import Derived.Test.YtgdaojihpjfjiaaPropRules
namespace Go.Proofs.Ytgdaojihpjfjiaa
open Go.RowKit

/-- The kinds as bits. -/
def maskP (id : Int) : Nat := (prow id).kinds.foldr (fun k m => m + 2 ^ k.toNat) 0
theorem lookK_none (z : Value) : ∀ (l : List (Int × Value)) (i : Int), (∀ p ∈ l, i ≠ p.1) → lookK z l i = z
  | [], _, _ => rfl
  | p :: l, i, h => by
    rw [lookK, if_neg (h p (List.mem_cons_self ..))]
    exact lookK_none z l i (fun q hq => h q (List.mem_cons_of_mem _ hq))
theorem rules_keys : ∀ p ∈ rulesL, 1 ≤ p.1 ∧ p.1 ≤ 42 := by
  intro p hp
  have h := List.mem_map_of_mem (f := Prod.fst) hp
  have : ∀ k ∈ rulesL.map Prod.fst, 1 ≤ k ∧ k ≤ 42 := by decide
  exact this _ h
theorem rule_at (id : Int) : lookK zeroRule rulesL id = ruleV (prow id).shape (maskP id) (prow id).least := by
  rcases Int.lt_or_le id 1 with h | h
  · rw [lookK_none _ _ _ (fun p hp e => by have := rules_keys p hp; omega)]
    unfold maskP
    rw [prow_out (.inl h)]; rfl
  · rcases Int.lt_or_le 42 id with h2 | h2
    · rw [lookK_none _ _ _ (fun p hp e => by have := rules_keys p hp; omega)]
      unfold maskP
      rw [prow_out (.inr h2)]; rfl
    · obtain ⟨n, rfl⟩ := Int.eq_ofNat_of_zero_le (show 0 ≤ id by omega)
      have hn : n ≤ 42 := by omega
      clear h h2
      match n, hn with
      | 0, _ => rfl
      | 1, _ => rfl
      | 2, _ => rfl
      | 3, _ => rfl
      | 4, _ => rfl
      | 5, _ => rfl
      | 6, _ => rfl
      | 7, _ => rfl
      | 8, _ => rfl
      | 9, _ => rfl
      | 10, _ => rfl
      | 11, _ => rfl
      | 12, _ => rfl
      | 13, _ => rfl
      | 14, _ => rfl
      | 15, _ => rfl
      | 16, _ => rfl
      | 17, _ => rfl
      | 18, _ => rfl
      | 19, _ => rfl
      | 20, _ => rfl
      | 21, _ => rfl
      | 22, _ => rfl
      | 23, _ => rfl
      | 24, _ => rfl
      | 25, _ => rfl
      | 26, _ => rfl
      | 27, _ => rfl
      | 28, _ => rfl
      | 29, _ => rfl
      | 30, _ => rfl
      | 31, _ => rfl
      | 32, _ => rfl
      | 33, _ => rfl
      | 34, _ => rfl
      | 35, _ => rfl
      | 36, _ => rfl
      | 37, _ => rfl
      | 38, _ => rfl
      | 39, _ => rfl
      | 40, _ => rfl
      | 41, _ => rfl
      | 42, _ => rfl
      | n + 43, h => exact absurd h (by omega)

/-- A kind's bit. -/
def bitP (m : Nat) (kind : Int) : Bool := decide (0 ≤ kind ∧ kind < 32) && decide (m / 2 ^ kind.toNat % 2 = 1)
theorem bits_row (ks : List Int) (h : (List.range 32).all (fun k => decide ((ks.foldr (fun k m => m + 2 ^ k.toNat) 0) / 2 ^ k % 2 = 1) == ks.contains (k : Int)) = true) (hk : ∀ k ∈ ks, 0 ≤ k ∧ k < 32) (kind : Int) :
    bitP (ks.foldr (fun k m => m + 2 ^ k.toNat) 0) kind = ks.contains kind := by
  unfold bitP
  by_cases hr : 0 ≤ kind ∧ kind < 32
  · rw [decide_eq_true hr, Bool.true_and]
    obtain ⟨n, rfl⟩ := Int.eq_ofNat_of_zero_le hr.1
    have := List.all_eq_true.1 h n (List.mem_range.2 (by omega))
    rw [beq_iff_eq] at this
    exact this
  · rw [decide_eq_false hr, Bool.false_and]
    cases hc : ks.contains kind with
    | false => rfl
    | true => exact absurd (hk kind (by simpa using hc)) hr
theorem bit_may (kind id : Int) : bitP (maskP id) kind = mayP kind id := by
  unfold maskP mayP
  have key : ∀ r : PRow, (decide (r.kinds.all fun k => decide (0 ≤ k) && decide (k < 32)) && (List.range 32).all (fun k => decide ((r.kinds.foldr (fun k m => m + 2 ^ k.toNat) 0) / 2 ^ k % 2 = 1) == r.kinds.contains (k : Int))) = true →
      bitP (r.kinds.foldr (fun k m => m + 2 ^ k.toNat) 0) kind = r.kinds.contains kind := fun r h => by
    rw [Bool.and_eq_true, decide_eq_true_eq] at h
    exact bits_row r.kinds h.2 (fun k hk => by
      have := List.all_eq_true.1 h.1 k hk
      rw [Bool.and_eq_true, decide_eq_true_eq, decide_eq_true_eq] at this
      exact this) kind
  rcases Int.lt_or_le id 1 with h | h
  · rw [prow_out (.inl h)]; exact key _ (by decide)
  · rcases Int.lt_or_le 42 id with h2 | h2
    · rw [prow_out (.inr h2)]; exact key _ (by decide)
    · exact key _ (prow_all (fun _ r => decide (r.kinds.all fun k => decide (0 ≤ k) && decide (k < 32)) && (List.range 32).all (fun k => decide ((r.kinds.foldr (fun k m => m + 2 ^ k.toNat) 0) / 2 ^ k % 2 = 1) == r.kinds.contains (k : Int))) (by decide +kernel) ⟨h, h2⟩)
theorem mask_lt (id : Int) : maskP id < 131072 := by
  unfold maskP
  rcases Int.lt_or_le id 1 with h | h
  · rw [prow_out (.inl h)]; decide
  · rcases Int.lt_or_le 42 id with h2 | h2
    · rw [prow_out (.inr h2)]; decide
    · have := prow_all (fun _ r => decide (r.kinds.foldr (fun k m => m + 2 ^ k.toNat) 0 < 131072)) (by decide +kernel) ⟨h, h2⟩
      exact of_decide_eq_true this
end Go.Proofs.Ytgdaojihpjfjiaa
