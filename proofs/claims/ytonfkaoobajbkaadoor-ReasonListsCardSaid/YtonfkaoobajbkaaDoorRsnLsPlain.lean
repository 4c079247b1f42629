/-
  Reason codes: what the lists' law says of the plain lists and texts. Condition: none.
-/
import Derived.Test.YtonfkaoobajbkaaDoorRsnRef3
namespace Go.Proofs.YtonfkaoobajbkaaDoor

theorem codes_asc : ∀ g < 8, (codesG g).Pairwise (· < ·) := by decide
theorem codes_head : ∀ g < 8, codesG g = [] ∨ (codesG g)[0]? = some 0 := by decide
theorem asc_at {g i x y : Nat} (hg : g < 8) (hx : (codesG g)[i]? = some x) (hy : (codesG g)[i + 1]? = some y) : x < y := by
  have h := List.pairwise_iff_getElem.1 (codes_asc g hg)
  obtain ⟨h1, rfl⟩ := List.getElem?_eq_some_iff.1 hx
  obtain ⟨h2, rfl⟩ := List.getElem?_eq_some_iff.1 hy
  exact h i (i + 1) h1 h2 (by omega)
theorem may_mem {kind : Int} {x : Nat} (h : x ∈ codesG (grp kind)) : mayR kind (x : Int) = true := by
  unfold mayR
  simp [h]
theorem may_known {kind code : Int} (h : mayR kind code = true) : knownR code = true := by
  have hk : 0 ≤ kind ∧ kind < 17 := by
    refine Classical.byContradiction fun hn => ?_
    have hg : grp kind = 0 := by
      unfold grp
      rw [if_neg (by omega), if_neg (by omega), if_neg (by omega), if_neg (by omega), if_neg (by omega), if_neg (by omega), if_neg (by omega)]
    unfold mayR at h
    rw [hg] at h
    simp [codesG] at h
  refine knownTo_more (k := kind.toNat) ?_ (by omega)
  rw [show ((kind.toNat : Nat) : Int) = kind by omega]
  exact h
theorem text_known {code : Int} (h : knownR code = true) : textS code = ⟨#[hexD (code.toNat / 16), hexD (code.toNat % 16)]⟩ := by
  unfold textS textR; rw [h]; rfl
theorem text_unknown {code : Int} (h : knownR code = false) : textS code = ⟨#[63]⟩ := by
  unfold textS textR; rw [h]; rfl
theorem text_qu {code : Int} (h : knownR code = true) : ((textS code).toList == [63]) = false := by
  rw [text_known h, toList_data]; simp
theorem hexD_inj : ∀ x < 16, ∀ y < 16, hexD x = hexD y → x = y := by decide
theorem text_inj {a b : Int} (h : knownR a = true) (hne : a ≠ b) : ((textS a).toList == (textS b).toList) = false := by
  rw [toList_data, toList_data]
  rw [Bool.eq_false_iff]
  intro he
  rw [beq_iff_eq] at he
  obtain ⟨a0, a1⟩ := known_range h
  rw [text_known h] at he
  cases hb : knownR b with
  | false => rw [text_unknown hb] at he; simp at he
  | true =>
    obtain ⟨b0, b1⟩ := known_range hb
    rw [text_known hb] at he
    simp only [List.cons.injEq, and_true] at he
    have h1 := hexD_inj _ (by omega) _ (by omega) he.1
    have h2 := hexD_inj _ (by omega) _ (by omega) he.2
    omega
theorem knownTo_16 (code : Int) : knownTo code 16 = knownR code := by rw [← knownTo_17]; rfl
end Go.Proofs.YtonfkaoobajbkaaDoor
