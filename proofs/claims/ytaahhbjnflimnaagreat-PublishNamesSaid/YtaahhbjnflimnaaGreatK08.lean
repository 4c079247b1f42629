/-
  Plain facts on properties: which there are, who may have them, when one is as it should be, a list's bytes, and what is read of bytes. No condition.
-/
import Derived.Test.YtaahhbjnflimnaaGreatK03
import Derived.Test.YtaahhbjnflimnaaGreatK06
import Derived.Test.YtaahhbjnflimnaaGreatK07
namespace Go.Proofs.YtaahhbjnflimnaaGreat

/-- Shape, kinds, the least and the greatest number. -/
structure PRow where
  shape : Nat
  kinds : List Int
  least : Nat
  most : Nat
def prow (id : Int) : PRow :=
  if id = 1 then ⟨1, [3, 16], 0, 1⟩
  else if id = 2 then ⟨3, [3, 16], 0, 4294967295⟩
  else if id = 3 ∨ id = 8 then ⟨5, [3, 16], 0, 0⟩
  else if id = 9 then ⟨6, [3, 16], 0, 0⟩
  else if id = 11 then ⟨4, [3, 8], 1, 268435455⟩
  else if id = 17 then ⟨3, [1, 2, 14], 0, 4294967295⟩
  else if id = 18 ∨ id = 26 then ⟨5, [2], 0, 0⟩
  else if id = 19 then ⟨2, [2], 0, 65535⟩
  else if id = 21 then ⟨5, [1, 2, 15], 0, 0⟩
  else if id = 22 then ⟨6, [1, 2, 15], 0, 0⟩
  else if id = 23 ∨ id = 25 then ⟨1, [1], 0, 1⟩
  else if id = 24 then ⟨3, [16], 0, 4294967295⟩
  else if id = 28 then ⟨5, [2, 14], 0, 0⟩
  else if id = 31 then ⟨5, [2, 4, 5, 6, 7, 9, 11, 14, 15], 0, 0⟩
  else if id = 33 then ⟨2, [1, 2], 1, 65535⟩
  else if id = 34 then ⟨2, [1, 2], 0, 65535⟩
  else if id = 35 then ⟨2, [3], 1, 65535⟩
  else if id = 36 ∨ id = 37 ∨ id = 40 ∨ id = 41 ∨ id = 42 then ⟨1, [2], 0, 1⟩
  else if id = 38 then ⟨7, [1, 2, 3, 4, 5, 6, 7, 8, 9, 10, 11, 14, 15, 16], 0, 0⟩
  else if id = 39 then ⟨3, [1, 2], 1, 4294967295⟩
  else ⟨0, [], 0, 0⟩
def shapeP (id : Int) : Nat := (prow id).shape
def mayP (kind id : Int) : Bool := (prow id).kinds.contains kind
def manyP (kind id : Int) : Bool := mayP kind id && (id == 38 || (id == 11 && kind == 3))

/-- What Check tells: 0, 2 an argument, 6 a text, 9 a property. -/
def checkP (kind : Int) (p : Pr) : Nat :=
  if mayP kind p.id = false then 9
  else if shapeP p.id ≤ 4 then
    if p.text ≠ [] ∨ p.value ≠ [] then 2
    else if p.n < (prow p.id).least ∨ (prow p.id).most < p.n then 9
    else 0
  else if p.n ≠ 0 ∨ (shapeP p.id ≠ 7 ∧ p.value ≠ []) then 2
  else if shapeP p.id = 6 then (if 65535 < p.text.length then 2 else 0)
  else if validOf p.text = false ∨ validOf p.value = false then 6
  else if p.id = 8 ∧ nameL p.text = false then 9
  else 0

theorem prow_out {id : Int} (h : id < 1 ∨ 42 < id) : prow id = ⟨0, [], 0, 0⟩ := by
  unfold prow
  repeat rw [if_neg (by omega)]
/-- What holds of every row, by looking at each. -/
theorem prow_all (P : Int → PRow → Bool) (h : (List.range 43).all (fun k => P (k : Int) (prow (k : Int))) = true) {id : Int} (hi : 1 ≤ id ∧ id ≤ 42) : P id (prow id) = true := by
  have := List.all_eq_true.1 h id.toNat (List.mem_range.2 (by omega))
  rwa [show ((id.toNat : Nat) : Int) = id by omega] at this
theorem may_range {kind id : Int} (h : mayP kind id = true) : 1 ≤ id ∧ id ≤ 42 := by
  rcases Int.lt_or_le id 1 with h1 | h1
  · unfold mayP at h; rw [prow_out (.inl h1)] at h; simp at h
  · rcases Int.lt_or_le 42 id with h2 | h2
    · unfold mayP at h; rw [prow_out (.inr h2)] at h; simp at h
    · exact ⟨h1, h2⟩
theorem may_kinds {kind id : Int} (h : mayP kind id = true) : (prow id).kinds ≠ [] := by
  intro e
  unfold mayP at h
  rw [e] at h
  simp at h
/-- Shapes, and how great numbers may be. -/
theorem row_fits {kind id : Int} (h : mayP kind id = true) : 1 ≤ shapeP id ∧ shapeP id ≤ 7 ∧ (shapeP id = 1 → (prow id).most < 256) ∧ (shapeP id = 2 → (prow id).most < 65536) ∧ (shapeP id = 3 → (prow id).most < 4294967296) ∧ (shapeP id = 4 → (prow id).most ≤ 268435455) ∧ (id = 8 → shapeP id = 5) := by
  have := prow_all (fun i r => r.kinds.isEmpty || (decide (1 ≤ r.shape) && decide (r.shape ≤ 7) && (decide (r.shape ≠ 1) || decide (r.most < 256)) && (decide (r.shape ≠ 2) || decide (r.most < 65536)) && (decide (r.shape ≠ 3) || decide (r.most < 4294967296)) && (decide (r.shape ≠ 4) || decide (r.most ≤ 268435455)) && (decide (i ≠ 8) || decide (r.shape = 5)))) (by decide) (may_range h)
  have hk := may_kinds h
  unfold shapeP
  generalize prow id = r at *
  simp only [Bool.or_eq_true, Bool.and_eq_true, decide_eq_true_eq, List.isEmpty_iff] at this
  rcases this with e | ⟨⟨⟨⟨⟨⟨h1, h2⟩, h3⟩, h4⟩, h5⟩, h6⟩, h7⟩
  · exact absurd e hk
  · exact ⟨h1, h2, fun e => h3.resolve_left (fun x => x e), fun e => h4.resolve_left (fun x => x e), fun e => h5.resolve_left (fun x => x e), fun e => h6.resolve_left (fun x => x e), fun e => h7.resolve_left (fun x => x e)⟩

/-! ### The bytes of a value, and what is read of bytes -/
def valueP (p : Pr) : List UInt8 :=
  if shapeP p.id = 1 then be p.n 1 else if shapeP p.id = 2 then be p.n 2 else if shapeP p.id = 3 then be p.n 4
  else if shapeP p.id = 4 then vb p.n (sz p.n) else if shapeP p.id = 7 then enc2 p.text ++ enc2 p.value else enc2 p.text
/-- A number of so many bytes. -/
def numP (id : Int) (c : Nat) (r : List UInt8) : Pr × Nat × Nat := if r.length < c then (⟨id, 0, [], []⟩, 0, 5) else (⟨id, num (r.take c), [], []⟩, c, 0)
/-- A text, or data: with what it is, its size and the error. -/
def textP (data : Bool) (r : List UInt8) : List UInt8 × Nat × Nat := if (rdB r).2.2 ≠ 0 then ([], 0, 5) else if data || validOf (rdB r).1 then ((rdB r).1, (rdB r).2.1, 0) else ([], 0, 6)
/-- The value behind an id: the property, how many bytes, the error. -/
def nextP (id : Int) (r : List UInt8) : Pr × Nat × Nat :=
  if shapeP id = 1 then numP id 1 r else if shapeP id = 2 then numP id 2 r else if shapeP id = 3 then numP id 4 r
  else if shapeP id = 4 then (if rdE r ≠ 0 then (⟨id, 0, [], []⟩, 0, 5) else (⟨id, rdV r, [], []⟩, rdN r, 0))
  else if shapeP id = 7 then
    (if (textP false r).2.2 ≠ 0 then (⟨id, 0, [], []⟩, 0, (textP false r).2.2)
     else if (textP false (r.drop (textP false r).2.1)).2.2 ≠ 0 then (⟨id, 0, [], []⟩, 0, (textP false (r.drop (textP false r).2.1)).2.2)
     else (⟨id, 0, (textP false r).1, (textP false (r.drop (textP false r).2.1)).1⟩, (textP false r).2.1 + (textP false (r.drop (textP false r).2.1)).2.1, 0))
  else if (textP (shapeP id == 6) r).2.2 ≠ 0 then (⟨id, 0, [], []⟩, 0, (textP (shapeP id == 6) r).2.2) else (⟨id, 0, (textP (shapeP id == 6) r).1, []⟩, (textP (shapeP id == 6) r).2.1, 0)

theorem rdB_enc2 (l t : List UInt8) (h : l.length ≤ 65535) : rdB (enc2 l ++ t) = (l, (enc2 l).length, 0) := by
  have hb : (be l.length 2).length = 2 := be_length 2 _
  have e1 : (enc2 l ++ t).take 2 = be l.length 2 := by unfold enc2; rw [List.append_assoc, List.take_append_of_le_length (by omega), List.take_of_length_le (by omega)]
  have e2 : num (be l.length 2) = l.length := by rw [num_be]; omega
  have e3 : (enc2 l ++ t).drop 2 = l ++ t := by
    unfold enc2
    rw [List.append_assoc, List.drop_append_of_le_length (by omega), List.drop_of_length_le (by omega), List.nil_append]
  have e4 := enc2_length l
  unfold rdB
  rw [e1, e2, e3, if_pos (by rw [List.length_append, e4]; omega), e4]
  simp
  omega
theorem textP_enc2 (data : Bool) (l t : List UInt8) (h : l.length ≤ 65535) (hv : (data || validOf l) = true) : textP data (enc2 l ++ t) = (l, (enc2 l).length, 0) := by
  unfold textP
  rw [rdB_enc2 l t h]
  simp only [ne_eq, not_true_eq_false, if_false]
  rw [if_pos hv]
theorem numP_be (id : Int) (n c : Nat) (t : List UInt8) (h : n < 256 ^ c) : numP id c (be n c ++ t) = (⟨id, n, [], []⟩, c, 0) := by
  have hb : (be n c).length = c := be_length c _
  unfold numP
  rw [if_neg (by rw [List.length_append]; omega), List.take_append_of_le_length (by omega), List.take_of_length_le (by omega), num_be, Nat.mod_eq_of_lt h]
theorem check_parts {kind : Int} {p : Pr} (h : checkP kind p = 0) : mayP kind p.id = true ∧
    (shapeP p.id ≤ 4 → p.text = [] ∧ p.value = [] ∧ (prow p.id).least ≤ p.n ∧ p.n ≤ (prow p.id).most) ∧
    (4 < shapeP p.id → p.n = 0 ∧ (shapeP p.id ≠ 7 → p.value = []) ∧ (shapeP p.id = 6 → p.text.length ≤ 65535) ∧ (shapeP p.id ≠ 6 → validOf p.text = true ∧ validOf p.value = true)) := by
  unfold checkP at h
  by_cases hm : mayP kind p.id = true
  · rw [if_neg (by simp [hm])] at h
    refine ⟨hm, fun hs => ?_, fun hs => ?_⟩
    · rw [if_pos hs] at h
      split at h
      · cases h
      · rename_i h1
        split at h
        · cases h
        · rename_i h2
          simp only [not_or, Decidable.not_not] at h1
          exact ⟨h1.1, h1.2, by omega, by omega⟩
    · rw [if_neg (by omega)] at h
      split at h
      · cases h
      · rename_i h1
        have h1a : p.n = 0 := by
          rcases Nat.eq_zero_or_pos p.n with e | e
          · exact e
          · exact absurd (.inl (by omega)) h1
        have h1b : shapeP p.id ≠ 7 → p.value = [] := fun e => Classical.byContradiction fun x => h1 (.inr ⟨e, x⟩)
        refine ⟨h1a, h1b, fun e => ?_, fun e => ?_⟩
        · rw [if_pos e] at h
          split at h
          · cases h
          · omega
        · rw [if_neg e] at h
          split at h
          · cases h
          · rename_i h2
            simp only [not_or, Bool.not_eq_false] at h2
            exact h2
  · rw [if_pos (by simpa using hm)] at h; cases h
/-- The value's bytes are read as the property, whatever follows. -/
theorem next_value {kind : Int} {p : Pr} (h : checkP kind p = 0) (t : List UInt8) : nextP p.id (valueP p ++ t) = (p, (valueP p).length, 0) := by
  obtain ⟨hm, h4, h5⟩ := check_parts h
  obtain ⟨r1, r2, f1, f2, f3, f4, _⟩ := row_fits hm
  obtain ⟨id, n, text, value⟩ := p
  unfold nextP valueP
  simp only at *
  by_cases s1 : shapeP id = 1
  · obtain ⟨rfl, rfl, _, hn⟩ := h4 (by omega)
    simp only [s1, if_true]
    rw [numP_be id n 1 t (by have := f1 s1; omega), be_length]
  by_cases s2 : shapeP id = 2
  · obtain ⟨rfl, rfl, _, hn⟩ := h4 (by omega)
    simp only [s2, if_true, show ¬ (2 : Nat) = 1 by decide, if_false]
    rw [numP_be id n 2 t (by have := f2 s2; omega), be_length]
  by_cases s3 : shapeP id = 3
  · obtain ⟨rfl, rfl, _, hn⟩ := h4 (by omega)
    simp only [s3, if_true, show ¬ (3 : Nat) = 1 by decide, show ¬ (3 : Nat) = 2 by decide, if_false]
    rw [numP_be id n 4 t (by have := f3 s3; omega), be_length]
  by_cases s4 : shapeP id = 4
  · obtain ⟨rfl, rfl, _, hn⟩ := h4 (by omega)
    simp only [s4, if_true, show ¬ (4 : Nat) = 1 by decide, show ¬ (4 : Nat) = 2 by decide, show ¬ (4 : Nat) = 3 by decide, if_false]
    have hr := run_vb n (by have := f4 s4; omega) t
    obtain ⟨e1, e2, e3⟩ := rd_of hr
    rw [e1, e2, e3]
    simp [vb_length]
  obtain ⟨rfl, hv7, hv6, hvt⟩ := h5 (by omega)
  rw [if_neg s1, if_neg s2, if_neg s3, if_neg s4, if_neg s1, if_neg s2, if_neg s3, if_neg s4]
  by_cases s7 : shapeP id = 7
  · obtain ⟨v1, v2⟩ := hvt (by omega)
    have l1 := ((validOf_iff _).1 v1).1
    have l2 := ((validOf_iff _).1 v2).1
    rw [if_pos s7, if_pos s7, List.append_assoc]
    have e1 := textP_enc2 false text (enc2 value ++ t) l1 (by simpa using v1)
    have e2 := textP_enc2 false value t l2 (by simpa using v2)
    simp only [e1, e2, List.drop_left, ne_eq, not_true_eq_false, if_false, List.length_append]
  · rw [if_neg s7, if_neg s7]
    have hv := hv7 s7
    subst hv
    have hlt : text.length ≤ 65535 := by
      by_cases s6 : shapeP id = 6
      · exact hv6 s6
      · exact ((validOf_iff _).1 (hvt s6).1).1
    have e1 := textP_enc2 (shapeP id == 6) text t hlt (by
      by_cases s6 : shapeP id = 6
      · simp [s6]
      · simp [(hvt s6).1])
    simp only [e1, ne_eq, not_true_eq_false, if_false]
end Go.Proofs.YtaahhbjnflimnaaGreat
