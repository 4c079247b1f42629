/-
  Plain facts on properties: which there are, who may have them, when one is as it should be, a list's bytes, and what is read of bytes. No condition.
  Plain facts on lists of properties: which are as they should be, their bytes, and what is read of bytes: each undoes the other. No condition.
-/
import Derived.Test.YtbgpcmbaodjibaaGreatK04
import Derived.Test.YtbgpcmbaodjibaaGreatK05
namespace Go.Proofs.YtbgpcmbaodjibaaGreat

/-- Shape, kinds, the least and the greatest number. -/
structure PRow where
  shape : Nat
  kinds : List Int
  least : Nat
  most : Nat
def prow (id : Int) : PRow :=
  if id = 1 then ⟨1, [3, 16], 0, 1⟩
  else if id = 2 then ⟨3, [3, 16], 0, 4294967295⟩
  else if id = 3 ∨ id = 8 then ⟨5, [3, 16], 0, 0⟩
  else if id = 9 then ⟨6, [3, 16], 0, 0⟩
  else if id = 11 then ⟨4, [3, 8], 1, 268435455⟩
  else if id = 17 then ⟨3, [1, 2, 14], 0, 4294967295⟩
  else if id = 18 ∨ id = 26 then ⟨5, [2], 0, 0⟩
  else if id = 19 then ⟨2, [2], 0, 65535⟩
  else if id = 21 then ⟨5, [1, 2, 15], 0, 0⟩
  else if id = 22 then ⟨6, [1, 2, 15], 0, 0⟩
  else if id = 23 ∨ id = 25 then ⟨1, [1], 0, 1⟩
  else if id = 24 then ⟨3, [16], 0, 4294967295⟩
  else if id = 28 then ⟨5, [2, 14], 0, 0⟩
  else if id = 31 then ⟨5, [2, 4, 5, 6, 7, 9, 11, 14, 15], 0, 0⟩
  else if id = 33 then ⟨2, [1, 2], 1, 65535⟩
  else if id = 34 then ⟨2, [1, 2], 0, 65535⟩
  else if id = 35 then ⟨2, [3], 1, 65535⟩
  else if id = 36 ∨ id = 37 ∨ id = 40 ∨ id = 41 ∨ id = 42 then ⟨1, [2], 0, 1⟩
  else if id = 38 then ⟨7, [1, 2, 3, 4, 5, 6, 7, 8, 9, 10, 11, 14, 15, 16], 0, 0⟩
  else if id = 39 then ⟨3, [1, 2], 1, 4294967295⟩
  else ⟨0, [], 0, 0⟩
def shapeP (id : Int) : Nat := (prow id).shape
def mayP (kind id : Int) : Bool := (prow id).kinds.contains kind
def manyP (kind id : Int) : Bool := mayP kind id && (id == 38 || (id == 11 && kind == 3))

/-- What Check tells: 0, 2 an argument, 6 a text, 9 a property. -/
def checkP (kind : Int) (p : Pr) : Nat :=
  if mayP kind p.id = false then 9
  else if shapeP p.id ≤ 4 then
    if p.text ≠ [] ∨ p.value ≠ [] then 2
    else if p.n < (prow p.id).least ∨ (prow p.id).most < p.n then 9
    else 0
  else if p.n ≠ 0 ∨ (shapeP p.id ≠ 7 ∧ p.value ≠ []) then 2
  else if shapeP p.id = 6 then (if 65535 < p.text.length then 2 else 0)
  else if validOf p.text = false ∨ validOf p.value = false then 6
  else if p.id = 8 ∧ nameL p.text = false then 9
  else 0

theorem prow_out {id : Int} (h : id < 1 ∨ 42 < id) : prow id = ⟨0, [], 0, 0⟩ := by
  unfold prow
  repeat rw [if_neg (by omega)]
/-- What holds of every row, by looking at each. -/
theorem prow_all (P : Int → PRow → Bool) (h : (List.range 43).all (fun k => P (k : Int) (prow (k : Int))) = true) {id : Int} (hi : 1 ≤ id ∧ id ≤ 42) : P id (prow id) = true := by
  have := List.all_eq_true.1 h id.toNat (List.mem_range.2 (by omega))
  rwa [show ((id.toNat : Nat) : Int) = id by omega] at this
theorem may_range {kind id : Int} (h : mayP kind id = true) : 1 ≤ id ∧ id ≤ 42 := by
  rcases Int.lt_or_le id 1 with h1 | h1
  · unfold mayP at h; rw [prow_out (.inl h1)] at h; simp at h
  · rcases Int.lt_or_le 42 id with h2 | h2
    · unfold mayP at h; rw [prow_out (.inr h2)] at h; simp at h
    · exact ⟨h1, h2⟩
theorem may_kinds {kind id : Int} (h : mayP kind id = true) : (prow id).kinds ≠ [] := by
  intro e
  unfold mayP at h
  rw [e] at h
  simp at h
/-- Shapes, and how great numbers may be. -/
theorem row_fits {kind id : Int} (h : mayP kind id = true) : 1 ≤ shapeP id ∧ shapeP id ≤ 7 ∧ (shapeP id = 1 → (prow id).most < 256) ∧ (shapeP id = 2 → (prow id).most < 65536) ∧ (shapeP id = 3 → (prow id).most < 4294967296) ∧ (shapeP id = 4 → (prow id).most ≤ 268435455) ∧ (id = 8 → shapeP id = 5) := by
  have := prow_all (fun i r => r.kinds.isEmpty || (decide (1 ≤ r.shape) && decide (r.shape ≤ 7) && (decide (r.shape ≠ 1) || decide (r.most < 256)) && (decide (r.shape ≠ 2) || decide (r.most < 65536)) && (decide (r.shape ≠ 3) || decide (r.most < 4294967296)) && (decide (r.shape ≠ 4) || decide (r.most ≤ 268435455)) && (decide (i ≠ 8) || decide (r.shape = 5)))) (by decide) (may_range h)
  have hk := may_kinds h
  unfold shapeP
  generalize prow id = r at *
  simp only [Bool.or_eq_true, Bool.and_eq_true, decide_eq_true_eq, List.isEmpty_iff] at this
  rcases this with e | ⟨⟨⟨⟨⟨⟨h1, h2⟩, h3⟩, h4⟩, h5⟩, h6⟩, h7⟩
  · exact absurd e hk
  · exact ⟨h1, h2, fun e => h3.resolve_left (fun x => x e), fun e => h4.resolve_left (fun x => x e), fun e => h5.resolve_left (fun x => x e), fun e => h6.resolve_left (fun x => x e), fun e => h7.resolve_left (fun x => x e)⟩

/-! ### The bytes of a value, and what is read of bytes -/
def valueP (p : Pr) : List UInt8 :=
  if shapeP p.id = 1 then be p.n 1 else if shapeP p.id = 2 then be p.n 2 else if shapeP p.id = 3 then be p.n 4
  else if shapeP p.id = 4 then vb p.n (sz p.n) else if shapeP p.id = 7 then enc2 p.text ++ enc2 p.value else enc2 p.text
/-- A number of so many bytes. -/
def numP (id : Int) (c : Nat) (r : List UInt8) : Pr × Nat × Nat := if r.length < c then (⟨id, 0, [], []⟩, 0, 5) else (⟨id, num (r.take c), [], []⟩, c, 0)
/-- A text, or data: with what it is, its size and the error. -/
def textP (data : Bool) (r : List UInt8) : List UInt8 × Nat × Nat := if (rdB r).2.2 ≠ 0 then ([], 0, 5) else if data || validOf (rdB r).1 then ((rdB r).1, (rdB r).2.1, 0) else ([], 0, 6)
/-- The value behind an id: the property, how many bytes, the error. -/
def nextP (id : Int) (r : List UInt8) : Pr × Nat × Nat :=
  if shapeP id = 1 then numP id 1 r else if shapeP id = 2 then numP id 2 r else if shapeP id = 3 then numP id 4 r
  else if shapeP id = 4 then (if rdE r ≠ 0 then (⟨id, 0, [], []⟩, 0, 5) else (⟨id, rdV r, [], []⟩, rdN r, 0))
  else if shapeP id = 7 then
    (if (textP false r).2.2 ≠ 0 then (⟨id, 0, [], []⟩, 0, (textP false r).2.2)
     else if (textP false (r.drop (textP false r).2.1)).2.2 ≠ 0 then (⟨id, 0, [], []⟩, 0, (textP false (r.drop (textP false r).2.1)).2.2)
     else (⟨id, 0, (textP false r).1, (textP false (r.drop (textP false r).2.1)).1⟩, (textP false r).2.1 + (textP false (r.drop (textP false r).2.1)).2.1, 0))
  else if (textP (shapeP id == 6) r).2.2 ≠ 0 then (⟨id, 0, [], []⟩, 0, (textP (shapeP id == 6) r).2.2) else (⟨id, 0, (textP (shapeP id == 6) r).1, []⟩, (textP (shapeP id == 6) r).2.1, 0)

theorem rdB_enc2 (l t : List UInt8) (h : l.length ≤ 65535) : rdB (enc2 l ++ t) = (l, (enc2 l).length, 0) := by
  have hb : (be l.length 2).length = 2 := be_length 2 _
  have e1 : (enc2 l ++ t).take 2 = be l.length 2 := by unfold enc2; rw [List.append_assoc, List.take_append_of_le_length (by omega), List.take_of_length_le (by omega)]
  have e2 : num (be l.length 2) = l.length := by rw [num_be]; omega
  have e3 : (enc2 l ++ t).drop 2 = l ++ t := by
    unfold enc2
    rw [List.append_assoc, List.drop_append_of_le_length (by omega), List.drop_of_length_le (by omega), List.nil_append]
  have e4 := enc2_length l
  unfold rdB
  rw [e1, e2, e3, if_pos (by rw [List.length_append, e4]; omega), e4]
  simp
  omega
theorem textP_enc2 (data : Bool) (l t : List UInt8) (h : l.length ≤ 65535) (hv : (data || validOf l) = true) : textP data (enc2 l ++ t) = (l, (enc2 l).length, 0) := by
  unfold textP
  rw [rdB_enc2 l t h]
  simp only [ne_eq, not_true_eq_false, if_false]
  rw [if_pos hv]
theorem numP_be (id : Int) (n c : Nat) (t : List UInt8) (h : n < 256 ^ c) : numP id c (be n c ++ t) = (⟨id, n, [], []⟩, c, 0) := by
  have hb : (be n c).length = c := be_length c _
  unfold numP
  rw [if_neg (by rw [List.length_append]; omega), List.take_append_of_le_length (by omega), List.take_of_length_le (by omega), num_be, Nat.mod_eq_of_lt h]
theorem check_parts {kind : Int} {p : Pr} (h : checkP kind p = 0) : mayP kind p.id = true ∧
    (shapeP p.id ≤ 4 → p.text = [] ∧ p.value = [] ∧ (prow p.id).least ≤ p.n ∧ p.n ≤ (prow p.id).most) ∧
    (4 < shapeP p.id → p.n = 0 ∧ (shapeP p.id ≠ 7 → p.value = []) ∧ (shapeP p.id = 6 → p.text.length ≤ 65535) ∧ (shapeP p.id ≠ 6 → validOf p.text = true ∧ validOf p.value = true)) := by
  unfold checkP at h
  by_cases hm : mayP kind p.id = true
  · rw [if_neg (by simp [hm])] at h
    refine ⟨hm, fun hs => ?_, fun hs => ?_⟩
    · rw [if_pos hs] at h
      split at h
      · cases h
      · rename_i h1
        split at h
        · cases h
        · rename_i h2
          simp only [not_or, Decidable.not_not] at h1
          exact ⟨h1.1, h1.2, by omega, by omega⟩
    · rw [if_neg (by omega)] at h
      split at h
      · cases h
      · rename_i h1
        have h1a : p.n = 0 := by
          rcases Nat.eq_zero_or_pos p.n with e | e
          · exact e
          · exact absurd (.inl (by omega)) h1
        have h1b : shapeP p.id ≠ 7 → p.value = [] := fun e => Classical.byContradiction fun x => h1 (.inr ⟨e, x⟩)
        refine ⟨h1a, h1b, fun e => ?_, fun e => ?_⟩
        · rw [if_pos e] at h
          split at h
          · cases h
          · omega
        · rw [if_neg e] at h
          split at h
          · cases h
          · rename_i h2
            simp only [not_or, Bool.not_eq_false] at h2
            exact h2
  · rw [if_pos (by simpa using hm)] at h; cases h
/-- The value's bytes are read as the property, whatever follows. -/
theorem next_value {kind : Int} {p : Pr} (h : checkP kind p = 0) (t : List UInt8) : nextP p.id (valueP p ++ t) = (p, (valueP p).length, 0) := by
  obtain ⟨hm, h4, h5⟩ := check_parts h
  obtain ⟨r1, r2, f1, f2, f3, f4, _⟩ := row_fits hm
  obtain ⟨id, n, text, value⟩ := p
  unfold nextP valueP
  simp only at *
  by_cases s1 : shapeP id = 1
  · obtain ⟨rfl, rfl, _, hn⟩ := h4 (by omega)
    simp only [s1, if_true]
    rw [numP_be id n 1 t (by have := f1 s1; omega), be_length]
  by_cases s2 : shapeP id = 2
  · obtain ⟨rfl, rfl, _, hn⟩ := h4 (by omega)
    simp only [s2, if_true, show ¬ (2 : Nat) = 1 by decide, if_false]
    rw [numP_be id n 2 t (by have := f2 s2; omega), be_length]
  by_cases s3 : shapeP id = 3
  · obtain ⟨rfl, rfl, _, hn⟩ := h4 (by omega)
    simp only [s3, if_true, show ¬ (3 : Nat) = 1 by decide, show ¬ (3 : Nat) = 2 by decide, if_false]
    rw [numP_be id n 4 t (by have := f3 s3; omega), be_length]
  by_cases s4 : shapeP id = 4
  · obtain ⟨rfl, rfl, _, hn⟩ := h4 (by omega)
    simp only [s4, if_true, show ¬ (4 : Nat) = 1 by decide, show ¬ (4 : Nat) = 2 by decide, show ¬ (4 : Nat) = 3 by decide, if_false]
    have hr := run_vb n (by have := f4 s4; omega) t
    obtain ⟨e1, e2, e3⟩ := rd_of hr
    rw [e1, e2, e3]
    simp [vb_length]
  obtain ⟨rfl, hv7, hv6, hvt⟩ := h5 (by omega)
  rw [if_neg s1, if_neg s2, if_neg s3, if_neg s4, if_neg s1, if_neg s2, if_neg s3, if_neg s4]
  by_cases s7 : shapeP id = 7
  · obtain ⟨v1, v2⟩ := hvt (by omega)
    have l1 := ((validOf_iff _).1 v1).1
    have l2 := ((validOf_iff _).1 v2).1
    rw [if_pos s7, if_pos s7, List.append_assoc]
    have e1 := textP_enc2 false text (enc2 value ++ t) l1 (by simpa using v1)
    have e2 := textP_enc2 false value t l2 (by simpa using v2)
    simp only [e1, e2, List.drop_left, ne_eq, not_true_eq_false, if_false, List.length_append]
  · rw [if_neg s7, if_neg s7]
    have hv := hv7 s7
    subst hv
    have hlt : text.length ≤ 65535 := by
      by_cases s6 : shapeP id = 6
      · exact hv6 s6
      · exact ((validOf_iff _).1 (hvt s6).1).1
    have e1 := textP_enc2 (shapeP id == 6) text t hlt (by
      by_cases s6 : shapeP id = 6
      · simp [s6]
      · simp [(hvt s6).1])
    simp only [e1, ne_eq, not_true_eq_false, if_false]
end Go.Proofs.YtbgpcmbaodjibaaGreat
namespace Go.Proofs.YtbgpcmbaodjibaaGreat

/-- Is there one of an id? -/
def hasP (l : List Pr) (id : Int) : Bool := l.any fun p => p.id == id
def twiceP (kind : Int) (l : List Pr) (id : Int) : Bool := hasP l id && !manyP kind id
/-- Data without a method. -/
def loneP (l : List Pr) : Bool := hasP l 22 && !hasP l 21
/-- A property's bytes. -/
def oneP (p : Pr) : List UInt8 := UInt8.ofNat p.id.toNat :: valueP p
def bodyP (l : List Pr) : List UInt8 := l.flatMap oneP
/-- The first error of properties behind others. -/
def eachP (kind : Int) : List Pr → List Pr → Nat
  | _, [] => 0
  | pre, p :: l => if checkP kind p ≠ 0 then checkP kind p else if twiceP kind pre p.id then 9 else eachP kind (pre ++ [p]) l
/-- What Valid tells. -/
def validP (kind : Int) (l : List Pr) : Nat :=
  if 1000 < l.length then 4 else if eachP kind [] l ≠ 0 then eachP kind [] l else if loneP l then 9 else if 268435455 < (bodyP l).length then 4 else 0
/-- What Bytes tells. -/
def bytesP (kind : Int) (l : List Pr) : List UInt8 × Nat :=
  if validP kind l ≠ 0 then ([], validP kind l) else (vb (bodyP l).length (sz (bodyP l).length) ++ bodyP l, 0)
/-- What is read of a list's bytes behind others, with room for so many rounds. -/
def fromP (kind : Int) : Nat → List Pr → List UInt8 → List Pr × Nat
  | 0, out, _ => (out, 0)
  | f + 1, out, s => match s with
    | [] => (out, 0)
    | b :: r =>
      if mayP kind b.toNat = false then ([], 9)
      else if (nextP b.toNat r).2.2 ≠ 0 then ([], (nextP b.toNat r).2.2)
      else if checkP kind (nextP b.toNat r).1 ≠ 0 then ([], checkP kind (nextP b.toNat r).1)
      else if twiceP kind out b.toNat then ([], 9)
      else if 1000 ≤ out.length then ([], 4)
      else fromP kind f (out ++ [(nextP b.toNat r).1]) (r.drop (nextP b.toNat r).2.1)
/-- What Read tells: the list, how many bytes, the error. -/
def readP (kind : Int) (s : List UInt8) : List Pr × Nat × Nat :=
  if rdE s ≠ 0 then ([], 0, rdE s)
  else if s.length < rdN s + rdV s then ([], 0, 3)
  else if (fromP kind (rdV s) [] ((s.drop (rdN s)).take (rdV s))).2 ≠ 0 then ([], 0, (fromP kind (rdV s) [] ((s.drop (rdN s)).take (rdV s))).2)
  else if loneP (fromP kind (rdV s) [] ((s.drop (rdN s)).take (rdV s))).1 then ([], 0, 9)
  else ((fromP kind (rdV s) [] ((s.drop (rdN s)).take (rdV s))).1, rdN s + rdV s, 0)

theorem bodyP_nil : bodyP [] = [] := rfl
theorem bodyP_cons (p : Pr) (l : List Pr) : bodyP (p :: l) = oneP p ++ bodyP l := rfl
theorem bodyP_append (a b : List Pr) : bodyP (a ++ b) = bodyP a ++ bodyP b := by simp [bodyP]
theorem oneP_length (p : Pr) : (oneP p).length = (valueP p).length + 1 := rfl
theorem id_byte {kind : Int} {p : Pr} (h : mayP kind p.id = true) : (((UInt8.ofNat p.id.toNat).toNat : Nat) : Int) = p.id := by
  have := may_range h
  rw [UInt8.toNat_ofNat']
  omega
/-- A list's bytes are read as it, behind whatever was read. -/
theorem from_body (kind : Int) : ∀ (l pre : List Pr) (f : Nat), eachP kind pre l = 0 → pre.length + l.length ≤ 1000 → (bodyP l).length ≤ f → fromP kind f pre (bodyP l) = (pre ++ l, 0)
  | [], pre, f, _, _, _ => by
    cases f with
    | zero => simp [fromP]
    | succ f => simp [fromP, bodyP_nil]
  | p :: l, pre, f, he, hl, hf => by
    rw [eachP] at he
    split at he
    · rename_i h; exact absurd he h
    · rename_i hc
      have hc : checkP kind p = 0 := by simpa using hc
      split at he
      · cases he
      · rename_i ht
        have hm := (check_parts hc).1
        have hid := id_byte hm
        rw [bodyP_cons, List.length_append, oneP_length] at hf
        cases f with
        | zero => omega
        | succ f =>
          have hn := next_value hc (bodyP l)
          rw [bodyP_cons]
          show fromP kind (f + 1) pre (UInt8.ofNat p.id.toNat :: (valueP p ++ bodyP l)) = _
          rw [fromP]
          simp only [hid, hn, hm]
          rw [if_neg (by simp), if_neg (by simp), if_neg (by simp [hc]), if_neg ht, if_neg (by simp at hl; omega)]
          rw [List.drop_left, from_body kind l (pre ++ [p]) f he (by simp at hl ⊢; omega) (by omega)]
          simp
theorem valid_parts {kind : Int} {l : List Pr} (h : validP kind l = 0) : l.length ≤ 1000 ∧ eachP kind [] l = 0 ∧ loneP l = false ∧ (bodyP l).length ≤ 268435455 := by
  unfold validP at h
  split at h
  · cases h
  · split at h
    · rename_i h2; exact absurd h h2
    · split at h
      · cases h
      · split at h
        · cases h
        · refine ⟨by omega, by simp_all, by simp_all, by omega⟩
/-- A list is read from its bytes, whatever follows. -/
theorem read_bytes {kind : Int} {l : List Pr} (h : validP kind l = 0) (t : List UInt8) : readP kind ((bytesP kind l).1 ++ t) = (l, (bytesP kind l).1.length, 0) := by
  obtain ⟨h1, h2, h3, h4⟩ := valid_parts h
  have hb : (bytesP kind l).1 = vb (bodyP l).length (sz (bodyP l).length) ++ bodyP l := by unfold bytesP; rw [if_neg (by simp [h])]
  rw [hb, List.append_assoc]
  have hr := run_vb (bodyP l).length h4 (bodyP l ++ t)
  obtain ⟨e1, e2, e3⟩ := rd_of hr
  simp only [if_true] at e1 e2
  have e3' : rdE (vb (bodyP l).length (sz (bodyP l).length) ++ (bodyP l ++ t)) = 0 := by rw [e3]; rfl
  have e4 : ((vb (bodyP l).length (sz (bodyP l).length) ++ (bodyP l ++ t)).drop (sz (bodyP l).length)).take (bodyP l).length = bodyP l := by
    rw [List.drop_append_of_le_length (by rw [vb_length]; exact Nat.le_refl _), List.drop_of_length_le (by rw [vb_length]; exact Nat.le_refl _), List.nil_append]
    simp
  unfold readP
  rw [e1, e2, e3', e4, from_body kind l [] _ h2 (by simpa using h1) (Nat.le_refl _)]
  simp only [ne_eq, not_true_eq_false, if_false, List.nil_append, h3, Bool.false_eq_true]
  rw [if_neg (by simp [vb_length])]
  simp [vb_length]

/-! ### What is read is written as the same -/
theorem numP_back {id : Int} {c k : Nat} {r : List UInt8} {p : Pr} (h : numP id c r = (p, k, 0)) : p = ⟨id, num (r.take c), [], []⟩ ∧ k = c ∧ c ≤ r.length ∧ be (num (r.take c)) c = r.take c := by
  unfold numP at h
  split at h
  · simp at h
  · rename_i hl
    simp only [Prod.mk.injEq, and_true] at h
    obtain ⟨rfl, rfl⟩ := h
    refine ⟨rfl, rfl, by omega, ?_⟩
    have := be_of_num (r.take c)
    rwa [List.length_take, Nat.min_eq_left (by omega)] at this
theorem textP_back {data : Bool} {r t : List UInt8} {k : Nat} (h : textP data r = (t, k, 0)) : r.take k = enc2 t ∧ k ≤ r.length ∧ k = (enc2 t).length ∧ (data = false → validOf t = true) ∧ t.length ≤ 65535 := by
  unfold textP at h
  rcases rdB_cases r with ⟨h1, h2, h3, h4, h5⟩ | h1
  · rw [if_neg (by simp [h1])] at h
    split at h
    · rename_i hv
      simp only [Prod.mk.injEq, and_true] at h
      obtain ⟨rfl, rfl⟩ := h
      refine ⟨h5, h3, by rw [enc2_length]; omega, fun e => by simpa [e] using hv, by omega⟩
    · simp at h
  · rw [h1] at h; simp at h
theorem next_back {id : Int} {r : List UInt8} {p : Pr} {k : Nat} (_hs : 1 ≤ shapeP id) (h : nextP id r = (p, k, 0)) : p.id = id ∧ k ≤ r.length ∧ valueP p = r.take k := by
  unfold nextP at h
  unfold valueP
  by_cases s1 : shapeP id = 1
  · rw [if_pos s1] at h
    obtain ⟨rfl, rfl, hl, hb⟩ := numP_back h
    exact ⟨rfl, hl, by simp only [s1, if_true]; exact hb⟩
  by_cases s2 : shapeP id = 2
  · rw [if_neg s1, if_pos s2] at h
    obtain ⟨rfl, rfl, hl, hb⟩ := numP_back h
    exact ⟨rfl, hl, by simp only [s2, if_true, show ¬ (2 : Nat) = 1 by decide, if_false]; exact hb⟩
  by_cases s3 : shapeP id = 3
  · rw [if_neg s1, if_neg s2, if_pos s3] at h
    obtain ⟨rfl, rfl, hl, hb⟩ := numP_back h
    exact ⟨rfl, hl, by simp only [s3, if_true, show ¬ (3 : Nat) = 1 by decide, show ¬ (3 : Nat) = 2 by decide, if_false]; exact hb⟩
  by_cases s4 : shapeP id = 4
  · rw [if_neg s1, if_neg s2, if_neg s3, if_pos s4] at h
    split at h
    · rename_i hne; simp only [Prod.mk.injEq] at h; exact absurd h.2.2 (by decide)
    · rename_i hz
      simp only [Prod.mk.injEq, and_true] at h
      obtain ⟨rfl, rfl⟩ := h
      obtain ⟨v, n, st, hr⟩ : ∃ v n st, run 0 0 r = (v, n, st) := ⟨_, _, _, rfl⟩
      obtain ⟨e1, e2, e3⟩ := rd_of hr
      have hst : st = 1 := by
        rw [e3] at hz
        rcases run_state r 0 0 with h0 | h0 | h0
        all_goals (rw [hr] at h0; simp only at h0; subst h0)
        · simp at hz
        · rfl
        · simp at hz
      subst hst
      obtain ⟨b1, b2, b3, b4⟩ := run_back r v n hr
      simp only [if_true] at e1 e2
      rw [e1, e2]
      refine ⟨rfl, b3, ?_⟩
      simp only [s4, if_true, show ¬ (4 : Nat) = 1 by decide, show ¬ (4 : Nat) = 2 by decide, show ¬ (4 : Nat) = 3 by decide, if_false]
      rw [← b2, b4]
  rw [if_neg s1, if_neg s2, if_neg s3, if_neg s4] at h
  by_cases s7 : shapeP id = 7
  · rw [if_pos s7] at h
    split at h
    · rename_i hne; simp only [Prod.mk.injEq] at h; exact absurd h.2.2 hne
    · rename_i hz1
      split at h
      · rename_i hne; simp only [Prod.mk.injEq] at h; exact absurd h.2.2 hne
      · rename_i hz2
        simp only [Prod.mk.injEq, and_true] at h
        obtain ⟨rfl, rfl⟩ := h
        simp only [ne_eq, Decidable.not_not] at hz1 hz2
        obtain ⟨a1, a2, a3, _, _⟩ := textP_back (data := false) (r := r) (t := (textP false r).1) (k := (textP false r).2.1) (by rw [← hz1])
        obtain ⟨c1, c2, c3, _, _⟩ := textP_back (data := false) (r := r.drop (textP false r).2.1) (t := (textP false (r.drop (textP false r).2.1)).1) (k := (textP false (r.drop (textP false r).2.1)).2.1) (by rw [← hz2])
        rw [List.length_drop] at c2
        refine ⟨rfl, by omega, ?_⟩
        simp only [s7, if_true, show ¬ (7 : Nat) = 1 by decide, show ¬ (7 : Nat) = 2 by decide, show ¬ (7 : Nat) = 3 by decide, show ¬ (7 : Nat) = 4 by decide, if_false]
        rw [← a1, ← c1, List.take_add]
  · rw [if_neg s7] at h
    split at h
    · rename_i hne; simp only [Prod.mk.injEq] at h; exact absurd h.2.2 hne
    · rename_i hz1
      simp only [Prod.mk.injEq, and_true] at h
      obtain ⟨rfl, rfl⟩ := h
      simp only [ne_eq, Decidable.not_not] at hz1
      obtain ⟨a1, a2, a3, _, _⟩ := textP_back (data := (shapeP id == 6)) (r := r) (t := (textP (shapeP id == 6) r).1) (k := (textP (shapeP id == 6) r).2.1) (by rw [← hz1])
      refine ⟨rfl, a2, ?_⟩
      show (if shapeP id = 1 then _ else _) = _
      rw [if_neg s1, if_neg s2, if_neg s3, if_neg s4, if_neg s7]
      exact a1.symm
theorem from_back (kind : Int) : ∀ (f : Nat) (out : List Pr) (s : List UInt8) (l : List Pr), s.length ≤ f → out.length ≤ 1000 → fromP kind f out s = (l, 0) → ∃ m, l = out ++ m ∧ eachP kind out m = 0 ∧ bodyP m = s ∧ l.length ≤ 1000
  | 0, out, s, l, hf, ho, h => by
    have : s = [] := List.eq_nil_of_length_eq_zero (by omega)
    subst this
    simp only [fromP, Prod.mk.injEq, and_true] at h
    subst h
    exact ⟨[], by simp, rfl, rfl, ho⟩
  | f + 1, out, [], l, hf, ho, h => by
    simp only [fromP, Prod.mk.injEq, and_true] at h
    subst h
    exact ⟨[], by simp, rfl, rfl, ho⟩
  | f + 1, out, b :: r, l, hf, ho, h => by
    rw [fromP] at h
    split at h
    · simp at h
    · rename_i hm
      have hm : mayP kind b.toNat = true := by simpa using hm
      split at h
      · rename_i hne; simp only [Prod.mk.injEq] at h; exact absurd h.2 hne
      · rename_i hn0
        split at h
        · rename_i hne; simp only [Prod.mk.injEq] at h; exact absurd h.2 hne
        · rename_i hc
          split at h
          · simp at h
          · rename_i ht
            split at h
            · simp at h
            · rename_i hl
              have hs1 := (row_fits hm).1
              obtain ⟨e1, e2, e3⟩ := next_back (id := b.toNat) (r := r) (p := (nextP b.toNat r).1) (k := (nextP b.toNat r).2.1) hs1 (by
                have : (nextP b.toNat r).2.2 = 0 := by simpa using hn0
                rw [← this])
              generalize (nextP b.toNat r).1 = p at *
              generalize (nextP b.toNat r).2.1 = k at *
              have hc : checkP kind p = 0 := by simpa using hc
              obtain ⟨m, k1, k2, k3, k4⟩ := from_back kind f (out ++ [p]) (r.drop k) l (by rw [List.length_drop]; simp at hf; omega) (by simp; omega) h
              refine ⟨p :: m, by rw [k1]; simp, ?_, ?_, k4⟩
              · rw [eachP, if_neg (by simp [hc]), e1, if_neg ht]
                exact k2
              · rw [bodyP_cons, k3]
                unfold oneP
                rw [e1, e3]
                simp
/-- What is read is as it should be, and is written as the same. -/
theorem read_back {kind : Int} {s : List UInt8} {l : List Pr} {n : Nat} (h : readP kind s = (l, n, 0)) : validP kind l = 0 ∧ n ≤ s.length ∧ (bytesP kind l).1 = s.take n := by
  unfold readP at h
  split at h
  · rename_i hne; simp only [Prod.mk.injEq] at h; exact absurd h.2.2 hne
  · rename_i h0
    split at h
    · simp at h
    · rename_i hle
      split at h
      · rename_i hne; simp only [Prod.mk.injEq] at h; exact absurd h.2.2 hne
      · rename_i hf
        split at h
        · simp at h
        · rename_i hlo
          simp only [Prod.mk.injEq, and_true] at h
          obtain ⟨rfl, rfl⟩ := h
          obtain ⟨v, c, st, hr⟩ : ∃ v n st, run 0 0 s = (v, n, st) := ⟨_, _, _, rfl⟩
          obtain ⟨e1, e2, e3⟩ := rd_of hr
          have hst : st = 1 := by
            rw [e3] at h0
            rcases run_state s 0 0 with h1 | h1 | h1
            all_goals (rw [hr] at h1; simp only at h1; subst h1)
            · simp at h0
            · rfl
            · simp at h0
          subst hst
          obtain ⟨b1, b2, b3, b4⟩ := run_back s v c hr
          simp only [if_true] at e1 e2
          rw [e1, e2] at hle hf hlo
          rw [e1, e2]
          obtain ⟨m, k1, k2, k3, k4⟩ := from_back kind v [] ((s.drop c).take v) (fromP kind v [] ((s.drop c).take v)).1 (by rw [List.length_take]; omega) (by simp) (by
            have : (fromP kind v [] ((s.drop c).take v)).2 = 0 := by simpa using hf
            rw [← this])
          rw [List.nil_append] at k1
          rw [k1] at hlo k4 ⊢
          have hlen : (bodyP m).length = v := by rw [k3, List.length_take, List.length_drop]; omega
          have hv : validP kind m = 0 := by
            unfold validP
            rw [if_neg (by omega), if_neg (by simp [k2]), if_neg hlo, if_neg (by omega)]
          refine ⟨hv, by omega, ?_⟩
          unfold bytesP
          rw [if_neg (by simp [hv])]
          show vb (bodyP m).length (sz (bodyP m).length) ++ bodyP m = _
          rw [hlen, ← b2, ← b4, k3, List.take_add]
end Go.Proofs.YtbgpcmbaodjibaaGreat
