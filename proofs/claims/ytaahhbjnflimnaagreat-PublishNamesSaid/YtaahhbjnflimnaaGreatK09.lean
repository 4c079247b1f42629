/-
  Plain facts on lists of properties: which are as they should be, their bytes, and what is read of bytes: each undoes the other. No condition.
  Reason codes, as plain lists, and as bits of four words. Condition: none. No program.
-/
import Derived.Below
import Derived.Test.YtaahhbjnflimnaaGreatK08
namespace Go.Proofs.YtaahhbjnflimnaaGreat

/-- Is there one of an id? -/
def hasP (l : List Pr) (id : Int) : Bool := l.any fun p => p.id == id
def twiceP (kind : Int) (l : List Pr) (id : Int) : Bool := hasP l id && !manyP kind id
/-- Data without a method. -/
def loneP (l : List Pr) : Bool := hasP l 22 && !hasP l 21
/-- A property's bytes. -/
def oneP (p : Pr) : List UInt8 := UInt8.ofNat p.id.toNat :: valueP p
def bodyP (l : List Pr) : List UInt8 := l.flatMap oneP
/-- The first error of properties behind others. -/
def eachP (kind : Int) : List Pr → List Pr → Nat
  | _, [] => 0
  | pre, p :: l => if checkP kind p ≠ 0 then checkP kind p else if twiceP kind pre p.id then 9 else eachP kind (pre ++ [p]) l
/-- What Valid tells. -/
def validP (kind : Int) (l : List Pr) : Nat :=
  if 1000 < l.length then 4 else if eachP kind [] l ≠ 0 then eachP kind [] l else if loneP l then 9 else if 268435455 < (bodyP l).length then 4 else 0
/-- What Bytes tells. -/
def bytesP (kind : Int) (l : List Pr) : List UInt8 × Nat :=
  if validP kind l ≠ 0 then ([], validP kind l) else (vb (bodyP l).length (sz (bodyP l).length) ++ bodyP l, 0)
/-- What is read of a list's bytes behind others, with room for so many rounds. -/
def fromP (kind : Int) : Nat → List Pr → List UInt8 → List Pr × Nat
  | 0, out, _ => (out, 0)
  | f + 1, out, s => match s with
    | [] => (out, 0)
    | b :: r =>
      if mayP kind b.toNat = false then ([], 9)
      else if (nextP b.toNat r).2.2 ≠ 0 then ([], (nextP b.toNat r).2.2)
      else if checkP kind (nextP b.toNat r).1 ≠ 0 then ([], checkP kind (nextP b.toNat r).1)
      else if twiceP kind out b.toNat then ([], 9)
      else if 1000 ≤ out.length then ([], 4)
      else fromP kind f (out ++ [(nextP b.toNat r).1]) (r.drop (nextP b.toNat r).2.1)
/-- What Read tells: the list, how many bytes, the error. -/
def readP (kind : Int) (s : List UInt8) : List Pr × Nat × Nat :=
  if rdE s ≠ 0 then ([], 0, rdE s)
  else if s.length < rdN s + rdV s then ([], 0, 3)
  else if (fromP kind (rdV s) [] ((s.drop (rdN s)).take (rdV s))).2 ≠ 0 then ([], 0, (fromP kind (rdV s) [] ((s.drop (rdN s)).take (rdV s))).2)
  else if loneP (fromP kind (rdV s) [] ((s.drop (rdN s)).take (rdV s))).1 then ([], 0, 9)
  else ((fromP kind (rdV s) [] ((s.drop (rdN s)).take (rdV s))).1, rdN s + rdV s, 0)

theorem bodyP_nil : bodyP [] = [] := rfl
theorem bodyP_cons (p : Pr) (l : List Pr) : bodyP (p :: l) = oneP p ++ bodyP l := rfl
theorem bodyP_append (a b : List Pr) : bodyP (a ++ b) = bodyP a ++ bodyP b := by simp [bodyP]
theorem oneP_length (p : Pr) : (oneP p).length = (valueP p).length + 1 := rfl
theorem id_byte {kind : Int} {p : Pr} (h : mayP kind p.id = true) : (((UInt8.ofNat p.id.toNat).toNat : Nat) : Int) = p.id := by
  have := may_range h
  rw [UInt8.toNat_ofNat']
  omega
/-- A list's bytes are read as it, behind whatever was read. -/
theorem from_body (kind : Int) : ∀ (l pre : List Pr) (f : Nat), eachP kind pre l = 0 → pre.length + l.length ≤ 1000 → (bodyP l).length ≤ f → fromP kind f pre (bodyP l) = (pre ++ l, 0)
  | [], pre, f, _, _, _ => by
    cases f with
    | zero => simp [fromP]
    | succ f => simp [fromP, bodyP_nil]
  | p :: l, pre, f, he, hl, hf => by
    rw [eachP] at he
    split at he
    · rename_i h; exact absurd he h
    · rename_i hc
      have hc : checkP kind p = 0 := by simpa using hc
      split at he
      · cases he
      · rename_i ht
        have hm := (check_parts hc).1
        have hid := id_byte hm
        rw [bodyP_cons, List.length_append, oneP_length] at hf
        cases f with
        | zero => omega
        | succ f =>
          have hn := next_value hc (bodyP l)
          rw [bodyP_cons]
          show fromP kind (f + 1) pre (UInt8.ofNat p.id.toNat :: (valueP p ++ bodyP l)) = _
          rw [fromP]
          simp only [hid, hn, hm]
          rw [if_neg (by simp), if_neg (by simp), if_neg (by simp [hc]), if_neg ht, if_neg (by simp at hl; omega)]
          rw [List.drop_left, from_body kind l (pre ++ [p]) f he (by simp at hl ⊢; omega) (by omega)]
          simp
theorem valid_parts {kind : Int} {l : List Pr} (h : validP kind l = 0) : l.length ≤ 1000 ∧ eachP kind [] l = 0 ∧ loneP l = false ∧ (bodyP l).length ≤ 268435455 := by
  unfold validP at h
  split at h
  · cases h
  · split at h
    · rename_i h2; exact absurd h h2
    · split at h
      · cases h
      · split at h
        · cases h
        · refine ⟨by omega, by simp_all, by simp_all, by omega⟩
/-- A list is read from its bytes, whatever follows. -/
theorem read_bytes {kind : Int} {l : List Pr} (h : validP kind l = 0) (t : List UInt8) : readP kind ((bytesP kind l).1 ++ t) = (l, (bytesP kind l).1.length, 0) := by
  obtain ⟨h1, h2, h3, h4⟩ := valid_parts h
  have hb : (bytesP kind l).1 = vb (bodyP l).length (sz (bodyP l).length) ++ bodyP l := by unfold bytesP; rw [if_neg (by simp [h])]
  rw [hb, List.append_assoc]
  have hr := run_vb (bodyP l).length h4 (bodyP l ++ t)
  obtain ⟨e1, e2, e3⟩ := rd_of hr
  simp only [if_true] at e1 e2
  have e3' : rdE (vb (bodyP l).length (sz (bodyP l).length) ++ (bodyP l ++ t)) = 0 := by rw [e3]; rfl
  have e4 : ((vb (bodyP l).length (sz (bodyP l).length) ++ (bodyP l ++ t)).drop (sz (bodyP l).length)).take (bodyP l).length = bodyP l := by
    rw [List.drop_append_of_le_length (by rw [vb_length]; exact Nat.le_refl _), List.drop_of_length_le (by rw [vb_length]; exact Nat.le_refl _), List.nil_append]
    simp
  unfold readP
  rw [e1, e2, e3', e4, from_body kind l [] _ h2 (by simpa using h1) (Nat.le_refl _)]
  simp only [ne_eq, not_true_eq_false, if_false, List.nil_append, h3, Bool.false_eq_true]
  rw [if_neg (by simp [vb_length])]
  simp [vb_length]

/-! ### What is read is written as the same -/
theorem numP_back {id : Int} {c k : Nat} {r : List UInt8} {p : Pr} (h : numP id c r = (p, k, 0)) : p = ⟨id, num (r.take c), [], []⟩ ∧ k = c ∧ c ≤ r.length ∧ be (num (r.take c)) c = r.take c := by
  unfold numP at h
  split at h
  · simp at h
  · rename_i hl
    simp only [Prod.mk.injEq, and_true] at h
    obtain ⟨rfl, rfl⟩ := h
    refine ⟨rfl, rfl, by omega, ?_⟩
    have := be_of_num (r.take c)
    rwa [List.length_take, Nat.min_eq_left (by omega)] at this
theorem textP_back {data : Bool} {r t : List UInt8} {k : Nat} (h : textP data r = (t, k, 0)) : r.take k = enc2 t ∧ k ≤ r.length ∧ k = (enc2 t).length ∧ (data = false → validOf t = true) ∧ t.length ≤ 65535 := by
  unfold textP at h
  rcases rdB_cases r with ⟨h1, h2, h3, h4, h5⟩ | h1
  · rw [if_neg (by simp [h1])] at h
    split at h
    · rename_i hv
      simp only [Prod.mk.injEq, and_true] at h
      obtain ⟨rfl, rfl⟩ := h
      refine ⟨h5, h3, by rw [enc2_length]; omega, fun e => by simpa [e] using hv, by omega⟩
    · simp at h
  · rw [h1] at h; simp at h
theorem next_back {id : Int} {r : List UInt8} {p : Pr} {k : Nat} (_hs : 1 ≤ shapeP id) (h : nextP id r = (p, k, 0)) : p.id = id ∧ k ≤ r.length ∧ valueP p = r.take k := by
  unfold nextP at h
  unfold valueP
  by_cases s1 : shapeP id = 1
  · rw [if_pos s1] at h
    obtain ⟨rfl, rfl, hl, hb⟩ := numP_back h
    exact ⟨rfl, hl, by simp only [s1, if_true]; exact hb⟩
  by_cases s2 : shapeP id = 2
  · rw [if_neg s1, if_pos s2] at h
    obtain ⟨rfl, rfl, hl, hb⟩ := numP_back h
    exact ⟨rfl, hl, by simp only [s2, if_true, show ¬ (2 : Nat) = 1 by decide, if_false]; exact hb⟩
  by_cases s3 : shapeP id = 3
  · rw [if_neg s1, if_neg s2, if_pos s3] at h
    obtain ⟨rfl, rfl, hl, hb⟩ := numP_back h
    exact ⟨rfl, hl, by simp only [s3, if_true, show ¬ (3 : Nat) = 1 by decide, show ¬ (3 : Nat) = 2 by decide, if_false]; exact hb⟩
  by_cases s4 : shapeP id = 4
  · rw [if_neg s1, if_neg s2, if_neg s3, if_pos s4] at h
    split at h
    · rename_i hne; simp only [Prod.mk.injEq] at h; exact absurd h.2.2 (by decide)
    · rename_i hz
      simp only [Prod.mk.injEq, and_true] at h
      obtain ⟨rfl, rfl⟩ := h
      obtain ⟨v, n, st, hr⟩ : ∃ v n st, run 0 0 r = (v, n, st) := ⟨_, _, _, rfl⟩
      obtain ⟨e1, e2, e3⟩ := rd_of hr
      have hst : st = 1 := by
        rw [e3] at hz
        rcases run_state r 0 0 with h0 | h0 | h0
        all_goals (rw [hr] at h0; simp only at h0; subst h0)
        · simp at hz
        · rfl
        · simp at hz
      subst hst
      obtain ⟨b1, b2, b3, b4⟩ := run_back r v n hr
      simp only [if_true] at e1 e2
      rw [e1, e2]
      refine ⟨rfl, b3, ?_⟩
      simp only [s4, if_true, show ¬ (4 : Nat) = 1 by decide, show ¬ (4 : Nat) = 2 by decide, show ¬ (4 : Nat) = 3 by decide, if_false]
      rw [← b2, b4]
  rw [if_neg s1, if_neg s2, if_neg s3, if_neg s4] at h
  by_cases s7 : shapeP id = 7
  · rw [if_pos s7] at h
    split at h
    · rename_i hne; simp only [Prod.mk.injEq] at h; exact absurd h.2.2 hne
    · rename_i hz1
      split at h
      · rename_i hne; simp only [Prod.mk.injEq] at h; exact absurd h.2.2 hne
      · rename_i hz2
        simp only [Prod.mk.injEq, and_true] at h
        obtain ⟨rfl, rfl⟩ := h
        simp only [ne_eq, Decidable.not_not] at hz1 hz2
        obtain ⟨a1, a2, a3, _, _⟩ := textP_back (data := false) (r := r) (t := (textP false r).1) (k := (textP false r).2.1) (by rw [← hz1])
        obtain ⟨c1, c2, c3, _, _⟩ := textP_back (data := false) (r := r.drop (textP false r).2.1) (t := (textP false (r.drop (textP false r).2.1)).1) (k := (textP false (r.drop (textP false r).2.1)).2.1) (by rw [← hz2])
        rw [List.length_drop] at c2
        refine ⟨rfl, by omega, ?_⟩
        simp only [s7, if_true, show ¬ (7 : Nat) = 1 by decide, show ¬ (7 : Nat) = 2 by decide, show ¬ (7 : Nat) = 3 by decide, show ¬ (7 : Nat) = 4 by decide, if_false]
        rw [← a1, ← c1, List.take_add]
  · rw [if_neg s7] at h
    split at h
    · rename_i hne; simp only [Prod.mk.injEq] at h; exact absurd h.2.2 hne
    · rename_i hz1
      simp only [Prod.mk.injEq, and_true] at h
      obtain ⟨rfl, rfl⟩ := h
      simp only [ne_eq, Decidable.not_not] at hz1
      obtain ⟨a1, a2, a3, _, _⟩ := textP_back (data := (shapeP id == 6)) (r := r) (t := (textP (shapeP id == 6) r).1) (k := (textP (shapeP id == 6) r).2.1) (by rw [← hz1])
      refine ⟨rfl, a2, ?_⟩
      show (if shapeP id = 1 then _ else _) = _
      rw [if_neg s1, if_neg s2, if_neg s3, if_neg s4, if_neg s7]
      exact a1.symm
theorem from_back (kind : Int) : ∀ (f : Nat) (out : List Pr) (s : List UInt8) (l : List Pr), s.length ≤ f → out.length ≤ 1000 → fromP kind f out s = (l, 0) → ∃ m, l = out ++ m ∧ eachP kind out m = 0 ∧ bodyP m = s ∧ l.length ≤ 1000
  | 0, out, s, l, hf, ho, h => by
    have : s = [] := List.eq_nil_of_length_eq_zero (by omega)
    subst this
    simp only [fromP, Prod.mk.injEq, and_true] at h
    subst h
    exact ⟨[], by simp, rfl, rfl, ho⟩
  | f + 1, out, [], l, hf, ho, h => by
    simp only [fromP, Prod.mk.injEq, and_true] at h
    subst h
    exact ⟨[], by simp, rfl, rfl, ho⟩
  | f + 1, out, b :: r, l, hf, ho, h => by
    rw [fromP] at h
    split at h
    · simp at h
    · rename_i hm
      have hm : mayP kind b.toNat = true := by simpa using hm
      split at h
      · rename_i hne; simp only [Prod.mk.injEq] at h; exact absurd h.2 hne
      · rename_i hn0
        split at h
        · rename_i hne; simp only [Prod.mk.injEq] at h; exact absurd h.2 hne
        · rename_i hc
          split at h
          · simp at h
          · rename_i ht
            split at h
            · simp at h
            · rename_i hl
              have hs1 := (row_fits hm).1
              obtain ⟨e1, e2, e3⟩ := next_back (id := b.toNat) (r := r) (p := (nextP b.toNat r).1) (k := (nextP b.toNat r).2.1) hs1 (by
                have : (nextP b.toNat r).2.2 = 0 := by simpa using hn0
                rw [← this])
              generalize (nextP b.toNat r).1 = p at *
              generalize (nextP b.toNat r).2.1 = k at *
              have hc : checkP kind p = 0 := by simpa using hc
              obtain ⟨m, k1, k2, k3, k4⟩ := from_back kind f (out ++ [p]) (r.drop k) l (by rw [List.length_drop]; simp at hf; omega) (by simp; omega) h
              refine ⟨p :: m, by rw [k1]; simp, ?_, ?_, k4⟩
              · rw [eachP, if_neg (by simp [hc]), e1, if_neg ht]
                exact k2
              · rw [bodyP_cons, k3]
                unfold oneP
                rw [e1, e3]
                simp
/-- What is read is as it should be, and is written as the same. -/
theorem read_back {kind : Int} {s : List UInt8} {l : List Pr} {n : Nat} (h : readP kind s = (l, n, 0)) : validP kind l = 0 ∧ n ≤ s.length ∧ (bytesP kind l).1 = s.take n := by
  unfold readP at h
  split at h
  · rename_i hne; simp only [Prod.mk.injEq] at h; exact absurd h.2.2 hne
  · rename_i h0
    split at h
    · simp at h
    · rename_i hle
      split at h
      · rename_i hne; simp only [Prod.mk.injEq] at h; exact absurd h.2.2 hne
      · rename_i hf
        split at h
        · simp at h
        · rename_i hlo
          simp only [Prod.mk.injEq, and_true] at h
          obtain ⟨rfl, rfl⟩ := h
          obtain ⟨v, c, st, hr⟩ : ∃ v n st, run 0 0 s = (v, n, st) := ⟨_, _, _, rfl⟩
          obtain ⟨e1, e2, e3⟩ := rd_of hr
          have hst : st = 1 := by
            rw [e3] at h0
            rcases run_state s 0 0 with h1 | h1 | h1
            all_goals (rw [hr] at h1; simp only at h1; subst h1)
            · simp at h0
            · rfl
            · simp at h0
          subst hst
          obtain ⟨b1, b2, b3, b4⟩ := run_back s v c hr
          simp only [if_true] at e1 e2
          rw [e1, e2] at hle hf hlo
          rw [e1, e2]
          obtain ⟨m, k1, k2, k3, k4⟩ := from_back kind v [] ((s.drop c).take v) (fromP kind v [] ((s.drop c).take v)).1 (by rw [List.length_take]; omega) (by simp) (by
            have : (fromP kind v [] ((s.drop c).take v)).2 = 0 := by simpa using hf
            rw [← this])
          rw [List.nil_append] at k1
          rw [k1] at hlo k4 ⊢
          have hlen : (bodyP m).length = v := by rw [k3, List.length_take, List.length_drop]; omega
          have hv : validP kind m = 0 := by
            unfold validP
            rw [if_neg (by omega), if_neg (by simp [k2]), if_neg hlo, if_neg (by omega)]
          refine ⟨hv, by omega, ?_⟩
          unfold bytesP
          rw [if_neg (by simp [hv])]
          show vb (bodyP m).length (sz (bodyP m).length) ++ bodyP m = _
          rw [hlen, ← b2, ← b4, k3, List.take_add]
end Go.Proofs.YtaahhbjnflimnaaGreat
namespace Go.Proofs.YtaahhbjnflimnaaGreat

/-- Four words. -/
structure W4 where
  a : Nat
  b : Nat
  c : Nat
  d : Nat
def setc (s : W4) (n : Nat) : W4 :=
  if n < 64 then { s with a := s.a ||| 2 ^ (n % 64) } else if n < 128 then { s with b := s.b ||| 2 ^ (n % 64) } else if n < 192 then { s with c := s.c ||| 2 ^ (n % 64) } else { s with d := s.d ||| 2 ^ (n % 64) }
def addR (s : W4) (f : Nat) : Nat → W4
  | 0 => s
  | n + 1 => setc (addR s f n) (f + n)
def ofL (l : List Nat) : W4 := l.foldl setc ⟨0, 0, 0, 0⟩
def word (s : W4) (n : Nat) : Nat := if n < 64 then s.a else if n < 128 then s.b else if n < 192 then s.c else s.d
def hasW (s : W4) (n : Nat) : Bool := decide (n < 256) && (word s n / 2 ^ (n % 64) % 2 == 1)
structure OkW (s : W4) : Prop where
  a : s.a < 18446744073709551616
  b : s.b < 18446744073709551616
  c : s.c < 18446744073709551616
  d : s.d < 18446744073709551616
theorem or_lt {x n : Nat} (hx : x < 18446744073709551616) (hn : n < 64) : x ||| 2 ^ n < 18446744073709551616 :=
  Nat.or_lt_two_pow (n := 64) hx (Nat.pow_lt_pow_right (by decide) hn)
theorem OkW.setc {s : W4} (h : OkW s) (n : Nat) : OkW (setc s n) := by
  have hn : n % 64 < 64 := Nat.mod_lt _ (by decide)
  unfold Proofs.YtaahhbjnflimnaaGreat.setc
  split
  · exact ⟨or_lt h.a hn, h.b, h.c, h.d⟩
  split
  · exact ⟨h.a, or_lt h.b hn, h.c, h.d⟩
  split
  · exact ⟨h.a, h.b, or_lt h.c hn, h.d⟩
  · exact ⟨h.a, h.b, h.c, or_lt h.d hn⟩
theorem OkW.addR {s : W4} (h : OkW s) (f : Nat) : ∀ n, OkW (addR s f n)
  | 0 => h
  | n + 1 => (OkW.addR h f n).setc _
theorem okW_fold : ∀ (l : List Nat) (s : W4), OkW s → OkW (l.foldl setc s)
  | [], _, h => h
  | n :: l, _, h => okW_fold l _ (h.setc n)
theorem OkW.ofL (l : List Nat) : OkW (ofL l) := okW_fold l _ ⟨by decide, by decide, by decide, by decide⟩

/-- The groups of kinds. -/
def grp (kind : Int) : Nat :=
  if kind = 2 then 1 else if kind = 4 ∨ kind = 5 then 2 else if kind = 6 ∨ kind = 7 then 3 else if kind = 9 then 4 else if kind = 11 then 5 else if kind = 14 then 6 else if kind = 15 then 7 else 0
def codesG : Nat → List Nat
  | 1 => [0, 128, 129, 130, 131, 132, 133, 134, 135, 136, 137, 138, 140, 144, 149, 151, 153, 154, 155, 156, 157, 159]
  | 2 => [0, 16, 128, 131, 135, 144, 145, 151, 153]
  | 3 => [0, 146]
  | 4 => [0, 1, 2, 128, 131, 135, 143, 145, 151, 158, 161, 162]
  | 5 => [0, 17, 128, 131, 135, 143, 145]
  | 6 => [0, 4, 128, 129, 130, 131, 135, 137, 139, 141, 142, 143, 144, 147, 148, 149, 150, 151, 152, 153, 154, 155, 156, 157, 158, 159, 160, 161, 162]
  | 7 => [0, 24, 25]
  | _ => []
def wordsG : Nat → W4
  | 1 => addR (addR (ofL [0, 140, 144, 149, 151, 159]) 128 11) 153 5
  | 2 => ofL [0, 16, 128, 131, 135, 144, 145, 151, 153]
  | 3 => ofL [0, 146]
  | 4 => ofL [0, 1, 2, 128, 131, 135, 143, 145, 151, 158, 161, 162]
  | 5 => ofL [0, 17, 128, 131, 135, 143, 145]
  | 6 => addR (addR (ofL [0, 4, 135, 137, 139, 141, 142, 143, 144]) 128 4) 147 16
  | 7 => ofL [0, 24, 25]
  | _ => ⟨0, 0, 0, 0⟩
theorem grp_lt (kind : Int) : grp kind < 8 := by
  unfold grp
  repeat' (first | decide | split)
theorem okW_wordsG : ∀ g, OkW (wordsG g)
  | 0 => ⟨by decide, by decide, by decide, by decide⟩
  | 1 => ((OkW.ofL _).addR _ _).addR _ _
  | 2 => OkW.ofL _
  | 3 => OkW.ofL _
  | 4 => OkW.ofL _
  | 5 => OkW.ofL _
  | 6 => ((OkW.ofL _).addR _ _).addR _ _
  | 7 => OkW.ofL _
  | n + 8 => show OkW ⟨0, 0, 0, 0⟩ from ⟨by decide, by decide, by decide, by decide⟩
theorem has_tab : ∀ g < 8, ∀ n < 256, hasW (wordsG g) n = (codesG g).contains n := by decide +kernel
theorem codes_lt : ∀ g < 8, ∀ n ∈ codesG g, n < 163 := by decide +kernel
theorem hasW_spec (kind : Int) (n : Nat) : hasW (wordsG (grp kind)) n = (codesG (grp kind)).contains n := by
  by_cases hn : n < 256
  · exact has_tab _ (grp_lt kind) n hn
  · have h1 : (codesG (grp kind)).contains n = false := by
      rw [Bool.eq_false_iff]
      intro h
      have := codes_lt _ (grp_lt kind) n (List.contains_iff_mem.1 h)
      omega
    rw [h1]
    unfold hasW
    simp [hn]
/-- May the kind have the code? -/
def mayR (kind code : Int) : Bool := decide (0 ≤ code) && (codesG (grp kind)).contains code.toNat
/-- All of a kind, in order. -/
def allR (kind : Int) : List Nat := codesG (grp kind)
/-- The first n numbers that are among them. -/
def upto (g n : Nat) : List Nat := (List.range n).filter fun c => (codesG g).contains c
theorem upto_succ (g n : Nat) : upto g (n + 1) = if (codesG g).contains n then upto g n ++ [n] else upto g n := by
  unfold upto
  rw [List.range_succ, List.filter_append]
  by_cases h : (codesG g).contains n = true
  · rw [if_pos h]; simp only [List.filter_cons, h, if_true, List.filter_nil]
  · rw [if_neg h]; simp only [List.filter_cons, h, List.filter_nil]; simp
theorem upto_tab : ∀ g < 8, upto g 256 = codesG g := by decide +kernel
theorem upto_all (kind : Int) : upto (grp kind) 256 = allR kind := upto_tab _ (grp_lt kind)
theorem upto_length (g n : Nat) : (upto g n).length ≤ n := by
  unfold upto
  exact Nat.le_trans (List.length_filter_le _ _) (by simp)
/-- Does any kind have the code? -/
def knownR (code : Int) : Bool := (List.range 17).any fun k => mayR (k : Int) code
def hexD (n : Nat) : UInt8 := if n < 10 then UInt8.ofNat (48 + n) else UInt8.ofNat (87 + n)
def textR (code : Int) : List UInt8 := if knownR code then [hexD (code.toNat / 16), hexD (code.toNat % 16)] else [63]
def laterR : List Int := [0, 132, 133, 136, 134, 135]
def returnR (code : Int) : Bool := decide (0 ≤ code) && decide (code < 6)
def to5R (code : Int) : Int × Bool := if returnR code then (laterR.getD code.toNat 0, true) else (0, false)
def to311R (code : Int) : Int × Bool :=
  if code = 0 then (0, true) else if code = 132 then (1, true) else if code = 133 then (2, true) else if code = 136 then (3, true) else if code = 134 then (4, true) else if code = 135 then (5, true) else (0, false)
def grantR (code : Int) : Bool := code == 0 || code == 1 || code == 2 || code == 128
def badR (code : Int) : Bool := decide (128 ≤ code) && decide (code < 256)
theorem known_range {code : Int} (h : knownR code = true) : 0 ≤ code ∧ code < 163 := by
  unfold knownR at h
  rw [List.any_eq_true] at h
  obtain ⟨k, _, hk⟩ := h
  unfold mayR at hk
  rw [Bool.and_eq_true, decide_eq_true_eq] at hk
  have := codes_lt _ (grp_lt _) _ (List.contains_iff_mem.1 hk.2)
  omega
end Go.Proofs.YtaahhbjnflimnaaGreat
