/-
  Plain facts: primitive values of AMQP: constructors, what may be, what is written and read with each constructor. No condition.
-/
import Derived.Test.YtjbgnlnchchgcaaDoorOctNums
import Derived.Test.YtjbgnlnchchgcaaDoorUsPlain
namespace Go.Proofs.YtjbgnlnchchgcaaDoor

/-- A constructor. -/
structure Ct where
  code : Nat
  kind : Nat
  width : Nat
  sized : Bool
  items : Bool
deriving DecidableEq
/-- All constructors, those of a kind from the one with the fewest bytes on. -/
def tabA : List Ct :=
  [⟨64, 1, 0, false, false⟩, ⟨65, 2, 0, false, false⟩, ⟨66, 2, 0, false, false⟩, ⟨86, 2, 1, false, false⟩, ⟨80, 3, 1, false, false⟩, ⟨96, 4, 2, false, false⟩, ⟨67, 5, 0, false, false⟩, ⟨82, 5, 1, false, false⟩, ⟨112, 5, 4, false, false⟩,
   ⟨68, 6, 0, false, false⟩, ⟨83, 6, 1, false, false⟩, ⟨128, 6, 8, false, false⟩, ⟨81, 7, 1, false, false⟩, ⟨97, 8, 2, false, false⟩, ⟨84, 9, 1, false, false⟩, ⟨113, 9, 4, false, false⟩, ⟨85, 10, 1, false, false⟩, ⟨129, 10, 8, false, false⟩,
   ⟨114, 11, 4, false, false⟩, ⟨130, 12, 8, false, false⟩, ⟨116, 13, 4, false, false⟩, ⟨132, 14, 8, false, false⟩, ⟨148, 15, 16, false, false⟩, ⟨115, 16, 4, false, false⟩, ⟨131, 17, 8, false, false⟩, ⟨152, 18, 16, false, false⟩,
   ⟨160, 19, 1, true, false⟩, ⟨176, 19, 4, true, false⟩, ⟨161, 20, 1, true, false⟩, ⟨177, 20, 4, true, false⟩, ⟨163, 21, 1, true, false⟩, ⟨179, 21, 4, true, false⟩,
   ⟨69, 22, 0, false, true⟩, ⟨192, 22, 1, true, true⟩, ⟨208, 22, 4, true, true⟩, ⟨193, 23, 1, true, true⟩, ⟨209, 23, 4, true, true⟩, ⟨224, 24, 1, true, true⟩, ⟨240, 24, 4, true, true⟩, ⟨0, 25, 0, false, true⟩]
def ofA (c : Int) : Option Ct := tabA.find? fun t => (t.code : Int) == c
def codesA (k : Int) : List Ct := tabA.filter fun t => (t.kind : Int) == k
/-- A scalar: its kind, its number, its text; how many values it has inside. -/
structure Sv where
  kind : Int
  n : Nat
  text : List UInt8
  items : Nat
deriving DecidableEq
def Sv.zero : Sv := ⟨0, 0, [], 0⟩
/-- How many bits a kind's number has; below 0: signed ones. -/
def bitsA (k : Int) : Int :=
  if k = 2 then 1 else if k = 3 then 8 else if k = 4 then 16 else if k = 5 ∨ k = 11 ∨ k = 13 ∨ k = 16 then 32 else if k = 6 ∨ k = 12 ∨ k = 14 ∨ k = 17 ∨ k = 10 then 64 else if k = 7 then -8 else if k = 8 then -16 else if k = 9 then -32 else 0
def signedA (n b : Nat) : Bool := decide (n < 2 ^ (b - 1)) || decide (18446744073709551616 - 2 ^ (b - 1) ≤ n)
def charA (n : Nat) : Bool := decide (n ≤ 1114111) && (decide (n < 55296) || decide (57343 < n))
def rangedA (k : Int) (n : Nat) : Bool :=
  if k = 16 then charA n else if bitsA k = 0 then n == 0 else if bitsA k < 0 then signedA n (-bitsA k).toNat else if bitsA k = 64 then true else decide (n < 2 ^ (bitsA k).toNat)
def textsA (k : Int) : Bool := k == 15 || (decide (18 ≤ k) && decide (k ≤ 21))
/-- Is a text UTF-8 (zero characters allowed)? -/
def utfA : Nat → List UInt8 → Bool
  | _, [] => true
  | 0, _ :: _ => false
  | n + 1, b :: l => if (dl (b :: l)).1 = 65533 ∧ (dl (b :: l)).2 = 1 then false else utfA n ((b :: l).drop (dl (b :: l)).2)
def asciiA (l : List UInt8) : Bool := l.all fun b => decide (b.toNat < 128)
/-- What Check tells. -/
def checkV (v : Sv) : Nat :=
  if v.kind < 1 ∨ 21 < v.kind then 8
  else if (rangedA v.kind v.n && v.items == 0 && (textsA v.kind || v.text.isEmpty) && (!(v.kind == 15 || v.kind == 18) || v.text.length == 16)) = false then 2
  else if 1048576 < v.text.length then 4
  else if (v.kind = 20 ∧ utfA v.text.length v.text = false) ∨ (v.kind = 21 ∧ asciiA v.text = false) then 6 else 0
/-- Can a constructor express a valid value of its kind? -/
def fitsC (t : Ct) (v : Sv) : Bool :=
  if t.code = 65 then v.n == 1 else if t.width = 0 then v.n == 0 else if t.sized && t.width == 1 then decide (v.text.length < 256)
  else if t.code = 82 ∨ t.code = 83 then decide (v.n < 256) else if t.code = 84 ∨ t.code = 85 then signedA v.n 8 else true
def fitsV (c : Int) (v : Sv) : Bool := match ofA c with | none => false | some t => (t.kind : Int) == v.kind && checkV v == 0 && fitsC t v
def leastV (v : Sv) : Int × Nat := if checkV v ≠ 0 then (0, checkV v) else match (codesA v.kind).find? (fun t => fitsC t v) with | some t => ((t.code : Int), 0) | none => (0, 2)
/-- A value's data with a constructor. -/
def dataV (t : Ct) (v : Sv) : List UInt8 := if t.sized then be v.text.length t.width ++ v.text else if t.width = 16 then v.text else be v.n t.width
def putV (c : Int) (v : Sv) : List UInt8 × Nat := if checkV v ≠ 0 then ([], checkV v) else match ofA c with | none => ([], 2) | some t => if ((t.kind : Int) == v.kind && fitsC t v) = false then ([], 2) else (dataV t v, 0)
/-- The number that so many bytes' number stands for. -/
def wholeV (n : Nat) (k : Int) (w : Nat) : Nat := if (bitsA k < 0 ∨ k = 10) ∧ 2 ^ (8 * w - 1) ≤ n then n + 18446744073709551616 - 2 ^ (8 * w) else n
/-- What a constructor's data stand for, before they are checked: the value and how many bytes; or too short. -/
def partV (t : Ct) (l : List UInt8) : Option (Sv × Nat) :=
  if l.length < t.width then none
  else if t.sized then (if l.length - t.width < num (l.take t.width) then none else some (⟨t.kind, 0, (l.drop t.width).take (num (l.take t.width)), 0⟩, t.width + num (l.take t.width)))
  else if t.width = 16 then some (⟨t.kind, 0, l.take 16, 0⟩, 16)
  else if t.code = 65 then some (⟨t.kind, 1, [], 0⟩, 0)
  else some (⟨t.kind, wholeV (num (l.take t.width)) t.kind t.width, [], 0⟩, t.width)
def getV (c : Int) (l : List UInt8) : Sv × Nat × Nat :=
  match ofA c with
  | none => (Sv.zero, 0, 8)
  | some t =>
    if t.items then (Sv.zero, 0, 8)
    else match partV t l with
      | none => (Sv.zero, 0, 3)
      | some r => if checkV r.1 = 0 then (r.1, r.2, 0) else (Sv.zero, 0, if checkV r.1 = 2 then 5 else checkV r.1)
theorem of_mem {c : Int} {t : Ct} (h : ofA c = some t) : t ∈ tabA ∧ (t.code : Int) = c := by
  unfold ofA at h
  exact ⟨List.mem_of_find?_eq_some h, by simpa using List.find?_some h⟩
theorem check_v {v : Sv} (h : checkV v = 0) : (1 ≤ v.kind ∧ v.kind ≤ 21) ∧ rangedA v.kind v.n = true ∧ v.items = 0 ∧ (textsA v.kind = false → v.text = []) ∧ (v.kind = 15 ∨ v.kind = 18 → v.text.length = 16) ∧ v.text.length ≤ 1048576 := by
  unfold checkV at h
  split at h
  · cases h
  split at h
  · cases h
  split at h
  · cases h
  rename_i h1 h2 h3
  simp only [Bool.not_eq_false, Bool.and_eq_true, Bool.or_eq_true, Bool.not_eq_true', beq_iff_eq, List.isEmpty_iff, Bool.or_eq_false_iff, beq_eq_false_iff_ne] at h2
  refine ⟨by omega, h2.1.1.1, h2.1.1.2, fun e => ?_, fun e => ?_, by omega⟩
  · rcases h2.1.2 with h | h
    · rw [e] at h; cases h
    · exact h
  · rcases h2.2 with h | h
    · omega
    · exact h
/-- The constructors without values inside, of a number: what fits is no more than their bytes, and stands for itself. -/
theorem whole_fit : ∀ t ∈ tabA, t.items = false → t.sized = false → t.width ≠ 16 → t.code ≠ 65 → ∀ n : Nat, n < 18446744073709551616 → rangedA t.kind n = true → (∀ v : Sv, v.n = n → fitsC t v = true → wholeV (n % 256 ^ t.width) t.kind t.width = n) := by
  intro t ht hi hs h16 h65 n hn hr v hv hf
  simp only [tabA, List.mem_cons, List.not_mem_nil, or_false] at ht
  rcases ht with rfl | rfl | rfl | rfl | rfl | rfl | rfl | rfl | rfl | rfl | rfl | rfl | rfl | rfl | rfl | rfl | rfl | rfl | rfl | rfl | rfl | rfl | rfl | rfl | rfl | rfl | rfl | rfl | rfl | rfl | rfl | rfl | rfl | rfl | rfl | rfl | rfl | rfl | rfl | rfl
  all_goals first
    | (simp at hi; done)
    | (simp at hs; done)
    | (simp at h16; done)
    | (simp at h65; done)
    | (simp [wholeV, bitsA, rangedA, fitsC, signedA, charA, hv] at hr hf ⊢
       first | omega | (split <;> omega) | done)
theorem be_mod (c : Nat) : ∀ n, be (n % 256 ^ c) c = be n c := by
  intro n
  have h1 := be_of_num (be n c)
  rw [num_be, be_length] at h1
  exact h1
theorem data_length {t : Ct} {v : Sv} (h16 : t.sized = false → t.width = 16 → v.text.length = 16) : (dataV t v).length = if t.sized then t.width + v.text.length else t.width := by
  unfold dataV
  cases hs : t.sized
  · by_cases hw : t.width = 16
    · simp [hw, h16 hs hw]
    · simp [hw, be_length]
  · simp [be_length]
/-- What kinds the constructors with a size, and those of 16 bytes, are of. -/
theorem tab_sized : ∀ t ∈ tabA, t.items = false → (t.sized = true → (t.width = 1 ∨ t.width = 4) ∧ 19 ≤ t.kind ∧ t.kind ≤ 21 ∧ t.code ≠ 65 ∧ t.code ≠ 82 ∧ t.code ≠ 83 ∧ t.code ≠ 84 ∧ t.code ≠ 85) ∧ (t.sized = false → t.width = 16 → t.kind = 15 ∨ t.kind = 18) ∧ (t.sized = false → t.width ≠ 16 → textsA t.kind = false ∧ t.kind ≠ 15 ∧ t.kind ≠ 18 ∧ t.width ≤ 8 ∧ 1 ≤ t.kind ∧ t.kind ≤ 17) ∧ (t.code = 65 → t.kind = 2 ∧ t.width = 0 ∧ t.sized = false) := by
  intro t ht
  simp only [tabA, List.mem_cons, List.not_mem_nil, or_false] at ht
  rcases ht with rfl | rfl | rfl | rfl | rfl | rfl | rfl | rfl | rfl | rfl | rfl | rfl | rfl | rfl | rfl | rfl | rfl | rfl | rfl | rfl | rfl | rfl | rfl | rfl | rfl | rfl | rfl | rfl | rfl | rfl | rfl | rfl | rfl | rfl | rfl | rfl | rfl | rfl | rfl | rfl
  all_goals simp [textsA]
theorem text_zero {k : Int} {n : Nat} (h : rangedA k n = true) (hk : k = 15 ∨ (18 ≤ k ∧ k ≤ 21)) : n = 0 := by
  unfold rangedA at h
  have hb : bitsA k = 0 := by
    unfold bitsA
    obtain rfl | rfl | rfl | rfl | rfl : k = 15 ∨ k = 18 ∨ k = 19 ∨ k = 20 ∨ k = 21 := by omega
    all_goals rfl
  rw [if_neg (by omega), if_pos hb] at h
  simpa using h
/-- What is written with a constructor that fits is read back, whatever follows. -/
theorem part_data {t : Ct} {v : Sv} (ht : t ∈ tabA) (hi : t.items = false) (hk : (t.kind : Int) = v.kind) (hn : v.n < 18446744073709551616) (hc : checkV v = 0) (hf : fitsC t v = true) (s : List UInt8) : partV t (dataV t v ++ s) = some (v, (dataV t v).length) := by
  obtain ⟨_, hr, h0, htx, h16, hlen⟩ := check_v hc
  obtain ⟨t1, t2, t3, t4⟩ := tab_sized t ht hi
  have hl := data_length (t := t) (v := v) (fun a b => h16 (by rcases t2 a b with h | h <;> omega))
  unfold partV
  rw [if_neg (by rw [List.length_append, hl]; split <;> omega)]
  cases hs : t.sized with
  | true =>
    obtain ⟨hw, hk1, hk2, hcs⟩ := t1 hs
    have hb : v.text.length < 256 ^ t.width := by
      rcases hw with hw | hw
      · unfold fitsC at hf
        rw [if_neg hcs.1, if_neg (by omega), if_pos (by rw [hs, hw]; rfl)] at hf
        rw [hw]
        simpa using hf
      · rw [hw]
        have : (256 : Nat) ^ 4 = 4294967296 := by decide
        omega
    have hd : dataV t v = be v.text.length t.width ++ v.text := by unfold dataV; rw [hs]; rfl
    have e1 : (dataV t v ++ s).take t.width = be v.text.length t.width := by
      rw [hd, List.append_assoc, List.take_left' (be_length _ _)]
    have e2 : (dataV t v ++ s).drop t.width = v.text ++ s := by
      rw [hd, List.append_assoc, List.drop_left' (be_length _ _)]
    have hv0 := text_zero (k := v.kind) hr (by omega)
    rw [if_pos rfl, e1, e2, num_be, Nat.mod_eq_of_lt hb, if_neg (by rw [List.length_append, hl, hs]; simp; omega), List.take_left, hl, hs]
    obtain ⟨k, n, x, i⟩ := v
    simp only at hk hv0 h0 ⊢
    rw [hk, hv0, h0]
    rfl
  | false =>
    rw [if_neg (by decide)]
    rw [hs] at hl
    by_cases hw : t.width = 16
    · have hd : dataV t v = v.text := by unfold dataV; rw [hs, if_neg (by decide), if_pos hw]
      have hk2 := t2 hs hw
      have hv0 := text_zero (k := v.kind) hr (by omega)
      have ht16 := h16 (by omega)
      rw [if_pos hw, hd, List.take_left' ht16]
      obtain ⟨k, n, x, i⟩ := v
      simp only at hk hv0 h0 ht16 ⊢
      rw [hk, hv0, h0, ht16]
    · rw [if_neg hw]
      obtain ⟨a1, a2, a3, a4, a5⟩ := t3 hs hw
      have htx0 := htx (by rw [← hk]; exact a1)
      have hd : dataV t v = be v.n t.width := by unfold dataV; rw [hs, if_neg (by decide), if_neg hw]
      by_cases h65 : t.code = 65
      · obtain ⟨b1, b2, b3⟩ := t4 h65
        rw [if_pos h65]
        unfold fitsC at hf
        rw [if_pos h65] at hf
        rw [hl, b2]
        obtain ⟨k, n, x, i⟩ := v
        simp only at hk h0 htx0 hf ⊢
        rw [hk, h0, htx0, show n = 1 by simpa using hf]
        rfl
      · rw [if_neg h65, hd, List.take_left' (be_length _ _), num_be, whole_fit t ht hi hs hw h65 v.n hn (by rw [hk]; exact hr) v rfl hf, be_length]
        obtain ⟨k, n, x, i⟩ := v
        simp only at hk h0 htx0 ⊢
        rw [hk, h0, htx0]
theorem get_put {c : Int} {t : Ct} {v : Sv} (h : ofA c = some t) (hi : t.items = false) (hk : (t.kind : Int) = v.kind) (hn : v.n < 18446744073709551616) (hc : checkV v = 0) (hf : fitsC t v = true) (s : List UInt8) : getV c (dataV t v ++ s) = (v, (dataV t v).length, 0) := by
  unfold getV
  rw [h]
  simp only
  rw [if_neg (by rw [hi]; decide), part_data (of_mem h).1 hi hk hn hc hf s]
  simp only
  rw [if_pos hc]
/-- Truncated it is too short. -/
theorem get_cut {c : Int} {t : Ct} {v : Sv} (h : ofA c = some t) (hi : t.items = false) (hk : (t.kind : Int) = v.kind) (hc : checkV v = 0) (hf : fitsC t v = true) {i : Nat} (hlt : i < (dataV t v).length) : getV c ((dataV t v).take i) = (Sv.zero, 0, 3) := by
  have ht := (of_mem h).1
  obtain ⟨_, hr, h0, htx, h16, hlen⟩ := check_v hc
  obtain ⟨t1, t2, t3, t4⟩ := tab_sized t ht hi
  have hl := data_length (t := t) (v := v) (fun a b => h16 (by rcases t2 a b with h | h <;> omega))
  have hp : partV t ((dataV t v).take i) = none := by
    unfold partV
    by_cases hw : ((dataV t v).take i).length < t.width
    · rw [if_pos hw]
    rw [if_neg hw]
    rw [List.length_take] at hw
    cases hs : t.sized with
    | false => rw [hs] at hl; simp at hl; omega
    | true =>
      obtain ⟨hwd, hk1, hk2, hcs⟩ := t1 hs
      have hb : v.text.length < 256 ^ t.width := by
        rcases hwd with hw | hw
        · unfold fitsC at hf
          rw [if_neg hcs.1, if_neg (by omega), if_pos (by rw [hs, hw]; rfl)] at hf
          rw [hw]
          simpa using hf
        · rw [hw]
          have : (256 : Nat) ^ 4 = 4294967296 := by decide
          omega
      have e1 : ((dataV t v).take i).take t.width = be v.text.length t.width := by
        rw [List.take_take, Nat.min_eq_left (by omega)]
        unfold dataV
        rw [hs, if_pos rfl, List.take_left' (be_length _ _)]
      rw [hs] at hl
      simp at hl
      rw [if_pos rfl, e1, num_be, Nat.mod_eq_of_lt hb, if_pos (by rw [List.length_take]; omega)]
  unfold getV
  rw [h]
  simp only
  rw [if_neg (by rw [hi]; decide), hp]
/-- The number that was read is written as the same bytes, and fits. -/
theorem whole_back : ∀ t ∈ tabA, t.items = false → t.sized = false → t.width ≠ 16 → t.code ≠ 65 → ∀ x : Nat, x < 256 ^ t.width → wholeV x t.kind t.width < 18446744073709551616 ∧ wholeV x t.kind t.width % 256 ^ t.width = x ∧ (∀ v : Sv, v.n = wholeV x t.kind t.width → fitsC t v = true) := by
  intro t ht hi hs h16 h65 x hx
  simp only [tabA, List.mem_cons, List.not_mem_nil, or_false] at ht
  rcases ht with rfl | rfl | rfl | rfl | rfl | rfl | rfl | rfl | rfl | rfl | rfl | rfl | rfl | rfl | rfl | rfl | rfl | rfl | rfl | rfl | rfl | rfl | rfl | rfl | rfl | rfl | rfl | rfl | rfl | rfl | rfl | rfl | rfl | rfl | rfl | rfl | rfl | rfl | rfl | rfl
  all_goals first
    | (simp at hi; done)
    | (simp at hs; done)
    | (simp at h16; done)
    | (simp at h65; done)
    | (simp at hx
       refine ⟨?_, ?_, fun v hv => ?_⟩
       · simp [wholeV, bitsA]
         first | omega | (split <;> omega)
       · simp [wholeV, bitsA]
         first | omega | (split <;> omega)
       · simp [wholeV, bitsA] at hv
         simp [fitsC, signedA]
         first | omega | (split at hv <;> omega) | done)
theorem tab_wide : ∀ t ∈ tabA, t.sized = false → t.width = 16 → t.code ≠ 65 ∧ t.code ≠ 82 ∧ t.code ≠ 83 ∧ t.code ≠ 84 ∧ t.code ≠ 85 := by
  intro t ht
  simp only [tabA, List.mem_cons, List.not_mem_nil, or_false] at ht
  rcases ht with rfl | rfl | rfl | rfl | rfl | rfl | rfl | rfl | rfl | rfl | rfl | rfl | rfl | rfl | rfl | rfl | rfl | rfl | rfl | rfl | rfl | rfl | rfl | rfl | rfl | rfl | rfl | rfl | rfl | rfl | rfl | rfl | rfl | rfl | rfl | rfl | rfl | rfl | rfl | rfl
  all_goals simp
theorem be_take {l : List UInt8} {w : Nat} (h : w ≤ l.length) : be (num (l.take w)) w = l.take w := by
  have := be_of_num (l.take w)
  rwa [List.length_take, Nat.min_eq_left h] at this
theorem num_take {l : List UInt8} {w : Nat} (h : w ≤ l.length) : num (l.take w) < 256 ^ w := by
  have := num_lt (l.take w)
  rwa [List.length_take, Nat.min_eq_left h] at this
/-- What data stand for fits, and is written as the same. -/
theorem part_back {t : Ct} {l : List UInt8} {v : Sv} {n : Nat} (ht : t ∈ tabA) (hi : t.items = false) (h : partV t l = some (v, n)) : (t.kind : Int) = v.kind ∧ fitsC t v = true ∧ v.n < 18446744073709551616 ∧ n ≤ l.length ∧ dataV t v = l.take n ∧ n = (dataV t v).length := by
  obtain ⟨t1, t2, t3, t4⟩ := tab_sized t ht hi
  unfold partV at h
  split at h
  · cases h
  rename_i hw
  split at h
  · rename_i hs
    split at h
    · cases h
    rename_i hx
    simp only [Option.some.injEq, Prod.mk.injEq] at h
    obtain ⟨rfl, rfl⟩ := h
    obtain ⟨hwd, hk1, hk2, hcs⟩ := t1 hs
    have hl : ((l.drop t.width).take (num (l.take t.width))).length = num (l.take t.width) := by
      rw [List.length_take, List.length_drop]; omega
    have hd : dataV t ⟨t.kind, 0, (l.drop t.width).take (num (l.take t.width)), 0⟩ = l.take (t.width + num (l.take t.width)) := by
      unfold dataV
      rw [if_pos hs]
      simp only
      rw [hl, be_take (by omega), List.take_add]
    refine ⟨rfl, ?_, (by decide : 0 < 18446744073709551616), by omega, hd, ?_⟩
    · unfold fitsC
      rw [if_neg hcs.1, if_neg (by omega)]
      split
      · rename_i h1
        simp only [hs, Bool.true_and, beq_iff_eq] at h1
        have := num_take (l := l) (w := t.width) (by omega)
        rw [h1] at this
        simp only
        rw [decide_eq_true_eq, hl, h1]
        simpa using this
      · rw [if_neg (by omega), if_neg (by omega)]
    · rw [hd, List.length_take]; omega
  · rename_i hs
    have hs : t.sized = false := by simpa using hs
    split at h
    · rename_i h16
      simp only [Option.some.injEq, Prod.mk.injEq] at h
      obtain ⟨rfl, rfl⟩ := h
      have hcs := tab_wide t ht hs h16
      have hd : dataV t ⟨t.kind, 0, l.take 16, 0⟩ = l.take 16 := by
        unfold dataV
        rw [hs, if_neg (by decide), if_pos h16]
      refine ⟨rfl, ?_, (by decide : 0 < 18446744073709551616), by omega, hd, ?_⟩
      · unfold fitsC
        rw [if_neg hcs.1, if_neg (by omega), if_neg (by rw [hs]; simp), if_neg (by omega), if_neg (by omega)]
      · rw [hd, List.length_take]; omega
    · rename_i h16
      split at h
      · rename_i h65
        simp only [Option.some.injEq, Prod.mk.injEq] at h
        obtain ⟨rfl, rfl⟩ := h
        obtain ⟨b1, b2, b3⟩ := t4 h65
        have hd : dataV t ⟨t.kind, 1, [], 0⟩ = [] := by
          unfold dataV
          rw [hs, if_neg (by decide), if_neg h16, b2]
          rfl
        refine ⟨rfl, ?_, (by decide : 1 < 18446744073709551616), by omega, by rw [hd]; rfl, by rw [hd]; rfl⟩
        unfold fitsC
        rw [if_pos h65]
        rfl
      · rename_i h65
        simp only [Option.some.injEq, Prod.mk.injEq] at h
        obtain ⟨rfl, rfl⟩ := h
        obtain ⟨c1, c2, c3⟩ := whole_back t ht hi hs h16 h65 (num (l.take t.width)) (num_take (by omega))
        have hd : dataV t ⟨t.kind, wholeV (num (l.take t.width)) t.kind t.width, [], 0⟩ = l.take t.width := by
          unfold dataV
          rw [hs, if_neg (by decide), if_neg h16]
          simp only
          rw [← be_mod, c2, be_take (by omega)]
        refine ⟨rfl, c3 _ rfl, c1, by omega, hd, ?_⟩
        rw [hd, List.length_take]; omega
/-- What is read is valid, and is written the same with the same constructor. -/
theorem put_get {c : Int} {l : List UInt8} (h : (getV c l).2.2 = 0) : checkV (getV c l).1 = 0 ∧ (getV c l).1.n < 18446744073709551616 ∧ (getV c l).2.1 ≤ l.length ∧ putV c (getV c l).1 = (l.take (getV c l).2.1, 0) ∧ fitsV c (getV c l).1 = true := by
  unfold getV at h ⊢
  cases ho : ofA c with
  | none => rw [ho] at h; cases h
  | some t =>
    rw [ho] at h
    simp only at h ⊢
    split at h
    · cases h
    rename_i hi
    rw [if_neg hi]
    have hi : t.items = false := by simpa using hi
    cases hp : partV t l with
    | none => rw [hp] at h; cases h
    | some r =>
      rw [hp] at h
      simp only at h ⊢
      by_cases hc : checkV r.1 = 0
      · rw [if_pos hc]
        obtain ⟨k1, k2, k3, k4, k5, k6⟩ := part_back (of_mem ho).1 hi hp
        refine ⟨hc, k3, k4, ?_, ?_⟩
        · unfold putV
          rw [if_neg (show ¬ checkV r.1 ≠ 0 from fun e => e hc), ho]
          simp only
          rw [if_neg (by rw [k2, k1]; simp), k5]
        · unfold fitsV
          rw [ho]
          simp only
          rw [k1, hc, k2]
          simp
      · rw [if_neg hc] at h
        simp only at h
        split at h
        · cases h
        · exact absurd h hc
/-- An error reads nothing. -/
theorem get_err {c : Int} {l : List UInt8} (h : (getV c l).2.2 ≠ 0) : (getV c l).1 = Sv.zero ∧ (getV c l).2.1 = 0 := by
  unfold getV at h ⊢
  cases ho : ofA c with
  | none => exact ⟨rfl, rfl⟩
  | some t =>
    rw [ho] at h
    simp only at h ⊢
    split
    · exact ⟨rfl, rfl⟩
    rename_i hi
    rw [if_neg hi] at h
    cases hp : partV t l with
    | none => exact ⟨rfl, rfl⟩
    | some r =>
      rw [hp] at h
      simp only at h ⊢
      split
      · rename_i hc; rw [if_pos hc] at h; exact absurd rfl h
      · exact ⟨rfl, rfl⟩
end Go.Proofs.YtjbgnlnchchgcaaDoor
