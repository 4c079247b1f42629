/-
  Reason codes, as plain lists, and as bits of four words. Condition: none. No program.
-/
import Derived.Below
namespace Go.Proofs.Ytaahhbjnflimnaa

/-- Four words. -/
structure W4 where
  a : Nat
  b : Nat
  c : Nat
  d : Nat
def setc (s : W4) (n : Nat) : W4 :=
  if n < 64 then { s with a := s.a ||| 2 ^ (n % 64) } else if n < 128 then { s with b := s.b ||| 2 ^ (n % 64) } else if n < 192 then { s with c := s.c ||| 2 ^ (n % 64) } else { s with d := s.d ||| 2 ^ (n % 64) }
def addR (s : W4) (f : Nat) : Nat → W4
  | 0 => s
  | n + 1 => setc (addR s f n) (f + n)
def ofL (l : List Nat) : W4 := l.foldl setc ⟨0, 0, 0, 0⟩
def word (s : W4) (n : Nat) : Nat := if n < 64 then s.a else if n < 128 then s.b else if n < 192 then s.c else s.d
def hasW (s : W4) (n : Nat) : Bool := decide (n < 256) && (word s n / 2 ^ (n % 64) % 2 == 1)
structure OkW (s : W4) : Prop where
  a : s.a < 18446744073709551616
  b : s.b < 18446744073709551616
  c : s.c < 18446744073709551616
  d : s.d < 18446744073709551616
theorem or_lt {x n : Nat} (hx : x < 18446744073709551616) (hn : n < 64) : x ||| 2 ^ n < 18446744073709551616 :=
  Nat.or_lt_two_pow (n := 64) hx (Nat.pow_lt_pow_right (by decide) hn)
theorem OkW.setc {s : W4} (h : OkW s) (n : Nat) : OkW (setc s n) := by
  have hn : n % 64 < 64 := Nat.mod_lt _ (by decide)
  unfold Proofs.Ytaahhbjnflimnaa.setc
  split
  · exact ⟨or_lt h.a hn, h.b, h.c, h.d⟩
  split
  · exact ⟨h.a, or_lt h.b hn, h.c, h.d⟩
  split
  · exact ⟨h.a, h.b, or_lt h.c hn, h.d⟩
  · exact ⟨h.a, h.b, h.c, or_lt h.d hn⟩
theorem OkW.addR {s : W4} (h : OkW s) (f : Nat) : ∀ n, OkW (addR s f n)
  | 0 => h
  | n + 1 => (OkW.addR h f n).setc _
theorem okW_fold : ∀ (l : List Nat) (s : W4), OkW s → OkW (l.foldl setc s)
  | [], _, h => h
  | n :: l, _, h => okW_fold l _ (h.setc n)
theorem OkW.ofL (l : List Nat) : OkW (ofL l) := okW_fold l _ ⟨by decide, by decide, by decide, by decide⟩

/-- The groups of kinds. -/
def grp (kind : Int) : Nat :=
  if kind = 2 then 1 else if kind = 4 ∨ kind = 5 then 2 else if kind = 6 ∨ kind = 7 then 3 else if kind = 9 then 4 else if kind = 11 then 5 else if kind = 14 then 6 else if kind = 15 then 7 else 0
def codesG : Nat → List Nat
  | 1 => [0, 128, 129, 130, 131, 132, 133, 134, 135, 136, 137, 138, 140, 144, 149, 151, 153, 154, 155, 156, 157, 159]
  | 2 => [0, 16, 128, 131, 135, 144, 145, 151, 153]
  | 3 => [0, 146]
  | 4 => [0, 1, 2, 128, 131, 135, 143, 145, 151, 158, 161, 162]
  | 5 => [0, 17, 128, 131, 135, 143, 145]
  | 6 => [0, 4, 128, 129, 130, 131, 135, 137, 139, 141, 142, 143, 144, 147, 148, 149, 150, 151, 152, 153, 154, 155, 156, 157, 158, 159, 160, 161, 162]
  | 7 => [0, 24, 25]
  | _ => []
def wordsG : Nat → W4
  | 1 => addR (addR (ofL [0, 140, 144, 149, 151, 159]) 128 11) 153 5
  | 2 => ofL [0, 16, 128, 131, 135, 144, 145, 151, 153]
  | 3 => ofL [0, 146]
  | 4 => ofL [0, 1, 2, 128, 131, 135, 143, 145, 151, 158, 161, 162]
  | 5 => ofL [0, 17, 128, 131, 135, 143, 145]
  | 6 => addR (addR (ofL [0, 4, 135, 137, 139, 141, 142, 143, 144]) 128 4) 147 16
  | 7 => ofL [0, 24, 25]
  | _ => ⟨0, 0, 0, 0⟩
theorem grp_lt (kind : Int) : grp kind < 8 := by
  unfold grp
  repeat' (first | decide | split)
theorem okW_wordsG : ∀ g, OkW (wordsG g)
  | 0 => ⟨by decide, by decide, by decide, by decide⟩
  | 1 => ((OkW.ofL _).addR _ _).addR _ _
  | 2 => OkW.ofL _
  | 3 => OkW.ofL _
  | 4 => OkW.ofL _
  | 5 => OkW.ofL _
  | 6 => ((OkW.ofL _).addR _ _).addR _ _
  | 7 => OkW.ofL _
  | n + 8 => show OkW ⟨0, 0, 0, 0⟩ from ⟨by decide, by decide, by decide, by decide⟩
theorem has_tab : ∀ g < 8, ∀ n < 256, hasW (wordsG g) n = (codesG g).contains n := by decide +kernel
theorem codes_lt : ∀ g < 8, ∀ n ∈ codesG g, n < 163 := by decide +kernel
theorem hasW_spec (kind : Int) (n : Nat) : hasW (wordsG (grp kind)) n = (codesG (grp kind)).contains n := by
  by_cases hn : n < 256
  · exact has_tab _ (grp_lt kind) n hn
  · have h1 : (codesG (grp kind)).contains n = false := by
      rw [Bool.eq_false_iff]
      intro h
      have := codes_lt _ (grp_lt kind) n (List.contains_iff_mem.1 h)
      omega
    rw [h1]
    unfold hasW
    simp [hn]
/-- May the kind have the code? -/
def mayR (kind code : Int) : Bool := decide (0 ≤ code) && (codesG (grp kind)).contains code.toNat
/-- All of a kind, in order. -/
def allR (kind : Int) : List Nat := codesG (grp kind)
/-- The first n numbers that are among them. -/
def upto (g n : Nat) : List Nat := (List.range n).filter fun c => (codesG g).contains c
theorem upto_succ (g n : Nat) : upto g (n + 1) = if (codesG g).contains n then upto g n ++ [n] else upto g n := by
  unfold upto
  rw [List.range_succ, List.filter_append]
  by_cases h : (codesG g).contains n = true
  · rw [if_pos h]; simp only [List.filter_cons, h, if_true, List.filter_nil]
  · rw [if_neg h]; simp only [List.filter_cons, h, List.filter_nil]; simp
theorem upto_tab : ∀ g < 8, upto g 256 = codesG g := by decide +kernel
theorem upto_all (kind : Int) : upto (grp kind) 256 = allR kind := upto_tab _ (grp_lt kind)
theorem upto_length (g n : Nat) : (upto g n).length ≤ n := by
  unfold upto
  exact Nat.le_trans (List.length_filter_le _ _) (by simp)
/-- Does any kind have the code? -/
def knownR (code : Int) : Bool := (List.range 17).any fun k => mayR (k : Int) code
def hexD (n : Nat) : UInt8 := if n < 10 then UInt8.ofNat (48 + n) else UInt8.ofNat (87 + n)
def textR (code : Int) : List UInt8 := if knownR code then [hexD (code.toNat / 16), hexD (code.toNat % 16)] else [63]
def laterR : List Int := [0, 132, 133, 136, 134, 135]
def returnR (code : Int) : Bool := decide (0 ≤ code) && decide (code < 6)
def to5R (code : Int) : Int × Bool := if returnR code then (laterR.getD code.toNat 0, true) else (0, false)
def to311R (code : Int) : Int × Bool :=
  if code = 0 then (0, true) else if code = 132 then (1, true) else if code = 133 then (2, true) else if code = 136 then (3, true) else if code = 134 then (4, true) else if code = 135 then (5, true) else (0, false)
def grantR (code : Int) : Bool := code == 0 || code == 1 || code == 2 || code == 128
def badR (code : Int) : Bool := decide (128 ≤ code) && decide (code < 256)
theorem known_range {code : Int} (h : knownR code = true) : 0 ≤ code ∧ code < 163 := by
  unfold knownR at h
  rw [List.any_eq_true] at h
  obtain ⟨k, _, hk⟩ := h
  unfold mayR at hk
  rw [Bool.and_eq_true, decide_eq_true_eq] at hk
  have := codes_lt _ (grp_lt _) _ (List.contains_iff_mem.1 hk.2)
  omega
end Go.Proofs.Ytaahhbjnflimnaa
