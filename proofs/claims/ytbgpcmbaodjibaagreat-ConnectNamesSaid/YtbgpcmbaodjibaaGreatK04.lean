/-
  Reason codes, as plain lists, and as bits of four words. Condition: none. No program.
  A property, as plain data. No program. Condition: none.
  A packet of MQTT, as plain data. No program. Condition: none.
  Plain facts on UTF-8: the bytes of a code point, the code point with which a list of bytes begins, all code points of a list up to the first place where none begins; how they split and join. No condition.
-/
import Derived.Below
import Derived.Lib.Hide
import GoSem.Core.Utf8
namespace Go.Proofs.YtbgpcmbaodjibaaGreat

/-- Four words. -/
structure W4 where
  a : Nat
  b : Nat
  c : Nat
  d : Nat
def setc (s : W4) (n : Nat) : W4 :=
  if n < 64 then { s with a := s.a ||| 2 ^ (n % 64) } else if n < 128 then { s with b := s.b ||| 2 ^ (n % 64) } else if n < 192 then { s with c := s.c ||| 2 ^ (n % 64) } else { s with d := s.d ||| 2 ^ (n % 64) }
def addR (s : W4) (f : Nat) : Nat → W4
  | 0 => s
  | n + 1 => setc (addR s f n) (f + n)
def ofL (l : List Nat) : W4 := l.foldl setc ⟨0, 0, 0, 0⟩
def word (s : W4) (n : Nat) : Nat := if n < 64 then s.a else if n < 128 then s.b else if n < 192 then s.c else s.d
def hasW (s : W4) (n : Nat) : Bool := decide (n < 256) && (word s n / 2 ^ (n % 64) % 2 == 1)
structure OkW (s : W4) : Prop where
  a : s.a < 18446744073709551616
  b : s.b < 18446744073709551616
  c : s.c < 18446744073709551616
  d : s.d < 18446744073709551616
theorem or_lt {x n : Nat} (hx : x < 18446744073709551616) (hn : n < 64) : x ||| 2 ^ n < 18446744073709551616 :=
  Nat.or_lt_two_pow (n := 64) hx (Nat.pow_lt_pow_right (by decide) hn)
theorem OkW.setc {s : W4} (h : OkW s) (n : Nat) : OkW (setc s n) := by
  have hn : n % 64 < 64 := Nat.mod_lt _ (by decide)
  unfold Proofs.YtbgpcmbaodjibaaGreat.setc
  split
  · exact ⟨or_lt h.a hn, h.b, h.c, h.d⟩
  split
  · exact ⟨h.a, or_lt h.b hn, h.c, h.d⟩
  split
  · exact ⟨h.a, h.b, or_lt h.c hn, h.d⟩
  · exact ⟨h.a, h.b, h.c, or_lt h.d hn⟩
theorem OkW.addR {s : W4} (h : OkW s) (f : Nat) : ∀ n, OkW (addR s f n)
  | 0 => h
  | n + 1 => (OkW.addR h f n).setc _
theorem okW_fold : ∀ (l : List Nat) (s : W4), OkW s → OkW (l.foldl setc s)
  | [], _, h => h
  | n :: l, _, h => okW_fold l _ (h.setc n)
theorem OkW.ofL (l : List Nat) : OkW (ofL l) := okW_fold l _ ⟨by decide, by decide, by decide, by decide⟩

/-- The groups of kinds. -/
def grp (kind : Int) : Nat :=
  if kind = 2 then 1 else if kind = 4 ∨ kind = 5 then 2 else if kind = 6 ∨ kind = 7 then 3 else if kind = 9 then 4 else if kind = 11 then 5 else if kind = 14 then 6 else if kind = 15 then 7 else 0
def codesG : Nat → List Nat
  | 1 => [0, 128, 129, 130, 131, 132, 133, 134, 135, 136, 137, 138, 140, 144, 149, 151, 153, 154, 155, 156, 157, 159]
  | 2 => [0, 16, 128, 131, 135, 144, 145, 151, 153]
  | 3 => [0, 146]
  | 4 => [0, 1, 2, 128, 131, 135, 143, 145, 151, 158, 161, 162]
  | 5 => [0, 17, 128, 131, 135, 143, 145]
  | 6 => [0, 4, 128, 129, 130, 131, 135, 137, 139, 141, 142, 143, 144, 147, 148, 149, 150, 151, 152, 153, 154, 155, 156, 157, 158, 159, 160, 161, 162]
  | 7 => [0, 24, 25]
  | _ => []
def wordsG : Nat → W4
  | 1 => addR (addR (ofL [0, 140, 144, 149, 151, 159]) 128 11) 153 5
  | 2 => ofL [0, 16, 128, 131, 135, 144, 145, 151, 153]
  | 3 => ofL [0, 146]
  | 4 => ofL [0, 1, 2, 128, 131, 135, 143, 145, 151, 158, 161, 162]
  | 5 => ofL [0, 17, 128, 131, 135, 143, 145]
  | 6 => addR (addR (ofL [0, 4, 135, 137, 139, 141, 142, 143, 144]) 128 4) 147 16
  | 7 => ofL [0, 24, 25]
  | _ => ⟨0, 0, 0, 0⟩
theorem grp_lt (kind : Int) : grp kind < 8 := by
  unfold grp
  repeat' (first | decide | split)
theorem okW_wordsG : ∀ g, OkW (wordsG g)
  | 0 => ⟨by decide, by decide, by decide, by decide⟩
  | 1 => ((OkW.ofL _).addR _ _).addR _ _
  | 2 => OkW.ofL _
  | 3 => OkW.ofL _
  | 4 => OkW.ofL _
  | 5 => OkW.ofL _
  | 6 => ((OkW.ofL _).addR _ _).addR _ _
  | 7 => OkW.ofL _
  | n + 8 => show OkW ⟨0, 0, 0, 0⟩ from ⟨by decide, by decide, by decide, by decide⟩
theorem has_tab : ∀ g < 8, ∀ n < 256, hasW (wordsG g) n = (codesG g).contains n := by decide +kernel
theorem codes_lt : ∀ g < 8, ∀ n ∈ codesG g, n < 163 := by decide +kernel
theorem hasW_spec (kind : Int) (n : Nat) : hasW (wordsG (grp kind)) n = (codesG (grp kind)).contains n := by
  by_cases hn : n < 256
  · exact has_tab _ (grp_lt kind) n hn
  · have h1 : (codesG (grp kind)).contains n = false := by
      rw [Bool.eq_false_iff]
      intro h
      have := codes_lt _ (grp_lt kind) n (List.contains_iff_mem.1 h)
      omega
    rw [h1]
    unfold hasW
    simp [hn]
/-- May the kind have the code? -/
def mayR (kind code : Int) : Bool := decide (0 ≤ code) && (codesG (grp kind)).contains code.toNat
/-- All of a kind, in order. -/
def allR (kind : Int) : List Nat := codesG (grp kind)
/-- The first n numbers that are among them. -/
def upto (g n : Nat) : List Nat := (List.range n).filter fun c => (codesG g).contains c
theorem upto_succ (g n : Nat) : upto g (n + 1) = if (codesG g).contains n then upto g n ++ [n] else upto g n := by
  unfold upto
  rw [List.range_succ, List.filter_append]
  by_cases h : (codesG g).contains n = true
  · rw [if_pos h]; simp only [List.filter_cons, h, if_true, List.filter_nil]
  · rw [if_neg h]; simp only [List.filter_cons, h, List.filter_nil]; simp
theorem upto_tab : ∀ g < 8, upto g 256 = codesG g := by decide +kernel
theorem upto_all (kind : Int) : upto (grp kind) 256 = allR kind := upto_tab _ (grp_lt kind)
theorem upto_length (g n : Nat) : (upto g n).length ≤ n := by
  unfold upto
  exact Nat.le_trans (List.length_filter_le _ _) (by simp)
/-- Does any kind have the code? -/
def knownR (code : Int) : Bool := (List.range 17).any fun k => mayR (k : Int) code
def hexD (n : Nat) : UInt8 := if n < 10 then UInt8.ofNat (48 + n) else UInt8.ofNat (87 + n)
def textR (code : Int) : List UInt8 := if knownR code then [hexD (code.toNat / 16), hexD (code.toNat % 16)] else [63]
def laterR : List Int := [0, 132, 133, 136, 134, 135]
def returnR (code : Int) : Bool := decide (0 ≤ code) && decide (code < 6)
def to5R (code : Int) : Int × Bool := if returnR code then (laterR.getD code.toNat 0, true) else (0, false)
def to311R (code : Int) : Int × Bool :=
  if code = 0 then (0, true) else if code = 132 then (1, true) else if code = 133 then (2, true) else if code = 136 then (3, true) else if code = 134 then (4, true) else if code = 135 then (5, true) else (0, false)
def grantR (code : Int) : Bool := code == 0 || code == 1 || code == 2 || code == 128
def badR (code : Int) : Bool := decide (128 ≤ code) && decide (code < 256)
theorem known_range {code : Int} (h : knownR code = true) : 0 ≤ code ∧ code < 163 := by
  unfold knownR at h
  rw [List.any_eq_true] at h
  obtain ⟨k, _, hk⟩ := h
  unfold mayR at hk
  rw [Bool.and_eq_true, decide_eq_true_eq] at hk
  have := codes_lt _ (grp_lt _) _ (List.contains_iff_mem.1 hk.2)
  omega
end Go.Proofs.YtbgpcmbaodjibaaGreat
namespace Go.Proofs.YtbgpcmbaodjibaaGreat

/-- A property: its id, its number, its two texts. -/
structure Pr where
  id : Int
  n : Nat
  text : List UInt8
  value : List UInt8
deriving DecidableEq
end Go.Proofs.YtbgpcmbaodjibaaGreat
namespace Go.Proofs.YtbgpcmbaodjibaaGreat

/-- A filter with its options. -/
structure Fi where
  topic : List UInt8
  qos : Int
  noLocal : Bool
  asPub : Bool
  handling : Int
deriving DecidableEq
/-- A packet: what it holds, its lists by their elements. -/
structure Pk where
  kind : Int
  dup : Bool
  retain : Bool
  qos : Int
  id : Int
  topic : List UInt8
  payload : List UInt8
  clean : Bool
  keep : Int
  client : List UInt8
  hasUser : Bool
  user : List UInt8
  hasPass : Bool
  pass : List UInt8
  hasWill : Bool
  wTopic : List UInt8
  wPayload : List UInt8
  wQos : Int
  wRetain : Bool
  wProps : List Pr
  session : Bool
  code : Int
  codes : List Int
  filters : List Fi
  props : List Pr
deriving DecidableEq
def Pk.nums (p : Pk) : List Int := [p.kind, p.qos, p.id, p.keep, p.code, p.wQos]
def Pk.marks (p : Pk) : List Bool := [p.dup, p.retain, p.clean, p.hasUser, p.hasPass, p.hasWill, p.session, p.wRetain]
def Pk.texts (p : Pk) : List (List UInt8) := [p.topic, p.payload, p.client, p.user, p.pass, p.wTopic, p.wPayload]
theorem pk_eq_iff (p q : Pk) : p = q ↔ p.nums = q.nums ∧ p.marks = q.marks ∧ p.texts = q.texts ∧ p.codes = q.codes ∧ p.filters = q.filters ∧ p.props = q.props ∧ p.wProps = q.wProps := by
  constructor
  · rintro rfl; exact ⟨rfl, rfl, rfl, rfl, rfl, rfl, rfl⟩
  · obtain ⟨⟩ := p
    obtain ⟨⟩ := q
    rintro ⟨h1, h2, h3, h4, h5, h6, h7⟩
    simp only [Pk.nums, Pk.marks, Pk.texts, List.cons.injEq, and_true] at h1 h2 h3
    simp only at h4 h5 h6 h7
    obtain ⟨rfl, rfl, rfl, rfl, rfl, rfl⟩ := h1
    obtain ⟨rfl, rfl, rfl, rfl, rfl, rfl, rfl, rfl⟩ := h2
    obtain ⟨rfl, rfl, rfl, rfl, rfl, rfl, rfl⟩ := h3
    subst h4 h5 h6 h7
    rfl
/-- A packet that is nothing. -/
def Pk.zero : Pk := ⟨0, false, false, 0, 0, [], [], false, 0, [], false, [], false, [], false, [], [], 0, false, [], false, 0, [], [], []⟩
end Go.Proofs.YtbgpcmbaodjibaaGreat
namespace Go.Proofs.YtbgpcmbaodjibaaGreat

/-- A code point that a string of a packet may have. -/
def okc (c : Nat) : Prop := 0 < c ∧ (c < 55296 ∨ (57344 ≤ c ∧ c ≤ 1114111))
/-- The bytes of a code point. -/
def cb (c : Nat) : List UInt8 :=
  if c < 128 then [UInt8.ofNat c]
  else if c < 2048 then [UInt8.ofNat (192 + c / 64), UInt8.ofNat (128 + c % 64)]
  else if c < 65536 then [UInt8.ofNat (224 + c / 4096), UInt8.ofNat (128 + c / 64 % 64), UInt8.ofNat (128 + c % 64)]
  else [UInt8.ofNat (240 + c / 262144), UInt8.ofNat (128 + c / 4096 % 64), UInt8.ofNat (128 + c / 64 % 64), UInt8.ofNat (128 + c % 64)]

theorem valid_iff (c : Nat) : Utf8.valid (c : Int) = true ↔ c < 55296 ∨ (57344 ≤ c ∧ c ≤ 1114111) := by
  unfold Utf8.valid
  simp only [Bool.or_eq_true, Bool.and_eq_true, decide_eq_true_eq]
  omega
theorem okc_valid {c : Nat} (h : okc c) : Utf8.valid (c : Int) = true := (valid_iff c).2 h.2

theorem encode_cb {c : Nat} (h : okc c) : Utf8.encode (c : Int) = ⟨(cb c).toArray⟩ := by
  unfold Utf8.encode cb
  simp only [okc_valid h, if_true, Int.toNat_natCast]
  split
  · rfl
  · split
    · rfl
    · split <;> rfl

/-- What a list of bytes is decoded to: by the bytes' numbers. -/
def dl (l : List UInt8) : Nat × Nat :=
  let at' (k : Nat) : Nat := (l.getD k 0).toNat
  let cont (k : Nat) : Bool := k < l.length && at' k / 64 == 2
  let b0 := at' 0
  if b0 < 128 then (b0, 1)
  else if b0 / 32 == 6 && cont 1 then
    let c := (b0 % 32) * 64 + at' 1 % 64
    if c ≥ 128 then (c, 2) else (65533, 1)
  else if b0 / 16 == 14 && cont 1 && cont 2 then
    let c := (b0 % 16) * 4096 + (at' 1 % 64) * 64 + at' 2 % 64
    if c ≥ 2048 && Utf8.valid c then (c, 3) else (65533, 1)
  else if b0 / 8 == 30 && cont 1 && cont 2 && cont 3 then
    let c := (b0 % 8) * 262144 + (at' 1 % 64) * 4096 + (at' 2 % 64) * 64 + at' 3 % 64
    if c ≥ 65536 && Utf8.valid c then (c, 4) else (65533, 1)
  else (65533, 1)

theorem get_drop (s : ByteArray) (i k : Nat) : s.get! (i + k) = (s.data.toList.drop i).getD k 0 := by
  rw [ByteArray.get!, List.getD_eq_getElem?_getD, List.getElem?_drop, Array.getElem!_eq_getD, Array.getD_eq_getD_getElem?]
  simp
  rfl
theorem lt_drop (s : ByteArray) (i k : Nat) : (i + k < s.size) = (k < (s.data.toList.drop i).length) := by
  have : s.size = s.data.toList.length := by simp
  rw [this, List.length_drop]
  apply propext
  omega
theorem decode_dl (s : ByteArray) (i : Nat) : Utf8.decode s i = dl (s.data.toList.drop i) := by
  unfold Utf8.decode dl
  simp only [get_drop, lt_drop]
  rfl

/-- The code point with which the bytes begin. -/
def hd (l : List UInt8) : Option Nat := if l = [] ∨ (dl l).1 = 0 ∨ ((dl l).1 = 65533 ∧ (dl l).2 = 1) then none else some (dl l).1

theorem n8 {n : Nat} (h : n < 256) : (UInt8.ofNat n).toNat = n := by rw [UInt8.toNat_ofNat']; omega
theorem b8 (b : UInt8) {n : Nat} (h : b.toNat = n) : UInt8.ofNat n = b := by subst h; simp

theorem dl_cb {c : Nat} (h : okc c) (l : List UInt8) : dl (cb c ++ l) = (c, (cb c).length) := by
  have hv := okc_valid h
  obtain ⟨h0, h1⟩ := h
  unfold cb
  split
  · rename_i h2
    simp [dl, n8 (show c < 256 by omega), h2]
  · split
    · rename_i h2 h3
      have e0 := n8 (show 192 + c / 64 < 256 by omega)
      have e1 := n8 (show 128 + c % 64 < 256 by omega)
      simp only [dl, List.cons_append, List.nil_append, List.getD_cons_zero, List.getD_cons_succ, e0, e1]
      rw [if_neg (by omega), if_pos (by simp; omega), if_pos (by omega)]
      simp; omega
    · split
      · rename_i h2 h3 h4
        have e0 := n8 (show 224 + c / 4096 < 256 by omega)
        have e1 := n8 (show 128 + c / 64 % 64 < 256 by omega)
        have e2 := n8 (show 128 + c % 64 < 256 by omega)
        have ec : (224 + c / 4096) % 16 * 4096 + (128 + c / 64 % 64) % 64 * 64 + (128 + c % 64) % 64 = c := by omega
        simp only [dl, List.cons_append, List.nil_append, List.getD_cons_zero, List.getD_cons_succ, e0, e1, e2, ec]
        rw [if_neg (by omega), if_neg (by simp; omega), if_pos (by simp; omega), if_pos (by simp [hv]; omega)]
        simp
      · rename_i h2 h3 h4
        have e0 := n8 (show 240 + c / 262144 < 256 by omega)
        have e1 := n8 (show 128 + c / 4096 % 64 < 256 by omega)
        have e2 := n8 (show 128 + c / 64 % 64 < 256 by omega)
        have e3 := n8 (show 128 + c % 64 < 256 by omega)
        have ec : (240 + c / 262144) % 8 * 262144 + (128 + c / 4096 % 64) % 64 * 4096 + (128 + c / 64 % 64) % 64 * 64 + (128 + c % 64) % 64 = c := by omega
        simp only [dl, List.cons_append, List.nil_append, List.getD_cons_zero, List.getD_cons_succ, e0, e1, e2, e3, ec]
        rw [if_neg (by omega), if_neg (by simp; omega), if_neg (by simp; omega), if_pos (by simp; omega), if_pos (by simp [hv]; omega)]
        simp

theorem cb_length_pos (c : Nat) : 0 < (cb c).length := by unfold cb; split <;> (try split) <;> (try split) <;> simp
theorem cb_length (c : Nat) : (cb c).length = if c < 128 then 1 else if c < 2048 then 2 else if c < 65536 then 3 else 4 := by
  unfold cb; split <;> (try split) <;> (try split) <;> simp
theorem cb_ne (c : Nat) (l : List UInt8) : cb c ++ l ≠ [] := by
  have := cb_length_pos c
  intro h
  have : (cb c ++ l).length = 0 := by rw [h]; rfl
  simp at this
  simp [this] at *

theorem hd_cb {c : Nat} (h : okc c) (l : List UInt8) : hd (cb c ++ l) = some c := by
  unfold hd
  rw [dl_cb h, if_neg]
  rintro (e | e | ⟨e, e2⟩)
  · exact cb_ne c l e
  · have := h.1; simp at e; omega
  · simp at e e2
    subst e
    simp [cb_length] at e2

theorem dl_cases (l : List UInt8) (hl : l ≠ []) : dl l = (65533, 1) ∨ (dl l).1 = 0 ∨ (okc (dl l).1 ∧ (dl l).2 = (cb (dl l).1).length ∧ ∃ r, l = cb (dl l).1 ++ r) := by
  unfold dl
  simp only []
  obtain ⟨b0, l0, rfl⟩ := List.exists_cons_of_ne_nil hl
  have h0 := b0.toNat_lt
  simp only [List.getD_cons_zero, List.getD_cons_succ, List.length_cons]
  split
  · rename_i hb
    by_cases hz : b0.toNat = 0
    · exact .inr (.inl hz)
    · refine .inr (.inr ⟨⟨by omega, by omega⟩, ?_, l0, ?_⟩)
      · simp [cb, hb]
      · simp [cb, hb]
  · split
    · rename_i hb hc
      rcases l0 with _ | ⟨b1, l1⟩
      · simp at hc
      simp at hc
      have h1 := b1.toNat_lt
      simp only [List.getD_cons_zero]
      split
      · rename_i hd
        have hk : ¬ b0.toNat % 32 * 64 + b1.toNat % 64 < 128 := by omega
        have hk2 : b0.toNat % 32 * 64 + b1.toNat % 64 < 2048 := by omega
        refine .inr (.inr ⟨⟨by simp; omega, by simp; omega⟩, ?_, l1, ?_⟩)
        · simp [cb, hk, hk2]
        · simp only [cb, hk, hk2, if_true, if_false]
          rw [b8 b0 (by omega), b8 b1 (by omega)]
          rfl
      · exact .inl rfl
    · split
      · rename_i hb hb2 hc
        rcases l0 with _ | ⟨b1, _ | ⟨b2, l2⟩⟩
        · simp at hc
        · simp at hc
        simp at hc
        have h1 := b1.toNat_lt
        have h2 := b2.toNat_lt
        simp only [List.getD_cons_zero, List.getD_cons_succ]
        split
        · rename_i hd
          simp only [Bool.and_eq_true, decide_eq_true_eq, valid_iff] at hd
          generalize hC : b0.toNat % 16 * 4096 + b1.toNat % 64 * 64 + b2.toNat % 64 = C at hd
          have hk : ¬ C < 128 := by omega
          have hk2 : ¬ C < 2048 := by omega
          have hk3 : C < 65536 := by omega
          refine .inr (.inr ⟨⟨by simp; omega, hd.2⟩, ?_, l2, ?_⟩)
          · simp [cb, hk, hk2, hk3]
          · simp only [cb, hk, hk2, hk3, if_false]
            rw [b8 b0 (by omega), b8 b1 (by omega), b8 b2 (by omega)]
            rfl
        · exact .inl rfl
      · split
        · rename_i hb hb2 hb3 hc
          rcases l0 with _ | ⟨b1, _ | ⟨b2, _ | ⟨b3, l3⟩⟩⟩
          · simp at hc
          · simp at hc
          · simp at hc
          simp at hc
          have h1 := b1.toNat_lt
          have h2 := b2.toNat_lt
          have h3 := b3.toNat_lt
          simp only [List.getD_cons_zero, List.getD_cons_succ]
          split
          · rename_i hd
            simp only [Bool.and_eq_true, decide_eq_true_eq, valid_iff] at hd
            generalize hC : b0.toNat % 8 * 262144 + b1.toNat % 64 * 4096 + b2.toNat % 64 * 64 + b3.toNat % 64 = C at hd
            have hk : ¬ C < 128 := by omega
            have hk2 : ¬ C < 2048 := by omega
            have hk3 : ¬ C < 65536 := by omega
            refine .inr (.inr ⟨⟨by simp; omega, hd.2⟩, ?_, l3, ?_⟩)
            · simp [cb, hk, hk2, hk3]
            · simp only [cb, hk, hk2, hk3, if_false]
              rw [b8 b0 (by omega), b8 b1 (by omega), b8 b2 (by omega), b8 b3 (by omega)]
              rfl
          · exact .inl rfl
        · exact .inl rfl

theorem hd_some {l : List UInt8} {c : Nat} (h : hd l = some c) : okc c ∧ ∃ r, l = cb c ++ r := by
  unfold hd at h
  split at h
  · cases h
  · rename_i hn
    have e : (dl l).1 = c := by simpa using h
    have hne : l ≠ [] := fun e => hn (.inl e)
    rcases dl_cases l hne with h1 | h1 | ⟨h1, _, h2⟩
    · exact absurd (.inr (.inr (by rw [h1]; exact ⟨rfl, rfl⟩))) hn
    · exact absurd (.inr (.inl h1)) hn
    · rw [e] at h1 h2; exact ⟨h1, h2⟩

/-- Where no code point begins the range tells U+0000, or U+FFFD and one byte. -/
theorem hd_none {l : List UInt8} (hl : l ≠ []) (h : hd l = none) : dl l = (65533, 1) ∨ (dl l).1 = 0 := by
  rcases dl_cases l hl with h1 | h1 | ⟨h1, h2, h3, h4⟩
  · exact .inl h1
  · exact .inr h1
  · generalize (dl l).1 = c at h1 h4
    subst h4
    rw [hd_cb h1] at h
    cases h

/-- All code points, up to the first place where none begins. -/
def pts (l : List UInt8) : List Nat :=
  match _h : hd l with
  | none => []
  | some c => c :: pts (l.drop (cb c).length)
termination_by l.length
decreasing_by
  obtain ⟨_, r, rfl⟩ := hd_some _h
  have := cb_length_pos c
  simp
  omega

/-- The bytes of code points, one after the other. -/
def cbs (cs : List Nat) : List UInt8 := cs.flatMap cb
def oks (cs : List Nat) : Prop := ∀ c ∈ cs, okc c

theorem cbs_nil : cbs [] = [] := rfl
theorem cbs_cons (c : Nat) (cs : List Nat) : cbs (c :: cs) = cb c ++ cbs cs := rfl
theorem cbs_append (a b : List Nat) : cbs (a ++ b) = cbs a ++ cbs b := by simp [cbs]
theorem cbs_snoc (a : List Nat) (c : Nat) : cbs (a ++ [c]) = cbs a ++ cb c := by simp [cbs]

theorem pts_none {l : List UInt8} (h : hd l = none) : pts l = [] := by
  rw [pts]
  split
  · rfl
  · rename_i c hc; rw [h] at hc; cases hc
theorem pts_some {c : Nat} (h : okc c) (l : List UInt8) : pts (cb c ++ l) = c :: pts l := by
  rw [pts]
  have e := hd_cb h l
  split
  · rename_i hc; rw [e] at hc; cases hc
  · rename_i c' hc
    rw [e] at hc
    obtain rfl : c = c' := by simpa using hc
    simp
theorem hd_nil : hd [] = none := by simp [hd]
theorem pts_nil : pts [] = [] := pts_none hd_nil

/-- The induction over a list's code points. -/
theorem pts_spec : ∀ (n : Nat) (l : List UInt8), l.length ≤ n → oks (pts l) ∧ ∃ r, l = cbs (pts l) ++ r ∧ hd r = none
  | 0, l, h => by
    obtain rfl : l = [] := List.eq_nil_of_length_eq_zero (by omega)
    rw [pts_nil]
    exact ⟨by simp [oks], [], rfl, hd_nil⟩
  | n + 1, l, h => by
    cases hc : hd l with
    | none =>
      rw [pts_none hc]
      exact ⟨by simp [oks], l, rfl, hc⟩
    | some c =>
      obtain ⟨ho, r, rfl⟩ := hd_some hc
      have := cb_length_pos c
      rw [pts_some ho]
      obtain ⟨h1, r2, h2, h3⟩ := pts_spec n r (by simp at h; omega)
      refine ⟨fun d hd => (List.mem_cons.1 hd).elim (fun e => e ▸ ho) (h1 d), r2, ?_, h3⟩
      rw [cbs_cons, List.append_assoc, ← h2]
theorem pts_oks (l : List UInt8) : oks (pts l) := (pts_spec _ l (Nat.le_refl _)).1
theorem pts_rest (l : List UInt8) : ∃ r, l = cbs (pts l) ++ r ∧ hd r = none := (pts_spec _ l (Nat.le_refl _)).2

theorem pts_append {cs : List Nat} (h : oks cs) (l : List UInt8) : pts (cbs cs ++ l) = cs ++ pts l := by
  induction cs with
  | nil => rfl
  | cons c cs ih =>
    rw [cbs_cons, List.append_assoc, pts_some (h c (List.mem_cons_self ..)), ih fun d hd => h d (List.mem_cons_of_mem _ hd)]
    rfl
theorem pts_cbs {cs : List Nat} (h : oks cs) : pts (cbs cs) = cs := by
  have := pts_append h []
  rwa [List.append_nil, pts_nil, List.append_nil] at this

/-- Where the code points end. -/
def fin (l : List UInt8) : Nat := (cbs (pts l)).length
theorem fin_le (l : List UInt8) : fin l ≤ l.length := by
  obtain ⟨r, h, _⟩ := pts_rest l
  unfold fin
  have := congrArg List.length h
  simp at this
  omega
theorem take_fin (l : List UInt8) : l.take (fin l) = cbs (pts l) := by
  obtain ⟨r, h, _⟩ := pts_rest l
  unfold fin
  generalize cbs (pts l) = a at h
  subst h
  simp
theorem drop_fin (l : List UInt8) : hd (l.drop (fin l)) = none := by
  obtain ⟨r, h, hr⟩ := pts_rest l
  unfold fin
  generalize cbs (pts l) = a at h
  subst h
  simpa using hr
theorem fin_append {cs : List Nat} (h : oks cs) (l : List UInt8) : fin (cbs cs ++ l) = (cbs cs).length + fin l := by
  unfold fin
  rw [pts_append h, cbs_append, List.length_append]
theorem length_le_cbs (cs : List Nat) : cs.length ≤ (cbs cs).length := by
  induction cs with
  | nil => simp
  | cons c cs ih => rw [cbs_cons]; have := cb_length_pos c; simp; omega
theorem pts_length_le (l : List UInt8) : (pts l).length ≤ l.length := Nat.le_trans (length_le_cbs _) (fin_le l)

/-- The first place where no code point begins; -1: there is none. -/
def badOf (l : List UInt8) : Int := if fin l < l.length then (fin l : Int) else -1
def validOf (l : List UInt8) : Bool := decide (l.length ≤ 65535) && decide (badOf l < 0)
theorem validOf_iff (l : List UInt8) : validOf l = true ↔ l.length ≤ 65535 ∧ fin l = l.length := by
  unfold validOf badOf
  have := fin_le l
  simp only [Bool.and_eq_true, decide_eq_true_eq]
  constructor
  · rintro ⟨h1, h2⟩
    refine ⟨h1, ?_⟩
    split at h2 <;> omega
  · rintro ⟨h1, h2⟩
    refine ⟨h1, ?_⟩
    rw [if_neg (by omega)]; omega
theorem validOf_cbs (l : List UInt8) (h : validOf l = true) : l = cbs (pts l) := by
  have h1 := take_fin l
  rw [((validOf_iff l).1 h).2, List.take_length] at h1
  exact h1

/-- The places and the code points: what an iterator over them hands over. -/
def marks (p : Nat) : List Nat → List (Nat × Nat)
  | [] => []
  | c :: cs => (p, c) :: marks (p + (cb c).length) cs
theorem marks_length (cs : List Nat) : ∀ p, (marks p cs).length = cs.length := by
  induction cs with
  | nil => intro p; rfl
  | cons c cs ih => intro p; simp [marks, ih]
theorem marks_append (a b : List Nat) : ∀ p, marks p (a ++ b) = marks p a ++ marks (p + (cbs a).length) b := by
  induction a with
  | nil => intro p; simp [marks, cbs]
  | cons c a ih =>
    intro p
    rw [cbs_cons, List.length_append, List.cons_append, marks, ih, marks, List.cons_append, Nat.add_assoc]
theorem marks_snoc (a : List Nat) (c : Nat) : marks 0 (a ++ [c]) = marks 0 a ++ [((cbs a).length, c)] := by
  rw [marks_append]; simp [marks]
end Go.Proofs.YtbgpcmbaodjibaaGreat
