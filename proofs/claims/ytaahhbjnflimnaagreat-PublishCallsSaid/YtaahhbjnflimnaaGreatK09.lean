/-
  Plain facts on UTF-8: the bytes of a code point, the code point with which a list of bytes begins, all code points of a list up to the first place where none begins; how they split and join. No condition.
  Plain facts: the bytes of a number and the number of bytes, the highest first: each undoes the other. No condition.
  Plain facts: a string or binary data as two bytes of length and the bytes; what is read of them. No condition.
  Plain facts on variable byte integers: how a reader goes on by each byte, the bytes of a number, and that each undoes the other. No condition.
  Plain facts on topics: the levels of a list of bytes and how they join; what a filter is and what it matches; which filter is within which. No condition.
  Plain facts on topics: a string is valid as its levels are; what names, filters and shared filters keep when levels are replaced. No condition.
  Plain facts on properties: which there are, who may have them, when one is as it should be, a list's bytes, and what is read of bytes. No condition.
  Plain facts on lists of properties: which are as they should be, their bytes, and what is read of bytes: each undoes the other. No condition.
  Reason codes, as plain lists, and as bits of four words. Condition: none. No program.
  Plain facts: what CONNECT and CONNACK may hold, their bodies, what is read of them. No condition.
  Headers, as plain numbers and lists of bytes. Condition: none. No program.
  Plain facts: what a PUBLISH may hold, its body, what is read of it. No condition.
  A list of strings as it lies in memory. No condition.
  A map keyed by int that a call has made by a literal: what stands at each key, as a list of pairs; the insert and the look-up at the operation. No condition.
  Plain facts on bytes and numbers, and on a world in which blocks from a number on belong to the call. No condition.
  Plain facts on lists of properties: which are as they should be, whatever their order; what a half, a list with one less, and a list with one more is. No condition.
-/
import Derived.Lib.Hide
import GoSem.Core.Utf8
import Derived.Below
import Derived.Maps.OwnOps
import Derived.Maps.Views
import Derived.Carry
import Derived.WalkKit
import Derived.Test.YtaahhbjnflimnaaGreatK05
import Derived.Test.YtaahhbjnflimnaaGreatK07
import Derived.Test.YtaahhbjnflimnaaGreatK03
namespace Go.Proofs.YtaahhbjnflimnaaGreat

/-- A code point that a string of a packet may have. -/
def okc (c : Nat) : Prop := 0 < c ∧ (c < 55296 ∨ (57344 ≤ c ∧ c ≤ 1114111))
/-- The bytes of a code point. -/
def cb (c : Nat) : List UInt8 :=
  if c < 128 then [UInt8.ofNat c]
  else if c < 2048 then [UInt8.ofNat (192 + c / 64), UInt8.ofNat (128 + c % 64)]
  else if c < 65536 then [UInt8.ofNat (224 + c / 4096), UInt8.ofNat (128 + c / 64 % 64), UInt8.ofNat (128 + c % 64)]
  else [UInt8.ofNat (240 + c / 262144), UInt8.ofNat (128 + c / 4096 % 64), UInt8.ofNat (128 + c / 64 % 64), UInt8.ofNat (128 + c % 64)]

theorem valid_iff (c : Nat) : Utf8.valid (c : Int) = true ↔ c < 55296 ∨ (57344 ≤ c ∧ c ≤ 1114111) := by
  unfold Utf8.valid
  simp only [Bool.or_eq_true, Bool.and_eq_true, decide_eq_true_eq]
  omega
theorem okc_valid {c : Nat} (h : okc c) : Utf8.valid (c : Int) = true := (valid_iff c).2 h.2

/-- What a list of bytes is decoded to: by the bytes' numbers. -/
def dl (l : List UInt8) : Nat × Nat :=
  let at' (k : Nat) : Nat := (l.getD k 0).toNat
  let cont (k : Nat) : Bool := k < l.length && at' k / 64 == 2
  let b0 := at' 0
  if b0 < 128 then (b0, 1)
  else if b0 / 32 == 6 && cont 1 then
    let c := (b0 % 32) * 64 + at' 1 % 64
    if c ≥ 128 then (c, 2) else (65533, 1)
  else if b0 / 16 == 14 && cont 1 && cont 2 then
    let c := (b0 % 16) * 4096 + (at' 1 % 64) * 64 + at' 2 % 64
    if c ≥ 2048 && Utf8.valid c then (c, 3) else (65533, 1)
  else if b0 / 8 == 30 && cont 1 && cont 2 && cont 3 then
    let c := (b0 % 8) * 262144 + (at' 1 % 64) * 4096 + (at' 2 % 64) * 64 + at' 3 % 64
    if c ≥ 65536 && Utf8.valid c then (c, 4) else (65533, 1)
  else (65533, 1)

theorem get_drop (s : ByteArray) (i k : Nat) : s.get! (i + k) = (s.data.toList.drop i).getD k 0 := by
  rw [ByteArray.get!, List.getD_eq_getElem?_getD, List.getElem?_drop, Array.getElem!_eq_getD, Array.getD_eq_getD_getElem?]
  simp
  rfl
theorem lt_drop (s : ByteArray) (i k : Nat) : (i + k < s.size) = (k < (s.data.toList.drop i).length) := by
  have : s.size = s.data.toList.length := by simp
  rw [this, List.length_drop]
  apply propext
  omega
theorem decode_dl (s : ByteArray) (i : Nat) : Utf8.decode s i = dl (s.data.toList.drop i) := by
  unfold Utf8.decode dl
  simp only [get_drop, lt_drop]
  rfl

/-- The code point with which the bytes begin. -/
def hd (l : List UInt8) : Option Nat := if l = [] ∨ (dl l).1 = 0 ∨ ((dl l).1 = 65533 ∧ (dl l).2 = 1) then none else some (dl l).1

theorem n8 {n : Nat} (h : n < 256) : (UInt8.ofNat n).toNat = n := by rw [UInt8.toNat_ofNat']; omega
theorem b8 (b : UInt8) {n : Nat} (h : b.toNat = n) : UInt8.ofNat n = b := by subst h; simp

theorem dl_cb {c : Nat} (h : okc c) (l : List UInt8) : dl (cb c ++ l) = (c, (cb c).length) := by
  have hv := okc_valid h
  obtain ⟨h0, h1⟩ := h
  unfold cb
  split
  · rename_i h2
    simp [dl, n8 (show c < 256 by omega), h2]
  · split
    · rename_i h2 h3
      have e0 := n8 (show 192 + c / 64 < 256 by omega)
      have e1 := n8 (show 128 + c % 64 < 256 by omega)
      simp only [dl, List.cons_append, List.nil_append, List.getD_cons_zero, List.getD_cons_succ, e0, e1]
      rw [if_neg (by omega), if_pos (by simp; omega), if_pos (by omega)]
      simp; omega
    · split
      · rename_i h2 h3 h4
        have e0 := n8 (show 224 + c / 4096 < 256 by omega)
        have e1 := n8 (show 128 + c / 64 % 64 < 256 by omega)
        have e2 := n8 (show 128 + c % 64 < 256 by omega)
        have ec : (224 + c / 4096) % 16 * 4096 + (128 + c / 64 % 64) % 64 * 64 + (128 + c % 64) % 64 = c := by omega
        simp only [dl, List.cons_append, List.nil_append, List.getD_cons_zero, List.getD_cons_succ, e0, e1, e2, ec]
        rw [if_neg (by omega), if_neg (by simp; omega), if_pos (by simp; omega), if_pos (by simp [hv]; omega)]
        simp
      · rename_i h2 h3 h4
        have e0 := n8 (show 240 + c / 262144 < 256 by omega)
        have e1 := n8 (show 128 + c / 4096 % 64 < 256 by omega)
        have e2 := n8 (show 128 + c / 64 % 64 < 256 by omega)
        have e3 := n8 (show 128 + c % 64 < 256 by omega)
        have ec : (240 + c / 262144) % 8 * 262144 + (128 + c / 4096 % 64) % 64 * 4096 + (128 + c / 64 % 64) % 64 * 64 + (128 + c % 64) % 64 = c := by omega
        simp only [dl, List.cons_append, List.nil_append, List.getD_cons_zero, List.getD_cons_succ, e0, e1, e2, e3, ec]
        rw [if_neg (by omega), if_neg (by simp; omega), if_neg (by simp; omega), if_pos (by simp; omega), if_pos (by simp [hv]; omega)]
        simp

theorem cb_length_pos (c : Nat) : 0 < (cb c).length := by unfold cb; split <;> (try split) <;> (try split) <;> simp
theorem cb_length (c : Nat) : (cb c).length = if c < 128 then 1 else if c < 2048 then 2 else if c < 65536 then 3 else 4 := by
  unfold cb; split <;> (try split) <;> (try split) <;> simp
theorem cb_ne (c : Nat) (l : List UInt8) : cb c ++ l ≠ [] := by
  have := cb_length_pos c
  intro h
  have : (cb c ++ l).length = 0 := by rw [h]; rfl
  simp at this
  simp [this] at *

theorem hd_cb {c : Nat} (h : okc c) (l : List UInt8) : hd (cb c ++ l) = some c := by
  unfold hd
  rw [dl_cb h, if_neg]
  rintro (e | e | ⟨e, e2⟩)
  · exact cb_ne c l e
  · have := h.1; simp at e; omega
  · simp at e e2
    subst e
    simp [cb_length] at e2

theorem dl_cases (l : List UInt8) (hl : l ≠ []) : dl l = (65533, 1) ∨ (dl l).1 = 0 ∨ (okc (dl l).1 ∧ (dl l).2 = (cb (dl l).1).length ∧ ∃ r, l = cb (dl l).1 ++ r) := by
  unfold dl
  simp only []
  obtain ⟨b0, l0, rfl⟩ := List.exists_cons_of_ne_nil hl
  have h0 := b0.toNat_lt
  simp only [List.getD_cons_zero, List.getD_cons_succ, List.length_cons]
  split
  · rename_i hb
    by_cases hz : b0.toNat = 0
    · exact .inr (.inl hz)
    · refine .inr (.inr ⟨⟨by omega, by omega⟩, ?_, l0, ?_⟩)
      · simp [cb, hb]
      · simp [cb, hb]
  · split
    · rename_i hb hc
      rcases l0 with _ | ⟨b1, l1⟩
      · simp at hc
      simp at hc
      have h1 := b1.toNat_lt
      simp only [List.getD_cons_zero]
      split
      · rename_i hd
        have hk : ¬ b0.toNat % 32 * 64 + b1.toNat % 64 < 128 := by omega
        have hk2 : b0.toNat % 32 * 64 + b1.toNat % 64 < 2048 := by omega
        refine .inr (.inr ⟨⟨by simp; omega, by simp; omega⟩, ?_, l1, ?_⟩)
        · simp [cb, hk, hk2]
        · simp only [cb, hk, hk2, if_true, if_false]
          rw [b8 b0 (by omega), b8 b1 (by omega)]
          rfl
      · exact .inl rfl
    · split
      · rename_i hb hb2 hc
        rcases l0 with _ | ⟨b1, _ | ⟨b2, l2⟩⟩
        · simp at hc
        · simp at hc
        simp at hc
        have h1 := b1.toNat_lt
        have h2 := b2.toNat_lt
        simp only [List.getD_cons_zero, List.getD_cons_succ]
        split
        · rename_i hd
          simp only [Bool.and_eq_true, decide_eq_true_eq, valid_iff] at hd
          generalize hC : b0.toNat % 16 * 4096 + b1.toNat % 64 * 64 + b2.toNat % 64 = C at hd
          have hk : ¬ C < 128 := by omega
          have hk2 : ¬ C < 2048 := by omega
          have hk3 : C < 65536 := by omega
          refine .inr (.inr ⟨⟨by simp; omega, hd.2⟩, ?_, l2, ?_⟩)
          · simp [cb, hk, hk2, hk3]
          · simp only [cb, hk, hk2, hk3, if_false]
            rw [b8 b0 (by omega), b8 b1 (by omega), b8 b2 (by omega)]
            rfl
        · exact .inl rfl
      · split
        · rename_i hb hb2 hb3 hc
          rcases l0 with _ | ⟨b1, _ | ⟨b2, _ | ⟨b3, l3⟩⟩⟩
          · simp at hc
          · simp at hc
          · simp at hc
          simp at hc
          have h1 := b1.toNat_lt
          have h2 := b2.toNat_lt
          have h3 := b3.toNat_lt
          simp only [List.getD_cons_zero, List.getD_cons_succ]
          split
          · rename_i hd
            simp only [Bool.and_eq_true, decide_eq_true_eq, valid_iff] at hd
            generalize hC : b0.toNat % 8 * 262144 + b1.toNat % 64 * 4096 + b2.toNat % 64 * 64 + b3.toNat % 64 = C at hd
            have hk : ¬ C < 128 := by omega
            have hk2 : ¬ C < 2048 := by omega
            have hk3 : ¬ C < 65536 := by omega
            refine .inr (.inr ⟨⟨by simp; omega, hd.2⟩, ?_, l3, ?_⟩)
            · simp [cb, hk, hk2, hk3]
            · simp only [cb, hk, hk2, hk3, if_false]
              rw [b8 b0 (by omega), b8 b1 (by omega), b8 b2 (by omega), b8 b3 (by omega)]
              rfl
          · exact .inl rfl
        · exact .inl rfl

theorem hd_some {l : List UInt8} {c : Nat} (h : hd l = some c) : okc c ∧ ∃ r, l = cb c ++ r := by
  unfold hd at h
  split at h
  · cases h
  · rename_i hn
    have e : (dl l).1 = c := by simpa using h
    have hne : l ≠ [] := fun e => hn (.inl e)
    rcases dl_cases l hne with h1 | h1 | ⟨h1, _, h2⟩
    · exact absurd (.inr (.inr (by rw [h1]; exact ⟨rfl, rfl⟩))) hn
    · exact absurd (.inr (.inl h1)) hn
    · rw [e] at h1 h2; exact ⟨h1, h2⟩

/-- Where no code point begins the range tells U+0000, or U+FFFD and one byte. -/
theorem hd_none {l : List UInt8} (hl : l ≠ []) (h : hd l = none) : dl l = (65533, 1) ∨ (dl l).1 = 0 := by
  rcases dl_cases l hl with h1 | h1 | ⟨h1, h2, h3, h4⟩
  · exact .inl h1
  · exact .inr h1
  · generalize (dl l).1 = c at h1 h4
    subst h4
    rw [hd_cb h1] at h
    cases h

/-- All code points, up to the first place where none begins. -/
def pts (l : List UInt8) : List Nat :=
  match _h : hd l with
  | none => []
  | some c => c :: pts (l.drop (cb c).length)
termination_by l.length
decreasing_by
  obtain ⟨_, r, rfl⟩ := hd_some _h
  have := cb_length_pos c
  simp
  omega

/-- The bytes of code points, one after the other. -/
def cbs (cs : List Nat) : List UInt8 := cs.flatMap cb
def oks (cs : List Nat) : Prop := ∀ c ∈ cs, okc c

theorem cbs_nil : cbs [] = [] := rfl
theorem cbs_cons (c : Nat) (cs : List Nat) : cbs (c :: cs) = cb c ++ cbs cs := rfl
theorem cbs_append (a b : List Nat) : cbs (a ++ b) = cbs a ++ cbs b := by simp [cbs]
theorem cbs_snoc (a : List Nat) (c : Nat) : cbs (a ++ [c]) = cbs a ++ cb c := by simp [cbs]

theorem pts_none {l : List UInt8} (h : hd l = none) : pts l = [] := by
  rw [pts]
  split
  · rfl
  · rename_i c hc; rw [h] at hc; cases hc
theorem pts_some {c : Nat} (h : okc c) (l : List UInt8) : pts (cb c ++ l) = c :: pts l := by
  rw [pts]
  have e := hd_cb h l
  split
  · rename_i hc; rw [e] at hc; cases hc
  · rename_i c' hc
    rw [e] at hc
    obtain rfl : c = c' := by simpa using hc
    simp
theorem hd_nil : hd [] = none := by simp [hd]
theorem pts_nil : pts [] = [] := pts_none hd_nil

/-- The induction over a list's code points. -/
theorem pts_spec : ∀ (n : Nat) (l : List UInt8), l.length ≤ n → oks (pts l) ∧ ∃ r, l = cbs (pts l) ++ r ∧ hd r = none
  | 0, l, h => by
    obtain rfl : l = [] := List.eq_nil_of_length_eq_zero (by omega)
    rw [pts_nil]
    exact ⟨by simp [oks], [], rfl, hd_nil⟩
  | n + 1, l, h => by
    cases hc : hd l with
    | none =>
      rw [pts_none hc]
      exact ⟨by simp [oks], l, rfl, hc⟩
    | some c =>
      obtain ⟨ho, r, rfl⟩ := hd_some hc
      have := cb_length_pos c
      rw [pts_some ho]
      obtain ⟨h1, r2, h2, h3⟩ := pts_spec n r (by simp at h; omega)
      refine ⟨fun d hd => (List.mem_cons.1 hd).elim (fun e => e ▸ ho) (h1 d), r2, ?_, h3⟩
      rw [cbs_cons, List.append_assoc, ← h2]
theorem pts_oks (l : List UInt8) : oks (pts l) := (pts_spec _ l (Nat.le_refl _)).1
theorem pts_rest (l : List UInt8) : ∃ r, l = cbs (pts l) ++ r ∧ hd r = none := (pts_spec _ l (Nat.le_refl _)).2

theorem pts_append {cs : List Nat} (h : oks cs) (l : List UInt8) : pts (cbs cs ++ l) = cs ++ pts l := by
  induction cs with
  | nil => rfl
  | cons c cs ih =>
    rw [cbs_cons, List.append_assoc, pts_some (h c (List.mem_cons_self ..)), ih fun d hd => h d (List.mem_cons_of_mem _ hd)]
    rfl
theorem pts_cbs {cs : List Nat} (h : oks cs) : pts (cbs cs) = cs := by
  have := pts_append h []
  rwa [List.append_nil, pts_nil, List.append_nil] at this

/-- Where the code points end. -/
def fin (l : List UInt8) : Nat := (cbs (pts l)).length
theorem fin_le (l : List UInt8) : fin l ≤ l.length := by
  obtain ⟨r, h, _⟩ := pts_rest l
  unfold fin
  have := congrArg List.length h
  simp at this
  omega
/-- The first place where no code point begins; -1: there is none. -/
def badOf (l : List UInt8) : Int := if fin l < l.length then (fin l : Int) else -1
def validOf (l : List UInt8) : Bool := decide (l.length ≤ 65535) && decide (badOf l < 0)
theorem validOf_iff (l : List UInt8) : validOf l = true ↔ l.length ≤ 65535 ∧ fin l = l.length := by
  unfold validOf badOf
  have := fin_le l
  simp only [Bool.and_eq_true, decide_eq_true_eq]
  constructor
  · rintro ⟨h1, h2⟩
    refine ⟨h1, ?_⟩
    split at h2 <;> omega
  · rintro ⟨h1, h2⟩
    refine ⟨h1, ?_⟩
    rw [if_neg (by omega)]; omega
/-- The places and the code points: what an iterator over them hands over. -/
def marks (p : Nat) : List Nat → List (Nat × Nat)
  | [] => []
  | c :: cs => (p, c) :: marks (p + (cb c).length) cs
theorem marks_length (cs : List Nat) : ∀ p, (marks p cs).length = cs.length := by
  induction cs with
  | nil => intro p; rfl
  | cons c cs ih => intro p; simp [marks, ih]
theorem marks_append (a b : List Nat) : ∀ p, marks p (a ++ b) = marks p a ++ marks (p + (cbs a).length) b := by
  induction a with
  | nil => intro p; simp [marks, cbs]
  | cons c a ih =>
    intro p
    rw [cbs_cons, List.length_append, List.cons_append, marks, ih, marks, List.cons_append, Nat.add_assoc]
theorem marks_snoc (a : List Nat) (c : Nat) : marks 0 (a ++ [c]) = marks 0 a ++ [((cbs a).length, c)] := by
  rw [marks_append]; simp [marks]
end Go.Proofs.YtaahhbjnflimnaaGreat
namespace Go.Proofs.YtaahhbjnflimnaaGreat

/-- The lowest c bytes of n, the highest first. -/
def be (n : Nat) : Nat → List UInt8
  | 0 => []
  | c + 1 => be (n / 256) c ++ [UInt8.ofNat n]

theorem be_length (c : Nat) : ∀ n, (be n c).length = c := by
  induction c with
  | zero => intro n; rfl
  | succ c ih => intro n; simp [be, ih]

theorem be_step (n c k : Nat) (hk : k < c) : be (n / 256 ^ (c - (k + 1))) (k + 1) = be (n / 256 ^ (c - k)) k ++ [UInt8.ofNat (n / 256 ^ (c - (k + 1)))] := by
  have e : c - k = (c - (k + 1)) + 1 := by omega
  rw [be, e, Nat.pow_succ, Nat.div_div_eq_div_mul]

/-- The number of bytes, the highest first. -/
def num (l : List UInt8) : Nat := l.foldl (fun a b => a * 256 + b.toNat) 0

theorem num_snoc (l : List UInt8) (b : UInt8) : num (l ++ [b]) = num l * 256 + b.toNat := by simp [num]

theorem num_lt (l : List UInt8) : num l < 256 ^ l.length := by
  have key : ∀ (k : Nat) (l : List UInt8), l.length = k → num l < 256 ^ k := by
    intro k
    induction k with
    | zero => intro l h; have : l = [] := List.eq_nil_of_length_eq_zero h; subst this; decide
    | succ k ih =>
      intro l h
      rcases List.eq_nil_or_concat l with rfl | ⟨l', b, rfl⟩
      · simp at h
      · simp at h
        have := ih l' h
        have hb := b.toNat_lt
        rw [List.concat_eq_append, num_snoc, Nat.pow_succ]
        omega
  exact key _ l rfl

theorem be_of_num (l : List UInt8) : be (num l) l.length = l := by
  have key : ∀ (k : Nat) (l : List UInt8), l.length = k → be (num l) k = l := by
    intro k
    induction k with
    | zero => intro l h; have : l = [] := List.eq_nil_of_length_eq_zero h; subst this; rfl
    | succ k ih =>
      intro l h
      rcases List.eq_nil_or_concat l with rfl | ⟨l', b, rfl⟩
      · simp at h
      · simp at h
        have hb := b.toNat_lt
        rw [List.concat_eq_append, num_snoc, be]
        have e : (num l' * 256 + b.toNat) / 256 = num l' := by omega
        rw [e, ih l' h]
        congr 2
        apply UInt8.toNat_inj.1
        rw [UInt8.toNat_ofNat']
        omega
  exact key _ l rfl

end Go.Proofs.YtaahhbjnflimnaaGreat
namespace Go.Proofs.YtaahhbjnflimnaaGreat

/-- The encoding: the length in two bytes, and the bytes. -/
def enc2 (l : List UInt8) : List UInt8 := be l.length 2 ++ l
theorem enc2_length (l : List UInt8) : (enc2 l).length = l.length + 2 := by simp [enc2, be_length]; omega
theorem num2_lt (l : List UInt8) : num (l.take 2) < 65536 := by
  have h := num_lt (l.take 2)
  have hl : (l.take 2).length ≤ 2 := by simp; omega
  have := Nat.pow_le_pow_right (show 0 < 256 by decide) hl
  omega

/-- What ReadBinary tells of its bytes. -/
def rdB (l : List UInt8) : List UInt8 × Nat × Nat :=
  if 2 ≤ l.length ∧ 2 + num (l.take 2) ≤ l.length then ((l.drop 2).take (num (l.take 2)), 2 + num (l.take 2), 0) else ([], 0, 3)
/-- What Read tells. -/
def rdT (l : List UInt8) : List UInt8 × Nat × Nat :=
  if (rdB l).2.2 ≠ 0 then ([], 0, 3) else if validOf (rdB l).1 then rdB l else ([], 0, 6)
theorem rdB_cases (l : List UInt8) : ((rdB l).2.2 = 0 ∧ (rdB l).1.length + 2 = (rdB l).2.1 ∧ (rdB l).2.1 ≤ l.length ∧ (rdB l).2.1 < 65538 ∧ l.take (rdB l).2.1 = enc2 (rdB l).1) ∨ rdB l = ([], 0, 3) := by
  unfold rdB
  split
  · rename_i h
    refine .inl ⟨rfl, ?_, h.2, by have := num2_lt l; simp; omega, ?_⟩
    · simp; omega
    · have hl : ((l.drop 2).take (num (l.take 2))).length = num (l.take 2) := by simp; omega
      have hb := be_of_num (l.take 2)
      have h2 : (l.take 2).length = 2 := by simp; omega
      rw [h2] at hb
      show l.take (2 + num (l.take 2)) = enc2 _
      rw [enc2, hl, hb, List.take_add]
  · exact .inr rfl

end Go.Proofs.YtaahhbjnflimnaaGreat
namespace Go.Proofs.YtaahhbjnflimnaaGreat

/-- What a reader is after a byte that is its n-th: 0 open, 1 whole, 2 broken. -/
def nxt (b : UInt8) (n : Nat) : Nat := if 128 ≤ b.toNat then (if n = 4 then 2 else 0) else if b.toNat = 0 ∧ 1 < n then 2 else 1
/-- The number with a byte more. -/
def grow (v n : Nat) (b : UInt8) : Nat := v + b.toNat % 128 * 128 ^ n
/-- Number, size and state behind the bytes: those behind the end are not looked at. -/
def run (v n : Nat) : List UInt8 → Nat × Nat × Nat
  | [] => (v, n, 0)
  | b :: l => if nxt b (n + 1) = 0 then run (grow v n b) (n + 1) l else (grow v n b, n + 1, nxt b (n + 1))

theorem nxt_cases (b : UInt8) (n : Nat) : nxt b n = 0 ∨ nxt b n = 1 ∨ nxt b n = 2 := by
  unfold nxt; split <;> split <;> simp
theorem nxt_zero {b : UInt8} {n : Nat} : nxt b n = 0 ↔ 128 ≤ b.toNat ∧ n ≠ 4 := by
  unfold nxt; split <;> split <;> simp_all
  all_goals omega
theorem nxt_one {b : UInt8} {n : Nat} : nxt b n = 1 ↔ b.toNat < 128 ∧ (0 < b.toNat ∨ n ≤ 1) := by
  unfold nxt; split <;> split <;> simp_all <;> omega
theorem nxt_two {b : UInt8} {n : Nat} : nxt b n = 2 ↔ (128 ≤ b.toNat ∧ n = 4) ∨ (b.toNat = 0 ∧ 1 < n) := by
  unfold nxt; split <;> split <;> simp_all <;> omega

theorem grow_lt {v n : Nat} (b : UInt8) (h : v < 128 ^ n) : grow v n b < 128 ^ (n + 1) := by
  unfold grow
  have h1 : b.toNat % 128 ≤ 127 := by omega
  have h2 : b.toNat % 128 * 128 ^ n ≤ 127 * 128 ^ n := Nat.mul_le_mul_right _ h1
  rw [Nat.pow_succ]
  omega

theorem run_open {v n : Nat} {b : UInt8} (l : List UInt8) (h : nxt b (n + 1) = 0) : run v n (b :: l) = run (grow v n b) (n + 1) l := by simp [run, h]
theorem run_shut {v n : Nat} {b : UInt8} (l : List UInt8) (h : nxt b (n + 1) ≠ 0) : run v n (b :: l) = (grow v n b, n + 1, nxt b (n + 1)) := by simp [run, h]

theorem run_state : ∀ (l : List UInt8) (v n : Nat), (run v n l).2.2 = 0 ∨ (run v n l).2.2 = 1 ∨ (run v n l).2.2 = 2 := by
  intro l
  induction l with
  | nil => intro v n; simp [run]
  | cons a l ih =>
    intro v n
    by_cases h0 : nxt a (n + 1) = 0
    · rw [run_open _ h0]; exact ih _ _
    · rw [run_shut _ h0]; exact nxt_cases _ _

/-- What is read: the number, how many bytes it has, and the error. -/
def rdV (l : List UInt8) : Nat := if (run 0 0 l).2.2 = 1 then (run 0 0 l).1 else 0
def rdN (l : List UInt8) : Nat := if (run 0 0 l).2.2 = 1 then (run 0 0 l).2.1 else 0
def rdE (l : List UInt8) : Nat := if (run 0 0 l).2.2 = 0 then 3 else if (run 0 0 l).2.2 = 1 then 0 else 5
theorem rd_of {l : List UInt8} {v n st : Nat} (h : run 0 0 l = (v, n, st)) : rdV l = (if st = 1 then v else 0) ∧ rdN l = (if st = 1 then n else 0) ∧ rdE l = if st = 0 then 3 else if st = 1 then 0 else 5 := by
  simp [rdV, rdN, rdE, h]

/-- How many bytes a number has: 0 if it can't be represented. -/
def sz (n : Int) : Nat := if n < 0 ∨ 268435455 < n then 0 else if n < 128 then 1 else if n < 16384 then 2 else if n < 2097152 then 3 else 4
/-- Byte i of the c bytes of n. -/
def byt (n c i : Nat) : UInt8 := UInt8.ofNat (n / 128 ^ i % 128 + if i + 1 < c then 128 else 0)
def vb (n c : Nat) : List UInt8 := (List.range c).map (byt n c)
theorem vb_length (n c : Nat) : (vb n c).length = c := by simp [vb]
theorem byt_toNat (n c i : Nat) : (byt n c i).toNat = n / 128 ^ i % 128 + if i + 1 < c then 128 else 0 := by
  unfold byt
  have : n / 128 ^ i % 128 < 128 := Nat.mod_lt _ (by decide)
  simp only [UInt8.toNat_ofNat']
  split <;> omega
theorem sz_cases (n : Nat) (h : n ≤ 268435455) : (sz n = 1 ∧ n < 128) ∨ (sz n = 2 ∧ 128 ≤ n ∧ n < 16384) ∨ (sz n = 3 ∧ 16384 ≤ n ∧ n < 2097152) ∨ (sz n = 4 ∧ 2097152 ≤ n) := by
  unfold sz; split
  · omega
  · split
    · omega
    · split
      · omega
      · split <;> omega
theorem sz_zero {n : Int} : sz n = 0 ↔ n < 0 ∨ 268435455 < n := by
  unfold sz; split
  · simp [*]
  · split
    · simp [*]
    · split
      · simp [*]
      · split <;> simp [*]

/-- What is read as a number is written as the same: its bytes begin the string. -/
theorem run_back (l : List UInt8) (v n : Nat) (h : run 0 0 l = (v, n, 1)) : v ≤ 268435455 ∧ n = sz v ∧ n ≤ l.length ∧ l.take n = vb v n := by
  have ofb : ∀ (a : UInt8) (x c i : Nat), a.toNat = (x / 128 ^ i % 128 + if i + 1 < c then 128 else 0) → a = byt x c i := fun a x c i e => UInt8.toNat_inj.1 (by rw [byt_toNat, e])
  cases l with
  | nil => simp [run] at h
  | cons a l =>
    have ha := a.toNat_lt
    by_cases ha0 : nxt a (0 + 1) = 0
    · rw [run_open _ ha0] at h
      have ha1 := (nxt_zero.1 ha0).1
      cases l with
      | nil => simp [run] at h
      | cons b l =>
        have hb := b.toNat_lt
        by_cases hb0 : nxt b (0 + 1 + 1) = 0
        · rw [run_open _ hb0] at h
          have hb1 := (nxt_zero.1 hb0).1
          cases l with
          | nil => simp [run] at h
          | cons c l =>
            have hc := c.toNat_lt
            by_cases hc0 : nxt c (0 + 1 + 1 + 1) = 0
            · rw [run_open _ hc0] at h
              have hc1 := (nxt_zero.1 hc0).1
              cases l with
              | nil => simp [run] at h
              | cons d l =>
                have hd := d.toNat_lt
                by_cases hd0 : nxt d (0 + 1 + 1 + 1 + 1) = 0
                · exact absurd (nxt_zero.1 hd0).2 (by decide)
                · rw [run_shut _ hd0] at h
                  simp only [Prod.mk.injEq] at h
                  obtain ⟨hv, rfl, h1⟩ := h
                  have h2 := nxt_one.1 h1
                  have e : v = a.toNat % 128 + b.toNat % 128 * 128 + c.toNat % 128 * 16384 + d.toNat * 2097152 := by rw [← hv]; simp [grow]; omega
                  clear hv
                  refine ⟨by omega, by unfold sz; rw [if_neg (by omega), if_neg (by omega), if_neg (by omega), if_neg (by omega)], by simp, ?_⟩
                  simp [vb, List.range_succ]
                  exact ⟨ofb _ _ _ _ (by simp; omega), ofb _ _ _ _ (by simp; omega), ofb _ _ _ _ (by simp; omega), ofb _ _ _ _ (by simp; omega)⟩
            · rw [run_shut _ hc0] at h
              simp only [Prod.mk.injEq] at h
              obtain ⟨hv, rfl, h1⟩ := h
              have h2 := nxt_one.1 h1
              have e : v = a.toNat % 128 + b.toNat % 128 * 128 + c.toNat * 16384 := by rw [← hv]; simp [grow]; omega
              clear hv
              refine ⟨by omega, by unfold sz; rw [if_neg (by omega), if_neg (by omega), if_neg (by omega), if_pos (by omega)], by simp, ?_⟩
              simp [vb, List.range_succ]
              exact ⟨ofb _ _ _ _ (by simp; omega), ofb _ _ _ _ (by simp; omega), ofb _ _ _ _ (by simp; omega)⟩
        · rw [run_shut _ hb0] at h
          simp only [Prod.mk.injEq] at h
          obtain ⟨hv, rfl, h1⟩ := h
          have h2 := nxt_one.1 h1
          have e : v = a.toNat % 128 + b.toNat * 128 := by rw [← hv]; simp [grow]; omega
          clear hv
          refine ⟨by omega, by unfold sz; rw [if_neg (by omega), if_neg (by omega), if_pos (by omega)], by simp, ?_⟩
          simp [vb, List.range_succ]
          exact ⟨ofb _ _ _ _ (by simp; omega), ofb _ _ _ _ (by simp; omega)⟩
    · rw [run_shut _ ha0] at h
      simp only [Prod.mk.injEq] at h
      obtain ⟨hv, rfl, h1⟩ := h
      have h2 := nxt_one.1 h1
      have e : v = a.toNat := by rw [← hv]; simp [grow]; omega
      clear hv
      refine ⟨by omega, by unfold sz; rw [if_neg (by omega), if_pos (by omega)], by simp, ?_⟩
      simp [vb, List.range_succ]
      exact ofb _ _ _ _ (by simp; omega)
end Go.Proofs.YtaahhbjnflimnaaGreat
namespace Go.Proofs.YtaahhbjnflimnaaGreat

/-- In a filter a + is alone in its level, and a # alone in the last one. -/
def okl : List (List UInt8) → Prop
  | [] => True
  | l :: ls => ((43 : UInt8) ∈ l → l = [43]) ∧ ((35 : UInt8) ∈ l → l = [35] ∧ ls = []) ∧ okl ls
instance okl_dec : (ls : List (List UInt8)) → Decidable (okl ls)
  | [] => isTrue trivial
  | l :: ls => by
    have := okl_dec ls
    unfold okl
    infer_instance
def nameL (s : List UInt8) : Bool := decide (s ≠ []) && validOf s && decide ((43 : UInt8) ∉ s) && decide ((35 : UInt8) ∉ s)
end Go.Proofs.YtaahhbjnflimnaaGreat
namespace Go.Proofs.YtaahhbjnflimnaaGreat

end Go.Proofs.YtaahhbjnflimnaaGreat
namespace Go.Proofs.YtaahhbjnflimnaaGreat

/-- Shape, kinds, the least and the greatest number. -/
structure PRow where
  shape : Nat
  kinds : List Int
  least : Nat
  most : Nat
def prow (id : Int) : PRow :=
  if id = 1 then ⟨1, [3, 16], 0, 1⟩
  else if id = 2 then ⟨3, [3, 16], 0, 4294967295⟩
  else if id = 3 ∨ id = 8 then ⟨5, [3, 16], 0, 0⟩
  else if id = 9 then ⟨6, [3, 16], 0, 0⟩
  else if id = 11 then ⟨4, [3, 8], 1, 268435455⟩
  else if id = 17 then ⟨3, [1, 2, 14], 0, 4294967295⟩
  else if id = 18 ∨ id = 26 then ⟨5, [2], 0, 0⟩
  else if id = 19 then ⟨2, [2], 0, 65535⟩
  else if id = 21 then ⟨5, [1, 2, 15], 0, 0⟩
  else if id = 22 then ⟨6, [1, 2, 15], 0, 0⟩
  else if id = 23 ∨ id = 25 then ⟨1, [1], 0, 1⟩
  else if id = 24 then ⟨3, [16], 0, 4294967295⟩
  else if id = 28 then ⟨5, [2, 14], 0, 0⟩
  else if id = 31 then ⟨5, [2, 4, 5, 6, 7, 9, 11, 14, 15], 0, 0⟩
  else if id = 33 then ⟨2, [1, 2], 1, 65535⟩
  else if id = 34 then ⟨2, [1, 2], 0, 65535⟩
  else if id = 35 then ⟨2, [3], 1, 65535⟩
  else if id = 36 ∨ id = 37 ∨ id = 40 ∨ id = 41 ∨ id = 42 then ⟨1, [2], 0, 1⟩
  else if id = 38 then ⟨7, [1, 2, 3, 4, 5, 6, 7, 8, 9, 10, 11, 14, 15, 16], 0, 0⟩
  else if id = 39 then ⟨3, [1, 2], 1, 4294967295⟩
  else ⟨0, [], 0, 0⟩
def shapeP (id : Int) : Nat := (prow id).shape
def mayP (kind id : Int) : Bool := (prow id).kinds.contains kind
def manyP (kind id : Int) : Bool := mayP kind id && (id == 38 || (id == 11 && kind == 3))

/-- What Check tells: 0, 2 an argument, 6 a text, 9 a property. -/
def checkP (kind : Int) (p : Pr) : Nat :=
  if mayP kind p.id = false then 9
  else if shapeP p.id ≤ 4 then
    if p.text ≠ [] ∨ p.value ≠ [] then 2
    else if p.n < (prow p.id).least ∨ (prow p.id).most < p.n then 9
    else 0
  else if p.n ≠ 0 ∨ (shapeP p.id ≠ 7 ∧ p.value ≠ []) then 2
  else if shapeP p.id = 6 then (if 65535 < p.text.length then 2 else 0)
  else if validOf p.text = false ∨ validOf p.value = false then 6
  else if p.id = 8 ∧ nameL p.text = false then 9
  else 0

theorem prow_out {id : Int} (h : id < 1 ∨ 42 < id) : prow id = ⟨0, [], 0, 0⟩ := by
  unfold prow
  repeat rw [if_neg (by omega)]
/-- What holds of every row, by looking at each. -/
theorem prow_all (P : Int → PRow → Bool) (h : (List.range 43).all (fun k => P (k : Int) (prow (k : Int))) = true) {id : Int} (hi : 1 ≤ id ∧ id ≤ 42) : P id (prow id) = true := by
  have := List.all_eq_true.1 h id.toNat (List.mem_range.2 (by omega))
  rwa [show ((id.toNat : Nat) : Int) = id by omega] at this
theorem may_range {kind id : Int} (h : mayP kind id = true) : 1 ≤ id ∧ id ≤ 42 := by
  rcases Int.lt_or_le id 1 with h1 | h1
  · unfold mayP at h; rw [prow_out (.inl h1)] at h; simp at h
  · rcases Int.lt_or_le 42 id with h2 | h2
    · unfold mayP at h; rw [prow_out (.inr h2)] at h; simp at h
    · exact ⟨h1, h2⟩
theorem may_kinds {kind id : Int} (h : mayP kind id = true) : (prow id).kinds ≠ [] := by
  intro e
  unfold mayP at h
  rw [e] at h
  simp at h
/-- Shapes, and how great numbers may be. -/
theorem row_fits {kind id : Int} (h : mayP kind id = true) : 1 ≤ shapeP id ∧ shapeP id ≤ 7 ∧ (shapeP id = 1 → (prow id).most < 256) ∧ (shapeP id = 2 → (prow id).most < 65536) ∧ (shapeP id = 3 → (prow id).most < 4294967296) ∧ (shapeP id = 4 → (prow id).most ≤ 268435455) ∧ (id = 8 → shapeP id = 5) := by
  have := prow_all (fun i r => r.kinds.isEmpty || (decide (1 ≤ r.shape) && decide (r.shape ≤ 7) && (decide (r.shape ≠ 1) || decide (r.most < 256)) && (decide (r.shape ≠ 2) || decide (r.most < 65536)) && (decide (r.shape ≠ 3) || decide (r.most < 4294967296)) && (decide (r.shape ≠ 4) || decide (r.most ≤ 268435455)) && (decide (i ≠ 8) || decide (r.shape = 5)))) (by decide) (may_range h)
  have hk := may_kinds h
  unfold shapeP
  generalize prow id = r at *
  simp only [Bool.or_eq_true, Bool.and_eq_true, decide_eq_true_eq, List.isEmpty_iff] at this
  rcases this with e | ⟨⟨⟨⟨⟨⟨h1, h2⟩, h3⟩, h4⟩, h5⟩, h6⟩, h7⟩
  · exact absurd e hk
  · exact ⟨h1, h2, fun e => h3.resolve_left (fun x => x e), fun e => h4.resolve_left (fun x => x e), fun e => h5.resolve_left (fun x => x e), fun e => h6.resolve_left (fun x => x e), fun e => h7.resolve_left (fun x => x e)⟩

/-! ### The bytes of a value, and what is read of bytes -/
def valueP (p : Pr) : List UInt8 :=
  if shapeP p.id = 1 then be p.n 1 else if shapeP p.id = 2 then be p.n 2 else if shapeP p.id = 3 then be p.n 4
  else if shapeP p.id = 4 then vb p.n (sz p.n) else if shapeP p.id = 7 then enc2 p.text ++ enc2 p.value else enc2 p.text
/-- A number of so many bytes. -/
def numP (id : Int) (c : Nat) (r : List UInt8) : Pr × Nat × Nat := if r.length < c then (⟨id, 0, [], []⟩, 0, 5) else (⟨id, num (r.take c), [], []⟩, c, 0)
/-- A text, or data: with what it is, its size and the error. -/
def textP (data : Bool) (r : List UInt8) : List UInt8 × Nat × Nat := if (rdB r).2.2 ≠ 0 then ([], 0, 5) else if data || validOf (rdB r).1 then ((rdB r).1, (rdB r).2.1, 0) else ([], 0, 6)
/-- The value behind an id: the property, how many bytes, the error. -/
def nextP (id : Int) (r : List UInt8) : Pr × Nat × Nat :=
  if shapeP id = 1 then numP id 1 r else if shapeP id = 2 then numP id 2 r else if shapeP id = 3 then numP id 4 r
  else if shapeP id = 4 then (if rdE r ≠ 0 then (⟨id, 0, [], []⟩, 0, 5) else (⟨id, rdV r, [], []⟩, rdN r, 0))
  else if shapeP id = 7 then
    (if (textP false r).2.2 ≠ 0 then (⟨id, 0, [], []⟩, 0, (textP false r).2.2)
     else if (textP false (r.drop (textP false r).2.1)).2.2 ≠ 0 then (⟨id, 0, [], []⟩, 0, (textP false (r.drop (textP false r).2.1)).2.2)
     else (⟨id, 0, (textP false r).1, (textP false (r.drop (textP false r).2.1)).1⟩, (textP false r).2.1 + (textP false (r.drop (textP false r).2.1)).2.1, 0))
  else if (textP (shapeP id == 6) r).2.2 ≠ 0 then (⟨id, 0, [], []⟩, 0, (textP (shapeP id == 6) r).2.2) else (⟨id, 0, (textP (shapeP id == 6) r).1, []⟩, (textP (shapeP id == 6) r).2.1, 0)

theorem check_parts {kind : Int} {p : Pr} (h : checkP kind p = 0) : mayP kind p.id = true ∧
    (shapeP p.id ≤ 4 → p.text = [] ∧ p.value = [] ∧ (prow p.id).least ≤ p.n ∧ p.n ≤ (prow p.id).most) ∧
    (4 < shapeP p.id → p.n = 0 ∧ (shapeP p.id ≠ 7 → p.value = []) ∧ (shapeP p.id = 6 → p.text.length ≤ 65535) ∧ (shapeP p.id ≠ 6 → validOf p.text = true ∧ validOf p.value = true)) := by
  unfold checkP at h
  by_cases hm : mayP kind p.id = true
  · rw [if_neg (by simp [hm])] at h
    refine ⟨hm, fun hs => ?_, fun hs => ?_⟩
    · rw [if_pos hs] at h
      split at h
      · cases h
      · rename_i h1
        split at h
        · cases h
        · rename_i h2
          simp only [not_or, Decidable.not_not] at h1
          exact ⟨h1.1, h1.2, by omega, by omega⟩
    · rw [if_neg (by omega)] at h
      split at h
      · cases h
      · rename_i h1
        have h1a : p.n = 0 := by
          rcases Nat.eq_zero_or_pos p.n with e | e
          · exact e
          · exact absurd (.inl (by omega)) h1
        have h1b : shapeP p.id ≠ 7 → p.value = [] := fun e => Classical.byContradiction fun x => h1 (.inr ⟨e, x⟩)
        refine ⟨h1a, h1b, fun e => ?_, fun e => ?_⟩
        · rw [if_pos e] at h
          split at h
          · cases h
          · omega
        · rw [if_neg e] at h
          split at h
          · cases h
          · rename_i h2
            simp only [not_or, Bool.not_eq_false] at h2
            exact h2
  · rw [if_pos (by simpa using hm)] at h; cases h
end Go.Proofs.YtaahhbjnflimnaaGreat
namespace Go.Proofs.YtaahhbjnflimnaaGreat

/-- Is there one of an id? -/
def hasP (l : List Pr) (id : Int) : Bool := l.any fun p => p.id == id
def twiceP (kind : Int) (l : List Pr) (id : Int) : Bool := hasP l id && !manyP kind id
/-- Data without a method. -/
def loneP (l : List Pr) : Bool := hasP l 22 && !hasP l 21
/-- A property's bytes. -/
def oneP (p : Pr) : List UInt8 := UInt8.ofNat p.id.toNat :: valueP p
def bodyP (l : List Pr) : List UInt8 := l.flatMap oneP
/-- The first error of properties behind others. -/
def eachP (kind : Int) : List Pr → List Pr → Nat
  | _, [] => 0
  | pre, p :: l => if checkP kind p ≠ 0 then checkP kind p else if twiceP kind pre p.id then 9 else eachP kind (pre ++ [p]) l
/-- What Valid tells. -/
def validP (kind : Int) (l : List Pr) : Nat :=
  if 1000 < l.length then 4 else if eachP kind [] l ≠ 0 then eachP kind [] l else if loneP l then 9 else if 268435455 < (bodyP l).length then 4 else 0
/-- What Bytes tells. -/
def bytesP (kind : Int) (l : List Pr) : List UInt8 × Nat :=
  if validP kind l ≠ 0 then ([], validP kind l) else (vb (bodyP l).length (sz (bodyP l).length) ++ bodyP l, 0)
/-- What is read of a list's bytes behind others, with room for so many rounds. -/
def fromP (kind : Int) : Nat → List Pr → List UInt8 → List Pr × Nat
  | 0, out, _ => (out, 0)
  | f + 1, out, s => match s with
    | [] => (out, 0)
    | b :: r =>
      if mayP kind b.toNat = false then ([], 9)
      else if (nextP b.toNat r).2.2 ≠ 0 then ([], (nextP b.toNat r).2.2)
      else if checkP kind (nextP b.toNat r).1 ≠ 0 then ([], checkP kind (nextP b.toNat r).1)
      else if twiceP kind out b.toNat then ([], 9)
      else if 1000 ≤ out.length then ([], 4)
      else fromP kind f (out ++ [(nextP b.toNat r).1]) (r.drop (nextP b.toNat r).2.1)
/-- What Read tells: the list, how many bytes, the error. -/
def readP (kind : Int) (s : List UInt8) : List Pr × Nat × Nat :=
  if rdE s ≠ 0 then ([], 0, rdE s)
  else if s.length < rdN s + rdV s then ([], 0, 3)
  else if (fromP kind (rdV s) [] ((s.drop (rdN s)).take (rdV s))).2 ≠ 0 then ([], 0, (fromP kind (rdV s) [] ((s.drop (rdN s)).take (rdV s))).2)
  else if loneP (fromP kind (rdV s) [] ((s.drop (rdN s)).take (rdV s))).1 then ([], 0, 9)
  else ((fromP kind (rdV s) [] ((s.drop (rdN s)).take (rdV s))).1, rdN s + rdV s, 0)

theorem bodyP_nil : bodyP [] = [] := rfl
theorem bodyP_cons (p : Pr) (l : List Pr) : bodyP (p :: l) = oneP p ++ bodyP l := rfl
theorem bodyP_append (a b : List Pr) : bodyP (a ++ b) = bodyP a ++ bodyP b := by simp [bodyP]
theorem oneP_length (p : Pr) : (oneP p).length = (valueP p).length + 1 := rfl
theorem valid_parts {kind : Int} {l : List Pr} (h : validP kind l = 0) : l.length ≤ 1000 ∧ eachP kind [] l = 0 ∧ loneP l = false ∧ (bodyP l).length ≤ 268435455 := by
  unfold validP at h
  split at h
  · cases h
  · split at h
    · rename_i h2; exact absurd h h2
    · split at h
      · cases h
      · split at h
        · cases h
        · refine ⟨by omega, by simp_all, by simp_all, by omega⟩
theorem numP_back {id : Int} {c k : Nat} {r : List UInt8} {p : Pr} (h : numP id c r = (p, k, 0)) : p = ⟨id, num (r.take c), [], []⟩ ∧ k = c ∧ c ≤ r.length ∧ be (num (r.take c)) c = r.take c := by
  unfold numP at h
  split at h
  · simp at h
  · rename_i hl
    simp only [Prod.mk.injEq, and_true] at h
    obtain ⟨rfl, rfl⟩ := h
    refine ⟨rfl, rfl, by omega, ?_⟩
    have := be_of_num (r.take c)
    rwa [List.length_take, Nat.min_eq_left (by omega)] at this
theorem textP_back {data : Bool} {r t : List UInt8} {k : Nat} (h : textP data r = (t, k, 0)) : r.take k = enc2 t ∧ k ≤ r.length ∧ k = (enc2 t).length ∧ (data = false → validOf t = true) ∧ t.length ≤ 65535 := by
  unfold textP at h
  rcases rdB_cases r with ⟨h1, h2, h3, h4, h5⟩ | h1
  · rw [if_neg (by simp [h1])] at h
    split at h
    · rename_i hv
      simp only [Prod.mk.injEq, and_true] at h
      obtain ⟨rfl, rfl⟩ := h
      refine ⟨h5, h3, by rw [enc2_length]; omega, fun e => by simpa [e] using hv, by omega⟩
    · simp at h
  · rw [h1] at h; simp at h
theorem next_back {id : Int} {r : List UInt8} {p : Pr} {k : Nat} (_hs : 1 ≤ shapeP id) (h : nextP id r = (p, k, 0)) : p.id = id ∧ k ≤ r.length ∧ valueP p = r.take k := by
  unfold nextP at h
  unfold valueP
  by_cases s1 : shapeP id = 1
  · rw [if_pos s1] at h
    obtain ⟨rfl, rfl, hl, hb⟩ := numP_back h
    exact ⟨rfl, hl, by simp only [s1, if_true]; exact hb⟩
  by_cases s2 : shapeP id = 2
  · rw [if_neg s1, if_pos s2] at h
    obtain ⟨rfl, rfl, hl, hb⟩ := numP_back h
    exact ⟨rfl, hl, by simp only [s2, if_true, show ¬ (2 : Nat) = 1 by decide, if_false]; exact hb⟩
  by_cases s3 : shapeP id = 3
  · rw [if_neg s1, if_neg s2, if_pos s3] at h
    obtain ⟨rfl, rfl, hl, hb⟩ := numP_back h
    exact ⟨rfl, hl, by simp only [s3, if_true, show ¬ (3 : Nat) = 1 by decide, show ¬ (3 : Nat) = 2 by decide, if_false]; exact hb⟩
  by_cases s4 : shapeP id = 4
  · rw [if_neg s1, if_neg s2, if_neg s3, if_pos s4] at h
    split at h
    · rename_i hne; simp only [Prod.mk.injEq] at h; exact absurd h.2.2 (by decide)
    · rename_i hz
      simp only [Prod.mk.injEq, and_true] at h
      obtain ⟨rfl, rfl⟩ := h
      obtain ⟨v, n, st, hr⟩ : ∃ v n st, run 0 0 r = (v, n, st) := ⟨_, _, _, rfl⟩
      obtain ⟨e1, e2, e3⟩ := rd_of hr
      have hst : st = 1 := by
        rw [e3] at hz
        rcases run_state r 0 0 with h0 | h0 | h0
        all_goals (rw [hr] at h0; simp only at h0; subst h0)
        · simp at hz
        · rfl
        · simp at hz
      subst hst
      obtain ⟨b1, b2, b3, b4⟩ := run_back r v n hr
      simp only [if_true] at e1 e2
      rw [e1, e2]
      refine ⟨rfl, b3, ?_⟩
      simp only [s4, if_true, show ¬ (4 : Nat) = 1 by decide, show ¬ (4 : Nat) = 2 by decide, show ¬ (4 : Nat) = 3 by decide, if_false]
      rw [← b2, b4]
  rw [if_neg s1, if_neg s2, if_neg s3, if_neg s4] at h
  by_cases s7 : shapeP id = 7
  · rw [if_pos s7] at h
    split at h
    · rename_i hne; simp only [Prod.mk.injEq] at h; exact absurd h.2.2 hne
    · rename_i hz1
      split at h
      · rename_i hne; simp only [Prod.mk.injEq] at h; exact absurd h.2.2 hne
      · rename_i hz2
        simp only [Prod.mk.injEq, and_true] at h
        obtain ⟨rfl, rfl⟩ := h
        simp only [ne_eq, Decidable.not_not] at hz1 hz2
        obtain ⟨a1, a2, a3, _, _⟩ := textP_back (data := false) (r := r) (t := (textP false r).1) (k := (textP false r).2.1) (by rw [← hz1])
        obtain ⟨c1, c2, c3, _, _⟩ := textP_back (data := false) (r := r.drop (textP false r).2.1) (t := (textP false (r.drop (textP false r).2.1)).1) (k := (textP false (r.drop (textP false r).2.1)).2.1) (by rw [← hz2])
        rw [List.length_drop] at c2
        refine ⟨rfl, by omega, ?_⟩
        simp only [s7, if_true, show ¬ (7 : Nat) = 1 by decide, show ¬ (7 : Nat) = 2 by decide, show ¬ (7 : Nat) = 3 by decide, show ¬ (7 : Nat) = 4 by decide, if_false]
        rw [← a1, ← c1, List.take_add]
  · rw [if_neg s7] at h
    split at h
    · rename_i hne; simp only [Prod.mk.injEq] at h; exact absurd h.2.2 hne
    · rename_i hz1
      simp only [Prod.mk.injEq, and_true] at h
      obtain ⟨rfl, rfl⟩ := h
      simp only [ne_eq, Decidable.not_not] at hz1
      obtain ⟨a1, a2, a3, _, _⟩ := textP_back (data := (shapeP id == 6)) (r := r) (t := (textP (shapeP id == 6) r).1) (k := (textP (shapeP id == 6) r).2.1) (by rw [← hz1])
      refine ⟨rfl, a2, ?_⟩
      show (if shapeP id = 1 then _ else _) = _
      rw [if_neg s1, if_neg s2, if_neg s3, if_neg s4, if_neg s7]
      exact a1.symm
theorem from_back (kind : Int) : ∀ (f : Nat) (out : List Pr) (s : List UInt8) (l : List Pr), s.length ≤ f → out.length ≤ 1000 → fromP kind f out s = (l, 0) → ∃ m, l = out ++ m ∧ eachP kind out m = 0 ∧ bodyP m = s ∧ l.length ≤ 1000
  | 0, out, s, l, hf, ho, h => by
    have : s = [] := List.eq_nil_of_length_eq_zero (by omega)
    subst this
    simp only [fromP, Prod.mk.injEq, and_true] at h
    subst h
    exact ⟨[], by simp, rfl, rfl, ho⟩
  | f + 1, out, [], l, hf, ho, h => by
    simp only [fromP, Prod.mk.injEq, and_true] at h
    subst h
    exact ⟨[], by simp, rfl, rfl, ho⟩
  | f + 1, out, b :: r, l, hf, ho, h => by
    rw [fromP] at h
    split at h
    · simp at h
    · rename_i hm
      have hm : mayP kind b.toNat = true := by simpa using hm
      split at h
      · rename_i hne; simp only [Prod.mk.injEq] at h; exact absurd h.2 hne
      · rename_i hn0
        split at h
        · rename_i hne; simp only [Prod.mk.injEq] at h; exact absurd h.2 hne
        · rename_i hc
          split at h
          · simp at h
          · rename_i ht
            split at h
            · simp at h
            · rename_i hl
              have hs1 := (row_fits hm).1
              obtain ⟨e1, e2, e3⟩ := next_back (id := b.toNat) (r := r) (p := (nextP b.toNat r).1) (k := (nextP b.toNat r).2.1) hs1 (by
                have : (nextP b.toNat r).2.2 = 0 := by simpa using hn0
                rw [← this])
              generalize (nextP b.toNat r).1 = p at *
              generalize (nextP b.toNat r).2.1 = k at *
              have hc : checkP kind p = 0 := by simpa using hc
              obtain ⟨m, k1, k2, k3, k4⟩ := from_back kind f (out ++ [p]) (r.drop k) l (by rw [List.length_drop]; simp at hf; omega) (by simp; omega) h
              refine ⟨p :: m, by rw [k1]; simp, ?_, ?_, k4⟩
              · rw [eachP, if_neg (by simp [hc]), e1, if_neg ht]
                exact k2
              · rw [bodyP_cons, k3]
                unfold oneP
                rw [e1, e3]
                simp
/-- What is read is as it should be, and is written as the same. -/
theorem read_back {kind : Int} {s : List UInt8} {l : List Pr} {n : Nat} (h : readP kind s = (l, n, 0)) : validP kind l = 0 ∧ n ≤ s.length ∧ (bytesP kind l).1 = s.take n := by
  unfold readP at h
  split at h
  · rename_i hne; simp only [Prod.mk.injEq] at h; exact absurd h.2.2 hne
  · rename_i h0
    split at h
    · simp at h
    · rename_i hle
      split at h
      · rename_i hne; simp only [Prod.mk.injEq] at h; exact absurd h.2.2 hne
      · rename_i hf
        split at h
        · simp at h
        · rename_i hlo
          simp only [Prod.mk.injEq, and_true] at h
          obtain ⟨rfl, rfl⟩ := h
          obtain ⟨v, c, st, hr⟩ : ∃ v n st, run 0 0 s = (v, n, st) := ⟨_, _, _, rfl⟩
          obtain ⟨e1, e2, e3⟩ := rd_of hr
          have hst : st = 1 := by
            rw [e3] at h0
            rcases run_state s 0 0 with h1 | h1 | h1
            all_goals (rw [hr] at h1; simp only at h1; subst h1)
            · simp at h0
            · rfl
            · simp at h0
          subst hst
          obtain ⟨b1, b2, b3, b4⟩ := run_back s v c hr
          simp only [if_true] at e1 e2
          rw [e1, e2] at hle hf hlo
          rw [e1, e2]
          obtain ⟨m, k1, k2, k3, k4⟩ := from_back kind v [] ((s.drop c).take v) (fromP kind v [] ((s.drop c).take v)).1 (by rw [List.length_take]; omega) (by simp) (by
            have : (fromP kind v [] ((s.drop c).take v)).2 = 0 := by simpa using hf
            rw [← this])
          rw [List.nil_append] at k1
          rw [k1] at hlo k4 ⊢
          have hlen : (bodyP m).length = v := by rw [k3, List.length_take, List.length_drop]; omega
          have hv : validP kind m = 0 := by
            unfold validP
            rw [if_neg (by omega), if_neg (by simp [k2]), if_neg hlo, if_neg (by omega)]
          refine ⟨hv, by omega, ?_⟩
          unfold bytesP
          rw [if_neg (by simp [hv])]
          show vb (bodyP m).length (sz (bodyP m).length) ++ bodyP m = _
          rw [hlen, ← b2, ← b4, k3, List.take_add]
end Go.Proofs.YtaahhbjnflimnaaGreat
namespace Go.Proofs.YtaahhbjnflimnaaGreat

/-- Four words. -/
structure W4 where
  a : Nat
  b : Nat
  c : Nat
  d : Nat
def setc (s : W4) (n : Nat) : W4 :=
  if n < 64 then { s with a := s.a ||| 2 ^ (n % 64) } else if n < 128 then { s with b := s.b ||| 2 ^ (n % 64) } else if n < 192 then { s with c := s.c ||| 2 ^ (n % 64) } else { s with d := s.d ||| 2 ^ (n % 64) }
def addR (s : W4) (f : Nat) : Nat → W4
  | 0 => s
  | n + 1 => setc (addR s f n) (f + n)
structure OkW (s : W4) : Prop where
  a : s.a < 18446744073709551616
  b : s.b < 18446744073709551616
  c : s.c < 18446744073709551616
  d : s.d < 18446744073709551616
theorem or_lt {x n : Nat} (hx : x < 18446744073709551616) (hn : n < 64) : x ||| 2 ^ n < 18446744073709551616 :=
  Nat.or_lt_two_pow (n := 64) hx (Nat.pow_lt_pow_right (by decide) hn)
theorem OkW.setc {s : W4} (h : OkW s) (n : Nat) : OkW (setc s n) := by
  have hn : n % 64 < 64 := Nat.mod_lt _ (by decide)
  unfold Proofs.YtaahhbjnflimnaaGreat.setc
  split
  · exact ⟨or_lt h.a hn, h.b, h.c, h.d⟩
  split
  · exact ⟨h.a, or_lt h.b hn, h.c, h.d⟩
  split
  · exact ⟨h.a, h.b, or_lt h.c hn, h.d⟩
  · exact ⟨h.a, h.b, h.c, or_lt h.d hn⟩
theorem OkW.addR {s : W4} (h : OkW s) (f : Nat) : ∀ n, OkW (addR s f n)
  | 0 => h
  | n + 1 => (OkW.addR h f n).setc _
end Go.Proofs.YtaahhbjnflimnaaGreat
namespace Go.Proofs.YtaahhbjnflimnaaGreat

def rightC (v kind : Int) (l : List Pr) : Nat := if v = 5 then validP kind l else 0
def tailC (v kind : Int) (l : List Pr) : List UInt8 := if v = 5 then (bytesP kind l).1 else []
/-- A cursor: what is left, and the first error. -/
structure Cs where
  r : List UInt8
  e : Nat
def Cs.fail (s : Cs) (e : Nat) : Cs := if s.e ≠ 0 then s else ⟨s.r, e⟩
def Cs.take (s : Cs) (n : Nat) : List UInt8 × Cs := if s.e ≠ 0 then ([], s) else if s.r.length < n then ([], ⟨s.r, 3⟩) else (s.r.take n, ⟨s.r.drop n, 0⟩)
def Cs.num (s : Cs) (n : Nat) : Nat × Cs := (Go.Proofs.YtaahhbjnflimnaaGreat.num (s.take n).1, (s.take n).2)
def Cs.text (s : Cs) : List UInt8 × Cs := if s.e ≠ 0 then ([], s) else ((rdT s.r).1, ⟨s.r.drop (rdT s.r).2.1, (rdT s.r).2.2⟩)
def Cs.props (s : Cs) (v kind : Int) : List Pr × Cs := if s.e ≠ 0 ∨ v ≠ 5 then ([], s) else ((readP kind s.r).1, ⟨s.r.drop (readP kind s.r).2.1, (readP kind s.r).2.2⟩)
def wrongC (v : Int) (f : Nat) : Bool := f % 2 == 1 || f / 8 % 4 == 3 || (f / 4 % 2 == 0 && f / 8 % 8 != 0) || (v == 4 && f / 64 == 1)
def Cs.flags (s : Cs) (v : Int) : Nat × Cs := ((s.num 1).1, if (s.num 1).2.e = 0 ∧ wrongC v (s.num 1).1 = true then (s.num 1).2.fail 7 else (s.num 1).2)
theorem name_valid {x : List UInt8} (h : nameL x = true) : validOf x = true := by
  simp only [nameL, Bool.and_eq_true] at h
  exact h.1.1.2
theorem Cs.fail_e {s : Cs} {e : Nat} (he : e ≠ 0) : (s.fail e).e ≠ 0 := by
  unfold Cs.fail
  split
  · assumption
  · exact he
theorem Cs.fail_no {s : Cs} {e : Nat} (h : (s.fail e).e = 0) : s.e = 0 ∧ e = 0 := by
  unfold Cs.fail at h
  split at h
  · rename_i h1; exact absurd h h1
  · rename_i h1; exact ⟨by simpa using h1, h⟩
end Go.Proofs.YtaahhbjnflimnaaGreat
namespace Go.Proofs.YtaahhbjnflimnaaGreat

/-- A header. -/
structure Hd where
  kind : Int
  flags : Int
  length : Int
deriving DecidableEq
def verH (v : Int) : Bool := v == 4 || v == 5
def kindH (v k : Int) : Bool := decide (1 ≤ k) && (decide (k < 15) || (k == 15 && v == 5))
def flagsH (k f : Int) : Bool :=
  if k = 3 then decide (0 ≤ f ∧ f ≤ 15 ∧ f / 2 % 4 < 3 ∧ (f < 8 ∨ 0 < f / 2 % 4)) else if k = 6 ∨ k = 8 ∨ k = 10 then f == 2 else f == 0
def checkH (v : Int) (h : Hd) : Nat :=
  if verH v = false then 2 else if kindH v h.kind = false then 8 else if flagsH h.kind h.flags = false then 7 else if h.length < 0 ∨ 268435455 < h.length then 2 else 0
theorem flags_range {k f : Int} (h : flagsH k f = true) : 0 ≤ f ∧ f ≤ 15 := by
  unfold flagsH at h
  split at h
  · rw [decide_eq_true_eq] at h; omega
  · split at h <;> (rw [beq_iff_eq] at h; omega)
/-- A packet's flags: of what it is considered, and the error. -/
def qosOk (dup : Bool) (qos : Int) : Bool := decide (0 ≤ qos) && decide (qos ≤ 2) && !(dup && qos == 0)
def packF (dup retain : Bool) (qos : Int) : Int := 2 * qos + (if dup then 8 else 0) + if retain then 1 else 0
def flagsF (v k : Int) (dup retain : Bool) (qos : Int) : Int × Nat :=
  if verH v = false then (0, 2) else if kindH v k = false then (0, 8) else
  if k = 6 ∨ k = 8 ∨ k = 10 then (2, 0) else if k = 3 then (if qosOk dup qos then (packF dup retain qos, 0) else (0, 7)) else (0, 0)
end Go.Proofs.YtaahhbjnflimnaaGreat
namespace Go.Proofs.YtaahhbjnflimnaaGreat

/-- A packet with just what a PUBLISH may have. -/
def usedU (v : Int) (p : Pk) : Pk := { Pk.zero with kind := p.kind, dup := p.dup, retain := p.retain, qos := p.qos, id := p.id, topic := p.topic, payload := p.payload, props := if v = 5 then p.props else [] }
def idU (p : Pk) : Bool := if p.qos = 0 then p.id == 0 else decide (0 < p.id) && decide (p.id ≤ 65535)
def topicU (p : Pk) : Bool := nameL p.topic || (p.topic.isEmpty && hasP p.props 35)
/-- What Valid tells. -/
def validU (v : Int) (p : Pk) : Nat :=
  if p.kind ≠ 3 then 2 else if (flagsF v 3 p.dup p.retain p.qos).2 ≠ 0 then (flagsF v 3 p.dup p.retain p.qos).2
  else if (idU p && decide (p = usedU v p)) = false then 2 else if topicU p = false then 10 else validP 3 p.props
/-- A valid packet's body. -/
def rawU (v : Int) (p : Pk) : List UInt8 := enc2 p.topic ++ ((if p.qos = 0 then [] else be p.id.toNat 2) ++ (tailC v 3 p.props ++ p.payload))
def bodyU (v : Int) (p : Pk) : List UInt8 × Nat := if validU v p ≠ 0 then ([], validU v p) else (rawU v p, 0)
/-- As much of a packet as its flags tell. -/
def descU (f : Int) : Pk := { Pk.zero with kind := 3, dup := decide (8 ≤ f), retain := f % 2 == 1, qos := f / 2 % 4 }
def Cs.optN (s : Cs) (b : Bool) : Nat × Cs := if b then s.num 2 else (0, s)
/-- A PUBLISH's parts. -/
def partsU (v f : Int) (s : Cs) : Pk × Cs :=
  let t := s.text
  let i := t.2.optN (f / 2 % 4 != 0)
  let p := i.2.props v 3
  ({ descU f with topic := t.1, id := (i.1 : Nat), props := p.1, payload := p.2.r }, p.2)
/-- What Read tells. -/
def readU (v f : Int) (l : List UInt8) : Pk × Nat :=
  if checkH v ⟨3, f, 0⟩ ≠ 0 then (Pk.zero, checkH v ⟨3, f, 0⟩)
  else
    let x := partsU v f ⟨l, 0⟩
    let s := x.2.fail (validU v x.1)
    if s.e ≠ 0 then (Pk.zero, s.e) else (x.1, 0)
theorem flags_u {v : Int} {d r : Bool} {q : Int} : (flagsF v 3 d r q).2 = 0 ↔ verH v = true ∧ qosOk d q = true := by
  unfold flagsF
  have hk : kindH v 3 = true := by simp [kindH]
  rw [hk]
  cases verH v
  · simp
  · cases qosOk d q <;> simp
theorem flags_u_err (v : Int) (d r : Bool) (q : Int) : (flagsF v 3 d r q).2 = if verH v = false then 2 else if qosOk d q = false then 7 else 0 := by
  unfold flagsF
  have hk : kindH v 3 = true := by simp [kindH]
  rw [hk]
  cases verH v
  · simp
  · cases qosOk d q <;> simp
theorem ver_u {v : Int} (h : verH v = true) : v = 4 ∨ v = 5 := by
  unfold verH at h
  simpa using h
theorem valid_u {v : Int} {p : Pk} (h : validU v p = 0) : p.kind = 3 ∧ (v = 4 ∨ v = 5) ∧ qosOk p.dup p.qos = true ∧ idU p = true ∧ p = usedU v p ∧ topicU p = true ∧ validP 3 p.props = 0 ∧ (v = 4 → p.props = []) := by
  rw [validU] at h
  split at h
  · cases h
  rename_i hk
  split at h
  · rename_i hf; exact absurd h hf
  rename_i hf
  have hf : (flagsF v 3 p.dup p.retain p.qos).2 = 0 := by simpa using hf
  obtain ⟨hv, hq⟩ := flags_u.1 hf
  split at h
  · cases h
  rename_i hi
  split at h
  · cases h
  rename_i ht
  rw [Bool.not_eq_false, Bool.and_eq_true, decide_eq_true_eq] at hi
  refine ⟨by simpa using hk, ver_u hv, hq, hi.1, hi.2, by simpa using ht, h, fun h4 => ?_⟩
  have := congrArg Pk.props hi.2
  rw [this]
  simp [usedU, h4]
theorem topic_u {p : Pk} (h : topicU p = true) : validOf p.topic = true := by
  unfold topicU at h
  rw [Bool.or_eq_true, Bool.and_eq_true, List.isEmpty_iff] at h
  rcases h with h | ⟨h, _⟩
  · exact name_valid h
  · rw [h]; decide
theorem qos_u {d : Bool} {q : Int} (h : qosOk d q = true) : 0 ≤ q ∧ q ≤ 2 ∧ (d = true → q ≠ 0) := by
  unfold qosOk at h
  simp only [Bool.and_eq_true, decide_eq_true_eq, Bool.not_eq_true', Bool.and_eq_false_iff, beq_eq_false_iff_ne] at h
  refine ⟨h.1.1, h.1.2, fun hd => ?_⟩
  rcases h.2 with h | h
  · rw [hd] at h; cases h
  · exact h
theorem check_u (v f : Int) : checkH v ⟨3, f, 0⟩ = if verH v = false then 2 else if flagsH 3 f = false then 7 else 0 := by
  unfold checkH
  have hk : kindH v 3 = true := by simp [kindH]
  rw [hk]
  cases verH v
  · simp
  · cases flagsH 3 f <;> simp
end Go.Proofs.YtaahhbjnflimnaaGreat
namespace Go.Proofs.YtaahhbjnflimnaaGreat
open Go.RowKit

/-- A list of strings as cells. -/
def strs (ls : List (List UInt8)) : List Value := ls.map fun l => .string (bs l)
/-- The list of strings ls lies behind the address A. -/
def SR (W : World) (A : Option Addr) (ls : List (List UInt8)) : Prop :=
  ls ≠ [] → ∃ g i, A = some ⟨g, i, none⟩ ∧ g < W.heap.size ∧ ∀ j, j < ls.length → W.cell? ⟨g, i + j, none⟩ = some (.string (bs (ls.getD j [])))
theorem SR.kept {W W' : World} {A : Option Addr} {ls : List (List UInt8)} (h : SR W A ls) (hb : Below W.heap.size W W') : SR W' A ls := fun hne => by
  obtain ⟨g, i, e, hg, hc⟩ := h hne
  exact ⟨g, i, e, Nat.lt_of_lt_of_le hg hb.size, fun j hj => (hb.cell (p := ⟨g, i + j, none⟩) hg).trans (hc j hj)⟩
theorem SR.draws {W : World} {A : Option Addr} {ls : List (List UInt8)} (h : SR W A ls) (n : Nat) : SR (W.drewN n) A ls := h
theorem SR.nil {W : World} {A : Option Addr} : SR W A [] := fun h => absurd rfl h
theorem strs_get (ls : List (List UInt8)) (j : Nat) (h : j < ls.length) : (strs ls).toArray[j]? = some (.string (bs (ls.getD j []))) := by
  simp [strs, List.getD, List.getElem?_eq_getElem h]
theorem SR.alloc {W : World} {ls : List (List UInt8)} (t : TypeId) : SR (W.alloc (.cells (strs ls).toArray t)) (some ⟨W.heap.size, 0, none⟩) ls := fun _ =>
  ⟨_, _, rfl, by simp, fun j hj => by rw [Nat.zero_add, World.cell?_alloc_at _ _ _ _ rfl]; exact strs_get ls j hj⟩
theorem bs_mk (s : ByteArray) : bs s.data.toList = s := rfl
theorem bs_data (l : List UInt8) : (bs l).data.toList = l := rfl
theorem bs_size (l : List UInt8) : (bs l).size = l.length := by simp [bs, ByteArray.size]
end Go.Proofs.YtaahhbjnflimnaaGreat
namespace Go.Proofs.YtaahhbjnflimnaaGreat
open Go.Maps (Keyed)
open Go.RowKit

/-- What stands at a key: the last that was put there, or the zero. -/
def lookK (z : Value) : List (Int × Value) → Int → Value
  | [], _ => z
  | p :: l, i => if i = p.1 then p.2 else lookK z l i
/-- An element reads as itself. -/
def selfR (v : Value) : Option (DataW Value × List MemPlace) := some (.held v, [])
/-- Block b is a map in which the pairs l were put, one after the other (the last one first). -/
def MapAt (P : Program) (k : TypeId) (w : World) (b : Nat) (z : Value) (l : List (Int × Value)) : Prop :=
  ∃ D : DataW Value, w.ownsMap P k selfR b l.length D ∧ ∀ i, D.atKey (.int .i64 i) (.held z) = .held (lookK z l i)

section
variable {P : Program} {k e t : TypeId} {w w' : World} {b : Nat} {z : Value} {l : List (Int × Value)}
theorem MapAt.of_block (h : MapAt P k w b z l) (hb : w'.heap[b]? = w.heap[b]?) : MapAt P k w' b z l := by
  obtain ⟨D, ⟨es, c, h1, h2⟩, h3⟩ := h
  exact ⟨D, ⟨es, c, hb.trans h1, h2⟩, h3⟩
theorem MapAt.lt (h : MapAt P k w b z l) : b < w.heap.size := by obtain ⟨D, h1, _⟩ := h; exact h1.lt
theorem MapAt.made (w : World) (P : Program) (k : TypeId) (z : Value) : MapAt P k (w.alloc (.map #[] 0)) w.heap.size z [] :=
  ⟨_, World.ownsMap_made _ _ _ _, fun _ => rfl⟩
theorem MapAt.look (h : MapAt P k w b z l) (hk : P.underlying k = some (.int .i64)) (ht : P.underlying t = some (.map k e)) (hz : (zeroValue e).run P w = .ok z w) {i : Int} (hi : (Lit.int .i64 i).wf = true) :
    (Instr.lookup t (.map (some b)) (.int .i64 i) false).run P w = .ok (lookK z l i) w := by
  obtain ⟨D, h1, h2⟩ := h
  obtain ⟨v, ps, hrun, hv⟩ := h1.lookup (Maps.int_keyed hk) ht hz (show selfR z = some (.held z, []) from rfl) (Maps.keyOf_int_mk hk hi)
  rw [h2] at hv
  have : v = lookK z l i := by
    unfold selfR at hv
    simp only [Option.some.injEq, Prod.mk.injEq, DataW.held.injEq] at hv
    exact hv.1
  rw [hrun, this]
theorem MapAt.put (h : MapAt P k w b z l) (hk : P.underlying k = some (.int .i64)) (ht : P.underlying t = some (.map k e)) (hn : l.length < maxLen) {i : Int} (hi : (Lit.int .i64 i).wf = true) (v : Value) :
    ∃ w', (Instr.mapUpdate t (.map (some b)) (.int .i64 i) v).run P w = .ok () w' ∧ MapAt P k w' b z ((i, v) :: l) ∧ w.grownBy w' (some b) := by
  obtain ⟨D, h1, h2⟩ := h
  have hD : Maps.IsMap D := by obtain ⟨es, c, _, _, _, e⟩ := h1; exact ⟨_, e⟩
  obtain ⟨w', r1, r2, r3⟩ := h1.update (Maps.int_keyed hk) ht hn (Maps.keyOf_int_mk hk hi) (show selfR v = some (.held v, []) from rfl)
  refine ⟨w', r1, ⟨_, r2, fun j => ?_⟩, r3⟩
  show _ = DataW.held (if j = i then v else lookK z l j)
  by_cases e : j = i
  · subst e
    rw [if_pos rfl, Maps.atKey_put_same hD (show WideAt.IsKeyLit (.int .i64 j) from trivial)]
  · rw [if_neg e, Maps.atKey_put_other (fun x => e (by cases x; rfl)), h2]

/-- .. made since w0, which has not turned. -/
def MapG (P : Program) (k : TypeId) (w0 w : World) (b : Nat) (z : Value) (l : List (Int × Value)) : Prop := MapAt P k w b z l ∧ Below w0.heap.size w0 w ∧ w0.heap.size ≤ b
theorem wpList_insert_g {ops : Array Oper} {rest : List Oper} {o : Oper} {a : Act} {Q : Exit → Act → World → Prop} {w0 : World}
    (hg : o.guard = none) (m x v : Operand) (t : TypeId) (hop : o.op = Op.insert t m x v) (k e : TypeId) (hk : P.underlying k = some (.int .i64)) (ht : P.underlying t = some (.map k e))
    (b : Nat) (z : Value) (l : List (Int × Value)) (hm : a.eval m = .map (some b)) (h : MapG P k w0 w b z l) (hn : l.length < maxLen) (i : Int) (val : Value) (hx : a.eval x = .int .i64 i) (hv : a.eval v = val) (hi : (Lit.int .i64 i).wf = true)
    (hK : ∀ w', MapG P k w0 w' b z ((i, val) :: l) → wpList P ops Q rest (a.put o.dst undef) w') :
    wpList P ops Q (o :: rest) a w := by
  refine wpList_plain hg fun K' hK' => ?_
  obtain ⟨h1, h2, h3⟩ := h
  obtain ⟨w', hrun, r1, r2⟩ := h1.put hk ht hn hi val
  unfold Oper.wp
  simp [execOp, hop, hm, hx, hv, hrun, Result.andThen]
  exact hK' _ _ (hK w' ⟨r1, h2.grown r2 h2.size (fun j hj => by cases hj; exact h3), h3⟩)
end
end Go.Proofs.YtaahhbjnflimnaaGreat
namespace Go.Proofs.YtaahhbjnflimnaaGreat
open Go.RowKit

theorem shr_be (n j : Nat) (hn : n < 18446744073709551616) : Op.shift .shr .u64 (n : Int) .i64 ((8 * j : Nat) : Int) = pure (.int .u64 ((n / 256 ^ j : Nat) : Int)) := by
  have e256 : (256 : Nat) ^ j = 2 ^ (8 * j) := by rw [Nat.pow_mul]
  rw [shift_shr_any _ _ _ _ (by omega), e256]
  congr 2
  have e1 : ((8 * j : Nat) : Int).toNat = 8 * j := by omega
  rw [e1]
  show (n : Int) / 2 ^ min (8 * j) 64 = _
  rcases Nat.lt_or_ge (8 * j) 64 with h | h
  · rw [Nat.min_eq_left (by omega)]; simp
  · rw [Nat.min_eq_right h]
    have h2 : 2 ^ 64 ≤ 2 ^ (8 * j) := Nat.pow_le_pow_right (by decide) h
    rw [Nat.div_eq_of_lt (by omega)]
    show (n : Int) / 18446744073709551616 = 0
    omega

end Go.Proofs.YtaahhbjnflimnaaGreat
namespace Go.Proofs.YtaahhbjnflimnaaGreat

/-- How often an id occurs. -/
def timesP (l : List Pr) (id : Int) : Nat := (l.filter fun p => p.id == id).length
theorem times_nil (id : Int) : timesP [] id = 0 := rfl
theorem times_cons (p : Pr) (l : List Pr) (id : Int) : timesP (p :: l) id = timesP l id + if p.id = id then 1 else 0 := by
  unfold timesP
  rw [List.filter_cons]
  by_cases h : p.id = id
  · simp [h]
  · simp [h]
theorem times_append (a b : List Pr) (id : Int) : timesP (a ++ b) id = timesP a id + timesP b id := by simp [timesP]
theorem has_times (l : List Pr) (id : Int) : hasP l id = decide (0 < timesP l id) := by
  induction l with
  | nil => rfl
  | cons p l ih =>
    rw [times_cons]
    unfold hasP at ih ⊢
    rw [List.any_cons, ih]
    by_cases h : p.id = id
    · simp [h]
    · simp [h]
/-- All are as they should be, and what may not come often comes once. -/
def goodP (kind : Int) (l : List Pr) : Prop := (∀ p ∈ l, checkP kind p = 0) ∧ ∀ id, manyP kind id = false → timesP l id ≤ 1
theorem each_iff (kind : Int) : ∀ (l pre : List Pr), (∀ id, manyP kind id = false → timesP pre id ≤ 1) → (eachP kind pre l = 0 ↔ (∀ p ∈ l, checkP kind p = 0) ∧ ∀ id, manyP kind id = false → timesP (pre ++ l) id ≤ 1)
  | [], pre, hp => by simp [eachP]; exact hp
  | p :: l, pre, hp => by
    rw [eachP]
    by_cases hc : checkP kind p = 0
    · rw [if_neg (by simp [hc])]
      by_cases ht : twiceP kind pre p.id = true
      · rw [if_pos ht]
        constructor
        · intro h; cases h
        · rintro ⟨_, h2⟩
          exfalso
          unfold twiceP at ht
          rw [has_times] at ht
          simp only [Bool.and_eq_true, decide_eq_true_eq, Bool.not_eq_true'] at ht
          have := h2 p.id ht.2
          rw [times_append, times_cons, if_pos rfl] at this
          omega
      · rw [if_neg ht]
        have ht : hasP pre p.id = false ∨ manyP kind p.id = true := by
          unfold twiceP at ht
          cases h1 : hasP pre p.id <;> cases h2 : manyP kind p.id <;> simp_all
        have hp' : ∀ id, manyP kind id = false → timesP (pre ++ [p]) id ≤ 1 := fun id hid => by
          rw [times_append, times_cons, times_nil]
          by_cases e : p.id = id
          · subst e
            rcases ht with h | h
            · rw [has_times, decide_eq_false_iff_not] at h
              rw [if_pos rfl]; omega
            · rw [hid] at h; cases h
          · rw [if_neg e]; have := hp id hid; omega
        rw [each_iff kind l (pre ++ [p]) hp', List.append_assoc, List.singleton_append]
        constructor
        · rintro ⟨h1, h2⟩
          exact ⟨fun q hq => by
            rcases List.mem_cons.1 hq with rfl | hq
            · exact hc
            · exact h1 q hq, h2⟩
        · rintro ⟨h1, h2⟩
          exact ⟨fun q hq => h1 q (List.mem_cons_of_mem _ hq), h2⟩
    · rw [if_pos hc]
      constructor
      · intro h; exact absurd h hc
      · rintro ⟨h1, _⟩; exact absurd (h1 p (List.mem_cons_self ..)) hc
theorem each_good (kind : Int) (l : List Pr) : eachP kind [] l = 0 ↔ goodP kind l := by
  rw [each_iff kind l [] (fun id _ => by rw [times_nil]; omega), List.nil_append]; exact Iff.rfl
theorem valid_good (kind : Int) (l : List Pr) : validP kind l = 0 ↔ l.length ≤ 1000 ∧ goodP kind l ∧ loneP l = false ∧ (bodyP l).length ≤ 268435455 := by
  rw [← each_good]
  constructor
  · exact valid_parts
  · rintro ⟨h1, h2, h3, h4⟩
    unfold validP
    rw [if_neg (by omega), if_neg (by simp [h2]), if_neg (by simp [h3]), if_neg (by omega)]

/-! ### Another order -/
end Go.Proofs.YtaahhbjnflimnaaGreat
