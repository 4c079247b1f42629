/-
  Plain facts on UTF-8: the bytes of a code point, the code point with which a list of bytes begins, all code points of a list up to the first place where none begins; how they split and join. No condition.
-/
import Derived.Lib.Hide
import GoSem.Core.Utf8
namespace Go.Proofs.YtjbgnlnchchgcaaDoor

/-- A code point that a string of a packet may have. -/
def okc (c : Nat) : Prop := 0 < c ∧ (c < 55296 ∨ (57344 ≤ c ∧ c ≤ 1114111))
/-- The bytes of a code point. -/
def cb (c : Nat) : List UInt8 :=
  if c < 128 then [UInt8.ofNat c]
  else if c < 2048 then [UInt8.ofNat (192 + c / 64), UInt8.ofNat (128 + c % 64)]
  else if c < 65536 then [UInt8.ofNat (224 + c / 4096), UInt8.ofNat (128 + c / 64 % 64), UInt8.ofNat (128 + c % 64)]
  else [UInt8.ofNat (240 + c / 262144), UInt8.ofNat (128 + c / 4096 % 64), UInt8.ofNat (128 + c / 64 % 64), UInt8.ofNat (128 + c % 64)]

theorem valid_iff (c : Nat) : Utf8.valid (c : Int) = true ↔ c < 55296 ∨ (57344 ≤ c ∧ c ≤ 1114111) := by
  unfold Utf8.valid
  simp only [Bool.or_eq_true, Bool.and_eq_true, decide_eq_true_eq]
  omega
theorem okc_valid {c : Nat} (h : okc c) : Utf8.valid (c : Int) = true := (valid_iff c).2 h.2

theorem encode_cb {c : Nat} (h : okc c) : Utf8.encode (c : Int) = ⟨(cb c).toArray⟩ := by
  unfold Utf8.encode cb
  simp only [okc_valid h, if_true, Int.toNat_natCast]
  split
  · rfl
  · split
    · rfl
    · split <;> rfl

/-- What a list of bytes is decoded to: by the bytes' numbers. -/
def dl (l : List UInt8) : Nat × Nat :=
  let at' (k : Nat) : Nat := (l.getD k 0).toNat
  let cont (k : Nat) : Bool := k < l.length && at' k / 64 == 2
  let b0 := at' 0
  if b0 < 128 then (b0, 1)
  else if b0 / 32 == 6 && cont 1 then
    let c := (b0 % 32) * 64 + at' 1 % 64
    if c ≥ 128 then (c, 2) else (65533, 1)
  else if b0 / 16 == 14 && cont 1 && cont 2 then
    let c := (b0 % 16) * 4096 + (at' 1 % 64) * 64 + at' 2 % 64
    if c ≥ 2048 && Utf8.valid c then (c, 3) else (65533, 1)
  else if b0 / 8 == 30 && cont 1 && cont 2 && cont 3 then
    let c := (b0 % 8) * 262144 + (at' 1 % 64) * 4096 + (at' 2 % 64) * 64 + at' 3 % 64
    if c ≥ 65536 && Utf8.valid c then (c, 4) else (65533, 1)
  else (65533, 1)

theorem get_drop (s : ByteArray) (i k : Nat) : s.get! (i + k) = (s.data.toList.drop i).getD k 0 := by
  rw [ByteArray.get!, List.getD_eq_getElem?_getD, List.getElem?_drop, Array.getElem!_eq_getD, Array.getD_eq_getD_getElem?]
  simp
  rfl
theorem lt_drop (s : ByteArray) (i k : Nat) : (i + k < s.size) = (k < (s.data.toList.drop i).length) := by
  have : s.size = s.data.toList.length := by simp
  rw [this, List.length_drop]
  apply propext
  omega
theorem decode_dl (s : ByteArray) (i : Nat) : Utf8.decode s i = dl (s.data.toList.drop i) := by
  unfold Utf8.decode dl
  simp only [get_drop, lt_drop]
  rfl

/-- The code point with which the bytes begin. -/
def hd (l : List UInt8) : Option Nat := if l = [] ∨ (dl l).1 = 0 ∨ ((dl l).1 = 65533 ∧ (dl l).2 = 1) then none else some (dl l).1

theorem n8 {n : Nat} (h : n < 256) : (UInt8.ofNat n).toNat = n := by rw [UInt8.toNat_ofNat']; omega
theorem b8 (b : UInt8) {n : Nat} (h : b.toNat = n) : UInt8.ofNat n = b := by subst h; simp

theorem dl_cb {c : Nat} (h : okc c) (l : List UInt8) : dl (cb c ++ l) = (c, (cb c).length) := by
  have hv := okc_valid h
  obtain ⟨h0, h1⟩ := h
  unfold cb
  split
  · rename_i h2
    simp [dl, n8 (show c < 256 by omega), h2]
  · split
    · rename_i h2 h3
      have e0 := n8 (show 192 + c / 64 < 256 by omega)
      have e1 := n8 (show 128 + c % 64 < 256 by omega)
      simp only [dl, List.cons_append, List.nil_append, List.getD_cons_zero, List.getD_cons_succ, e0, e1]
      rw [if_neg (by omega), if_pos (by simp; omega), if_pos (by omega)]
      simp; omega
    · split
      · rename_i h2 h3 h4
        have e0 := n8 (show 224 + c / 4096 < 256 by omega)
        have e1 := n8 (show 128 + c / 64 % 64 < 256 by omega)
        have e2 := n8 (show 128 + c % 64 < 256 by omega)
        have ec : (224 + c / 4096) % 16 * 4096 + (128 + c / 64 % 64) % 64 * 64 + (128 + c % 64) % 64 = c := by omega
        simp only [dl, List.cons_append, List.nil_append, List.getD_cons_zero, List.getD_cons_succ, e0, e1, e2, ec]
        rw [if_neg (by omega), if_neg (by simp; omega), if_pos (by simp; omega), if_pos (by simp [hv]; omega)]
        simp
      · rename_i h2 h3 h4
        have e0 := n8 (show 240 + c / 262144 < 256 by omega)
        have e1 := n8 (show 128 + c / 4096 % 64 < 256 by omega)
        have e2 := n8 (show 128 + c / 64 % 64 < 256 by omega)
        have e3 := n8 (show 128 + c % 64 < 256 by omega)
        have ec : (240 + c / 262144) % 8 * 262144 + (128 + c / 4096 % 64) % 64 * 4096 + (128 + c / 64 % 64) % 64 * 64 + (128 + c % 64) % 64 = c := by omega
        simp only [dl, List.cons_append, List.nil_append, List.getD_cons_zero, List.getD_cons_succ, e0, e1, e2, e3, ec]
        rw [if_neg (by omega), if_neg (by simp; omega), if_neg (by simp; omega), if_pos (by simp; omega), if_pos (by simp [hv]; omega)]
        simp

theorem cb_length_pos (c : Nat) : 0 < (cb c).length := by unfold cb; split <;> (try split) <;> (try split) <;> simp
theorem cb_length (c : Nat) : (cb c).length = if c < 128 then 1 else if c < 2048 then 2 else if c < 65536 then 3 else 4 := by
  unfold cb; split <;> (try split) <;> (try split) <;> simp
theorem cb_ne (c : Nat) (l : List UInt8) : cb c ++ l ≠ [] := by
  have := cb_length_pos c
  intro h
  have : (cb c ++ l).length = 0 := by rw [h]; rfl
  simp at this
  simp [this] at *

theorem hd_cb {c : Nat} (h : okc c) (l : List UInt8) : hd (cb c ++ l) = some c := by
  unfold hd
  rw [dl_cb h, if_neg]
  rintro (e | e | ⟨e, e2⟩)
  · exact cb_ne c l e
  · have := h.1; simp at e; omega
  · simp at e e2
    subst e
    simp [cb_length] at e2

theorem dl_cases (l : List UInt8) (hl : l ≠ []) : dl l = (65533, 1) ∨ (dl l).1 = 0 ∨ (okc (dl l).1 ∧ (dl l).2 = (cb (dl l).1).length ∧ ∃ r, l = cb (dl l).1 ++ r) := by
  unfold dl
  simp only []
  obtain ⟨b0, l0, rfl⟩ := List.exists_cons_of_ne_nil hl
  have h0 := b0.toNat_lt
  simp only [List.getD_cons_zero, List.getD_cons_succ, List.length_cons]
  split
  · rename_i hb
    by_cases hz : b0.toNat = 0
    · exact .inr (.inl hz)
    · refine .inr (.inr ⟨⟨by omega, by omega⟩, ?_, l0, ?_⟩)
      · simp [cb, hb]
      · simp [cb, hb]
  · split
    · rename_i hb hc
      rcases l0 with _ | ⟨b1, l1⟩
      · simp at hc
      simp at hc
      have h1 := b1.toNat_lt
      simp only [List.getD_cons_zero]
      split
      · rename_i hd
        have hk : ¬ b0.toNat % 32 * 64 + b1.toNat % 64 < 128 := by omega
        have hk2 : b0.toNat % 32 * 64 + b1.toNat % 64 < 2048 := by omega
        refine .inr (.inr ⟨⟨by simp; omega, by simp; omega⟩, ?_, l1, ?_⟩)
        · simp [cb, hk, hk2]
        · simp only [cb, hk, hk2, if_true, if_false]
          rw [b8 b0 (by omega), b8 b1 (by omega)]
          rfl
      · exact .inl rfl
    · split
      · rename_i hb hb2 hc
        rcases l0 with _ | ⟨b1, _ | ⟨b2, l2⟩⟩
        · simp at hc
        · simp at hc
        simp at hc
        have h1 := b1.toNat_lt
        have h2 := b2.toNat_lt
        simp only [List.getD_cons_zero, List.getD_cons_succ]
        split
        · rename_i hd
          simp only [Bool.and_eq_true, decide_eq_true_eq, valid_iff] at hd
          generalize hC : b0.toNat % 16 * 4096 + b1.toNat % 64 * 64 + b2.toNat % 64 = C at hd
          have hk : ¬ C < 128 := by omega
          have hk2 : ¬ C < 2048 := by omega
          have hk3 : C < 65536 := by omega
          refine .inr (.inr ⟨⟨by simp; omega, hd.2⟩, ?_, l2, ?_⟩)
          · simp [cb, hk, hk2, hk3]
          · simp only [cb, hk, hk2, hk3, if_false]
            rw [b8 b0 (by omega), b8 b1 (by omega), b8 b2 (by omega)]
            rfl
        · exact .inl rfl
      · split
        · rename_i hb hb2 hb3 hc
          rcases l0 with _ | ⟨b1, _ | ⟨b2, _ | ⟨b3, l3⟩⟩⟩
          · simp at hc
          · simp at hc
          · simp at hc
          simp at hc
          have h1 := b1.toNat_lt
          have h2 := b2.toNat_lt
          have h3 := b3.toNat_lt
          simp only [List.getD_cons_zero, List.getD_cons_succ]
          split
          · rename_i hd
            simp only [Bool.and_eq_true, decide_eq_true_eq, valid_iff] at hd
            generalize hC : b0.toNat % 8 * 262144 + b1.toNat % 64 * 4096 + b2.toNat % 64 * 64 + b3.toNat % 64 = C at hd
            have hk : ¬ C < 128 := by omega
            have hk2 : ¬ C < 2048 := by omega
            have hk3 : ¬ C < 65536 := by omega
            refine .inr (.inr ⟨⟨by simp; omega, hd.2⟩, ?_, l3, ?_⟩)
            · simp [cb, hk, hk2, hk3]
            · simp only [cb, hk, hk2, hk3, if_false]
              rw [b8 b0 (by omega), b8 b1 (by omega), b8 b2 (by omega), b8 b3 (by omega)]
              rfl
          · exact .inl rfl
        · exact .inl rfl

theorem hd_some {l : List UInt8} {c : Nat} (h : hd l = some c) : okc c ∧ ∃ r, l = cb c ++ r := by
  unfold hd at h
  split at h
  · cases h
  · rename_i hn
    have e : (dl l).1 = c := by simpa using h
    have hne : l ≠ [] := fun e => hn (.inl e)
    rcases dl_cases l hne with h1 | h1 | ⟨h1, _, h2⟩
    · exact absurd (.inr (.inr (by rw [h1]; exact ⟨rfl, rfl⟩))) hn
    · exact absurd (.inr (.inl h1)) hn
    · rw [e] at h1 h2; exact ⟨h1, h2⟩

/-- Where no code point begins the range tells U+0000, or U+FFFD and one byte. -/
theorem hd_none {l : List UInt8} (hl : l ≠ []) (h : hd l = none) : dl l = (65533, 1) ∨ (dl l).1 = 0 := by
  rcases dl_cases l hl with h1 | h1 | ⟨h1, h2, h3, h4⟩
  · exact .inl h1
  · exact .inr h1
  · generalize (dl l).1 = c at h1 h4
    subst h4
    rw [hd_cb h1] at h
    cases h

/-- All code points, up to the first place where none begins. -/
def pts (l : List UInt8) : List Nat :=
  match _h : hd l with
  | none => []
  | some c => c :: pts (l.drop (cb c).length)
termination_by l.length
decreasing_by
  obtain ⟨_, r, rfl⟩ := hd_some _h
  have := cb_length_pos c
  simp
  omega

/-- The bytes of code points, one after the other. -/
def cbs (cs : List Nat) : List UInt8 := cs.flatMap cb
def oks (cs : List Nat) : Prop := ∀ c ∈ cs, okc c

theorem cbs_nil : cbs [] = [] := rfl
theorem cbs_cons (c : Nat) (cs : List Nat) : cbs (c :: cs) = cb c ++ cbs cs := rfl
theorem cbs_append (a b : List Nat) : cbs (a ++ b) = cbs a ++ cbs b := by simp [cbs]
theorem cbs_snoc (a : List Nat) (c : Nat) : cbs (a ++ [c]) = cbs a ++ cb c := by simp [cbs]

theorem pts_none {l : List UInt8} (h : hd l = none) : pts l = [] := by
  rw [pts]
  split
  · rfl
  · rename_i c hc; rw [h] at hc; cases hc
theorem pts_some {c : Nat} (h : okc c) (l : List UInt8) : pts (cb c ++ l) = c :: pts l := by
  rw [pts]
  have e := hd_cb h l
  split
  · rename_i hc; rw [e] at hc; cases hc
  · rename_i c' hc
    rw [e] at hc
    obtain rfl : c = c' := by simpa using hc
    simp
theorem hd_nil : hd [] = none := by simp [hd]
theorem pts_nil : pts [] = [] := pts_none hd_nil

/-- The induction over a list's code points. -/
theorem pts_spec : ∀ (n : Nat) (l : List UInt8), l.length ≤ n → oks (pts l) ∧ ∃ r, l = cbs (pts l) ++ r ∧ hd r = none
  | 0, l, h => by
    obtain rfl : l = [] := List.eq_nil_of_length_eq_zero (by omega)
    rw [pts_nil]
    exact ⟨by simp [oks], [], rfl, hd_nil⟩
  | n + 1, l, h => by
    cases hc : hd l with
    | none =>
      rw [pts_none hc]
      exact ⟨by simp [oks], l, rfl, hc⟩
    | some c =>
      obtain ⟨ho, r, rfl⟩ := hd_some hc
      have := cb_length_pos c
      rw [pts_some ho]
      obtain ⟨h1, r2, h2, h3⟩ := pts_spec n r (by simp at h; omega)
      refine ⟨fun d hd => (List.mem_cons.1 hd).elim (fun e => e ▸ ho) (h1 d), r2, ?_, h3⟩
      rw [cbs_cons, List.append_assoc, ← h2]
theorem pts_oks (l : List UInt8) : oks (pts l) := (pts_spec _ l (Nat.le_refl _)).1
theorem pts_rest (l : List UInt8) : ∃ r, l = cbs (pts l) ++ r ∧ hd r = none := (pts_spec _ l (Nat.le_refl _)).2

theorem pts_append {cs : List Nat} (h : oks cs) (l : List UInt8) : pts (cbs cs ++ l) = cs ++ pts l := by
  induction cs with
  | nil => rfl
  | cons c cs ih =>
    rw [cbs_cons, List.append_assoc, pts_some (h c (List.mem_cons_self ..)), ih fun d hd => h d (List.mem_cons_of_mem _ hd)]
    rfl
theorem pts_cbs {cs : List Nat} (h : oks cs) : pts (cbs cs) = cs := by
  have := pts_append h []
  rwa [List.append_nil, pts_nil, List.append_nil] at this

/-- Where the code points end. -/
def fin (l : List UInt8) : Nat := (cbs (pts l)).length
theorem fin_le (l : List UInt8) : fin l ≤ l.length := by
  obtain ⟨r, h, _⟩ := pts_rest l
  unfold fin
  have := congrArg List.length h
  simp at this
  omega
theorem take_fin (l : List UInt8) : l.take (fin l) = cbs (pts l) := by
  obtain ⟨r, h, _⟩ := pts_rest l
  unfold fin
  generalize cbs (pts l) = a at h
  subst h
  simp
theorem drop_fin (l : List UInt8) : hd (l.drop (fin l)) = none := by
  obtain ⟨r, h, hr⟩ := pts_rest l
  unfold fin
  generalize cbs (pts l) = a at h
  subst h
  simpa using hr
theorem fin_append {cs : List Nat} (h : oks cs) (l : List UInt8) : fin (cbs cs ++ l) = (cbs cs).length + fin l := by
  unfold fin
  rw [pts_append h, cbs_append, List.length_append]
theorem length_le_cbs (cs : List Nat) : cs.length ≤ (cbs cs).length := by
  induction cs with
  | nil => simp
  | cons c cs ih => rw [cbs_cons]; have := cb_length_pos c; simp; omega
theorem pts_length_le (l : List UInt8) : (pts l).length ≤ l.length := Nat.le_trans (length_le_cbs _) (fin_le l)

/-- The first place where no code point begins; -1: there is none. -/
def badOf (l : List UInt8) : Int := if fin l < l.length then (fin l : Int) else -1
def validOf (l : List UInt8) : Bool := decide (l.length ≤ 65535) && decide (badOf l < 0)
theorem validOf_iff (l : List UInt8) : validOf l = true ↔ l.length ≤ 65535 ∧ fin l = l.length := by
  unfold validOf badOf
  have := fin_le l
  simp only [Bool.and_eq_true, decide_eq_true_eq]
  constructor
  · rintro ⟨h1, h2⟩
    refine ⟨h1, ?_⟩
    split at h2 <;> omega
  · rintro ⟨h1, h2⟩
    refine ⟨h1, ?_⟩
    rw [if_neg (by omega)]; omega
theorem validOf_cbs (l : List UInt8) (h : validOf l = true) : l = cbs (pts l) := by
  have h1 := take_fin l
  rw [((validOf_iff l).1 h).2, List.take_length] at h1
  exact h1

/-- The places and the code points: what an iterator over them hands over. -/
def marks (p : Nat) : List Nat → List (Nat × Nat)
  | [] => []
  | c :: cs => (p, c) :: marks (p + (cb c).length) cs
theorem marks_length (cs : List Nat) : ∀ p, (marks p cs).length = cs.length := by
  induction cs with
  | nil => intro p; rfl
  | cons c cs ih => intro p; simp [marks, ih]
theorem marks_append (a b : List Nat) : ∀ p, marks p (a ++ b) = marks p a ++ marks (p + (cbs a).length) b := by
  induction a with
  | nil => intro p; simp [marks, cbs]
  | cons c a ih =>
    intro p
    rw [cbs_cons, List.length_append, List.cons_append, marks, ih, marks, List.cons_append, Nat.add_assoc]
theorem marks_snoc (a : List Nat) (c : Nat) : marks 0 (a ++ [c]) = marks 0 a ++ [((cbs a).length, c)] := by
  rw [marks_append]; simp [marks]
end Go.Proofs.YtjbgnlnchchgcaaDoor
