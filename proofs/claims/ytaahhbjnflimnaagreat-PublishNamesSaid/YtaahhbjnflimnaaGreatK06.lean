/-
  Plain facts: the bytes of a number and the number of bytes, the highest first: each undoes the other. No condition.
  Plain facts: a string or binary data as two bytes of length and the bytes; what is read of them. No condition.
  Plain facts on variable byte integers: how a reader goes on by each byte, the bytes of a number, and that each undoes the other. No condition.
-/
import Derived.Lib.Hide
import Derived.Test.YtaahhbjnflimnaaGreatK05
namespace Go.Proofs.YtaahhbjnflimnaaGreat

/-- The lowest c bytes of n, the highest first. -/
def be (n : Nat) : Nat → List UInt8
  | 0 => []
  | c + 1 => be (n / 256) c ++ [UInt8.ofNat n]

theorem be_length (c : Nat) : ∀ n, (be n c).length = c := by
  induction c with
  | zero => intro n; rfl
  | succ c ih => intro n; simp [be, ih]

theorem be_step (n c k : Nat) (hk : k < c) : be (n / 256 ^ (c - (k + 1))) (k + 1) = be (n / 256 ^ (c - k)) k ++ [UInt8.ofNat (n / 256 ^ (c - (k + 1)))] := by
  have e : c - k = (c - (k + 1)) + 1 := by omega
  rw [be, e, Nat.pow_succ, Nat.div_div_eq_div_mul]

/-- The number of bytes, the highest first. -/
def num (l : List UInt8) : Nat := l.foldl (fun a b => a * 256 + b.toNat) 0

theorem num_snoc (l : List UInt8) (b : UInt8) : num (l ++ [b]) = num l * 256 + b.toNat := by simp [num]

theorem num_lt (l : List UInt8) : num l < 256 ^ l.length := by
  have key : ∀ (k : Nat) (l : List UInt8), l.length = k → num l < 256 ^ k := by
    intro k
    induction k with
    | zero => intro l h; have : l = [] := List.eq_nil_of_length_eq_zero h; subst this; decide
    | succ k ih =>
      intro l h
      rcases List.eq_nil_or_concat l with rfl | ⟨l', b, rfl⟩
      · simp at h
      · simp at h
        have := ih l' h
        have hb := b.toNat_lt
        rw [List.concat_eq_append, num_snoc, Nat.pow_succ]
        omega
  exact key _ l rfl

theorem num_be (c : Nat) : ∀ n, num (be n c) = n % 256 ^ c := by
  induction c with
  | zero => intro n; simp [be, num, Nat.mod_one]
  | succ c ih =>
    intro n
    rw [be, num_snoc, ih, Nat.pow_succ, Nat.mul_comm (256 ^ c) 256, Nat.mod_mul, UInt8.toNat_ofNat']
    omega
theorem be_of_num (l : List UInt8) : be (num l) l.length = l := by
  have key : ∀ (k : Nat) (l : List UInt8), l.length = k → be (num l) k = l := by
    intro k
    induction k with
    | zero => intro l h; have : l = [] := List.eq_nil_of_length_eq_zero h; subst this; rfl
    | succ k ih =>
      intro l h
      rcases List.eq_nil_or_concat l with rfl | ⟨l', b, rfl⟩
      · simp at h
      · simp at h
        have hb := b.toNat_lt
        rw [List.concat_eq_append, num_snoc, be]
        have e : (num l' * 256 + b.toNat) / 256 = num l' := by omega
        rw [e, ih l' h]
        congr 2
        apply UInt8.toNat_inj.1
        rw [UInt8.toNat_ofNat']
        omega
  exact key _ l rfl

theorem num_inj (l l' : List UInt8) (h : l.length = l'.length) (e : num l = num l') : l = l' := by
  rw [← be_of_num l, ← be_of_num l', h, e]

end Go.Proofs.YtaahhbjnflimnaaGreat
namespace Go.Proofs.YtaahhbjnflimnaaGreat

/-- The encoding: the length in two bytes, and the bytes. -/
def enc2 (l : List UInt8) : List UInt8 := be l.length 2 ++ l
theorem enc2_length (l : List UInt8) : (enc2 l).length = l.length + 2 := by simp [enc2, be_length]; omega
theorem num2_lt (l : List UInt8) : num (l.take 2) < 65536 := by
  have h := num_lt (l.take 2)
  have hl : (l.take 2).length ≤ 2 := by simp; omega
  have := Nat.pow_le_pow_right (show 0 < 256 by decide) hl
  omega

/-- What ReadBinary tells of its bytes. -/
def rdB (l : List UInt8) : List UInt8 × Nat × Nat :=
  if 2 ≤ l.length ∧ 2 + num (l.take 2) ≤ l.length then ((l.drop 2).take (num (l.take 2)), 2 + num (l.take 2), 0) else ([], 0, 3)
/-- What Read tells. -/
def rdT (l : List UInt8) : List UInt8 × Nat × Nat :=
  if (rdB l).2.2 ≠ 0 then ([], 0, 3) else if validOf (rdB l).1 then rdB l else ([], 0, 6)
theorem rdB_cases (l : List UInt8) : ((rdB l).2.2 = 0 ∧ (rdB l).1.length + 2 = (rdB l).2.1 ∧ (rdB l).2.1 ≤ l.length ∧ (rdB l).2.1 < 65538 ∧ l.take (rdB l).2.1 = enc2 (rdB l).1) ∨ rdB l = ([], 0, 3) := by
  unfold rdB
  split
  · rename_i h
    refine .inl ⟨rfl, ?_, h.2, by have := num2_lt l; simp; omega, ?_⟩
    · simp; omega
    · have hl : ((l.drop 2).take (num (l.take 2))).length = num (l.take 2) := by simp; omega
      have hb := be_of_num (l.take 2)
      have h2 : (l.take 2).length = 2 := by simp; omega
      rw [h2] at hb
      show l.take (2 + num (l.take 2)) = enc2 _
      rw [enc2, hl, hb, List.take_add]
  · exact .inr rfl

end Go.Proofs.YtaahhbjnflimnaaGreat
namespace Go.Proofs.YtaahhbjnflimnaaGreat

/-- What a reader is after a byte that is its n-th: 0 open, 1 whole, 2 broken. -/
def nxt (b : UInt8) (n : Nat) : Nat := if 128 ≤ b.toNat then (if n = 4 then 2 else 0) else if b.toNat = 0 ∧ 1 < n then 2 else 1
/-- The number with a byte more. -/
def grow (v n : Nat) (b : UInt8) : Nat := v + b.toNat % 128 * 128 ^ n
/-- Number, size and state behind the bytes: those behind the end are not looked at. -/
def run (v n : Nat) : List UInt8 → Nat × Nat × Nat
  | [] => (v, n, 0)
  | b :: l => if nxt b (n + 1) = 0 then run (grow v n b) (n + 1) l else (grow v n b, n + 1, nxt b (n + 1))

theorem nxt_cases (b : UInt8) (n : Nat) : nxt b n = 0 ∨ nxt b n = 1 ∨ nxt b n = 2 := by
  unfold nxt; split <;> split <;> simp
theorem nxt_zero {b : UInt8} {n : Nat} : nxt b n = 0 ↔ 128 ≤ b.toNat ∧ n ≠ 4 := by
  unfold nxt; split <;> split <;> simp_all
  all_goals omega
theorem nxt_one {b : UInt8} {n : Nat} : nxt b n = 1 ↔ b.toNat < 128 ∧ (0 < b.toNat ∨ n ≤ 1) := by
  unfold nxt; split <;> split <;> simp_all <;> omega
theorem nxt_two {b : UInt8} {n : Nat} : nxt b n = 2 ↔ (128 ≤ b.toNat ∧ n = 4) ∨ (b.toNat = 0 ∧ 1 < n) := by
  unfold nxt; split <;> split <;> simp_all <;> omega

theorem grow_lt {v n : Nat} (b : UInt8) (h : v < 128 ^ n) : grow v n b < 128 ^ (n + 1) := by
  unfold grow
  have h1 : b.toNat % 128 ≤ 127 := by omega
  have h2 : b.toNat % 128 * 128 ^ n ≤ 127 * 128 ^ n := Nat.mul_le_mul_right _ h1
  rw [Nat.pow_succ]
  omega

theorem run_open {v n : Nat} {b : UInt8} (l : List UInt8) (h : nxt b (n + 1) = 0) : run v n (b :: l) = run (grow v n b) (n + 1) l := by simp [run, h]
theorem run_shut {v n : Nat} {b : UInt8} (l : List UInt8) (h : nxt b (n + 1) ≠ 0) : run v n (b :: l) = (grow v n b, n + 1, nxt b (n + 1)) := by simp [run, h]

/-- One byte more behind bytes that leave a reader open. -/
theorem run_snoc (b : UInt8) : ∀ (l : List UInt8) (v n v' n' : Nat), run v n l = (v', n', 0) → run v n (l ++ [b]) = (grow v' n' b, n' + 1, nxt b (n' + 1)) := by
  intro l
  induction l with
  | nil =>
    intro v n v' n' h
    simp [run] at h
    obtain ⟨rfl, rfl⟩ := h
    by_cases h0 : nxt b (n + 1) = 0 <;> simp [run, h0]
  | cons a l ih =>
    intro v n v' n' h
    by_cases h0 : nxt a (n + 1) = 0
    · rw [run_open _ h0] at h
      rw [List.cons_append, run_open _ h0]
      exact ih _ _ _ _ h
    · rw [run_shut _ h0] at h
      simp at h
      exact absurd h.2.2 h0
/-- What is open has taken all bytes, and fewer than four. -/
theorem run_zero : ∀ (l : List UInt8) (v n v' n' : Nat), n < 4 → v < 128 ^ n → run v n l = (v', n', 0) → n' = n + l.length ∧ n' < 4 ∧ v' < 128 ^ n' := by
  intro l
  induction l with
  | nil => intro v n v' n' hn hv h; simp [run] at h; obtain ⟨rfl, rfl⟩ := h; exact ⟨by simp, hn, hv⟩
  | cons a l ih =>
    intro v n v' n' hn hv h
    by_cases h0 : nxt a (n + 1) = 0
    · rw [run_open _ h0] at h
      have h4 := (nxt_zero.1 h0).2
      obtain ⟨e, h2, h3⟩ := ih _ _ _ _ (by omega) (grow_lt a hv) h
      exact ⟨by simp; omega, h2, h3⟩
    · rw [run_shut _ h0] at h
      simp at h
      exact absurd h.2.2 h0
theorem run_state : ∀ (l : List UInt8) (v n : Nat), (run v n l).2.2 = 0 ∨ (run v n l).2.2 = 1 ∨ (run v n l).2.2 = 2 := by
  intro l
  induction l with
  | nil => intro v n; simp [run]
  | cons a l ih =>
    intro v n
    by_cases h0 : nxt a (n + 1) = 0
    · rw [run_open _ h0]; exact ih _ _
    · rw [run_shut _ h0]; exact nxt_cases _ _

/-- What is read: the number, how many bytes it has, and the error. -/
def rdV (l : List UInt8) : Nat := if (run 0 0 l).2.2 = 1 then (run 0 0 l).1 else 0
def rdN (l : List UInt8) : Nat := if (run 0 0 l).2.2 = 1 then (run 0 0 l).2.1 else 0
def rdE (l : List UInt8) : Nat := if (run 0 0 l).2.2 = 0 then 3 else if (run 0 0 l).2.2 = 1 then 0 else 5
theorem rd_of {l : List UInt8} {v n st : Nat} (h : run 0 0 l = (v, n, st)) : rdV l = (if st = 1 then v else 0) ∧ rdN l = (if st = 1 then n else 0) ∧ rdE l = if st = 0 then 3 else if st = 1 then 0 else 5 := by
  simp [rdV, rdN, rdE, h]

/-- How many bytes a number has: 0 if it can't be represented. -/
def sz (n : Int) : Nat := if n < 0 ∨ 268435455 < n then 0 else if n < 128 then 1 else if n < 16384 then 2 else if n < 2097152 then 3 else 4
/-- Byte i of the c bytes of n. -/
def byt (n c i : Nat) : UInt8 := UInt8.ofNat (n / 128 ^ i % 128 + if i + 1 < c then 128 else 0)
def vb (n c : Nat) : List UInt8 := (List.range c).map (byt n c)
theorem vb_length (n c : Nat) : (vb n c).length = c := by simp [vb]
theorem byt_toNat (n c i : Nat) : (byt n c i).toNat = n / 128 ^ i % 128 + if i + 1 < c then 128 else 0 := by
  unfold byt
  have : n / 128 ^ i % 128 < 128 := Nat.mod_lt _ (by decide)
  simp only [UInt8.toNat_ofNat']
  split <;> omega
theorem sz_cases (n : Nat) (h : n ≤ 268435455) : (sz n = 1 ∧ n < 128) ∨ (sz n = 2 ∧ 128 ≤ n ∧ n < 16384) ∨ (sz n = 3 ∧ 16384 ≤ n ∧ n < 2097152) ∨ (sz n = 4 ∧ 2097152 ≤ n) := by
  unfold sz; split
  · omega
  · split
    · omega
    · split
      · omega
      · split <;> omega
theorem sz_zero {n : Int} : sz n = 0 ↔ n < 0 ∨ 268435455 < n := by
  unfold sz; split
  · simp [*]
  · split
    · simp [*]
    · split
      · simp [*]
      · split <;> simp [*]

theorem byt_more (n c k : Nat) (hc : c ≤ 4) (hk : k + 1 < c) : nxt (byt n c k) (k + 1) = 0 ∧ grow (n % 128 ^ k) k (byt n c k) = n % 128 ^ (k + 1) := by
  have e := byt_toNat n c k
  rw [if_pos (by omega)] at e
  refine ⟨nxt_zero.2 ⟨by omega, by omega⟩, ?_⟩
  unfold grow
  rw [e, Nat.pow_succ, Nat.mod_mul, Nat.add_mod_right, Nat.mod_mod, Nat.mul_comm]
theorem byt_last (n k : Nat) (hn : n ≤ 268435455) (hk : k + 1 = sz n) : nxt (byt n (sz n) k) (k + 1) = 1 ∧ grow (n % 128 ^ k) k (byt n (sz n) k) = n := by
  have hs := sz_cases n hn
  rw [← hk] at hs ⊢
  have hlt : n < 128 ^ (k + 1) := by
    rcases hs with ⟨h, _⟩ | ⟨h, _⟩ | ⟨h, _⟩ | ⟨h, _⟩ <;> (obtain rfl := Nat.succ.inj h; simp; omega)
  have hge : k = 0 ∨ 128 ^ k ≤ n := by
    rcases hs with ⟨h, _⟩ | ⟨h, _⟩ | ⟨h, _⟩ | ⟨h, _⟩ <;> (obtain rfl := Nat.succ.inj h; simp; try omega)
  have e := byt_toNat n (k + 1) k
  rw [if_neg (by omega)] at e
  have hd : n / 128 ^ k < 128 := by
    rw [Nat.div_lt_iff_lt_mul (Nat.pow_pos (by decide))]; rw [Nat.pow_succ] at hlt; omega
  refine ⟨nxt_one.2 ⟨by omega, ?_⟩, ?_⟩
  · rcases hge with h | h
    · right; omega
    · left
      have : 0 < n / 128 ^ k := Nat.div_pos h (Nat.pow_pos (by decide))
      omega
  · unfold grow
    rw [e]
    have := Nat.mod_add_div n (128 ^ k)
    rw [Nat.add_zero, Nat.mod_eq_of_lt hd, Nat.mod_eq_of_lt hd, Nat.mul_comm]
    exact this

/-- The first i bytes leave a reader open, with the number modulo 128 to the power of i. -/
theorem run_front (n c : Nat) (hc : c ≤ 4) : ∀ i, i < c → ∀ t, run 0 0 ((List.range i).map (byt n c) ++ t) = run (n % 128 ^ i) i t := by
  intro i
  induction i with
  | zero => intro _ t; simp [Nat.mod_one]
  | succ i ih =>
    intro hi t
    obtain ⟨h0, hg⟩ := byt_more n c i hc hi
    rw [List.range_succ, List.map_append, List.append_assoc, ih (by omega)]
    show run _ _ (byt n c i :: t) = _
    rw [run_open _ h0, hg]

theorem run_vb (n : Nat) (hn : n ≤ 268435455) (t : List UInt8) : run 0 0 (vb n (sz n) ++ t) = (n, sz n, 1) := by
  have hs := sz_cases n hn
  obtain ⟨c, hc⟩ : ∃ c, sz n = c + 1 := ⟨sz n - 1, by omega⟩
  obtain ⟨h1, hg⟩ := byt_last n c hn hc.symm
  rw [hc] at h1 hg ⊢
  unfold vb
  rw [List.range_succ, List.map_append, List.append_assoc, run_front n (c + 1) (by omega) c (by omega)]
  show run _ _ (byt n (c + 1) c :: t) = _
  rw [run_shut _ (by rw [h1]; decide), h1, hg]

/-- The bytes of no number begin those of another one. -/
theorem vb_front (n m : Nat) (hn : n ≤ 268435455) (hm : m ≤ 268435455) (h : (vb m (sz m)).take (sz n) = vb n (sz n)) : n = m := by
  have h1 := run_vb m hm []
  have h2 := run_vb n hn ((vb m (sz m)).drop (sz n))
  rw [← h, List.take_append_drop] at h2
  rw [List.append_nil, h2] at h1
  simp only [Prod.mk.injEq] at h1
  exact h1.1

/-- What is read as a number is written as the same: its bytes begin the string. -/
theorem run_back (l : List UInt8) (v n : Nat) (h : run 0 0 l = (v, n, 1)) : v ≤ 268435455 ∧ n = sz v ∧ n ≤ l.length ∧ l.take n = vb v n := by
  have ofb : ∀ (a : UInt8) (x c i : Nat), a.toNat = (x / 128 ^ i % 128 + if i + 1 < c then 128 else 0) → a = byt x c i := fun a x c i e => UInt8.toNat_inj.1 (by rw [byt_toNat, e])
  cases l with
  | nil => simp [run] at h
  | cons a l =>
    have ha := a.toNat_lt
    by_cases ha0 : nxt a (0 + 1) = 0
    · rw [run_open _ ha0] at h
      have ha1 := (nxt_zero.1 ha0).1
      cases l with
      | nil => simp [run] at h
      | cons b l =>
        have hb := b.toNat_lt
        by_cases hb0 : nxt b (0 + 1 + 1) = 0
        · rw [run_open _ hb0] at h
          have hb1 := (nxt_zero.1 hb0).1
          cases l with
          | nil => simp [run] at h
          | cons c l =>
            have hc := c.toNat_lt
            by_cases hc0 : nxt c (0 + 1 + 1 + 1) = 0
            · rw [run_open _ hc0] at h
              have hc1 := (nxt_zero.1 hc0).1
              cases l with
              | nil => simp [run] at h
              | cons d l =>
                have hd := d.toNat_lt
                by_cases hd0 : nxt d (0 + 1 + 1 + 1 + 1) = 0
                · exact absurd (nxt_zero.1 hd0).2 (by decide)
                · rw [run_shut _ hd0] at h
                  simp only [Prod.mk.injEq] at h
                  obtain ⟨hv, rfl, h1⟩ := h
                  have h2 := nxt_one.1 h1
                  have e : v = a.toNat % 128 + b.toNat % 128 * 128 + c.toNat % 128 * 16384 + d.toNat * 2097152 := by rw [← hv]; simp [grow]; omega
                  clear hv
                  refine ⟨by omega, by unfold sz; rw [if_neg (by omega), if_neg (by omega), if_neg (by omega), if_neg (by omega)], by simp, ?_⟩
                  simp [vb, List.range_succ]
                  exact ⟨ofb _ _ _ _ (by simp; omega), ofb _ _ _ _ (by simp; omega), ofb _ _ _ _ (by simp; omega), ofb _ _ _ _ (by simp; omega)⟩
            · rw [run_shut _ hc0] at h
              simp only [Prod.mk.injEq] at h
              obtain ⟨hv, rfl, h1⟩ := h
              have h2 := nxt_one.1 h1
              have e : v = a.toNat % 128 + b.toNat % 128 * 128 + c.toNat * 16384 := by rw [← hv]; simp [grow]; omega
              clear hv
              refine ⟨by omega, by unfold sz; rw [if_neg (by omega), if_neg (by omega), if_neg (by omega), if_pos (by omega)], by simp, ?_⟩
              simp [vb, List.range_succ]
              exact ⟨ofb _ _ _ _ (by simp; omega), ofb _ _ _ _ (by simp; omega), ofb _ _ _ _ (by simp; omega)⟩
        · rw [run_shut _ hb0] at h
          simp only [Prod.mk.injEq] at h
          obtain ⟨hv, rfl, h1⟩ := h
          have h2 := nxt_one.1 h1
          have e : v = a.toNat % 128 + b.toNat * 128 := by rw [← hv]; simp [grow]; omega
          clear hv
          refine ⟨by omega, by unfold sz; rw [if_neg (by omega), if_neg (by omega), if_pos (by omega)], by simp, ?_⟩
          simp [vb, List.range_succ]
          exact ⟨ofb _ _ _ _ (by simp; omega), ofb _ _ _ _ (by simp; omega)⟩
    · rw [run_shut _ ha0] at h
      simp only [Prod.mk.injEq] at h
      obtain ⟨hv, rfl, h1⟩ := h
      have h2 := nxt_one.1 h1
      have e : v = a.toNat := by rw [← hv]; simp [grow]; omega
      clear hv
      refine ⟨by omega, by unfold sz; rw [if_neg (by omega), if_pos (by omega)], by simp, ?_⟩
      simp [vb, List.range_succ]
      exact ofb _ _ _ _ (by simp; omega)
end Go.Proofs.YtaahhbjnflimnaaGreat
