/-
  Headers, as plain numbers and lists of bytes. Condition: none. No program.
-/
import Derived.Test.YtaahhbjnflimnaaGreatK06
namespace Go.Proofs.YtaahhbjnflimnaaGreat

/-- A header. -/
structure Hd where
  kind : Int
  flags : Int
  length : Int
deriving DecidableEq
def verH (v : Int) : Bool := v == 4 || v == 5
def kindH (v k : Int) : Bool := decide (1 ≤ k) && (decide (k < 15) || (k == 15 && v == 5))
def flagsH (k f : Int) : Bool :=
  if k = 3 then decide (0 ≤ f ∧ f ≤ 15 ∧ f / 2 % 4 < 3 ∧ (f < 8 ∨ 0 < f / 2 % 4)) else if k = 6 ∨ k = 8 ∨ k = 10 then f == 2 else f == 0
def checkH (v : Int) (h : Hd) : Nat :=
  if verH v = false then 2 else if kindH v h.kind = false then 8 else if flagsH h.kind h.flags = false then 7 else if h.length < 0 ∨ 268435455 < h.length then 2 else 0
/-- A valid header's first byte. -/
def firstH (h : Hd) : UInt8 := UInt8.ofNat (16 * h.kind + h.flags).toNat
def rawH (h : Hd) : List UInt8 := firstH h :: vb h.length.toNat (sz h.length)
def bytesH (v : Int) (h : Hd) : List UInt8 := if checkH v h = 0 then rawH h else []
def noH : Hd := ⟨0, 0, 0⟩
def ofByte (b : UInt8) : Hd := ⟨(b.toNat / 16 : Nat), (b.toNat % 16 : Nat), 0⟩
def readH (v : Int) : List UInt8 → Hd × Nat × Nat
  | [] => if verH v = false then (noH, 0, 2) else (noH, 0, 3)
  | b :: r =>
    if checkH v (ofByte b) ≠ 0 then (noH, 0, checkH v (ofByte b)) else
    if rdE r ≠ 0 then (noH, 0, rdE r) else
    (⟨(b.toNat / 16 : Nat), (b.toNat % 16 : Nat), (rdV r : Nat)⟩, 1 + rdN r, 0)
theorem readH_nil (v : Int) : readH v [] = if verH v = false then (noH, 0, 2) else (noH, 0, 3) := rfl
theorem readH_cons (v : Int) (b : UInt8) (r : List UInt8) : readH v (b :: r) = if checkH v (ofByte b) ≠ 0 then (noH, 0, checkH v (ofByte b)) else
    if rdE r ≠ 0 then (noH, 0, rdE r) else (⟨(b.toNat / 16 : Nat), (b.toNat % 16 : Nat), (rdV r : Nat)⟩, 1 + rdN r, 0) := rfl
theorem kind_range {v k : Int} (h : kindH v k = true) : 1 ≤ k ∧ k ≤ 15 := by
  unfold kindH at h
  simp only [Bool.and_eq_true, Bool.or_eq_true, decide_eq_true_eq, beq_iff_eq] at h
  omega
theorem flags_range {k f : Int} (h : flagsH k f = true) : 0 ≤ f ∧ f ≤ 15 := by
  unfold flagsH at h
  split at h
  · rw [decide_eq_true_eq] at h; omega
  · split at h <;> (rw [beq_iff_eq] at h; omega)
theorem check_zero {v : Int} {h : Hd} : checkH v h = 0 ↔ verH v = true ∧ kindH v h.kind = true ∧ flagsH h.kind h.flags = true ∧ 0 ≤ h.length ∧ h.length ≤ 268435455 := by
  unfold checkH
  cases h1 : verH v
  · simp
  cases h2 : kindH v h.kind
  · simp
  cases h3 : flagsH h.kind h.flags
  · simp
  by_cases h4 : h.length < 0 ∨ 268435455 < h.length
  · simp only [Bool.true_eq_false, if_false, if_pos h4]
    constructor
    · intro h; cases h
    · intro h; omega
  · simp only [Bool.true_eq_false, if_false, if_neg h4]
    constructor
    · intro _; exact ⟨trivial, trivial, trivial, by omega, by omega⟩
    · intro _; trivial
theorem check_low {v k f l : Int} (h : checkH v ⟨k, f, l⟩ = 0) : checkH v ⟨k, f, 0⟩ = 0 := by
  rw [check_zero] at h ⊢
  exact ⟨h.1, h.2.1, h.2.2.1, Int.le_refl _, (by decide : (0 : Int) ≤ 268435455)⟩
theorem first_toNat {v : Int} {h : Hd} (hc : checkH v h = 0) : ((firstH h).toNat : Int) = 16 * h.kind + h.flags := by
  rw [check_zero] at hc
  have h1 := kind_range hc.2.1
  have h2 := flags_range hc.2.2.1
  unfold firstH
  have : (UInt8.ofNat (16 * h.kind + h.flags).toNat).toNat = (16 * h.kind + h.flags).toNat % 256 := by simp
  rw [this]
  omega
theorem first_back {v : Int} {h : Hd} (hc : checkH v h = 0) : (((firstH h).toNat / 16 : Nat) : Int) = h.kind ∧ (((firstH h).toNat % 16 : Nat) : Int) = h.flags := by
  have h0 := first_toNat hc
  rw [check_zero] at hc
  have h1 := kind_range hc.2.1
  have h2 := flags_range hc.2.2.1
  omega
theorem raw_length {h : Hd} (hl : 0 ≤ h.length ∧ h.length ≤ 268435455) : 2 ≤ (rawH h).length ∧ (rawH h).length ≤ 5 := by
  obtain ⟨n, hn⟩ : ∃ n : Nat, h.length = (n : Int) := ⟨h.length.toNat, by omega⟩
  unfold rawH
  rw [hn, List.length_cons, vb_length]
  have := sz_cases n (by omega)
  omega
theorem of_first {v : Int} {h : Hd} (hc : checkH v h = 0) : ofByte (firstH h) = ⟨h.kind, h.flags, 0⟩ := by
  unfold ofByte
  rw [(first_back hc).1, (first_back hc).2]
/-- A header is read from its bytes, whatever follows. -/
theorem read_raw {v : Int} {h : Hd} (hc : checkH v h = 0) (t : List UInt8) : readH v (rawH h ++ t) = (h, (rawH h).length, 0) := by
  have hz := check_zero.1 hc
  obtain ⟨n, hn⟩ : ∃ n : Nat, h.length = (n : Int) := ⟨h.length.toNat, by omega⟩
  have hr := run_vb n (by omega) t
  have h1 := rd_of hr
  simp only [if_true] at h1
  have e1 : rawH h ++ t = firstH h :: (vb n (sz n) ++ t) := by unfold rawH; rw [hn]; simp
  rw [e1, readH_cons, of_first hc]
  have hlow : checkH v ⟨h.kind, h.flags, 0⟩ = 0 := check_low (l := h.length) hc
  rw [if_neg (by rw [hlow]; simp), h1.1, h1.2.1, h1.2.2, if_neg (by simp), (first_back hc).1, (first_back hc).2]
  have e2 : (rawH h).length = 1 + sz n := by unfold rawH; rw [hn, List.length_cons, vb_length]; omega
  rw [e2, ← hn]
/-- Truncated it is short. -/
theorem hread_cut {v : Int} {h : Hd} (hc : checkH v h = 0) (i : Nat) (hi : i < (rawH h).length) : readH v ((rawH h).take i) = (noH, 0, 3) := by
  have hz := check_zero.1 hc
  obtain ⟨n, hn⟩ : ∃ n : Nat, h.length = (n : Int) := ⟨h.length.toNat, by omega⟩
  have hl : i < 1 + sz n := by unfold rawH at hi; rw [hn, List.length_cons, vb_length] at hi; omega
  cases i with
  | zero => rw [List.take_zero, readH_nil, if_neg (by rw [hz.1]; simp)]
  | succ i =>
    have e1 : (rawH h).take (i + 1) = firstH h :: (vb n (sz n)).take i := by unfold rawH; rw [hn]; rfl
    have hlow : checkH v ⟨h.kind, h.flags, 0⟩ = 0 := check_low (l := h.length) hc
    have hs := sz_cases n (by omega)
    have e2 : (vb n (sz n)).take i = (List.range i).map (byt n (sz n)) := by
      unfold vb
      rw [← List.map_take, List.take_range, Nat.min_eq_left (by omega)]
    have hr := run_front n (sz n) (by omega) i (by omega) []
    rw [List.append_nil] at hr
    have h1 : (run 0 0 ((List.range i).map (byt n (sz n)))).2.2 = 0 := by rw [hr]; rfl
    have h2 : rdE ((vb n (sz n)).take i) = 3 := by rw [e2]; unfold rdE; rw [if_pos h1]
    rw [e1, readH_cons, of_first hc, if_neg (by rw [hlow]; simp), h2, if_pos (by simp)]
theorem of_check {v : Int} {b : UInt8} {l : Int} (h : checkH v (ofByte b) = 0) (h0 : 0 ≤ l) (h1 : l ≤ 268435455) : checkH v ⟨(b.toNat / 16 : Nat), (b.toNat % 16 : Nat), l⟩ = 0 := by
  rw [check_zero] at h ⊢
  exact ⟨h.1, h.2.1, h.2.2.1, h0, h1⟩
theorem first_of (b : UInt8) (l : Int) : firstH ⟨(b.toNat / 16 : Nat), (b.toNat % 16 : Nat), l⟩ = b := by
  unfold firstH
  have hb := b.toNat_lt
  have : (16 * ((b.toNat / 16 : Nat) : Int) + ((b.toNat % 16 : Nat) : Int)).toNat = b.toNat := by omega
  show UInt8.ofNat (16 * ((b.toNat / 16 : Nat) : Int) + ((b.toNat % 16 : Nat) : Int)).toNat = b
  rw [this]
  simp
/-- What is read is valid, and is written as the same. -/
theorem hread_back {v : Int} {l : List UInt8} (h : (readH v l).2.2 = 0) : checkH v (readH v l).1 = 0 ∧ (readH v l).2.1 ≤ l.length ∧ rawH (readH v l).1 = l.take (readH v l).2.1 := by
  cases l with
  | nil => rw [readH_nil] at h; split at h <;> simp at h
  | cons b r =>
    rw [readH_cons] at h ⊢
    by_cases h1 : checkH v (ofByte b) ≠ 0
    · rw [if_pos h1] at h; exact absurd h h1
    rw [if_neg h1] at h ⊢
    by_cases h2 : rdE r ≠ 0
    · rw [if_pos h2] at h; exact absurd h h2
    rw [if_neg h2]
    have h1' : checkH v (ofByte b) = 0 := Classical.byContradiction h1
    have h2' : rdE r = 0 := Classical.byContradiction h2
    have hst : (run 0 0 r).2.2 = 1 := by
      unfold rdE at h2'
      split at h2'
      · cases h2'
      · split at h2'
        · assumption
        · cases h2'
    have hv : rdV r = (run 0 0 r).1 := by unfold rdV; rw [if_pos hst]
    have hn : rdN r = (run 0 0 r).2.1 := by unfold rdN; rw [if_pos hst]
    obtain ⟨b1, b2, b3, b4⟩ := run_back r (run 0 0 r).1 (run 0 0 r).2.1 (by rw [← hst])
    rw [hv, hn]
    refine ⟨of_check h1' (by omega) (by omega), by simp only [List.length_cons]; omega, ?_⟩
    simp only [rawH, first_of]
    rw [Int.toNat_natCast, ← b2, ← b4, Nat.add_comm 1, List.take_succ_cons]
theorem read_no {v : Int} {l : List UInt8} (h : (readH v l).2.2 ≠ 0) : (readH v l).1 = noH ∧ (readH v l).2.1 = 0 := by
  cases l with
  | nil => rw [readH_nil]; split <;> exact ⟨rfl, rfl⟩
  | cons b r =>
    rw [readH_cons] at h ⊢
    split
    · exact ⟨rfl, rfl⟩
    · rename_i h1
      rw [if_neg h1] at h
      split
      · exact ⟨rfl, rfl⟩
      · rename_i h2
        rw [if_neg h2] at h
        simp at h

/-- A packet's flags: of what it is considered, and the error. -/
def qosOk (dup : Bool) (qos : Int) : Bool := decide (0 ≤ qos) && decide (qos ≤ 2) && !(dup && qos == 0)
def packF (dup retain : Bool) (qos : Int) : Int := 2 * qos + (if dup then 8 else 0) + if retain then 1 else 0
def flagsF (v k : Int) (dup retain : Bool) (qos : Int) : Int × Nat :=
  if verH v = false then (0, 2) else if kindH v k = false then (0, 8) else
  if k = 6 ∨ k = 8 ∨ k = 10 then (2, 0) else if k = 3 then (if qosOk dup qos then (packF dup retain qos, 0) else (0, 7)) else (0, 0)
theorem flags_no {v k : Int} {dup retain : Bool} {qos : Int} (h : (flagsF v k dup retain qos).2 ≠ 0) : (flagsF v k dup retain qos).1 = 0 := by
  unfold flagsF at h ⊢
  repeat' split
  all_goals first | rfl | (simp_all; done)
/-- Flags that are a packet's are valid. -/
theorem flags_fit {v k : Int} {dup retain : Bool} {qos : Int} (h : (flagsF v k dup retain qos).2 = 0) : verH v = true ∧ kindH v k = true ∧ flagsH k (flagsF v k dup retain qos).1 = true := by
  unfold flagsF at h ⊢
  cases h1 : verH v
  · rw [h1] at h; simp at h
  cases h2 : kindH v k
  · rw [h1, h2] at h; simp at h
  rw [h1, h2] at h
  simp only [Bool.true_eq_false, if_false] at h ⊢
  refine ⟨trivial, trivial, ?_⟩
  by_cases h3 : k = 6 ∨ k = 8 ∨ k = 10
  · rw [if_pos h3]
    unfold flagsH
    rw [if_neg (by omega), if_pos h3]; rfl
  rw [if_neg h3] at h ⊢
  by_cases h4 : k = 3
  · rw [if_pos h4] at h ⊢
    cases h5 : qosOk dup qos
    · rw [h5] at h; simp at h
    unfold flagsH
    rw [if_pos h4, if_pos rfl, decide_eq_true_eq]
    unfold qosOk at h5
    simp only [Bool.and_eq_true, decide_eq_true_eq, Bool.not_eq_true'] at h5
    obtain ⟨⟨q0, q2⟩, h6⟩ := h5
    unfold packF
    cases dup <;> cases retain <;> simp at h6 ⊢ <;> omega
  · rw [if_neg h4]
    unfold flagsH
    rw [if_neg h4, if_neg h3]; rfl
/-- Only a PUBLISH has a choice. -/
theorem flags_only {v k f : Int} {dup retain : Bool} {qos : Int} (h : (flagsF v k dup retain qos).2 = 0) (hk : k ≠ 3) : flagsH k f = (f == (flagsF v k dup retain qos).1) := by
  have hf := flags_fit h
  unfold flagsF at h ⊢
  rw [hf.1, hf.2.1] at h ⊢
  simp only [Bool.true_eq_false, if_false] at h ⊢
  unfold flagsH
  rw [if_neg hk]
  by_cases h3 : k = 6 ∨ k = 8 ∨ k = 10
  · rw [if_pos h3, if_pos h3]
  · rw [if_neg h3, if_neg h3, if_neg hk]
theorem flags_pub {v : Int} {dup retain : Bool} {qos : Int} (h : (flagsF v 3 dup retain qos).2 = 0) : ∃ n : Nat, (flagsF v 3 dup retain qos).1 = (n : Int) ∧ n ≤ 15 ∧ (decide (n % 2 = 1) = retain) ∧ (decide (8 ≤ n) = dup) ∧ ((n / 2 % 4 : Nat) : Int) = qos := by
  have hf := flags_fit h
  unfold flagsF at h ⊢
  rw [hf.1, hf.2.1] at h ⊢
  simp only [Bool.true_eq_false, if_false] at h ⊢
  rw [if_neg (by omega), if_pos trivial] at h ⊢
  cases h5 : qosOk dup qos
  · rw [h5] at h; simp at h
  rw [if_pos rfl]
  unfold qosOk at h5
  simp only [Bool.and_eq_true, decide_eq_true_eq, Bool.not_eq_true'] at h5
  obtain ⟨⟨q0, q2⟩, h6⟩ := h5
  obtain rfl | rfl | rfl : qos = 0 ∨ qos = 1 ∨ qos = 2 := by omega
  all_goals cases dup <;> cases retain
  all_goals first | (simp at h6; done) | exact ⟨_, rfl, by decide, by decide, by decide, by decide⟩
/-- The flags that a header of a kind may have where a packet has none: a PUBLISH with Dup and QoS 0. -/
theorem flags_bad {v k f : Int} {dup retain : Bool} {qos : Int} (hq : 0 ≤ qos ∧ qos ≤ 2) (h : (flagsF v k dup retain qos).2 ≠ 0) (hc : checkH v ⟨k, f, 0⟩ = 0) : k = 3 ∧ (flagsF v k dup retain qos).2 = 7 ∧ dup = true ∧ qos = 0 := by
  rw [check_zero] at hc
  unfold flagsF at h ⊢
  rw [hc.1, hc.2.1] at h ⊢
  simp only [Bool.true_eq_false, if_false] at h ⊢
  by_cases h3 : k = 6 ∨ k = 8 ∨ k = 10
  · rw [if_pos h3] at h; exact absurd rfl h
  rw [if_neg h3] at h ⊢
  by_cases h4 : k = 3
  · rw [if_pos h4] at h ⊢
    cases h5 : qosOk dup qos
    · refine ⟨h4, by simp, ?_⟩
      unfold qosOk at h5
      simp [hq.1, hq.2] at h5
      exact h5
    · rw [h5] at h; simp at h
  · rw [if_neg h4] at h; exact absurd rfl h
/-- For 5 only AUTH is valid besides. -/
theorem check_both {h : Hd} : (checkH 4 h = 0 → checkH 5 h = 0) ∧ (checkH 5 h = 0 → checkH 4 h ≠ 0 → h.kind = 15 ∧ checkH 4 h = 8) ∧ (checkH 4 h ≠ 0 → checkH 5 h ≠ 0 → checkH 4 h = checkH 5 h ∨ h.kind = 15) := by
  have k4 : kindH 4 h.kind = (decide (1 ≤ h.kind) && decide (h.kind < 15)) := by unfold kindH; simp
  have k5 : kindH 5 h.kind = (decide (1 ≤ h.kind) && (decide (h.kind < 15) || h.kind == 15)) := by unfold kindH; simp
  by_cases ha : h.kind = 15
  · refine ⟨fun h4 => ?_, fun _ _ => ⟨ha, ?_⟩, fun _ _ => .inr ha⟩
    · have := (check_zero.1 h4).2.1
      rw [k4, ha] at this
      simp at this
    · unfold checkH
      rw [k4, ha]
      simp [verH]
  · have hb : (h.kind == 15) = false := by rw [beq_eq_false_iff_ne]; exact ha
    have hk : kindH 4 h.kind = kindH 5 h.kind := by rw [k4, k5, hb, Bool.or_false]
    have hc : checkH 4 h = checkH 5 h := by unfold checkH; rw [hk, show verH 4 = true from rfl, show verH 5 = true from rfl]
    exact ⟨fun h4 => by rw [← hc]; exact h4, fun h5 h4 => absurd (by rw [hc]; exact h5) h4, fun _ _ => .inl hc⟩
end Go.Proofs.YtaahhbjnflimnaaGreat
