/-
  Headers, as plain numbers and lists of bytes. Condition: none. No program.
  Plain facts: what a PUBLISH may hold, its body, what is read of it. No condition.
  A map keyed by int that a call has made by a literal: what stands at each key, as a list of pairs; the insert and the look-up at the operation. No condition.
-/
import Derived.Maps.OwnOps
import Derived.Maps.Views
import Derived.Carry
import Derived.WalkKit
import Derived.Test.YtaahhbjnflimnaaGreatK04
import Derived.Test.YtaahhbjnflimnaaGreatK07
namespace Go.Proofs.YtaahhbjnflimnaaGreat

/-- A header. -/
structure Hd where
  kind : Int
  flags : Int
  length : Int
deriving DecidableEq
def verH (v : Int) : Bool := v == 4 || v == 5
def kindH (v k : Int) : Bool := decide (1 ≤ k) && (decide (k < 15) || (k == 15 && v == 5))
def flagsH (k f : Int) : Bool :=
  if k = 3 then decide (0 ≤ f ∧ f ≤ 15 ∧ f / 2 % 4 < 3 ∧ (f < 8 ∨ 0 < f / 2 % 4)) else if k = 6 ∨ k = 8 ∨ k = 10 then f == 2 else f == 0
def checkH (v : Int) (h : Hd) : Nat :=
  if verH v = false then 2 else if kindH v h.kind = false then 8 else if flagsH h.kind h.flags = false then 7 else if h.length < 0 ∨ 268435455 < h.length then 2 else 0
/-- A valid header's first byte. -/
def firstH (h : Hd) : UInt8 := UInt8.ofNat (16 * h.kind + h.flags).toNat
def rawH (h : Hd) : List UInt8 := firstH h :: vb h.length.toNat (sz h.length)
def bytesH (v : Int) (h : Hd) : List UInt8 := if checkH v h = 0 then rawH h else []
def noH : Hd := ⟨0, 0, 0⟩
def ofByte (b : UInt8) : Hd := ⟨(b.toNat / 16 : Nat), (b.toNat % 16 : Nat), 0⟩
def readH (v : Int) : List UInt8 → Hd × Nat × Nat
  | [] => if verH v = false then (noH, 0, 2) else (noH, 0, 3)
  | b :: r =>
    if checkH v (ofByte b) ≠ 0 then (noH, 0, checkH v (ofByte b)) else
    if rdE r ≠ 0 then (noH, 0, rdE r) else
    (⟨(b.toNat / 16 : Nat), (b.toNat % 16 : Nat), (rdV r : Nat)⟩, 1 + rdN r, 0)
theorem readH_nil (v : Int) : readH v [] = if verH v = false then (noH, 0, 2) else (noH, 0, 3) := rfl
theorem readH_cons (v : Int) (b : UInt8) (r : List UInt8) : readH v (b :: r) = if checkH v (ofByte b) ≠ 0 then (noH, 0, checkH v (ofByte b)) else
    if rdE r ≠ 0 then (noH, 0, rdE r) else (⟨(b.toNat / 16 : Nat), (b.toNat % 16 : Nat), (rdV r : Nat)⟩, 1 + rdN r, 0) := rfl
theorem kind_range {v k : Int} (h : kindH v k = true) : 1 ≤ k ∧ k ≤ 15 := by
  unfold kindH at h
  simp only [Bool.and_eq_true, Bool.or_eq_true, decide_eq_true_eq, beq_iff_eq] at h
  omega
theorem flags_range {k f : Int} (h : flagsH k f = true) : 0 ≤ f ∧ f ≤ 15 := by
  unfold flagsH at h
  split at h
  · rw [decide_eq_true_eq] at h; omega
  · split at h <;> (rw [beq_iff_eq] at h; omega)
theorem check_zero {v : Int} {h : Hd} : checkH v h = 0 ↔ verH v = true ∧ kindH v h.kind = true ∧ flagsH h.kind h.flags = true ∧ 0 ≤ h.length ∧ h.length ≤ 268435455 := by
  unfold checkH
  cases h1 : verH v
  · simp
  cases h2 : kindH v h.kind
  · simp
  cases h3 : flagsH h.kind h.flags
  · simp
  by_cases h4 : h.length < 0 ∨ 268435455 < h.length
  · simp only [Bool.true_eq_false, if_false, if_pos h4]
    constructor
    · intro h; cases h
    · intro h; omega
  · simp only [Bool.true_eq_false, if_false, if_neg h4]
    constructor
    · intro _; exact ⟨trivial, trivial, trivial, by omega, by omega⟩
    · intro _; trivial
theorem check_low {v k f l : Int} (h : checkH v ⟨k, f, l⟩ = 0) : checkH v ⟨k, f, 0⟩ = 0 := by
  rw [check_zero] at h ⊢
  exact ⟨h.1, h.2.1, h.2.2.1, Int.le_refl _, (by decide : (0 : Int) ≤ 268435455)⟩
theorem first_toNat {v : Int} {h : Hd} (hc : checkH v h = 0) : ((firstH h).toNat : Int) = 16 * h.kind + h.flags := by
  rw [check_zero] at hc
  have h1 := kind_range hc.2.1
  have h2 := flags_range hc.2.2.1
  unfold firstH
  have : (UInt8.ofNat (16 * h.kind + h.flags).toNat).toNat = (16 * h.kind + h.flags).toNat % 256 := by simp
  rw [this]
  omega
theorem first_back {v : Int} {h : Hd} (hc : checkH v h = 0) : (((firstH h).toNat / 16 : Nat) : Int) = h.kind ∧ (((firstH h).toNat % 16 : Nat) : Int) = h.flags := by
  have h0 := first_toNat hc
  rw [check_zero] at hc
  have h1 := kind_range hc.2.1
  have h2 := flags_range hc.2.2.1
  omega
theorem raw_length {h : Hd} (hl : 0 ≤ h.length ∧ h.length ≤ 268435455) : 2 ≤ (rawH h).length ∧ (rawH h).length ≤ 5 := by
  obtain ⟨n, hn⟩ : ∃ n : Nat, h.length = (n : Int) := ⟨h.length.toNat, by omega⟩
  unfold rawH
  rw [hn, List.length_cons, vb_length]
  have := sz_cases n (by omega)
  omega
theorem of_first {v : Int} {h : Hd} (hc : checkH v h = 0) : ofByte (firstH h) = ⟨h.kind, h.flags, 0⟩ := by
  unfold ofByte
  rw [(first_back hc).1, (first_back hc).2]
/-- A header is read from its bytes, whatever follows. -/
theorem read_raw {v : Int} {h : Hd} (hc : checkH v h = 0) (t : List UInt8) : readH v (rawH h ++ t) = (h, (rawH h).length, 0) := by
  have hz := check_zero.1 hc
  obtain ⟨n, hn⟩ : ∃ n : Nat, h.length = (n : Int) := ⟨h.length.toNat, by omega⟩
  have hr := run_vb n (by omega) t
  have h1 := rd_of hr
  simp only [if_true] at h1
  have e1 : rawH h ++ t = firstH h :: (vb n (sz n) ++ t) := by unfold rawH; rw [hn]; simp
  rw [e1, readH_cons, of_first hc]
  have hlow : checkH v ⟨h.kind, h.flags, 0⟩ = 0 := check_low (l := h.length) hc
  rw [if_neg (by rw [hlow]; simp), h1.1, h1.2.1, h1.2.2, if_neg (by simp), (first_back hc).1, (first_back hc).2]
  have e2 : (rawH h).length = 1 + sz n := by unfold rawH; rw [hn, List.length_cons, vb_length]; omega
  rw [e2, ← hn]
/-- Truncated it is short. -/
theorem hread_cut {v : Int} {h : Hd} (hc : checkH v h = 0) (i : Nat) (hi : i < (rawH h).length) : readH v ((rawH h).take i) = (noH, 0, 3) := by
  have hz := check_zero.1 hc
  obtain ⟨n, hn⟩ : ∃ n : Nat, h.length = (n : Int) := ⟨h.length.toNat, by omega⟩
  have hl : i < 1 + sz n := by unfold rawH at hi; rw [hn, List.length_cons, vb_length] at hi; omega
  cases i with
  | zero => rw [List.take_zero, readH_nil, if_neg (by rw [hz.1]; simp)]
  | succ i =>
    have e1 : (rawH h).take (i + 1) = firstH h :: (vb n (sz n)).take i := by unfold rawH; rw [hn]; rfl
    have hlow : checkH v ⟨h.kind, h.flags, 0⟩ = 0 := check_low (l := h.length) hc
    have hs := sz_cases n (by omega)
    have e2 : (vb n (sz n)).take i = (List.range i).map (byt n (sz n)) := by
      unfold vb
      rw [← List.map_take, List.take_range, Nat.min_eq_left (by omega)]
    have hr := run_front n (sz n) (by omega) i (by omega) []
    rw [List.append_nil] at hr
    have h1 : (run 0 0 ((List.range i).map (byt n (sz n)))).2.2 = 0 := by rw [hr]; rfl
    have h2 : rdE ((vb n (sz n)).take i) = 3 := by rw [e2]; unfold rdE; rw [if_pos h1]
    rw [e1, readH_cons, of_first hc, if_neg (by rw [hlow]; simp), h2, if_pos (by simp)]
theorem of_check {v : Int} {b : UInt8} {l : Int} (h : checkH v (ofByte b) = 0) (h0 : 0 ≤ l) (h1 : l ≤ 268435455) : checkH v ⟨(b.toNat / 16 : Nat), (b.toNat % 16 : Nat), l⟩ = 0 := by
  rw [check_zero] at h ⊢
  exact ⟨h.1, h.2.1, h.2.2.1, h0, h1⟩
theorem first_of (b : UInt8) (l : Int) : firstH ⟨(b.toNat / 16 : Nat), (b.toNat % 16 : Nat), l⟩ = b := by
  unfold firstH
  have hb := b.toNat_lt
  have : (16 * ((b.toNat / 16 : Nat) : Int) + ((b.toNat % 16 : Nat) : Int)).toNat = b.toNat := by omega
  show UInt8.ofNat (16 * ((b.toNat / 16 : Nat) : Int) + ((b.toNat % 16 : Nat) : Int)).toNat = b
  rw [this]
  simp
/-- What is read is valid, and is written as the same. -/
theorem hread_back {v : Int} {l : List UInt8} (h : (readH v l).2.2 = 0) : checkH v (readH v l).1 = 0 ∧ (readH v l).2.1 ≤ l.length ∧ rawH (readH v l).1 = l.take (readH v l).2.1 := by
  cases l with
  | nil => rw [readH_nil] at h; split at h <;> simp at h
  | cons b r =>
    rw [readH_cons] at h ⊢
    by_cases h1 : checkH v (ofByte b) ≠ 0
    · rw [if_pos h1] at h; exact absurd h h1
    rw [if_neg h1] at h ⊢
    by_cases h2 : rdE r ≠ 0
    · rw [if_pos h2] at h; exact absurd h h2
    rw [if_neg h2]
    have h1' : checkH v (ofByte b) = 0 := Classical.byContradiction h1
    have h2' : rdE r = 0 := Classical.byContradiction h2
    have hst : (run 0 0 r).2.2 = 1 := by
      unfold rdE at h2'
      split at h2'
      · cases h2'
      · split at h2'
        · assumption
        · cases h2'
    have hv : rdV r = (run 0 0 r).1 := by unfold rdV; rw [if_pos hst]
    have hn : rdN r = (run 0 0 r).2.1 := by unfold rdN; rw [if_pos hst]
    obtain ⟨b1, b2, b3, b4⟩ := run_back r (run 0 0 r).1 (run 0 0 r).2.1 (by rw [← hst])
    rw [hv, hn]
    refine ⟨of_check h1' (by omega) (by omega), by simp only [List.length_cons]; omega, ?_⟩
    simp only [rawH, first_of]
    rw [Int.toNat_natCast, ← b2, ← b4, Nat.add_comm 1, List.take_succ_cons]
theorem read_no {v : Int} {l : List UInt8} (h : (readH v l).2.2 ≠ 0) : (readH v l).1 = noH ∧ (readH v l).2.1 = 0 := by
  cases l with
  | nil => rw [readH_nil]; split <;> exact ⟨rfl, rfl⟩
  | cons b r =>
    rw [readH_cons] at h ⊢
    split
    · exact ⟨rfl, rfl⟩
    · rename_i h1
      rw [if_neg h1] at h
      split
      · exact ⟨rfl, rfl⟩
      · rename_i h2
        rw [if_neg h2] at h
        simp at h

/-- A packet's flags: of what it is considered, and the error. -/
def qosOk (dup : Bool) (qos : Int) : Bool := decide (0 ≤ qos) && decide (qos ≤ 2) && !(dup && qos == 0)
def packF (dup retain : Bool) (qos : Int) : Int := 2 * qos + (if dup then 8 else 0) + if retain then 1 else 0
def flagsF (v k : Int) (dup retain : Bool) (qos : Int) : Int × Nat :=
  if verH v = false then (0, 2) else if kindH v k = false then (0, 8) else
  if k = 6 ∨ k = 8 ∨ k = 10 then (2, 0) else if k = 3 then (if qosOk dup qos then (packF dup retain qos, 0) else (0, 7)) else (0, 0)
theorem flags_no {v k : Int} {dup retain : Bool} {qos : Int} (h : (flagsF v k dup retain qos).2 ≠ 0) : (flagsF v k dup retain qos).1 = 0 := by
  unfold flagsF at h ⊢
  repeat' split
  all_goals first | rfl | (simp_all; done)
/-- Flags that are a packet's are valid. -/
theorem flags_fit {v k : Int} {dup retain : Bool} {qos : Int} (h : (flagsF v k dup retain qos).2 = 0) : verH v = true ∧ kindH v k = true ∧ flagsH k (flagsF v k dup retain qos).1 = true := by
  unfold flagsF at h ⊢
  cases h1 : verH v
  · rw [h1] at h; simp at h
  cases h2 : kindH v k
  · rw [h1, h2] at h; simp at h
  rw [h1, h2] at h
  simp only [Bool.true_eq_false, if_false] at h ⊢
  refine ⟨trivial, trivial, ?_⟩
  by_cases h3 : k = 6 ∨ k = 8 ∨ k = 10
  · rw [if_pos h3]
    unfold flagsH
    rw [if_neg (by omega), if_pos h3]; rfl
  rw [if_neg h3] at h ⊢
  by_cases h4 : k = 3
  · rw [if_pos h4] at h ⊢
    cases h5 : qosOk dup qos
    · rw [h5] at h; simp at h
    unfold flagsH
    rw [if_pos h4, if_pos rfl, decide_eq_true_eq]
    unfold qosOk at h5
    simp only [Bool.and_eq_true, decide_eq_true_eq, Bool.not_eq_true'] at h5
    obtain ⟨⟨q0, q2⟩, h6⟩ := h5
    unfold packF
    cases dup <;> cases retain <;> simp at h6 ⊢ <;> omega
  · rw [if_neg h4]
    unfold flagsH
    rw [if_neg h4, if_neg h3]; rfl
/-- Only a PUBLISH has a choice. -/
theorem flags_only {v k f : Int} {dup retain : Bool} {qos : Int} (h : (flagsF v k dup retain qos).2 = 0) (hk : k ≠ 3) : flagsH k f = (f == (flagsF v k dup retain qos).1) := by
  have hf := flags_fit h
  unfold flagsF at h ⊢
  rw [hf.1, hf.2.1] at h ⊢
  simp only [Bool.true_eq_false, if_false] at h ⊢
  unfold flagsH
  rw [if_neg hk]
  by_cases h3 : k = 6 ∨ k = 8 ∨ k = 10
  · rw [if_pos h3, if_pos h3]
  · rw [if_neg h3, if_neg h3, if_neg hk]
theorem flags_pub {v : Int} {dup retain : Bool} {qos : Int} (h : (flagsF v 3 dup retain qos).2 = 0) : ∃ n : Nat, (flagsF v 3 dup retain qos).1 = (n : Int) ∧ n ≤ 15 ∧ (decide (n % 2 = 1) = retain) ∧ (decide (8 ≤ n) = dup) ∧ ((n / 2 % 4 : Nat) : Int) = qos := by
  have hf := flags_fit h
  unfold flagsF at h ⊢
  rw [hf.1, hf.2.1] at h ⊢
  simp only [Bool.true_eq_false, if_false] at h ⊢
  rw [if_neg (by omega), if_pos trivial] at h ⊢
  cases h5 : qosOk dup qos
  · rw [h5] at h; simp at h
  rw [if_pos rfl]
  unfold qosOk at h5
  simp only [Bool.and_eq_true, decide_eq_true_eq, Bool.not_eq_true'] at h5
  obtain ⟨⟨q0, q2⟩, h6⟩ := h5
  obtain rfl | rfl | rfl : qos = 0 ∨ qos = 1 ∨ qos = 2 := by omega
  all_goals cases dup <;> cases retain
  all_goals first | (simp at h6; done) | exact ⟨_, rfl, by decide, by decide, by decide, by decide⟩
/-- The flags that a header of a kind may have where a packet has none: a PUBLISH with Dup and QoS 0. -/
theorem flags_bad {v k f : Int} {dup retain : Bool} {qos : Int} (hq : 0 ≤ qos ∧ qos ≤ 2) (h : (flagsF v k dup retain qos).2 ≠ 0) (hc : checkH v ⟨k, f, 0⟩ = 0) : k = 3 ∧ (flagsF v k dup retain qos).2 = 7 ∧ dup = true ∧ qos = 0 := by
  rw [check_zero] at hc
  unfold flagsF at h ⊢
  rw [hc.1, hc.2.1] at h ⊢
  simp only [Bool.true_eq_false, if_false] at h ⊢
  by_cases h3 : k = 6 ∨ k = 8 ∨ k = 10
  · rw [if_pos h3] at h; exact absurd rfl h
  rw [if_neg h3] at h ⊢
  by_cases h4 : k = 3
  · rw [if_pos h4] at h ⊢
    cases h5 : qosOk dup qos
    · refine ⟨h4, by simp, ?_⟩
      unfold qosOk at h5
      simp [hq.1, hq.2] at h5
      exact h5
    · rw [h5] at h; simp at h
  · rw [if_neg h4] at h; exact absurd rfl h
/-- For 5 only AUTH is valid besides. -/
theorem check_both {h : Hd} : (checkH 4 h = 0 → checkH 5 h = 0) ∧ (checkH 5 h = 0 → checkH 4 h ≠ 0 → h.kind = 15 ∧ checkH 4 h = 8) ∧ (checkH 4 h ≠ 0 → checkH 5 h ≠ 0 → checkH 4 h = checkH 5 h ∨ h.kind = 15) := by
  have k4 : kindH 4 h.kind = (decide (1 ≤ h.kind) && decide (h.kind < 15)) := by unfold kindH; simp
  have k5 : kindH 5 h.kind = (decide (1 ≤ h.kind) && (decide (h.kind < 15) || h.kind == 15)) := by unfold kindH; simp
  by_cases ha : h.kind = 15
  · refine ⟨fun h4 => ?_, fun _ _ => ⟨ha, ?_⟩, fun _ _ => .inr ha⟩
    · have := (check_zero.1 h4).2.1
      rw [k4, ha] at this
      simp at this
    · unfold checkH
      rw [k4, ha]
      simp [verH]
  · have hb : (h.kind == 15) = false := by rw [beq_eq_false_iff_ne]; exact ha
    have hk : kindH 4 h.kind = kindH 5 h.kind := by rw [k4, k5, hb, Bool.or_false]
    have hc : checkH 4 h = checkH 5 h := by unfold checkH; rw [hk, show verH 4 = true from rfl, show verH 5 = true from rfl]
    exact ⟨fun h4 => by rw [← hc]; exact h4, fun h5 h4 => absurd (by rw [hc]; exact h5) h4, fun _ _ => .inl hc⟩
end Go.Proofs.YtaahhbjnflimnaaGreat
namespace Go.Proofs.YtaahhbjnflimnaaGreat

/-- A packet with just what a PUBLISH may have. -/
def usedU (v : Int) (p : Pk) : Pk := { Pk.zero with kind := p.kind, dup := p.dup, retain := p.retain, qos := p.qos, id := p.id, topic := p.topic, payload := p.payload, props := if v = 5 then p.props else [] }
def idU (p : Pk) : Bool := if p.qos = 0 then p.id == 0 else decide (0 < p.id) && decide (p.id ≤ 65535)
def topicU (p : Pk) : Bool := nameL p.topic || (p.topic.isEmpty && hasP p.props 35)
/-- What Valid tells. -/
def validU (v : Int) (p : Pk) : Nat :=
  if p.kind ≠ 3 then 2 else if (flagsF v 3 p.dup p.retain p.qos).2 ≠ 0 then (flagsF v 3 p.dup p.retain p.qos).2
  else if (idU p && decide (p = usedU v p)) = false then 2 else if topicU p = false then 10 else validP 3 p.props
/-- A valid packet's body. -/
def rawU (v : Int) (p : Pk) : List UInt8 := enc2 p.topic ++ ((if p.qos = 0 then [] else be p.id.toNat 2) ++ (tailC v 3 p.props ++ p.payload))
def bodyU (v : Int) (p : Pk) : List UInt8 × Nat := if validU v p ≠ 0 then ([], validU v p) else (rawU v p, 0)
/-- As much of a packet as its flags tell. -/
def descU (f : Int) : Pk := { Pk.zero with kind := 3, dup := decide (8 ≤ f), retain := f % 2 == 1, qos := f / 2 % 4 }
def Cs.optN (s : Cs) (b : Bool) : Nat × Cs := if b then s.num 2 else (0, s)
/-- A PUBLISH's parts. -/
def partsU (v f : Int) (s : Cs) : Pk × Cs :=
  let t := s.text
  let i := t.2.optN (f / 2 % 4 != 0)
  let p := i.2.props v 3
  ({ descU f with topic := t.1, id := (i.1 : Nat), props := p.1, payload := p.2.r }, p.2)
/-- What Read tells. -/
def readU (v f : Int) (l : List UInt8) : Pk × Nat :=
  if checkH v ⟨3, f, 0⟩ ≠ 0 then (Pk.zero, checkH v ⟨3, f, 0⟩)
  else
    let x := partsU v f ⟨l, 0⟩
    let s := x.2.fail (validU v x.1)
    if s.e ≠ 0 then (Pk.zero, s.e) else (x.1, 0)
theorem flags_u {v : Int} {d r : Bool} {q : Int} : (flagsF v 3 d r q).2 = 0 ↔ verH v = true ∧ qosOk d q = true := by
  unfold flagsF
  have hk : kindH v 3 = true := by simp [kindH]
  rw [hk]
  cases verH v
  · simp
  · cases qosOk d q <;> simp
theorem flags_u_err (v : Int) (d r : Bool) (q : Int) : (flagsF v 3 d r q).2 = if verH v = false then 2 else if qosOk d q = false then 7 else 0 := by
  unfold flagsF
  have hk : kindH v 3 = true := by simp [kindH]
  rw [hk]
  cases verH v
  · simp
  · cases qosOk d q <;> simp
theorem ver_u {v : Int} (h : verH v = true) : v = 4 ∨ v = 5 := by
  unfold verH at h
  simpa using h
theorem valid_u {v : Int} {p : Pk} (h : validU v p = 0) : p.kind = 3 ∧ (v = 4 ∨ v = 5) ∧ qosOk p.dup p.qos = true ∧ idU p = true ∧ p = usedU v p ∧ topicU p = true ∧ validP 3 p.props = 0 ∧ (v = 4 → p.props = []) := by
  rw [validU] at h
  split at h
  · cases h
  rename_i hk
  split at h
  · rename_i hf; exact absurd h hf
  rename_i hf
  have hf : (flagsF v 3 p.dup p.retain p.qos).2 = 0 := by simpa using hf
  obtain ⟨hv, hq⟩ := flags_u.1 hf
  split at h
  · cases h
  rename_i hi
  split at h
  · cases h
  rename_i ht
  rw [Bool.not_eq_false, Bool.and_eq_true, decide_eq_true_eq] at hi
  refine ⟨by simpa using hk, ver_u hv, hq, hi.1, hi.2, by simpa using ht, h, fun h4 => ?_⟩
  have := congrArg Pk.props hi.2
  rw [this]
  simp [usedU, h4]
theorem topic_u {p : Pk} (h : topicU p = true) : validOf p.topic = true := by
  unfold topicU at h
  rw [Bool.or_eq_true, Bool.and_eq_true, List.isEmpty_iff] at h
  rcases h with h | ⟨h, _⟩
  · exact name_valid h
  · rw [h]; decide
theorem valid_payload (v : Int) (p : Pk) (x : List UInt8) : validU v { p with payload := x } = validU v p := by
  have h : decide ({ p with payload := x } = usedU v { p with payload := x }) = decide (p = usedU v p) := by
    rw [decide_eq_decide]
    obtain ⟨⟩ := p
    simp [usedU, Pk.zero]
  unfold validU
  rw [h]
  rfl
theorem qos_u {d : Bool} {q : Int} (h : qosOk d q = true) : 0 ≤ q ∧ q ≤ 2 ∧ (d = true → q ≠ 0) := by
  unfold qosOk at h
  simp only [Bool.and_eq_true, decide_eq_true_eq, Bool.not_eq_true', Bool.and_eq_false_iff, beq_eq_false_iff_ne] at h
  refine ⟨h.1.1, h.1.2, fun hd => ?_⟩
  rcases h.2 with h | h
  · rw [hd] at h; cases h
  · exact h
theorem pack_u {d r : Bool} {q : Int} (h : qosOk d q = true) : flagsH 3 (packF d r q) = true ∧ decide (8 ≤ packF d r q) = d ∧ (packF d r q % 2 == 1) = r ∧ packF d r q / 2 % 4 = q := by
  obtain ⟨h0, h1, h2⟩ := qos_u h
  obtain rfl | rfl | rfl : q = 0 ∨ q = 1 ∨ q = 2 := by omega
  all_goals (cases d <;> cases r <;> first | exact absurd rfl (h2 rfl) | decide +kernel)
theorem unpack_u {f : Int} (h : flagsH 3 f = true) : qosOk (decide (8 ≤ f)) (f / 2 % 4) = true ∧ packF (decide (8 ≤ f)) (f % 2 == 1) (f / 2 % 4) = f := by
  obtain ⟨h0, h1⟩ := flags_range h
  obtain ⟨n, rfl⟩ : ∃ n : Nat, f = (n : Int) := ⟨f.toNat, by omega⟩
  have hn : n < 16 := by omega
  revert h
  clear h0 h1
  revert n
  decide +kernel
theorem check_u (v f : Int) : checkH v ⟨3, f, 0⟩ = if verH v = false then 2 else if flagsH 3 f = false then 7 else 0 := by
  unfold checkH
  have hk : kindH v 3 = true := by simp [kindH]
  rw [hk]
  cases verH v
  · simp
  · cases flagsH 3 f <;> simp
/-- What is read of a valid packet's body, with bytes behind, is the packet, with these bytes in its payload. -/
theorem parts_u {v : Int} {p : Pk} (t : List UInt8) (h : validU v p = 0) : partsU v (packF p.dup p.retain p.qos) ⟨rawU v p ++ t, 0⟩ = ({ p with payload := p.payload ++ t }, ⟨p.payload ++ t, 0⟩) := by
  obtain ⟨hk, hv, hq, hi, hu, ht, hp, h4⟩ := valid_u h
  obtain ⟨_, e8, e1, e3⟩ := pack_u (r := p.retain) hq
  have hr : rightC v 3 p.props = 0 := by
    unfold rightC
    split
    · exact hp
    · rfl
  have e5 : ∀ t, (Cs.mk (tailC v 3 p.props ++ t) 0).props v 3 = (p.props, ⟨t, 0⟩) := fun t => Cs.props_app hr (fun h5 => h4 (by omega))
  have eN : ∀ t, (Cs.mk ((if p.qos = 0 then [] else be p.id.toNat 2) ++ t) 0).optN (p.qos != 0) = (p.id.toNat, ⟨t, 0⟩) ∧ ((p.id.toNat : Nat) : Int) = p.id := fun t => by
    unfold idU at hi
    by_cases h0 : p.qos = 0
    · rw [if_pos h0, beq_iff_eq] at hi
      simp [Cs.optN, h0, hi]
    · rw [if_neg h0, Bool.and_eq_true, decide_eq_true_eq, decide_eq_true_eq] at hi
      rw [if_neg h0]
      have hb : (p.qos != 0) = true := by simpa using h0
      rw [Cs.optN, hb, if_pos rfl, Cs.num_app (by omega)]
      exact ⟨rfl, by omega⟩
  have hraw : rawU v p ++ t = enc2 p.topic ++ ((if p.qos = 0 then [] else be p.id.toNat 2) ++ (tailC v 3 p.props ++ (p.payload ++ t))) := by simp [rawU]
  rw [hraw]
  simp only [partsU, Cs.text_app (topic_u ht), e3, (eN _).1, (eN t).2, e5, descU, e8, e1]
  refine Prod.ext ?_ rfl
  conv => rhs; rw [hu]
  have hpr : (if v = 5 then p.props else []) = p.props := by
    split
    · rfl
    · exact (h4 (by omega)).symm
  simp [usedU, hk, hpr]
theorem read_pub {v : Int} {p : Pk} (t : List UInt8) (h : validU v p = 0) : readU v (packF p.dup p.retain p.qos) (rawU v p ++ t) = ({ p with payload := p.payload ++ t }, 0) := by
  obtain ⟨_, hv, hq, _⟩ := valid_u h
  have hc : checkH v ⟨3, packF p.dup p.retain p.qos, 0⟩ = 0 := by
    rw [check_u, (pack_u hq).1, show verH v = true by rcases hv with rfl | rfl <;> rfl]
    rfl
  have hv2 : validU v { p with payload := p.payload ++ t } = 0 := by rw [valid_payload]; exact h
  simp only [readU, hc, parts_u t h, hv2]
  simp [Cs.fail]
theorem Cs.optN_back {s : Cs} {b : Bool} (h : (s.optN b).2.e = 0) : s.e = 0 ∧ s.r = (if b then be (s.optN b).1 2 else []) ++ (s.optN b).2.r ∧ (s.optN b).1 < 65536 ∧ (b = false → (s.optN b).1 = 0) := by
  cases b
  · exact ⟨h, rfl, Nat.zero_lt_succ _, fun _ => rfl⟩
  · obtain ⟨h1, h2, h3⟩ := Cs.num_back (s := s) (n := 2) h
    exact ⟨h1, h2, h3, fun e => by cases e⟩
theorem readU_err {v f : Int} {l : List UInt8} (h : (readU v f l).2 ≠ 0) : (readU v f l).1 = Pk.zero := by
  unfold readU at h ⊢
  split
  · rfl
  · rename_i h1
    rw [if_neg h1] at h
    simp only at h ⊢
    split
    · rfl
    · rename_i h2
      rw [if_neg h2] at h
      exact absurd rfl h
theorem fail_zero {s : Cs} {e : Nat} (h : (s.fail e).e = 0) : s.e = 0 ∧ e = 0 := by
  unfold Cs.fail at h
  split at h
  · rename_i h1; exact absurd h h1
  · rename_i h1; exact ⟨by simpa using h1, h⟩
/-- What is read is valid, has these flags, and is written as the same. -/
theorem pub_back {v f : Int} {l : List UInt8} (h : (readU v f l).2 = 0) : validU v (readU v f l).1 = 0 ∧ rawU v (readU v f l).1 = l ∧ packF (readU v f l).1.dup (readU v f l).1.retain (readU v f l).1.qos = f := by
  unfold readU at h ⊢
  split at h
  · rename_i h1; exact absurd h h1
  rename_i h1
  rw [if_neg h1]
  have hc : checkH v ⟨3, f, 0⟩ = 0 := by simpa using h1
  simp only at h ⊢
  split at h
  · rename_i h2; exact absurd h h2
  rename_i h2
  rw [if_neg h2]
  have h2 : ((partsU v f ⟨l, 0⟩).2.fail (validU v (partsU v f ⟨l, 0⟩).1)).e = 0 := by simpa using h2
  obtain ⟨h3, h4⟩ := fail_zero h2
  have hfl : flagsH 3 f = true := by
    rw [check_u] at hc
    split at hc
    · cases hc
    · split at hc
      · cases hc
      · rename_i h; simpa using h
  obtain ⟨u1, u2⟩ := unpack_u hfl
  refine ⟨h4, ?_, u2⟩
  obtain ⟨t, ht⟩ : ∃ t, (Cs.mk l 0).text = t := ⟨_, rfl⟩
  obtain ⟨i, hi⟩ : ∃ i, t.2.optN (f / 2 % 4 != 0) = i := ⟨_, rfl⟩
  obtain ⟨p, hp⟩ : ∃ p, i.2.props v 3 = p := ⟨_, rfl⟩
  have hx : partsU v f ⟨l, 0⟩ = ({ descU f with topic := t.1, id := (i.1 : Nat), props := p.1, payload := p.2.r }, p.2) := by subst ht hi hp; rfl
  rw [hx] at h3 ⊢
  have h3 : p.2.e = 0 := h3
  rw [← hp] at h3
  obtain ⟨b1, b2, _, b4⟩ := Cs.props_back h3
  rw [hp] at b2 b4
  rw [← hi] at b1
  obtain ⟨c1, c2, c3, c4⟩ := Cs.optN_back b1
  rw [hi] at c2 c3 c4
  rw [← ht] at c1
  obtain ⟨_, d2, _⟩ := Cs.text_back c1
  rw [ht] at d2
  have d2 : l = enc2 t.1 ++ t.2.r := d2
  rw [d2, c2, b2]
  have hb : (if (f / 2 % 4 != 0) = true then be i.1 2 else []) = if f / 2 % 4 = 0 then [] else be i.1 2 := by
    by_cases h0 : f / 2 % 4 = 0
    · simp [h0]
    · simp [h0]
  rw [hb]
  rfl
end Go.Proofs.YtaahhbjnflimnaaGreat
namespace Go.Proofs.YtaahhbjnflimnaaGreat
open Go.Maps (Keyed)
open Go.RowKit

/-- What stands at a key: the last that was put there, or the zero. -/
def lookK (z : Value) : List (Int × Value) → Int → Value
  | [], _ => z
  | p :: l, i => if i = p.1 then p.2 else lookK z l i
/-- An element reads as itself. -/
def selfR (v : Value) : Option (DataW Value × List MemPlace) := some (.held v, [])
/-- Block b is a map in which the pairs l were put, one after the other (the last one first). -/
def MapAt (P : Program) (k : TypeId) (w : World) (b : Nat) (z : Value) (l : List (Int × Value)) : Prop :=
  ∃ D : DataW Value, w.ownsMap P k selfR b l.length D ∧ ∀ i, D.atKey (.int .i64 i) (.held z) = .held (lookK z l i)

section
variable {P : Program} {k e t : TypeId} {w w' : World} {b : Nat} {z : Value} {l : List (Int × Value)}
theorem MapAt.of_block (h : MapAt P k w b z l) (hb : w'.heap[b]? = w.heap[b]?) : MapAt P k w' b z l := by
  obtain ⟨D, ⟨es, c, h1, h2⟩, h3⟩ := h
  exact ⟨D, ⟨es, c, hb.trans h1, h2⟩, h3⟩
theorem MapAt.lt (h : MapAt P k w b z l) : b < w.heap.size := by obtain ⟨D, h1, _⟩ := h; exact h1.lt
theorem MapAt.made (w : World) (P : Program) (k : TypeId) (z : Value) : MapAt P k (w.alloc (.map #[] 0)) w.heap.size z [] :=
  ⟨_, World.ownsMap_made _ _ _ _, fun _ => rfl⟩
theorem MapAt.look (h : MapAt P k w b z l) (hk : P.underlying k = some (.int .i64)) (ht : P.underlying t = some (.map k e)) (hz : (zeroValue e).run P w = .ok z w) {i : Int} (hi : (Lit.int .i64 i).wf = true) :
    (Instr.lookup t (.map (some b)) (.int .i64 i) false).run P w = .ok (lookK z l i) w := by
  obtain ⟨D, h1, h2⟩ := h
  obtain ⟨v, ps, hrun, hv⟩ := h1.lookup (Maps.int_keyed hk) ht hz (show selfR z = some (.held z, []) from rfl) (Maps.keyOf_int_mk hk hi)
  rw [h2] at hv
  have : v = lookK z l i := by
    unfold selfR at hv
    simp only [Option.some.injEq, Prod.mk.injEq, DataW.held.injEq] at hv
    exact hv.1
  rw [hrun, this]
theorem MapAt.put (h : MapAt P k w b z l) (hk : P.underlying k = some (.int .i64)) (ht : P.underlying t = some (.map k e)) (hn : l.length < maxLen) {i : Int} (hi : (Lit.int .i64 i).wf = true) (v : Value) :
    ∃ w', (Instr.mapUpdate t (.map (some b)) (.int .i64 i) v).run P w = .ok () w' ∧ MapAt P k w' b z ((i, v) :: l) ∧ w.grownBy w' (some b) := by
  obtain ⟨D, h1, h2⟩ := h
  have hD : Maps.IsMap D := by obtain ⟨es, c, _, _, _, e⟩ := h1; exact ⟨_, e⟩
  obtain ⟨w', r1, r2, r3⟩ := h1.update (Maps.int_keyed hk) ht hn (Maps.keyOf_int_mk hk hi) (show selfR v = some (.held v, []) from rfl)
  refine ⟨w', r1, ⟨_, r2, fun j => ?_⟩, r3⟩
  show _ = DataW.held (if j = i then v else lookK z l j)
  by_cases e : j = i
  · subst e
    rw [if_pos rfl, Maps.atKey_put_same hD (show WideAt.IsKeyLit (.int .i64 j) from trivial)]
  · rw [if_neg e, Maps.atKey_put_other (fun x => e (by cases x; rfl)), h2]

/-- .. made since w0, which has not turned. -/
def MapG (P : Program) (k : TypeId) (w0 w : World) (b : Nat) (z : Value) (l : List (Int × Value)) : Prop := MapAt P k w b z l ∧ Below w0.heap.size w0 w ∧ w0.heap.size ≤ b
theorem wpList_insert_g {ops : Array Oper} {rest : List Oper} {o : Oper} {a : Act} {Q : Exit → Act → World → Prop} {w0 : World}
    (hg : o.guard = none) (m x v : Operand) (t : TypeId) (hop : o.op = Op.insert t m x v) (k e : TypeId) (hk : P.underlying k = some (.int .i64)) (ht : P.underlying t = some (.map k e))
    (b : Nat) (z : Value) (l : List (Int × Value)) (hm : a.eval m = .map (some b)) (h : MapG P k w0 w b z l) (hn : l.length < maxLen) (i : Int) (val : Value) (hx : a.eval x = .int .i64 i) (hv : a.eval v = val) (hi : (Lit.int .i64 i).wf = true)
    (hK : ∀ w', MapG P k w0 w' b z ((i, val) :: l) → wpList P ops Q rest (a.put o.dst undef) w') :
    wpList P ops Q (o :: rest) a w := by
  refine wpList_plain hg fun K' hK' => ?_
  obtain ⟨h1, h2, h3⟩ := h
  obtain ⟨w', hrun, r1, r2⟩ := h1.put hk ht hn hi val
  unfold Oper.wp
  simp [execOp, hop, hm, hx, hv, hrun, Result.andThen]
  exact hK' _ _ (hK w' ⟨r1, h2.grown r2 h2.size (fun j hj => by cases hj; exact h3), h3⟩)
end
end Go.Proofs.YtaahhbjnflimnaaGreat
