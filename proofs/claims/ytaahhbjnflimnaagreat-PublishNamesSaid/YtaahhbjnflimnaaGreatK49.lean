/-
  Plain facts: what publish.Read tells, error by error. No condition.
-/
import Derived.Test.YtaahhbjnflimnaaGreatK42
import Derived.Test.YtaahhbjnflimnaaGreatK48
namespace Go.Proofs.YtaahhbjnflimnaaGreat
open Go.RowKit

theorem optN_err {s : Cs} {b : Bool} (h : s.e ≠ 0) : (s.optN b).2 = s := by
  unfold Cs.optN
  cases b
  · rfl
  · simp only [if_true, Cs.num, Cs.take, if_pos h]
theorem props_err {s : Cs} {v k : Int} (h : s.e ≠ 0) : (s.props v k).2 = s := by
  unfold Cs.props
  rw [if_pos (.inl h)]
theorem fail_e (s : Cs) (e : Nat) : (s.fail e).e = if s.e ≠ 0 then s.e else e := by
  unfold Cs.fail
  split <;> rfl
def errsR (v f : Int) (l : List UInt8) : List Nat :=
  let t := (Cs.mk l 0).text
  let i := t.2.optN (f / 2 % 4 != 0)
  let p := i.2.props v 3
  [checkH v ⟨3, f, 0⟩, t.2.e, i.2.e, p.2.e, validU v (partsU v f ⟨l, 0⟩).1]
theorem readU_first (v f : Int) (l : List UInt8) : readU v f l = if firstE (errsR v f l) = 0 then ((partsU v f ⟨l, 0⟩).1, 0) else (Pk.zero, firstE (errsR v f l)) := by
  obtain ⟨t, ht⟩ : ∃ t, (Cs.mk l 0).text = t := ⟨_, rfl⟩
  obtain ⟨i, hi⟩ : ∃ i, t.2.optN (f / 2 % 4 != 0) = i := ⟨_, rfl⟩
  obtain ⟨p, hp⟩ : ∃ p, i.2.props v 3 = p := ⟨_, rfl⟩
  have hx : (partsU v f ⟨l, 0⟩).2 = p.2 := by subst ht hi hp; rfl
  unfold readU errsR
  simp only [ht, hi, hp, hx]
  generalize validU v (partsU v f ⟨l, 0⟩).1 = V
  generalize (partsU v f ⟨l, 0⟩).1 = X
  generalize checkH v ⟨3, f, 0⟩ = c
  have h1 : t.2.e ≠ 0 → i.2 = t.2 := fun h => by rw [← hi]; exact optN_err h
  have h2 : i.2.e ≠ 0 → p.2 = i.2 := fun h => by rw [← hp]; exact props_err h
  simp only [firstE, fail_e]
  by_cases hc : c = 0
  · by_cases e1 : t.2.e = 0
    · by_cases e2 : i.2.e = 0
      · by_cases e3 : p.2.e = 0 <;> by_cases e4 : V = 0 <;> simp [hc, e1, e2, e3, e4]
      · have := h2 e2
        simp [hc, e1, e2, this]
    · have a := h1 e1
      have b := h2 (by rw [a]; exact e1)
      simp [hc, e1, a, b]
  · simp [hc]
/-- What the code's flags describe, whatever the number. -/
def descB (f : Int) : Pk := { Pk.zero with kind := 3, dup := bits .and .i64 f 8 != 0, retain := bits .and .i64 f 1 != 0, qos := wrap64 ((bits .and .i64 f 6).tdiv 2) }
theorem desc_u {f : Int} (h : flagsH 3 f = true) : descB f = descU f := by
  obtain ⟨h0, h1⟩ := flags_range h
  obtain ⟨n, rfl⟩ : ∃ n : Nat, f = (n : Int) := ⟨f.toNat, by omega⟩
  have hn : n < 16 := by omega
  clear h h0 h1
  revert n
  decide +kernel
/-- A packet whose fields are what their types hold, with properties alone. -/
def FitU (p : Pk) : Prop := PkOk p ∧ Short p ∧ p.codes = [] ∧ p.filters = [] ∧ p.wProps = []
theorem fit_desc (f : Int) (h : -9223372036854775808 ≤ (descB f).qos ∧ (descB f).qos ≤ 9223372036854775807) : FitU (descB f) := by
  refine ⟨⟨by show _ ≤ (3 : Int) ∧ (3 : Int) ≤ _; decide, h, fun t ht => ?_, fun x hx => (nomatch hx), fun x hx => (nomatch hx), fun x hx => (nomatch hx)⟩, ⟨Nat.zero_le _, Nat.zero_le _, Nat.zero_le _, Nat.zero_le _⟩, rfl, rfl, rfl⟩
  have : t = [] := by simpa [Pk.texts, descB, Pk.zero] using ht
  rw [this]; exact Nat.zero_le _
theorem fit_topic {p : Pk} (h : FitU p) (t : List UInt8) (ht : t.length ≤ 65535) : FitU { p with topic := t } := by
  obtain ⟨ok, sp, h1, h2, h3⟩ := h
  refine ⟨⟨ok.kind, ok.qos, fun x hx => ?_, ok.wps, ok.pps, ok.fis⟩, sp, h1, h2, h3⟩
  simp only [Pk.texts, List.mem_cons] at hx
  rcases hx with rfl | hx
  · omega
  · exact ok.texts x (by simp only [Pk.texts, List.mem_cons]; exact .inr hx)
theorem fit_payload {p : Pk} (h : FitU p) (t : List UInt8) (ht : t.length ≤ 140737488351232) : FitU { p with payload := t } := by
  obtain ⟨ok, sp, h1, h2, h3⟩ := h
  refine ⟨⟨ok.kind, ok.qos, fun x hx => ?_, ok.wps, ok.pps, ok.fis⟩, sp, h1, h2, h3⟩
  simp only [Pk.texts, List.mem_cons] at hx
  rcases hx with rfl | rfl | hx
  · exact ok.texts _ (by simp [Pk.texts])
  · exact ht
  · exact ok.texts x (by simp only [Pk.texts, List.mem_cons]; exact .inr (.inr hx))
theorem fit_id {p : Pk} (h : FitU p) (i : Int) : FitU { p with id := i } := by
  obtain ⟨ok, sp, h1, h2, h3⟩ := h
  exact ⟨⟨ok.kind, ok.qos, ok.texts, ok.wps, ok.pps, ok.fis⟩, sp, h1, h2, h3⟩
theorem fit_props {p : Pk} (h : FitU p) (l : List Pr) (hl : l.length ≤ 1000) (ok2 : ∀ x ∈ l, PrOk x ∧ x.text.length ≤ 65535 ∧ x.value.length ≤ 65535) : FitU { p with props := l } := by
  obtain ⟨ok, sp, h1, h2, h3⟩ := h
  refine ⟨⟨ok.kind, ok.qos, ok.texts, ok.wps, fun x hx => ?_, ok.fis⟩, ⟨sp.1, sp.2.1, by show l.length ≤ 70000; omega, sp.2.2.2⟩, h1, h2, h3⟩
  obtain ⟨a, b, c⟩ := ok2 x hx
  exact ⟨a, by omega, by omega⟩
end Go.Proofs.YtaahhbjnflimnaaGreat
