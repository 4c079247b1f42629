/-
  Plain facts: what is read of a body holds no more than its fields may. No program but for the types. No condition.
-/
import Derived.Test.YtbgpcmbaodjibaaGreatK35
import Derived.Test.YtbgpcmbaodjibaaGreatK38
import Derived.Test.YtbgpcmbaodjibaaGreatK11
import Derived.Test.YtbgpcmbaodjibaaGreatK45
import Derived.Test.YtbgpcmbaodjibaaGreatK20
namespace Go.Proofs.YtbgpcmbaodjibaaGreat

theorem check_ok {kind : Int} {p : Pr} (h : checkP kind p = 0) : PrOk p ∧ p.text.length ≤ 65535 ∧ p.value.length ≤ 65535 := by
  obtain ⟨hm, h4, h5⟩ := check_parts h
  obtain ⟨_, h1, h2, _⟩ := size_one h
  obtain ⟨r1, r2⟩ := may_range hm
  obtain ⟨f0, f7, f1, f2, f3, f4, _⟩ := row_fits hm
  have hn : p.n < 4294967296 := by
    by_cases hs : shapeP p.id ≤ 4
    · have h6 := (h4 hs).2.2.2
      have hs4 : shapeP p.id = 1 ∨ shapeP p.id = 2 ∨ shapeP p.id = 3 ∨ shapeP p.id = 4 := by omega
      rcases hs4 with e | e | e | e
      · have := f1 e; omega
      · have := f2 e; omega
      · have := f3 e; omega
      · have := f4 e; omega
    · have := (h5 (by omega)).1; omega
  exact ⟨⟨by omega, by omega, hn, by omega, by omega⟩, h1, h2⟩
theorem read_ok (kind : Int) (s : List UInt8) : (∀ p ∈ (readP kind s).1, PrOk p ∧ p.text.length ≤ 65535 ∧ p.value.length ≤ 65535) ∧ (readP kind s).1.length ≤ 1000 := by
  by_cases h : (readP kind s).2.2 = 0
  · have hv := (read_back (show readP kind s = ((readP kind s).1, (readP kind s).2.1, 0) by rw [← h])).1
    obtain ⟨h1, h2, _⟩ := (valid_good _ _).1 hv
    exact ⟨fun p hp => check_ok (h2.1 p hp), h1⟩
  · rw [read_err h]
    exact ⟨fun p hp => (nomatch hp), Nat.zero_le _⟩
theorem props_fit (x : Cs) (v kind : Int) : (∀ p ∈ (x.props v kind).1, PrOk p ∧ p.text.length ≤ 65535 ∧ p.value.length ≤ 65535) ∧ (x.props v kind).1.length ≤ 1000 := by
  unfold Cs.props
  split
  · exact ⟨fun p hp => (nomatch hp), Nat.zero_le _⟩
  · exact read_ok _ _
theorem text_fit (x : Cs) : x.text.1.length ≤ 65535 := by
  unfold Cs.text
  split
  · exact Nat.zero_le _
  · exact (rdT_le _).2
theorem bin_fit (x : Cs) : x.bin.1.length ≤ 65535 := by
  unfold Cs.bin
  split
  · exact Nat.zero_le _
  · exact (rdB_le _).2
theorem optT_fit (x : Cs) (b : Bool) : (x.optT b).1.length ≤ 65535 := by
  cases b
  · exact Nat.zero_le _
  · exact text_fit x
theorem optB_fit (x : Cs) (b : Bool) : (x.optB b).1.length ≤ 65535 := by
  cases b
  · exact Nat.zero_le _
  · exact bin_fit x
theorem optP_fit (x : Cs) (b : Bool) (v kind : Int) : (∀ p ∈ (x.optP b v kind).1, PrOk p ∧ p.text.length ≤ 65535 ∧ p.value.length ≤ 65535) ∧ (x.optP b v kind).1.length ≤ 1000 := by
  cases b
  · exact ⟨fun p hp => (nomatch hp), Nat.zero_le _⟩
  · exact props_fit x v kind
/-- A packet whose fields are what their types hold. -/
def FitP (p : Pk) : Prop := PkOk p ∧ Short p ∧ (-9223372036854775808 ≤ p.wQos ∧ p.wQos ≤ 9223372036854775807) ∧ p.codes = [] ∧ p.filters = []
theorem fit_zero : FitP Pk.zero := by
  refine ⟨⟨by decide, by decide, fun t ht => ?_, fun x hx => (nomatch hx), fun x hx => (nomatch hx), fun x hx => (nomatch hx)⟩, ⟨by decide, by decide, by decide, by decide⟩, by decide, rfl, rfl⟩
  have : t = [] := by simpa [Pk.texts, Pk.zero] using ht
  rw [this]; decide
theorem fit_parts (v : Int) (x : Cs) : FitP (partsC v x).1 := by
  obtain ⟨c, hc⟩ : ∃ c, (x.name.vers v).flags v = c := ⟨_, rfl⟩
  obtain ⟨d, hd⟩ : ∃ d, c.2.num 2 = d := ⟨_, rfl⟩
  obtain ⟨p, hp⟩ : ∃ p, d.2.props v 1 = p := ⟨_, rfl⟩
  obtain ⟨q, hq⟩ : ∃ q, p.2.text = q := ⟨_, rfl⟩
  obtain ⟨wp, hwp⟩ : ∃ x, q.2.optP (c.1 / 4 % 2 == 1) v 16 = x := ⟨_, rfl⟩
  obtain ⟨wt, hwt⟩ : ∃ x, wp.2.optT (c.1 / 4 % 2 == 1) = x := ⟨_, rfl⟩
  obtain ⟨wd, hwd⟩ : ∃ x, wt.2.optB (c.1 / 4 % 2 == 1) = x := ⟨_, rfl⟩
  obtain ⟨us, hus⟩ : ∃ x, wd.2.optT (c.1 / 128 % 2 == 1) = x := ⟨_, rfl⟩
  obtain ⟨ps, hps⟩ : ∃ x, us.2.optB (c.1 / 64 % 2 == 1) = x := ⟨_, rfl⟩
  rw [parts_eq v x hc hd hp hq hwp hwt hwd hus hps]
  have f1 := props_fit d.2 v 1
  have f2 := text_fit p.2
  have f3 := optP_fit q.2 (c.1 / 4 % 2 == 1) v 16
  have f4 := optT_fit wp.2 (c.1 / 4 % 2 == 1)
  have f5 := optB_fit wt.2 (c.1 / 4 % 2 == 1)
  have f6 := optT_fit wd.2 (c.1 / 128 % 2 == 1)
  have f7 := optB_fit us.2 (c.1 / 64 % 2 == 1)
  rw [hp] at f1
  rw [hq] at f2
  rw [hwp] at f3
  rw [hwt] at f4
  rw [hwd] at f5
  rw [hus] at f6
  rw [hps] at f7
  refine ⟨⟨⟨by simp, by simp⟩, ⟨by simp [Pk.zero], by simp [Pk.zero]⟩, fun t ht => ?_, fun y hy => ?_, fun y hy => ?_, fun y hy => (nomatch hy)⟩, ⟨by simp [Pk.zero], by simp [Pk.zero], by simp; omega, by simp; omega⟩, ⟨by simp; omega, by simp; omega⟩, rfl, rfl⟩
  · simp only [Pk.texts, List.mem_cons, List.not_mem_nil, or_false] at ht
    rcases ht with rfl | rfl | rfl | rfl | rfl | rfl | rfl
    · exact Nat.zero_le _
    · exact Nat.zero_le _
    · exact Nat.le_trans f2 (by decide)
    · exact Nat.le_trans f6 (by decide)
    · exact Nat.le_trans f7 (by decide)
    · exact Nat.le_trans f4 (by decide)
    · exact Nat.le_trans f5 (by decide)
  · obtain ⟨a, b, c⟩ := f3.1 y hy
    exact ⟨a, by omega, by omega⟩
  · obtain ⟨a, b, c⟩ := f1.1 y hy
    exact ⟨a, by omega, by omega⟩
theorem fit_back (v : Int) (x : Cs) : FitP (backC v x).1 := by
  obtain ⟨a, ha⟩ : ∃ a, x.num 1 = a := ⟨_, rfl⟩
  obtain ⟨b, hb⟩ : ∃ b, (if a.1 > 1 then a.2.fail 7 else a.2).num 1 = b := ⟨_, rfl⟩
  obtain ⟨p, hp⟩ : ∃ p, b.2.props v 2 = p := ⟨_, rfl⟩
  have e : backC v x = ({ Pk.zero with kind := 2, session := a.1 == 1, code := b.1, props := p.1 }, p.2) := by subst ha hb hp; rfl
  rw [e]
  have f1 := props_fit b.2 v 2
  rw [hp] at f1
  refine ⟨⟨⟨by simp, by simp⟩, ⟨by simp [Pk.zero], by simp [Pk.zero]⟩, fun t ht => ?_, fun y hy => (nomatch hy), fun y hy => ?_, fun y hy => (nomatch hy)⟩, ⟨by simp [Pk.zero], by simp [Pk.zero], by simp; omega, by simp [Pk.zero]⟩, ⟨by simp [Pk.zero], by simp [Pk.zero]⟩, rfl, rfl⟩
  · have : t = [] := by simpa [Pk.texts, Pk.zero] using ht
    rw [this]; decide
  · obtain ⟨a, b, c⟩ := f1.1 y hy
    exact ⟨a, by omega, by omega⟩
end Go.Proofs.YtbgpcmbaodjibaaGreat
