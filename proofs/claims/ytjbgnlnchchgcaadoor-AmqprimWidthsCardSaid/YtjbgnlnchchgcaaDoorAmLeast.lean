/-
  Plain facts: AMQP's constructors of a kind, the shortest that fits. No condition.
-/
import Derived.Test.YtjbgnlnchchgcaaDoorAmPlain
namespace Go.Proofs.YtjbgnlnchchgcaaDoor

/-- Fits whatever is valid. -/
def broad (t : Ct) : Bool := t.code != 65 && t.width != 0 && !(t.sized && t.width == 1) && t.code != 82 && t.code != 83 && t.code != 84 && t.code != 85
theorem broad_fits {t : Ct} (h : broad t = true) (v : Sv) : fitsC t v = true := by
  simp only [broad, Bool.and_eq_true, bne_iff_ne, Bool.not_eq_true'] at h
  obtain ⟨⟨⟨⟨⟨⟨h1, h2⟩, h3⟩, h4⟩, h5⟩, h6⟩, h7⟩ := h
  unfold fitsC
  rw [if_neg h1, if_neg h2, if_neg (by rw [h3]; decide), if_neg (by omega), if_neg (by omega)]
/-- Two constructors of a kind, the one no wider than the other. -/
theorem tab_pair : ∀ a ∈ tabA, ∀ b ∈ tabA, a.kind = b.kind → a.sized = b.sized ∨ a.items = true := by decide +kernel
theorem tab_wider : ∀ a ∈ tabA, ∀ b ∈ tabA, a.kind = b.kind → a.items = false → 0 < a.width → a.width ≤ b.width → b = a ∨ broad b = true := by decide +kernel
theorem tab_order : tabA.Pairwise fun a b => a.kind = b.kind → a.width ≤ b.width := by decide +kernel
theorem tab_once : tabA.Pairwise fun a b => a.code ≠ b.code := by decide +kernel
theorem codes_mem {k : Int} {t : Ct} : t ∈ codesA k ↔ t ∈ tabA ∧ (t.kind : Int) = k := by
  unfold codesA
  rw [List.mem_filter, beq_iff_eq]
theorem mem_of {t : Ct} (h : t ∈ tabA) : ofA t.code = some t := by
  have : ∀ t ∈ tabA, ofA t.code = some t := by decide +kernel
  exact this t h
/-- A kind's constructors are ordered by width; each occurs once. -/
theorem codes_order (k : Int) : (codesA k).Pairwise fun a b => a.width ≤ b.width ∧ a.code ≠ b.code := by
  unfold codesA
  rw [List.pairwise_filter]
  refine (tab_order.and tab_once).imp ?_
  intro a b ⟨h1, h2⟩ ha hb
  simp only [beq_iff_eq] at ha hb
  exact ⟨h1 (by omega), h2⟩
theorem codes_count (k c : Int) : ((codesA k).map (fun t => (t.code : Int))).count c = if (∃ t, ofA c = some t ∧ (t.kind : Int) = k) then 1 else 0 := by
  have hn : ((codesA k).map (fun t => (t.code : Int))).Nodup := by
    unfold List.Nodup
    rw [List.pairwise_map]
    exact (codes_order k).imp fun h => by have := h.2; omega
  by_cases h : ∃ t, ofA c = some t ∧ (t.kind : Int) = k
  · rw [if_pos h]
    obtain ⟨t, h1, h2⟩ := h
    obtain ⟨h3, h4⟩ := of_mem h1
    have hm : c ∈ (codesA k).map (fun t => (t.code : Int)) := List.mem_map.2 ⟨t, codes_mem.2 ⟨h3, h2⟩, h4⟩
    have h5 := List.count_pos_iff.2 hm
    have h6 := List.nodup_iff_count.1 hn c
    omega
  · rw [if_neg h]
    refine List.count_eq_zero.2 fun hm => h ?_
    obtain ⟨t, h1, h2⟩ := List.mem_map.1 hm
    obtain ⟨h3, h4⟩ := codes_mem.1 h1
    exact ⟨t, by rw [← h2]; exact mem_of h3, h4⟩
/-- Of a valid value's kind some constructor fits. -/
theorem some_fits {v : Sv} (h : checkV v = 0) : ∃ t ∈ codesA v.kind, fitsC t v = true := by
  obtain ⟨⟨h1, h2⟩, hr, _⟩ := check_v h
  obtain ⟨k, n, x, i⟩ := v
  simp only at h1 h2 hr ⊢
  by_cases hk : k = 1
  · subst hk
    have hn : n = 0 := by simpa [rangedA, bitsA] using hr
    exact ⟨⟨64, 1, 0, false, false⟩, by decide +kernel, by simp [fitsC, hn]⟩
  · have hb : ∃ t ∈ codesA k, broad t = true := by
      obtain rfl | rfl | rfl | rfl | rfl | rfl | rfl | rfl | rfl | rfl | rfl | rfl | rfl | rfl | rfl | rfl | rfl | rfl | rfl | rfl : k = 2 ∨ k = 3 ∨ k = 4 ∨ k = 5 ∨ k = 6 ∨ k = 7 ∨ k = 8 ∨ k = 9 ∨ k = 10 ∨ k = 11 ∨ k = 12 ∨ k = 13 ∨ k = 14 ∨ k = 15 ∨ k = 16 ∨ k = 17 ∨ k = 18 ∨ k = 19 ∨ k = 20 ∨ k = 21 := by omega
      all_goals decide +kernel
    obtain ⟨t, h3, h4⟩ := hb
    exact ⟨t, h3, broad_fits h4 _⟩
theorem scalar_items : ∀ t ∈ tabA, t.kind ≤ 21 → t.items = false := by decide +kernel
/-- The shortest: the first of its kind that fits. -/
theorem least_some {v : Sv} (h : checkV v = 0) : ∃ t pre post, codesA v.kind = pre ++ t :: post ∧ leastV v = ((t.code : Int), 0) ∧ fitsC t v = true ∧ ∀ u ∈ pre, fitsC u v = false := by
  unfold leastV
  rw [if_neg (fun e => e h)]
  cases hf : (codesA v.kind).find? (fun t => fitsC t v) with
  | none =>
    obtain ⟨t, h1, h2⟩ := some_fits h
    have := List.find?_eq_none.1 hf t h1
    exact absurd h2 this
  | some t =>
    obtain ⟨h1, pre, post, h2, h3⟩ := List.find?_eq_some_iff_append.1 hf
    exact ⟨t, pre, post, h2, rfl, h1, fun u hu => by simpa using h3 u hu⟩
theorem least_err {v : Sv} (h : checkV v ≠ 0) : leastV v = (0, checkV v) := by
  unfold leastV
  rw [if_pos h]
/-- What Put writes with a constructor of the value's kind that fits; otherwise nothing. -/
theorem put_fits {t : Ct} {v : Sv} (ht : t ∈ tabA) (hk : (t.kind : Int) = v.kind) (hc : checkV v = 0) (hf : fitsC t v = true) : putV t.code v = (dataV t v, 0) := by
  unfold putV
  rw [if_neg (fun e => e hc), mem_of ht]
  simp only
  rw [if_neg (by rw [hk, hf]; simp)]
theorem put_zero {c : Int} {v : Sv} : (putV c v).2 = 0 ↔ fitsV c v = true := by
  unfold putV fitsV
  by_cases hc : checkV v = 0
  · rw [if_neg (fun e => e hc), hc]
    cases ofA c with
    | none => simp
    | some t =>
      simp only
      cases hb : ((t.kind : Int) == v.kind && fitsC t v) with
      | true =>
        rw [if_neg (by decide)]
        simp only [Bool.and_eq_true] at hb
        simp [hb.1, hb.2]
      | false =>
        rw [if_pos rfl]
        simp only [Bool.and_eq_false_iff] at hb
        rcases hb with hb | hb <;> simp [hb]
  · rw [if_pos hc]
    cases ofA c with
    | none => simp [hc]
    | some t => simp [hc]
theorem put_parts {c : Int} {v : Sv} (h : (putV c v).2 = 0) : ∃ t, ofA c = some t ∧ t ∈ tabA ∧ (t.kind : Int) = v.kind ∧ t.items = false ∧ checkV v = 0 ∧ fitsC t v = true ∧ (putV c v).1 = dataV t v := by
  have hf := put_zero.1 h
  unfold fitsV at hf
  cases ho : ofA c with
  | none => rw [ho] at hf; cases hf
  | some t =>
    rw [ho] at hf
    simp only [Bool.and_eq_true, beq_iff_eq] at hf
    obtain ⟨⟨h1, h2⟩, h3⟩ := hf
    obtain ⟨h4, h5⟩ := of_mem ho
    have hk := (check_v h2).1
    refine ⟨t, rfl, h4, h1, scalar_items t h4 (by omega), h2, h3, ?_⟩
    rw [← h5, put_fits h4 h1 h2 h3]
theorem put_nil {c : Int} {v : Sv} (h : (putV c v).2 ≠ 0) : (putV c v).1 = [] := by
  unfold putV at h ⊢
  split
  · rfl
  rename_i hc
  rw [if_neg hc] at h
  cases ho : ofA c with
  | none => rfl
  | some t =>
    rw [ho] at h
    simp only at h ⊢
    split
    · rfl
    · rename_i hb; rw [if_neg hb] at h; exact absurd rfl h
/-- How many bytes with each that fits: no fewer with a wider one of the kind. -/
theorem data_more {a b : Ct} {v : Sv} (ha : a ∈ tabA) (hb : b ∈ tabA) (hka : (a.kind : Int) = v.kind) (hkb : (b.kind : Int) = v.kind) (hc : checkV v = 0) (hw : a.width ≤ b.width) : (dataV a v).length ≤ (dataV b v).length := by
  obtain ⟨hk, _, _, _, h16, _⟩ := check_v hc
  have ia := scalar_items a ha (by omega)
  have ib := scalar_items b hb (by omega)
  have la := data_length (t := a) (v := v) (fun x y => h16 (by rcases (tab_sized a ha ia).2.1 x y with h | h <;> omega))
  have lb := data_length (t := b) (v := v) (fun x y => h16 (by rcases (tab_sized b hb ib).2.1 x y with h | h <;> omega))
  have hs : a.sized = b.sized := by
    rcases tab_pair a ha b hb (by omega) with h | h
    · exact h
    · rw [ia] at h; cases h
  rw [la, lb, hs]
  split <;> omega
/-- What fits a narrow constructor fits a wide one. -/
theorem wide_fits {a b : Ct} {v : Sv} (ha : a ∈ tabA) (hb : b ∈ tabA) (hka : (a.kind : Int) = v.kind) (hkb : (b.kind : Int) = v.kind) (hc : checkV v = 0) (h0 : 0 < a.width) (hw : a.width ≤ b.width) (hf : fitsC a v = true) : fitsC b v = true := by
  have hk := (check_v hc).1
  rcases tab_wider a ha b hb (by omega) (scalar_items a ha (by omega)) h0 hw with h | h
  · rw [h]; exact hf
  · exact broad_fits h v
/-- With one constructor different scalars have different data. -/
theorem put_same {c : Int} {v w : Sv} (hv : v.n < 18446744073709551616) (hw : w.n < 18446744073709551616) (h1 : (putV c v).2 = 0) (h2 : (putV c w).2 = 0) : (putV c v).1 = (putV c w).1 ↔ v = w := by
  constructor
  · intro e
    obtain ⟨t, a1, a2, a3, a4, a5, a6, a7⟩ := put_parts h1
    obtain ⟨u, b1, b2, b3, b4, b5, b6, b7⟩ := put_parts h2
    have g1 := get_put a1 a4 a3 hv a5 a6 []
    have g2 := get_put b1 b4 b3 hw b5 b6 []
    rw [← a7, e] at g1
    rw [← b7] at g2
    rw [g1] at g2
    exact congrArg Prod.fst g2
  · intro e; rw [e]
end Go.Proofs.YtjbgnlnchchgcaaDoor
