/-
  Plain facts for AmqprimBack: what each constructor of a kind does to a value, one after the other. No condition.
-/
import Derived.Test.YtjbgnlnchchgcaaDoorAmLive
import Derived.Test.YtjbgnlnchchgcaaDoorVaSame
namespace Go.Proofs.YtjbgnlnchchgcaaDoor
open Go.RowKit

/-- How many bytes the first constructor has that fits, among the first i; below 0: none of them fits. -/
def shZ (v : Sv) (i : Nat) : Int := match ((codesA v.kind).take i).find? (fun t => fitsV t.code v) with | none => -1 | some t => ((dataV t v).length : Nat)
theorem shZ_zero (v : Sv) : shZ v 0 = -1 := rfl
theorem fitsV_of {v : Sv} {u : Ct} (hu : u ∈ codesA v.kind) (h : fitsV u.code v = true) : checkV v = 0 ∧ fitsC u v = true := by
  unfold fitsV at h
  rw [mem_of (codes_mem.1 hu).1] at h
  simp only [Bool.and_eq_true, beq_iff_eq] at h
  exact ⟨h.1.2, h.2⟩
theorem fitsV_is {v : Sv} {u : Ct} (hu : u ∈ codesA v.kind) (hc : checkV v = 0) : fitsV u.code v = fitsC u v := by
  unfold fitsV
  rw [mem_of (codes_mem.1 hu).1]
  simp [hc, (codes_mem.1 hu).2]
theorem code_get {k : Int} {i x : Nat} (h : (codeL tabS k)[i]? = some x) : ∃ u, (codesA k)[i]? = some u ∧ x = u.code := by
  rw [codeL_map, List.getElem?_map] at h
  cases hu : (codesA k)[i]? with
  | none => rw [hu] at h; cases h
  | some u => rw [hu] at h; simp only [Option.map_some, Option.some.injEq] at h; exact ⟨u, rfl, h.symm⟩
theorem shZ_next {v : Sv} {i : Nat} {u : Ct} (h : (codesA v.kind)[i]? = some u) : shZ v (i + 1) = if shZ v i = -1 ∧ fitsV u.code v = true then (((dataV u v).length : Nat) : Int) else shZ v i := by
  obtain ⟨h1, e⟩ := List.getElem?_eq_some_iff.1 h
  unfold shZ
  rw [List.take_succ_eq_append_getElem h1, e, List.find?_append]
  cases hf : ((codesA v.kind).take i).find? fun t => fitsV t.code v with
  | none =>
    simp only [Option.none_or, List.find?_cons, List.find?_nil]
    cases fitsV u.code v <;> simp
  | some t =>
    simp only [Option.some_or]
    rw [if_neg (by rintro ⟨h, -⟩; omega)]
theorem back_no {v : Sv} {i : Nat} {u : Ct} (h : (codesA v.kind)[i]? = some u) (hf : fitsV u.code v = false) : (putV u.code v).2 ≠ 0 ∧ shZ v (i + 1) = shZ v i :=
  And.intro (fun e => by rw [put_zero.1 e] at hf; cases hf) (by rw [shZ_next h, if_neg (by rw [hf]; simp)])
theorem back_yes {v : Sv} {i : Nat} {u : Ct} (hn : v.n < 18446744073709551616) (h : (codesA v.kind)[i]? = some u) (hf : fitsV u.code v = true) :
    putV u.code v = (dataV u v, 0) ∧ (∀ s, getV u.code (dataV u v ++ s) = (v, (dataV u v).length, 0)) ∧ (leastV v).2 = 0 ∧ v.items = 0 ∧ (dataV u v).length ≤ 16 + v.text.length ∧
      ((shZ v i = -1 ∧ (leastV v).1 = u.code ∧ shZ v (i + 1) = ((dataV u v).length : Nat)) ∨ (0 ≤ shZ v i ∧ shZ v i ≤ ((dataV u v).length : Nat) ∧ shZ v (i + 1) = shZ v i)) := by
  have hu := List.mem_of_getElem? h
  obtain ⟨hc, hfc⟩ := fitsV_of hu hf
  obtain ⟨ht, hk⟩ := codes_mem.1 hu
  have hsc := (check_v hc).1
  have hi := scalar_items u ht (by omega)
  have hlen : (dataV u v).length ≤ 16 + v.text.length := by
    rw [data_length (fun h1 h2 => (check_v hc).2.2.2.2.1 ((tab_sized u ht hi).2.1 h1 h2 |>.imp (fun e => by rw [← hk, e]; rfl) (fun e => by rw [← hk, e]; rfl)))]
    have hw : u.width ≤ 16 := (show ∀ x ∈ tabA, x.width ≤ 16 by decide +kernel) u ht
    split <;> omega
  obtain ⟨t, pre, post, e1, e2, e3, e4⟩ := least_some hc
  refine ⟨put_fits ht hk hc hfc, get_put (mem_of ht) hi hk hn hc hfc, by rw [e2], (check_v hc).2.2.1, hlen, ?_⟩
  obtain ⟨h1, e⟩ := List.getElem?_eq_some_iff.1 h
  have hnx := shZ_next h
  unfold shZ at hnx ⊢
  cases hq : ((codesA v.kind).take i).find? fun t => fitsV t.code v with
  | none =>
    rw [hq] at hnx
    refine .inl ⟨rfl, ?_, by rw [hnx, if_pos ⟨rfl, hf⟩]⟩
    unfold leastV
    rw [if_neg (fun x => x hc)]
    have : (codesA v.kind).find? (fun t => fitsC t v) = some u := by
      rw [← List.take_append_drop i (codesA v.kind), List.find?_append]
      have hz : ((codesA v.kind).take i).find? (fun t => fitsC t v) = none := by
        rw [List.find?_eq_none] at hq ⊢
        intro x hx
        rw [← fitsV_is (List.mem_of_mem_take hx) hc]
        exact hq x hx
      rw [hz, Option.none_or, List.drop_eq_getElem_cons h1, e, List.find?_cons, hfc]
    rw [this]
  | some t0 =>
    rw [hq] at hnx
    have hm := List.mem_of_find?_eq_some hq
    have hm2 := List.mem_of_mem_take hm
    refine .inr ⟨by simp, ?_, by rw [hnx, if_neg (by rintro ⟨h, -⟩; simp at h)]⟩
    have hw : t0.width ≤ u.width := by
      obtain ⟨j, hj, e5⟩ := List.getElem_of_mem hm
      rw [List.getElem_take] at e5
      rw [List.length_take] at hj
      have := List.pairwise_iff_getElem.1 (codes_order v.kind) j i (by omega) h1 (by omega)
      rw [e5, e] at this
      exact this.1
    have := data_more (codes_mem.1 hm2).1 ht (codes_mem.1 hm2).2 hk hc hw
    simp only
    omega
theorem shZ_all {v : Sv} (h : (leastV v).2 = 0) : 0 ≤ shZ v (codesA v.kind).length := by
  have hc : checkV v = 0 := by
    apply Decidable.byContradiction
    intro hn
    rw [least_err hn] at h
    exact hn h
  obtain ⟨t, ht, hf⟩ := some_fits hc
  unfold shZ
  rw [List.take_length]
  cases hq : (codesA v.kind).find? fun t => fitsV t.code v with
  | none =>
    rw [List.find?_eq_none] at hq
    have := hq t ht
    rw [fitsV_is ht hc] at this
    exact absurd hf this
  | some u => simp
theorem same_flat {q : Nat} (k : Int) (n : Nat) (t : List UInt8) (A : Option Addr) (cp : Nat) : sameV (q + 1) (.mk k n t none 0 []) (.mk k n t A cp []) = true := by
  simp [sameV, Av.kind, Av.n, Av.text, Av.items]
end Go.Proofs.YtjbgnlnchchgcaaDoor
