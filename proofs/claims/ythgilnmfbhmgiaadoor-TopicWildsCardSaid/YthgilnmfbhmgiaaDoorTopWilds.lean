/-
  Plain facts on topics: what a name's levels match when one of them is replaced; what a shared filter consists of. No condition but on lengths.
-/
import Derived.Test.YthgilnmfbhmgiaaDoorTopWithin
namespace Go.Proofs.YthgilnmfbhmgiaaDoor

/-- How many bytes levels have, a slash behind each. -/
def tl (ls : List (List UInt8)) : Nat := (ls.map fun l => l.length + 1).sum
theorem tl_cons (l : List UInt8) (ls : List (List UInt8)) : tl (l :: ls) = l.length + 1 + tl ls := by simp [tl]
theorem joins_tl : ∀ (ls : List (List UInt8)), ls ≠ [] → (joins ls).length + 1 = tl ls
  | [], h => absurd rfl h
  | [l], _ => by simp [joins, tl]
  | l :: m :: ls, _ => by
    rw [joins_cons l (by simp), tl_cons, ← joins_tl (m :: ls) (by simp)]
    simp only [List.length_append, List.length_cons]
    omega
theorem tl_set (x : List UInt8) : ∀ (ls : List (List UInt8)) (k : Nat), tl (ls.set k x) ≤ tl ls + x.length
  | [], k => by simp [tl]
  | l :: ls, 0 => by rw [List.set_cons_zero, tl_cons, tl_cons]; omega
  | l :: ls, k + 1 => by
    rw [List.set_cons_succ, tl_cons, tl_cons]
    have := tl_set x ls k
    omega
theorem tl_take (x : List UInt8) : ∀ (ls : List (List UInt8)) (k : Nat), tl (ls.take k ++ [x]) ≤ tl ls + x.length + 1
  | [], k => by simp [tl]
  | l :: ls, 0 => by simp [tl]
  | l :: ls, k + 1 => by
    rw [List.take_succ_cons, List.cons_append, tl_cons, tl_cons]
    have := tl_take x ls k
    omega

def plain (ls : List (List UInt8)) : Prop := ∀ l ∈ ls, (43 : UInt8) ∉ l ∧ (35 : UInt8) ∉ l
theorem okl_set : ∀ (ls : List (List UInt8)) (k : Nat), plain ls → okl (ls.set k [43])
  | [], _, _ => trivial
  | l :: ls, 0, h => by
    rw [List.set_cons_zero]
    exact ⟨fun _ => rfl, fun x => by simp at x, okl_plain ls fun x hx => h x (List.mem_cons_of_mem _ hx)⟩
  | l :: ls, k + 1, h => by
    rw [List.set_cons_succ]
    have hl := h l (List.mem_cons_self ..)
    exact ⟨fun x => absurd x hl.1, fun x => absurd x hl.2, okl_set ls k fun x hx => h x (List.mem_cons_of_mem _ hx)⟩
theorem okl_hash : ∀ (ls : List (List UInt8)), plain ls → okl (ls ++ [[35]])
  | [], _ => by decide
  | l :: ls, h => by
    have hl := h l (List.mem_cons_self ..)
    exact ⟨fun x => absurd x hl.1, fun x => absurd x hl.2, okl_hash ls fun x hx => h x (List.mem_cons_of_mem _ hx)⟩
theorem mat_set : ∀ (ls : List (List UInt8)) (k : Nat), mat (ls.set k [43]) ls = true
  | [], k => by simp [mat_nil_nil]
  | l :: ls, 0 => by rw [List.set_cons_zero, mat_cons, mat_self]; simp
  | l :: ls, k + 1 => by rw [List.set_cons_succ, mat_cons, mat_set ls k]; simp
theorem mat_take : ∀ (ls : List (List UInt8)) (k : Nat), mat (ls.take k ++ [[35]]) ls = true
  | ls, 0 => by rw [List.take_zero, List.nil_append]; exact mat_hash ls
  | [], k + 1 => by rw [List.take_nil, List.nil_append]; exact mat_hash []
  | l :: ls, k + 1 => by rw [List.take_succ_cons, List.cons_append, mat_cons, mat_take ls k]; simp
theorem mat_parent : ∀ (ls : List (List UInt8)), mat (ls ++ [[35]]) ls = true
  | [] => mat_hash []
  | l :: ls => by rw [List.cons_append, mat_cons, mat_parent ls]; simp
theorem mat_other (x : List UInt8) (h1 : x ≠ [35]) (h2 : x ≠ [43]) : ∀ (ls : List (List UInt8)) (k : Nat), plain ls → k < ls.length → x ≠ ls.getD k [] → mat (ls.set k x) ls = false
  | [], k, _, h, _ => by simp at h
  | l :: ls, 0, _, _, h => by
    have h' : x ≠ l := h
    rw [List.set_cons_zero, mat_cons]; simp [h1, h2, h']
  | l :: ls, k + 1, hp, hk, h => by
    have hl := hp l (List.mem_cons_self ..)
    have hw := wild_plain hl
    unfold wildL at hw
    simp only [Bool.or_eq_false_iff] at hw
    rw [List.set_cons_succ, mat_cons, mat_other x h1 h2 ls k (fun y hy => hp y (List.mem_cons_of_mem _ hy)) (by simp at hk; omega) (by simpa using h), hw.2]
    simp
theorem flat_set {ls : List (List UInt8)} (h : flat ls) (k : Nat) {x : List UInt8} (hx : (47 : UInt8) ∉ x) : flat (ls.set k x) := by
  intro l hl
  rcases List.mem_or_eq_of_mem_set hl with h1 | h1
  · exact h l h1
  · rw [h1]; exact hx
theorem flat_hash {ls : List (List UInt8)} (h : flat ls) : flat (ls ++ [[35]]) := by
  intro l hl
  rcases List.mem_append.1 hl with h1 | h1
  · exact h l h1
  · simp at h1; rw [h1]; decide
theorem fine_set {ls : List (List UInt8)} (h : ∀ l ∈ ls, fine l) (k : Nat) {x : List UInt8} (hx : fine x) : ∀ l ∈ ls.set k x, fine l := by
  intro l hl
  rcases List.mem_or_eq_of_mem_set hl with h1 | h1
  · exact h l h1
  · rw [h1]; exact hx
theorem fine_plus : fine [43] := fine_cbs (cs := [43]) (fun d hd => by simp at hd; subst hd; exact ⟨by decide, by decide⟩)
theorem fine_hash : fine [35] := fine_cbs (cs := [35]) (fun d hd => by simp at hd; subst hd; exact ⟨by decide, by decide⟩)

/-- A filter that is made of levels. -/
theorem filter_joins {ls : List (List UInt8)} (hne : ls ≠ []) (hj : joins ls ≠ []) (hf : flat ls) (hv : ∀ l ∈ ls, fine l) (hl : tl ls ≤ 65536) (ho : okl ls) : filterL (joins ls) = true ∧ lvls (joins ls) = ls := by
  have e := lvls_joins hne hf
  have := joins_tl ls hne
  exact ⟨(filter_iff _).2 ⟨hj, (valid_fine _).2 ⟨by omega, (fine_joins ls).2 hv⟩, by rw [e]; exact ho⟩, e⟩
theorem match_made {f : List (List UInt8)} {s : List UInt8} (hf : filterL (joins f) = true ∧ lvls (joins f) = f) (hn : nameL s = true) (hm : mat f (lvls s) = true) : matchL (joins f) s = !(dollarL s && wildL (f.headD [])) := by
  unfold matchL
  rw [hf.1, hn, hf.2, hm]
  simp
theorem joins_not_nil {ls : List (List UInt8)} {l : List UInt8} (h : l ∈ ls) (hl : l ≠ []) : joins ls ≠ [] := by
  induction ls with
  | nil => simp at h
  | cons m ls ih =>
    intro e
    cases ls with
    | nil =>
      simp at h
      subst h
      exact hl e
    | cons a ls =>
      rw [joins_cons m (by simp)] at e
      simp at e

section
variable {s : List UInt8} (hn : nameL s = true) (hs : s.length ≤ 200)
include hn
theorem name_plain : plain (lvls s) := name_levels hn
theorem name_fine : ∀ l ∈ lvls s, fine l := (fine_lvls s).1 ((valid_fine s).1 ((name_iff s).1 hn).2.1).2
include hs
omit hn in
theorem name_tl : tl (lvls s) ≤ 201 := by
  have := joins_tl (lvls s) (lvls_ne s)
  rw [joins_lvls] at this
  omega
/-- A level of a name is replaced by +. -/
theorem wilds_plus {k : Nat} (hk : k < (lvls s).length) : matchL (joins ((lvls s).set k [43])) s = (decide (0 < k) || !dollarL s) := by
  have ht := tl_set [43] (lvls s) k
  have htl := name_tl hs
  have hlen : ([43] : List UInt8).length = 1 := rfl
  have hne : (lvls s).set k [43] ≠ [] := by intro e; have := congrArg List.length e; rw [List.length_set, List.length_nil] at this; omega
  have hmem : ([43] : List UInt8) ∈ (lvls s).set k [43] := List.mem_set hk _
  rw [match_made (filter_joins hne (joins_not_nil hmem (by simp)) (flat_set (lvls_flat s) k (by decide)) (fine_set (name_fine hn) k fine_plus) (by omega) (okl_set _ k (name_plain hn))) hn (mat_set _ k)]
  obtain ⟨l, ls, e⟩ := List.exists_cons_of_ne_nil (lvls_ne s)
  have hw := name_head hn
  rw [e] at hw ⊢
  cases k with
  | zero =>
    rw [List.set_cons_zero]
    have : wildL (([43] :: ls).headD []) = true := by show wildL [43] = true; decide
    rw [this]; simp
  | succ k =>
    rw [List.set_cons_succ]
    have hw' : wildL ((l :: ls.set k [43]).headD []) = false := hw
    rw [hw']; simp
/-- Levels of a name, from one on, are replaced by #. -/
theorem wilds_hash {k : Nat} (hk : k < (lvls s).length) : matchL (joins ((lvls s).take k ++ [[35]])) s = (decide (0 < k) || !dollarL s) := by
  have ht := tl_take [35] (lvls s) k
  have htl := name_tl hs
  have hlen : ([35] : List UInt8).length = 1 := rfl
  have hf : flat ((lvls s).take k) := fun l hl => lvls_flat s l (List.mem_of_mem_take hl)
  have hv : ∀ l ∈ (lvls s).take k ++ [[35]], fine l := fun l hl => by
    rcases List.mem_append.1 hl with h | h
    · exact name_fine hn l (List.mem_of_mem_take h)
    · simp at h; rw [h]; exact fine_hash
  have hp : plain ((lvls s).take k) := fun l hl => name_plain hn l (List.mem_of_mem_take hl)
  rw [match_made (filter_joins (by simp) (joins_not_nil (l := [35]) (by simp) (by simp)) (flat_hash hf) hv (by omega) (okl_hash _ hp)) hn (mat_take _ k)]
  obtain ⟨l, ls, e⟩ := List.exists_cons_of_ne_nil (lvls_ne s)
  have hw := name_head hn
  rw [e] at hw ⊢
  cases k with
  | zero =>
    rw [List.take_zero, List.nil_append]
    have : wildL (([[35]] : List (List UInt8)).headD []) = true := by show wildL [35] = true; decide
    rw [this]; simp
  | succ k =>
    rw [List.take_succ_cons, List.cons_append]
    have hw' : wildL ((l :: (ls.take k ++ [[35]])).headD []) = false := hw
    rw [hw']; simp
/-- # behind a name's levels matches it, too. -/
theorem wilds_parent : matchL (joins (lvls s ++ [[35]])) s = true := by
  have ht := tl_take [35] (lvls s) (lvls s).length
  rw [List.take_length] at ht
  have htl := name_tl hs
  have hlen : ([35] : List UInt8).length = 1 := rfl
  have hv : ∀ l ∈ lvls s ++ [[35]], fine l := fun l hl => by
    rcases List.mem_append.1 hl with h | h
    · exact name_fine hn l h
    · simp at h; rw [h]; exact fine_hash
  rw [match_made (filter_joins (by simp) (joins_not_nil (l := [35]) (by simp) (by simp)) (flat_hash (lvls_flat s)) hv (by omega) (okl_hash _ (name_plain hn))) hn (mat_parent _)]
  obtain ⟨l, ls, e⟩ := List.exists_cons_of_ne_nil (lvls_ne s)
  have hw := name_head hn
  rw [e] at hw ⊢
  rw [List.cons_append]
  have hw' : wildL ((l :: (ls ++ [[35]])).headD []) = false := hw
  rw [hw']; simp
end

theorem count_joins : ∀ (ls : List (List UInt8)), ls ≠ [] → ls.length ≤ (joins ls).count 47 + 1 ∧ ((joins ls).count 47 + 1 = ls.length → flat ls)
  | [], h => absurd rfl h
  | [l], _ => by
    simp only [joins, List.length_cons, List.length_nil]
    refine ⟨by omega, fun h x hx => ?_⟩
    simp at hx
    subst hx
    exact List.count_eq_zero.1 (by omega)
  | l :: m :: ls, _ => by
    obtain ⟨h1, h2⟩ := count_joins (m :: ls) (by simp)
    rw [joins_cons l (by simp), List.count_append, List.count_cons_self]
    have e : (l :: m :: ls).length = (m :: ls).length + 1 := rfl
    rw [e]
    refine ⟨by omega, fun h x hx => ?_⟩
    rcases List.mem_cons.1 hx with rfl | hx
    · exact List.count_eq_zero.1 (by omega)
    · exact h2 (by omega) x hx
/-- With another level a filter does not match the name. -/
theorem wilds_other {s x : List UInt8} {k : Nat} (hn : nameL s = true) (hk : k < (lvls s).length) (h0 : x ≠ (lvls s).getD k []) (h1 : x ≠ [43]) (h2 : x ≠ [35])
    (hl : (lvls (joins ((lvls s).set k x))).length = (lvls s).length) : matchL (joins ((lvls s).set k x)) s = false := by
  have hne : (lvls s).set k x ≠ [] := by intro e; have := congrArg List.length e; rw [List.length_set, List.length_nil] at this; omega
  rw [lvls_length] at hl
  have hf := (count_joins _ hne).2 (by rw [hl]; simp)
  have e := lvls_joins hne hf
  unfold matchL
  rw [e, mat_other x h2 h1 _ k (name_plain hn) hk h0]
  simp
end Go.Proofs.YthgilnmfbhmgiaaDoor
